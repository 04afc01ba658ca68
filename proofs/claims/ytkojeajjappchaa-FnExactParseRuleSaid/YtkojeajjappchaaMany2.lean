/- Slices of elements of several cells, for any program: parts of them; clear and copy on a row of the call's own. No conditions but that lengths fit. -/
import Derived.Test.YtkojeajjappchaaMany
import Derived.Laws.CopyOwn
import Derived.Maps.AppendAt
import Derived.Deep.RegionLaw
namespace Go.Proofs.Ytkojeajjappchaa.Row
open Go.ChangeShapes Go.WideShapes Go.ChangeAt Go.RowKit
set_option linter.unusedVariables false
set_option maxRecDepth 100000

section
variable {α : Type} {enc : α → List Value} {sz : Nat}
theorem flat_take (hs : Sz enc sz) (l : List α) (i : Nat) (hi : i ≤ l.length) : flat enc (l.take i) = (flat enc l).take (i * sz) := by
  have h1 : (flat enc (l.take i)).length = i * sz := by rw [flat_length hs, List.length_take]; congr 1; omega
  have h2 : flat enc l = flat enc (l.take i) ++ flat enc (l.drop i) := by rw [← flat_append, List.take_append_drop]
  rw [h2, ← h1, List.take_left]
theorem flat_drop (hs : Sz enc sz) (l : List α) (i : Nat) (hi : i ≤ l.length) : flat enc (l.drop i) = (flat enc l).drop (i * sz) := by
  have h1 : (flat enc (l.take i)).length = i * sz := by rw [flat_length hs, List.length_take]; congr 1; omega
  have h2 : flat enc l = flat enc (l.take i) ++ flat enc (l.drop i) := by rw [← flat_append, List.take_append_drop]
  rw [h2, ← h1, List.drop_left]
variable {e : TypeId} {B : Nat} {w w' : World} {v : Value} {l : List α} {x : Option Addr} {n cap : Nat}
theorem OwnK.take (hs : Sz enc sz) (h : OwnK e enc sz B w (.slice x n cap) l) {i : Nat} (hi : i ≤ l.length) : OwnK e enc sz B w (.slice x i cap) (l.take i) := by
  have hl : (l.take i).length = i := by rw [List.length_take]; omega
  refine ⟨by rw [flat_length hs], ?_⟩
  rcases h.2 with ⟨hv, hn⟩ | ⟨g, cap', cur, hv, hB, hc, h1, h2, h3, h4⟩
  · cases hv
    refine Or.inl ⟨?_, by omega⟩
    rw [show i = 0 by omega]
  · cases hv
    refine Or.inr ⟨g, cap, cur, by rw [hl], hB, hc, by omega, h2, h3, ?_⟩
    rw [flat_take hs l i hi, ← h4, List.take_take, hl]
    congr 1
    have : i * sz ≤ l.length * sz := Nat.mul_le_mul_right _ hi
    omega
theorem HoldsK.take (hs : Sz enc sz) (h : HoldsK enc sz w (.slice x n cap) l) {i : Nat} (hi : i ≤ l.length) : HoldsK enc sz w (.slice x i cap) (l.take i) := by
  obtain ⟨x', cap', hv, hc, hh⟩ := h
  cases hv
  have hl : (l.take i).length = i := by rw [List.length_take]; omega
  refine ⟨x, cap, by rw [hl], by omega, ?_⟩
  rcases hh with rfl | ⟨b, off, hx, hh⟩
  · exact Or.inl (by simp)
  · refine Or.inr ⟨b, off, hx, fun j hj => ?_⟩
    rw [hl] at hj
    have : i * sz ≤ l.length * sz := Nat.mul_le_mul_right _ hi
    obtain ⟨u, h1, h2⟩ := hh j (by omega)
    exact ⟨u, by rw [flat_take hs l i hi, List.getElem?_take, if_pos hj]; exact h1, h2⟩
theorem HoldsK.drop (hs : Sz enc sz) {b off : Nat} (h : HoldsK enc sz w (.slice (some ⟨b, off, none⟩) n cap) l) {i : Nat} (hi : i ≤ l.length) : HoldsK enc sz w (.slice (some ⟨b, off + i * sz, none⟩) (n - i) (cap - i)) (l.drop i) := by
  obtain ⟨x', cap', hv, hc, hh⟩ := h
  cases hv
  refine ⟨some ⟨b, off + i * sz, none⟩, cap - i, by rw [List.length_drop], by rw [List.length_drop]; omega, ?_⟩
  rcases hh with rfl | ⟨b', off', hx, hh⟩
  · exact Or.inl (by simp)
  · cases hx
    refine Or.inr ⟨b, off + i * sz, rfl, fun j hj => ?_⟩
    rw [List.length_drop, Nat.sub_mul] at hj
    obtain ⟨u, h1, h2⟩ := hh (i * sz + j) (by omega)
    exact ⟨u, by rw [flat_drop hs l i hi, List.getElem?_drop]; exact h1, by rw [Nat.add_assoc]; exact h2⟩
/-- A row of the call's own: its block's cells. -/
theorem OwnK.cur (h : OwnK e enc sz B w (.slice x n cap) l) (hn : 0 < l.length) : ∃ g cur, x = some ⟨g, 0, none⟩ ∧ n = l.length ∧ B ≤ g ∧ w.heap[g]? = some (.cells cur e (0, 0)) ∧ l.length ≤ cap ∧ cap ≤ maxLen ∧ cur.size = cap * sz ∧ cur.toList.take (l.length * sz) = flat enc l := by
  rcases h.2 with ⟨hv, h0⟩ | ⟨g, cap', cur, hv, hB, hc, h1, h2, h3, h4⟩
  · omega
  · cases hv
    exact ⟨g, cur, rfl, rfl, hB, hc, h1, h2, h3, h4⟩
theorem grownBy_setRow (w : World) (g : Nat) (cs : Array Value) : w.grownBy (w.setRow g cs) (some g) := ⟨rfl, rfl, rfl, by simp [World.setRow], fun k hk hne => setRow_other w g k cs (fun e => hne (by rw [e]))⟩
end

/-- The row behind a write of elements m from place i on. -/
theorem row_written {α : Type} {enc : α → List Value} {sz : Nat} (hs : Sz enc sz) {e : TypeId} {B : Nat} {w : World} {g n cap : Nat} {l m : List α} (h : OwnK e enc sz B w (.slice (some ⟨g, 0, none⟩) n cap) l) {i : Nat} (him : i + m.length = l.length) (hn : 0 < l.length) {cur : Array Value} (hc : w.heap[g]? = some (.cells cur e (0, 0))) (hk : cur.size = cap * sz) (hcap : l.length ≤ cap) (h4 : cur.toList.take (l.length * sz) = flat enc l) :
    OwnK e enc sz B (w.setRow g (cur.toList.take (i * sz) ++ flat enc m ++ cur.toList.drop (i * sz + (flat enc m).length)).toArray) (.slice (some ⟨g, 0, none⟩) n cap) (l.take i ++ m) := by
  have hB : B ≤ g := (h.lt g rfl).1
  have hnl : n = l.length := h.holds.lenEq
  have hm2 := h.form
  have hmx : cap ≤ maxLen := by
    rcases hm2 with ⟨hv, _⟩ | ⟨g', cap', hv, _, _, _, hh⟩
    · cases hv
    · cases hv; exact hh
  have hfl : (flat enc m).length = m.length * sz := flat_length hs m
  have hsum : i * sz + m.length * sz = l.length * sz := by rw [← Nat.add_mul, him]
  have hle : l.length * sz ≤ cap * sz := Nat.mul_le_mul_right _ hcap
  have hlen : (l.take i ++ m).length = l.length := by simp; omega
  refine ⟨by rw [flat_length hs], Or.inr ⟨g, cap, _, by rw [hlen, hnl], hB, setRow_heap w g cur _ e _ hc, by rw [hlen]; exact hcap, hmx, ?_, ?_⟩⟩
  · simp only [List.size_toArray, List.length_append, List.length_take, List.length_drop, Array.length_toList, hfl, hk]
    omega
  · rw [hlen, flat_append, flat_take hs l i (by omega), ← h4, List.take_take]
    have e1 : min (i * sz) (l.length * sz) = i * sz := by omega
    rw [e1]
    have e2 : (cur.toList.take (i * sz) ++ flat enc m).length = l.length * sz := by
      rw [List.length_append, List.length_take, Array.length_toList, hfl, hk]; omega
    show ((cur.toList.take (i * sz) ++ flat enc m) ++ _).take (l.length * sz) = _
    rw [← e2, List.take_left]

section
variable {P : Program} {α : Type} {enc : α → List Value} {sz : Nat} {e t : TypeId} {bytes : Nat} {z : Value}
/-- 'clear(s[i:])' on a row of the call's own. -/
theorem wpList_clearK [Inhabited α] (K : Kind P e enc z sz bytes) (hz : z.cells.toList = enc default) (hzv : ∀ w, (zeroValue e).run P w = .ok z w) {w : World} {ops : Array Oper} {rest : List Oper} {o : Oper} {a : Act} {Q : Exit → Act → World → Prop} (hgd : o.guard = none) (s : Operand)
    (ho : o.op = .call { callee := .builtin .clear, args := #[s], argTypes := #[t] }) (ht : P.underlying t = some (.slice e)) {B g n cap i k c : Nat} {l : List α} (hs : a.eval s = .slice (some ⟨g, i * sz, none⟩) k c) (hown : OwnK e enc sz B w (.slice (some ⟨g, 0, none⟩) n cap) l) (hk : i + k = l.length) (hk0 : 0 < k)
    (h : ∀ w', OwnK e enc sz B w' (.slice (some ⟨g, 0, none⟩) n cap) (l.take i ++ List.replicate k default) → w.grownBy w' (some g) → wpList P ops Q rest (a.put o.dst (.tuple #[])) w') : wpList P ops Q (o :: rest) a w := by
  obtain ⟨g', cur, hx, -, -, hc, hcap, hmx, hks, h4⟩ := hown.cur (by omega)
  cases hx
  have hzc : (Builtin.zeroCells z.cells k).toList = flat enc (List.replicate k default) := by
    rw [← madeK K.size K.pos hz k]
    unfold Builtin.zeroCells madeCells
    rw [K.zs]
  have hfl : (flat enc (List.replicate k (default : α))).length = k * sz := by rw [flat_length K.size, List.length_replicate]
  have hle : l.length * sz ≤ cap * sz := Nat.mul_le_mul_right _ hcap
  have hsum : i * sz + k * sz = l.length * sz := by rw [← Nat.add_mul, hk]
  have hst := run_storeCells_at P g (i * sz) e (flat enc (List.replicate k default)) 0 cur w hc (by rw [hfl]; omega) (flat_one' K.one _)
  rw [← hzc] at hst
  refine wpList_plain hgd fun K' hK' => ?_
  have hrun : (Builtin.clear_ #[t] o.type #[.slice (some ⟨g, i * sz, none⟩) k c]).run P w = .ok (.tuple #[]) (w.setRow g (cur.toList.take (i * sz) ++ flat enc (List.replicate k default) ++ cur.toList.drop (i * sz + (flat enc (List.replicate k (default : α))).length)).toArray) := by
    obtain ⟨k', rfl⟩ : ∃ k', k = k' + 1 := ⟨k - 1, by omega⟩
    rw [hzc] at hst
    simp only [Nat.add_zero] at hst
    simp [Builtin.clear_, run_underlying ht, hzv, hzc, hst]
  unfold Oper.wp
  simp [execOp, ho, resolve, invoke, builtin, hs, hrun, Result.andThen]
  refine hK' _ _ (h _ ?_ (grownBy_setRow _ _ _))
  have := row_written K.size hown (m := List.replicate k default) (i := i) (by rw [List.length_replicate]; exact hk) (by omega) hc hks hcap h4
  simpa using this
/-- 'copy(s[i+1:], s[i:])' on a row of the call's own, as a step of a statement that draws its order. -/
theorem step_copyK (K : Kind P e enc z sz bytes) {ops : Array Oper} {o : Oper} {a : Act} {w : World} {K' : Act → World → Prop} {Q : Exit → Act → World → Prop} {E : Prop} (hg : o.guard = none) (d s : Operand)
    (hop : o.op = .call { callee := .builtin .copy, args := #[d, s], argTypes := #[t, t] }) (ht : P.underlying t = some (.slice e)) {B g n cap i c c' : Nat} {l : List α} {kd ks : Nat} (hd : a.eval d = .slice (some ⟨g, (i + 1) * sz, none⟩) kd c) (hs : a.eval s = .slice (some ⟨g, i * sz, none⟩) ks c') (hkd : kd + (i + 1) = l.length) (hks : ks + i = l.length) (hown : OwnK e enc sz B w (.slice (some ⟨g, 0, none⟩) n cap) l) (hi : i < l.length)
    (hK : ∀ w' q, OwnK e enc sz B w' (.slice (some ⟨g, 0, none⟩) n cap) (l.take (i + 1) ++ (l.drop i).take (l.length - (i + 1))) → w.grownBy w' (some g) → K' (a.put o.dst q) w') :
    if Region.wanted o (yielded ops a.tmps) = true then Oper.wp P o a w K' Q else E := by
  have hw : Region.wanted o (yielded ops a.tmps) = true := by simp [Region.wanted, hg]
  rw [if_pos hw]
  obtain ⟨g', cur, hx, hn, -, hc, hcap, hmx, hksz, h4⟩ := hown.cur (by omega)
  cases hx
  subst hn
  obtain rfl : kd = l.length - (i + 1) := by omega
  obtain rfl : ks = l.length - i := by omega
  obtain ⟨inf, f1, f2, f3, f4⟩ := info_parts K.elem
  have hml : ((l.drop i).take (l.length - (i + 1))).length = l.length - (i + 1) := by simp; omega
  have hfl : (flat enc ((l.drop i).take (l.length - (i + 1)))).length = (l.length - (i + 1)) * sz := by rw [flat_length K.size, hml]
  have hle : l.length * sz ≤ cap * sz := Nat.mul_le_mul_right _ hcap
  have hsum : (i + 1) * sz + (l.length - (i + 1)) * sz = l.length * sz := by rw [← Nat.add_mul]; congr 1; omega
  have hmin : Nat.min (l.length - i) (l.length - (i + 1)) = l.length - (i + 1) := by show min _ _ = _; omega
  have hsrc := ((hown.holds.drop K.size (i := i) (by omega)).take K.size (i := l.length - (i + 1)) (by simp; omega)).cells K.size
  rw [Nat.zero_add] at hsrc
  have hlo := run_loadCells_list (P := P) w ⟨g, i * sz, none⟩ (flat enc ((l.drop i).take (l.length - (i + 1)))) hsrc
  rw [hfl] at hlo
  have hst := run_storeCells_at P g ((i + 1) * sz) e (flat enc ((l.drop i).take (l.length - (i + 1)))) 0 cur w hc (by rw [hfl]; omega) (flat_one' K.one _)
  simp only [Nat.add_zero] at hst
  have hrun : (Builtin.copy_ #[t, t] o.type #[.slice (some ⟨g, (i + 1) * sz, none⟩) (l.length - (i + 1)) c, .slice (some ⟨g, i * sz, none⟩) (l.length - i) c']).run P w =
      .ok (goInt ((l.length - (i + 1) : Nat) : Int)) (w.setRow g (cur.toList.take ((i + 1) * sz) ++ flat enc ((l.drop i).take (l.length - (i + 1))) ++ cur.toList.drop ((i + 1) * sz + (flat enc ((l.drop i).take (l.length - (i + 1)))).length)).toArray) := by
    simp [Builtin.copy_, run_underlying ht, Builtin.lenOf, Builtin.firstCells, sizeOf, typeInfo, f1, f3, hmin, hlo, hst]
  unfold Oper.wp
  simp [execOp, hop, resolve, invoke, builtin, hd, hs, hrun, Result.andThen]
  refine hK _ _ ?_ (grownBy_setRow _ _ _)
  have := row_written K.size hown (m := (l.drop i).take (l.length - (i + 1))) (i := i + 1) (by rw [hml]; omega) (by omega) hc hksz hcap h4
  simpa using this
/-- append to a row of the call's own: its block stays, or is new. -/
theorem wpList_appK_at (K : Kind P e enc z sz bytes) {w : World} {ops : Array Oper} {rest : List Oper} {o : Oper} {a : Act} {Q : Exit → Act → World → Prop} (hgd : o.guard = none) (s x : Operand) (ho : o.op = .call { callee := .builtin .append, args := #[s, x], argTypes := #[t, t] }) (ht : P.underlying t = some (.slice e))
    {B : Nat} {v : Value} {ad : Addr} {c : Nat} {n : Nat} {l m : List α} (hs : a.eval s = v) (hx : a.eval x = .slice (some ad) n c) (hown : OwnK e enc sz B w v l) (hsrc : HoldsK enc sz w (.slice (some ad) n c) m) (hlen : (l.length + m.length) * bytes ≤ 140737488355328) (hmx : l.length + m.length ≤ maxLen) (hB : B ≤ w.heap.size)
    (h : ∀ v' w', OwnK e enc sz B w' v' (l ++ m) → w.grownBy w' v.ownBlock → (v'.ownBlock = v.ownBlock ∨ v'.ownBlock = some w.heap.size) → wpList P ops Q rest (a.put o.dst v') w') : wpList P ops Q (o :: rest) a w := by
  obtain ⟨i, h1, h2, h3, h4⟩ := info_parts K.elem
  obtain rfl := hsrc.lenEq
  obtain ⟨v', w', hrun, r1, r2, r3, r4⟩ := run_append_own_at (P := P) (w := w) B t o.type e i z sz bytes ht h1 h2 h3 h4 K.zs K.pos v l.length (flat enc l) hown ad m.length c (flat enc m) (flat_length K.size m) (hsrc.cells K.size) (flat_one' K.one m) hmx hlen hB
  refine wpList_plain hgd fun K' hK' => ?_
  unfold Oper.wp
  simp [execOp, ho, resolve, invoke, builtin, hs, hx, hrun, Result.andThen]
  refine hK' _ _ (h v' w' ?_ r2 r4)
  unfold OwnK
  rw [List.length_append, flat_append]; exact r1
end
end Go.Proofs.Ytkojeajjappchaa.Row
