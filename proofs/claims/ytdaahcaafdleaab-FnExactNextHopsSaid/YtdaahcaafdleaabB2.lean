/- Contracts and mathematics, joined: RowK, RouteMath, RouteP, JoinK, RouteC, RouteH0, RouteH1, RouteS0, RouteS1, LayS, RouteS2. No conditions but those that each states. -/
import Derived.WalkKit
import Derived.Deep.RegionHeld3
import Derived.Deep.RegionLaw
import Derived.Test.YtdaahcaafdleaabB1
import Derived.Shelf.SlSortCmp.WholeK
import Derived.RangeFuncNested
import Derived.RangeFuncBound
import Derived.RangeFuncCalls
import Derived.RangeFuncLeaves
import Derived.RangeFuncBox
import Derived.Shelf.Abstract
import Derived.Shelf.RegionOpen
import Derived.OwnWalkIn
import Derived.TacticsInMore
import Derived.LoopNIn
import Derived.LoopIn
import Derived.Test.YtdaahcaafdleaabProg
import Derived.Shelf.SlSortCmp.NoneTotal
/- Lists that lie as rows of the call's own: a part of a row, an element more, an append within the room, a clearing behind the end; closures while a row is written. For any kind and any program. No conditions but that lengths fit. -/
namespace Go.Proofs.Ytdaahcaafdleaab.Row
open Go.ChangeShapes Go.WideShapes Go.ChangeAt Go.RowKit Go.Instr
set_option linter.unusedVariables false
set_option linter.unusedSectionVars false
set_option maxRecDepth 100000
theorem take_nx {α : Type} [Inhabited α] {l : List α} {k : Nat} (h : k < l.length) : l.take (k + 1) = l.take k ++ [nth l k] := by rw [List.take_succ_eq_append_getElem h, nth_eq h]
theorem filter_nx {α : Type} [Inhabited α] {p : α → Bool} {l : List α} {k : Nat} (h : k < l.length) (hp : p (nth l k) = true) : (l.take (k + 1)).filter p = (l.take k).filter p ++ [nth l k] := by
  rw [take_nx h, List.filter_append]; simp [hp]
theorem filter_sk {α : Type} [Inhabited α] {p : α → Bool} {l : List α} {k : Nat} (h : k < l.length) (hp : p (nth l k) = false) : (l.take (k + 1)).filter p = (l.take k).filter p := by
  rw [take_nx h, List.filter_append]; simp [hp]
section
variable {α M : Type} {k : Kd α M} {B C E E' : Nat} {e : TypeId} {w w' : World} {m : M}
theorem sub_flat {γ δ : Type} (f : γ → List δ) {l l' : List γ} (h : l'.Sublist l) : (l'.flatMap f).Sublist (l.flatMap f) := by
  induction h with
  | slnil => exact List.Sublist.refl _
  | cons a _ ih => rw [List.flatMap_cons]; exact ih.trans (List.sublist_append_right _ _)
  | cons_cons a _ ih => rw [List.flatMap_cons, List.flatMap_cons]; exact (List.Sublist.refl _).append ih
theorem Kd.sub (hN : k.NoRow e) {r : Rw M} (h : (k.slice e).Own B C w r) {L' : List M} (hs : L'.Sublist r.els) {row : Option Nat} (hg : w.grownBy w' row) (hr : ∀ g, row = some g → r.v.ownBlock = some g)
    {ad : Option Addr} {n cap : Nat} (ho : OwnK e k.cells k.size B w' (.slice ad n cap) L') : (k.slice e).Own B w'.heap.size w' ⟨ad, n, cap, L'⟩ := by
  have hnd : (r.v.ownBlock.toList ++ r.els.flatMap k.blocks).Nodup := h.2.1
  have hnd2 := List.nodup_append.1 hnd
  have hel : ∀ y ∈ L', k.own B w' y := fun y hy => k.own_keep (h.1.2 y (hs.subset hy)) (fun g hgy => hg.block g (k.own_lt (h.1.2 y (hs.subset hy)) g hgy).2 (fun er => hnd2.2.2 g (by rw [hr g er.symm]; simp) g (List.mem_flatMap.2 ⟨y, hs.subset hy, hgy⟩) rfl))
  refine ⟨⟨ho, hel⟩, ?_, fun g hgm => ?_⟩
  · show ((Rw.v ⟨ad, n, cap, L'⟩).ownBlock.toList ++ L'.flatMap k.blocks).Nodup
    rw [List.nodup_append]
    refine ⟨by cases (Rw.v ⟨ad, n, cap, L'⟩).ownBlock <;> simp, hnd2.2.1.sublist (sub_flat k.blocks hs), fun a ha b hb eab => ?_⟩
    obtain ⟨y, hy, hyb⟩ := List.mem_flatMap.1 hb
    obtain ⟨cs, hc⟩ := ho.row (g := a) (show (Value.slice ad n cap).ownBlock = some a from Option.mem_toList.1 ha)
    rw [eab] at hc
    exact hN B w' y (hel y hy) b hyb cs hc
  · rcases List.mem_append.1 (show g ∈ (Rw.v ⟨ad, n, cap, L'⟩).ownBlock.toList ++ L'.flatMap k.blocks from hgm) with hgm | hgm
    · exact (ho.lt g (show (Value.slice ad n cap).ownBlock = some g from Option.mem_toList.1 hgm)).2
    · obtain ⟨y, hy, hyb⟩ := List.mem_flatMap.1 hgm
      exact (k.own_lt (hel y hy) g hyb).2
end
section
variable {P : Program} {α : Type} {enc : α → List Value} {sz : Nat} {e t : TypeId} {bytes : Nat} {z : Value}
theorem holds_dropIf (hs : Sz enc sz) {w : World} {b off n cap i : Nat} {l : List α} (h : HoldsK enc sz w (.slice (some ⟨b, off, none⟩) n cap) l) (hi : i ≤ l.length) {ao : Addr} (hao : ao = ⟨b, off + i * sz, none⟩ ∨ i = l.length) : HoldsK enc sz w (.slice (some ao) (n - i) (cap - i)) (l.drop i) := by
  rcases hao with rfl | rfl
  · exact h.drop hs hi
  · obtain rfl := h.lenEq
    exact ⟨some ao, cap - l.length, by simp, by simp, Or.inl (by simp)⟩
end
def ClosR {α M : Type} (P : Program) (k : Kd α M) (fid : FuncId) (cap : Array Value) (p : α → Bool) (ok : α → Prop) (w : World) (row : Option Nat) : Prop :=
  ∀ (x : α) (V : Value) (W : World), w.grownBy W row → k.At W V x → ok x → Calls P fid (#[V] ++ cap) W fun e w' => e = .returned (.bool (p x)) ∧ Below W.heap.size W w'
theorem ClosR.plain {α M : Type} {P : Program} {k : Kd α M} {fid : FuncId} {cap : Array Value} {p : α → Bool} {ok : α → Prop} {w : World} {row : Option Nat} (h : ClosR P k fid cap p ok w row) : ClosK P k fid cap p ok w := fun x V W hW => h x V W (Sl.grown_of_below hW row)
structure MidK {M : Type} [Inhabited M] (q : M → Bool) (L L' : List M) (i j : Nat) : Prop where
  len : L'.length = L.length
  head : L'.take i = (L.take j).filter q
  rest : ∀ r, j ≤ r → r < L.length → nth L' r = nth L r
  lt : i < j
theorem MidK.keep {M : Type} [Inhabited M] {q : M → Bool} {L L' : List M} {i j : Nat} (h : MidK q L L' i j) (hj : j < L.length) (hq : q (nth L j) = true) : MidK q L (L'.set i (nth L j)) (i + 1) (j + 1) := by
  have h1 := h.len
  have h2 := h.lt
  refine ⟨by simp [h1], ?_, fun r hr hr2 => ?_, by omega⟩
  · rw [List.take_succ_eq_append_getElem (by simp; omega), List.getElem_set_self, List.take_set_of_le (Nat.le_refl _), h.head, filter_nx hj hq]
  · rw [← h.rest r (by omega) hr2]
    simp only [nth, List.getD]
    rw [List.getElem?_set_ne (by omega)]
theorem MidK.skip {M : Type} [Inhabited M] {q : M → Bool} {L L' : List M} {i j : Nat} (h : MidK q L L' i j) (hj : j < L.length) (hq : q (nth L j) = false) : MidK q L L' i (j + 1) := by
  refine ⟨h.len, ?_, fun r hr hr2 => h.rest r (by omega) hr2, by have := h.lt; omega⟩
  rw [h.head, filter_sk hj hq]
theorem step_appKv {P : Program} {ops : Array Oper} {o : Oper} {a : Act} {w : World} {K : Act → World → Prop} {Q : Exit → Act → World → Prop} {E : Prop} {α : Type} {enc : α → List Value} {sz : Nat} {e t : TypeId} {bytes : Nat} {z : Value}
    (KD : Kind P e enc z sz bytes) (hg : o.guard = none) (s x : Operand) (hop : o.op = Op.call { callee := Callee.builtin Builtin.append, args := #[s, x], argTypes := #[t, t] }) (ht : P.underlying t = some (.slice e))
    {B : Nat} {v vx : Value} {l m : List α} (hs : a.eval s = v) (hx : a.eval x = vx) (hown : OwnK e enc sz B w v l) (hsrc : HoldsK enc sz w vx m) (hlen : (l.length + m.length) * bytes ≤ 140737488355328) (hmx : l.length + m.length ≤ maxLen) (hB : B ≤ w.heap.size)
    (hK : ∀ v' w', OwnK e enc sz B w' v' (l ++ m) → w.grownBy w' v.ownBlock → K (a.put o.dst v') w') :
    if Region.wanted o (yielded ops a.tmps) = true then Oper.wp P o a w K Q else E := by
  obtain ⟨ao, cap, rfl, hcap, hc⟩ := hsrc
  have hsrc : HoldsK enc sz w (.slice ao m.length cap) m := ⟨ao, cap, rfl, hcap, hc⟩
  cases ao with
  | some ad => exact step_appK KD hg s x hop ht hs hx hown hsrc hlen hmx hB hK
  | none =>
    rcases hc with rfl | ⟨b, off, hc, _⟩
    · obtain ⟨i, h1, h2, h3, h4⟩ := info_parts KD.elem
      have hw : Region.wanted o (yielded ops a.tmps) = true := by simp [Region.wanted, hg]
      rw [if_pos hw]
      have hrun : (Builtin.append_ #[t, t] o.type #[v, .slice none 0 cap]).run P w = .ok v w := by
        rcases hown.2 with ⟨rfl, hn⟩ | ⟨g, cap', cur, rfl, _, _, hnc, _⟩
        · simp [Builtin.append_, run_underlying ht, sizeOf, typeInfo, h1, Builtin.lenOf, Builtin.firstCells]
        · simp [Builtin.append_, run_underlying ht, sizeOf, typeInfo, h1, Builtin.lenOf, Builtin.firstCells, hnc, storeCells]
      have hx' : a.eval x = .slice none 0 cap := by simpa using hx
      unfold Oper.wp
      simp [execOp, hop, resolve, invoke, builtin, hs, hx', hrun, Result.andThen]
      exact hK v w (by simpa using hown) (World.grownBy.refl _ _)
    · cases hc
end Go.Proofs.Ytdaahcaafdleaab.Row
/- Routes: what chapter 14's functions answer, as functions of lists. No conditions. -/
namespace Go.Proofs.Ytdaahcaafdleaab.Row
open Go.ChangeShapes Go.WideShapes Go.ChangeAt Go.RowKit Go.Instr
set_option linter.unusedVariables false
set_option linter.unusedSectionVars false
set_option maxRecDepth 100000
def isRt (m : List ByteArray) (f : Int) (x : Rtt) : Bool := decide (x.2.1 = f) && decide (x.1 = m)
def fcRt (f : Int) (x : Rtt) : Bool := decide (x.2.1 = f)
def vRt (x : Rtt) : Bool := validN x.1 && (Num.inB x.2.1 1 6 && Num.inB x.2.2 0 1000)
def newRt (l : List Rtt) (k : Nat) : Bool := !(l.take k).any (isRt (nth l k).1 (nth l k).2.1)
def vldRt (l : List Rtt) : Nat → Bool
  | 0 => true
  | k + 1 => vldRt l k && (vRt (nth l k) && newRt l k)
def validRts (l : List Rtt) : Bool := vldRt l l.length && decide (l.length ≤ 24)
def chgRt (l : List Rtt) (r : Rtt) : List Rtt :=
  if 0 ≤ ixL (isRt r.1 r.2.1) l then l.set (ixL (isRt r.1 r.2.1) l).toNat ((nth l (ixL (isRt r.1 r.2.1) l).toNat).1, (nth l (ixL (isRt r.1 r.2.1) l).toNat).2.1, r.2.2) else l ++ [r]
def addRt (l : List Rtt) (r : Rtt) : List Rtt := if validRts (chgRt l r) = true then chgRt l r else l
def rmRt (l : List Rtt) (f : Int) : List Rtt := l.filter (fun x => !fcRt f x)
def mpI (l : List Rtt) (n : List ByteArray) : Nat → Int
  | 0 => -1
  | k + 1 => if hpB n (nth l k).1 = true ∧ (mpI l n k < 0 ∨ (nth l (mpI l n k).toNat).1.length < (nth l k).1.length) then (k : Int) else mpI l n k
def mpN (l : List Rtt) (n : List ByteArray) : List ByteArray := if mpI l n l.length < 0 then [] else (nth l (mpI l n l.length).toNat).1
def mpB (l : List Rtt) (n : List ByteArray) : Bool := decide (0 ≤ mpI l n l.length)
theorem mpI_lt (l : List Rtt) (n : List ByteArray) : ∀ k, -1 ≤ mpI l n k ∧ mpI l n k < k
  | 0 => by unfold mpI; omega
  | k + 1 => by
    have := mpI_lt l n k
    unfold mpI
    split <;> omega
def leRt (a b : Rtt) : Bool := decide (a.2.2 < b.2.2) || (decide (a.2.2 = b.2.2) && decide (a.2.1 ≤ b.2.1))
def putRt (r : Rtt) : List Rtt → List Rtt
  | [] => [r]
  | a :: l => if leRt a r = true then a :: putRt r l else r :: a :: l
def hopRs (l : List Rtt) (p : List ByteArray) : List Rtt := (l.filter (fun x => decide (x.1 = p))).foldl (fun s r => putRt r s) []
def hopsRt (l : List Rtt) (n : List ByteArray) : List Int := if mpB l n = true then (hopRs l (mpN l n)).map (fun x => x.2.1) else []
def eachRt (l : List Rtt) (k : Nat) : Bool := (l.take k).all vRt
def numRt (l : List Rtt) : Nat → Nat
  | 0 => 0
  | k + 1 => if newRt l k = true then numRt l k + 1 else numRt l k
def kR (m : List ByteArray) (f : Int) : Lit := .string (keyBytes [.string (txt m).data.toList, .int .i64 f])
def stRt (l : List Rtt) (D : DataW Value) (k : Nat) : DataW Value := if Maps.has D (kR (nth l k).1 (nth l k).2.1) then D else D.put (kR (nth l k).1 (nth l k).2.1) (.held (.int .i64 k))
def rtD (l : List Rtt) : Nat → DataW Value
  | 0 => .map []
  | k + 1 => stRt l (rtD l k) k
def InjR (ok : List ByteArray → Int → Prop) : Prop := ∀ m f m' f', ok m f → ok m' f' → kR m f = kR m' f' → m = m' ∧ f = f'
theorem leRt_total (a b : Rtt) : leRt a b = true ∨ leRt b a = true := by
  unfold leRt; simp only [Bool.or_eq_true, Bool.and_eq_true, decide_eq_true_eq]; omega
theorem leRt_trans {a b c : Rtt} (h : leRt a b = true) (g : leRt b c = true) : leRt a c = true := by
  unfold leRt at *; simp only [Bool.or_eq_true, Bool.and_eq_true, decide_eq_true_eq] at *; omega
theorem leRt_anti {a b : Rtt} (h : leRt a b = true) (g : leRt b a = true) : a.2 = b.2 := by
  unfold leRt at *; simp only [Bool.or_eq_true, Bool.and_eq_true, decide_eq_true_eq] at *
  exact Prod.ext (by omega) (by omega)
theorem putRt_perm (r : Rtt) : ∀ l : List Rtt, (putRt r l).Perm (r :: l)
  | [] => List.Perm.refl _
  | a :: l => by
    unfold putRt
    split
    · exact ((putRt_perm r l).cons a).trans (List.Perm.swap r a l)
    · exact List.Perm.refl _
theorem putRt_sorted (r : Rtt) : ∀ {l : List Rtt}, l.Pairwise (fun a b => leRt a b = true) → (putRt r l).Pairwise (fun a b => leRt a b = true)
  | [], _ => List.pairwise_singleton _ _
  | a :: l, h => by
    obtain ⟨h1, h2⟩ := List.pairwise_cons.1 h
    unfold putRt
    split
    · rename_i hr
      refine List.pairwise_cons.2 ⟨fun x hx => ?_, putRt_sorted r h2⟩
      rcases List.mem_cons.1 ((putRt_perm r l).mem_iff.1 hx) with rfl | hx
      · exact hr
      · exact h1 x hx
    · rename_i hr
      have hra : leRt r a = true := (leRt_total a r).resolve_left hr
      refine List.pairwise_cons.2 ⟨fun x hx => ?_, h⟩
      rcases List.mem_cons.1 hx with rfl | hx
      · exact hra
      · exact leRt_trans hra (h1 x hx)
theorem foldPut : ∀ (l s : List Rtt), s.Pairwise (fun a b => leRt a b = true) → (l.foldl (fun s r => putRt r s) s).Perm (l ++ s) ∧ (l.foldl (fun s r => putRt r s) s).Pairwise (fun a b => leRt a b = true)
  | [], s, h => ⟨List.Perm.refl _, h⟩
  | r :: l, s, h => by
    obtain ⟨p1, p2⟩ := foldPut l (putRt r s) (putRt_sorted r h)
    refine ⟨?_, p2⟩
    refine p1.trans ?_
    refine ((putRt_perm r s).append_left l).trans ?_
    exact List.perm_middle
theorem sorted_snd : ∀ {a b : List Rtt}, (a.map (·.2)).Perm (b.map (·.2)) → a.Pairwise (fun a b => leRt a b = true) → b.Pairwise (fun a b => leRt a b = true) → a.map (·.2) = b.map (·.2)
  | [], b, hp, _, _ => by
    have := hp.length_eq
    simp at this
    rw [List.eq_nil_of_length_eq_zero this.symm]
  | x :: a, [], hp, _, _ => by
    have := hp.length_eq
    simp at this
  | x :: a, y :: b, hp, ha, hb => by
    obtain ⟨a1, a2⟩ := List.pairwise_cons.1 ha
    obtain ⟨b1, b2⟩ := List.pairwise_cons.1 hb
    have hle : ∀ (u v v' : Rtt), v.2 = v'.2 → leRt u v = true → leRt u v' = true := fun u v v' e h => by unfold leRt at *; rw [← e]; exact h
    have refl : ∀ u : Rtt, leRt u u = true := fun u => (leRt_total u u).elim id id
    have hx : leRt y x = true := by
      obtain ⟨v, hv, e⟩ := List.mem_map.1 (hp.mem_iff.1 (show x.2 ∈ (x :: a).map (·.2) by simp))
      rcases List.mem_cons.1 hv with rfl | hv
      · exact hle _ _ _ e (refl _)
      · exact hle _ _ _ e (b1 v hv)
    have hy : leRt x y = true := by
      obtain ⟨v, hv, e⟩ := List.mem_map.1 (hp.mem_iff.2 (show y.2 ∈ (y :: b).map (·.2) by simp))
      rcases List.mem_cons.1 hv with rfl | hv
      · exact hle _ _ _ e (refl _)
      · exact hle _ _ _ e (a1 v hv)
    have e := leRt_anti hy hx
    simp only [List.map_cons] at hp ⊢
    rw [e] at hp ⊢
    rw [sorted_snd hp.cons_inv a2 b2]
theorem hops_of_sorted {l d : List Rtt} (p : List ByteArray) (hp : d.Perm l) (hs : d.Pairwise (fun a b => leRt a b = true)) : (d.filter (fun x => decide (x.1 = p))).map (fun x => x.2.1) = (hopRs l p).map (fun x => x.2.1) := by
  obtain ⟨q1, q2⟩ := foldPut (l.filter (fun x => decide (x.1 = p))) [] List.Pairwise.nil
  rw [List.append_nil] at q1
  have h1 : (d.filter (fun x => decide (x.1 = p))).map (·.2) = (hopRs l p).map (·.2) := by
    refine sorted_snd (((hp.filter _).trans q1.symm).map _) (hs.filter _) q2
  have h2 := congrArg (List.map (fun y : Int × Int => y.1)) h1
  rw [List.map_map, List.map_map] at h2
  exact h2
def facesTo (d : List Rtt) (p : List ByteArray) (k : Nat) : List Int := ((d.take k).filter (fun x => decide (x.1 = p))).map (fun x => x.2.1)
theorem facesTo_next {d : List Rtt} {p : List ByteArray} {k : Nat} (hk : k < d.length) {q : Bool} (hq : decide ((nth d k).1 = p) = q) : facesTo d p (k + 1) = if q = true then facesTo d p k ++ [(nth d k).2.1] else facesTo d p k := by
  unfold facesTo
  rw [take_nx hk, List.filter_append, List.map_append]
  cases q
  · rw [List.filter_cons_of_neg (by simpa using hq)]; simp
  · rw [List.filter_cons_of_pos (by simpa using hq)]; simp
theorem facesTo_len (d : List Rtt) (p : List ByteArray) (k : Nat) : (facesTo d p k).length ≤ k := by
  unfold facesTo
  rw [List.length_map]
  exact Nat.le_trans (List.length_filter_le _ _) (by rw [List.length_take]; omega)
theorem facesTo_all (d : List Rtt) (p : List ByteArray) : facesTo d p d.length = (d.filter (fun x => decide (x.1 = p))).map (fun x => x.2.1) := by unfold facesTo; rw [List.take_of_length_le (Nat.le_refl _)]
def hopTo (l : List Rtt) (p : List ByteArray) (k : Nat) : List Rtt := hopRs (l.take k) p
theorem hopTo_next {l : List Rtt} {p : List ByteArray} {k : Nat} (hk : k < l.length) {q : Bool} (hq : decide ((nth l k).1 = p) = q) : hopTo l p (k + 1) = if q = true then putRt (nth l k) (hopTo l p k) else hopTo l p k := by
  unfold hopTo hopRs
  rw [take_nx hk, List.filter_append]
  cases q
  · rw [List.filter_cons_of_neg (by simpa using hq)]; simp
  · rw [List.filter_cons_of_pos (by simpa using hq)]; simp [List.foldl_append]
theorem hopTo_all (l : List Rtt) (p : List ByteArray) : hopTo l p l.length = hopRs l p := by unfold hopTo; rw [List.take_of_length_le (Nat.le_refl _)]
theorem hopTo_sorted (l : List Rtt) (p : List ByteArray) (k : Nat) : (hopTo l p k).Pairwise (fun a b => leRt a b = true) := (foldPut _ [] List.Pairwise.nil).2
theorem hopTo_len (l : List Rtt) (p : List ByteArray) (k : Nat) : (hopTo l p k).length ≤ k := by
  have h := (foldPut ((l.take k).filter (fun x => decide (x.1 = p))) [] List.Pairwise.nil).1.length_eq
  rw [List.append_nil] at h
  have h1 := List.length_filter_le (fun x : Rtt => decide (x.1 = p)) (l.take k)
  rw [List.length_take] at h1
  show (((l.take k).filter (fun x => decide (x.1 = p))).foldl (fun s r => putRt r s) []).length ≤ k
  omega
theorem putRt_at {r : Rtt} : ∀ {l : List Rtt} {k : Nat}, k ≤ l.length → l.Pairwise (fun a b => leRt a b = true) → (0 < k → leRt (nth l (k - 1)) r = true) → (∀ j, k ≤ j → j < l.length → leRt (nth l j) r = false) → putRt r l = l.take k ++ [r] ++ l.drop k
  | [], k, hk, _, _, _ => by
    obtain rfl : k = 0 := by simpa using hk
    rfl
  | a :: l, 0, hk, hs, _, h2 => by
    have h3 : leRt a r = false := h2 0 (Nat.le_refl _) (by simp)
    unfold putRt
    rw [if_neg (by simp [h3])]
    rfl
  | a :: l, k + 1, hk, hs, h1, h2 => by
    obtain ⟨s1, s2⟩ := List.pairwise_cons.1 hs
    have h1' : leRt (nth (a :: l) k) r = true := h1 (by omega)
    have ha : leRt a r = true := by
      by_cases e : k = 0
      · subst e; exact h1'
      · obtain ⟨j, rfl⟩ : ∃ j, k = j + 1 := ⟨k - 1, by omega⟩
        have hj : j < l.length := by simp at hk; omega
        have : nth (a :: l) (j + 1) = nth l j := by rw [nth_eq (by simp; omega), nth_eq hj]; rfl
        rw [this] at h1'
        exact leRt_trans (s1 _ (nth_mem hj)) h1'
    have ih := putRt_at (r := r) (l := l) (k := k) (by simpa using hk) s2 (fun h0 => by
      obtain ⟨j, rfl⟩ : ∃ j, k = j + 1 := ⟨k - 1, by omega⟩
      have hj : j < l.length := by simp at hk; omega
      have : nth (a :: l) (j + 1) = nth l j := by rw [nth_eq (by simp; omega), nth_eq hj]; rfl
      rw [this] at h1'
      exact h1') (fun j h3 h4 => by
      have := h2 (j + 1) (by omega) (by simp; omega)
      rwa [show nth (a :: l) (j + 1) = nth l j by rw [nth_eq (by simp; omega), nth_eq h4]; rfl] at this)
    unfold putRt
    rw [if_pos ha, ih]
    rfl
end Go.Proofs.Ytdaahcaafdleaab.Row
/- An element of a list of routes and its parts; contracts of the names in letters. No conditions but that lengths fit. -/
namespace Go.Proofs.Ytdaahcaafdleaab.Row
open Go.ChangeShapes Go.WideShapes Go.ChangeAt Go.RowKit Go.Instr
set_option linter.unusedVariables false
set_option maxRecDepth 100000
theorem kRt_parts {w : World} {x0 : Option Addr} {n0 c0 : Nat} {u v : Int} {x : Rtt} (h : kRt.At w (.agg #[.slice x0 n0 c0, .int .i64 u, .int .i64 v]) x) : kN.At w (.agg #[.slice x0 n0 c0]) x.1 := by
  obtain ⟨a0, b0, d0, e, h0⟩ := kRt_at h
  simp only [Value.agg.injEq, Array.mk.injEq, List.cons.injEq, Value.slice.injEq, Value.int.injEq, and_true, true_and] at e
  obtain ⟨⟨rfl, rfl, rfl⟩, rfl, rfl⟩ := e
  exact h0
theorem kN_lenR {w : World} {x : Option Addr} {n c : Nat} {l : List ByteArray} (h : kN.At w (.agg #[.slice x n c]) l) : l.length = n := by
  obtain ⟨v, e, h9⟩ := kN_at h
  cases e
  obtain ⟨x', n', c', e, hn, -, -⟩ := h9.shapeN
  cases e
  exact hn.symm
theorem sHpN {l m : List ByteArray} {V U : Value} {w : World} (z : Bool) (hz : hpB l m = z) (h : kN.At w V l) (g : kN.At w U m) (hl : bulk l ≤ 9000000) (hm : bulk m ≤ 9000000) :
    Calls Try.prog 37 #[V, U] w fun e w' => e = .returned (.bool z) ∧ Below w.heap.size w w' := by
  obtain ⟨v, rfl, h9⟩ := kN_at h
  obtain ⟨u, rfl, g9⟩ := kN_at g
  subst hz
  exact specHasPrefix v u l m w h9 g9 (Nat.le_trans (bulk_len l) (Nat.le_trans hl (by decide))) (Nat.le_trans (bulk_len m) (Nat.le_trans hm (by decide)))
theorem iHpN {l m : List ByteArray} {V U : Value} {w : World} (z : Bool) (hz : hpB l m = z) (h : kN.At w V l) (g : kN.At w U m) (hl : bulk l ≤ 9000000) (hm : bulk m ≤ 9000000) :
    Calls Try.prog 40 #[V, U] w fun e w' => e = .returned (.bool z) ∧ Below w.heap.size w w' := by
  obtain ⟨v, rfl, h9⟩ := kN_at h
  obtain ⟨u, rfl, g9⟩ := kN_at g
  subst hz
  exact implHasPrefix v u l m w h9 g9 (Nat.le_trans (bulk_len l) (Nat.le_trans hl (by decide))) (Nat.le_trans (bulk_len m) (Nat.le_trans hm (by decide)))
def FitRt (l : List Rtt) : Prop := bulkK wtRt l ≤ 1100000
theorem FitRt.len {l : List Rtt} (h : FitRt l) : l.length ≤ 1100000 := Nat.le_trans (bulkK_len wtRt l) h
theorem FitRt.each {l : List Rtt} (h : FitRt l) : ∀ e ∈ l, bulk e.1 ≤ 1200000 := fun e he => Nat.le_trans (bulkK_mem (f := wtRt) he) (Nat.le_trans h (by decide))
end Go.Proofs.Ytdaahcaafdleaab.Row
/- One element as a literal, what is beneath it: for any kind. No conditions. -/
namespace Go.Proofs.Ytdaahcaafdleaab.Row
open Go.ChangeShapes Go.WideShapes Go.ChangeAt Go.RowKit Go.Instr
set_option linter.unusedVariables false
set_option maxRecDepth 100000
theorem one_k {α M : Type} {k : Kd α M} (hs : Sz k.cells k.size) {e : TypeId} {W : World} {m : M} {cs : List Value} (hd : k.cells m = cs) : HoldsK k.cells k.size (W.alloc (.cells cs.toArray e)) (.slice (some ⟨W.heap.size, 0, none⟩) 1 1) [m] := by
  subst hd
  exact holdsK_one hs e W m
theorem Kd.Own.cap {α M : Type} {k : Kd α M} {B E : Nat} {w : World} {m : M} (h : k.Own B E w m) : k.Own B w.heap.size w m := ⟨h.1, h.2.1, fun g hg => (h.lt g hg).2.2⟩
theorem kN_splitP {B E : Nat} {w : World} {V : Value} {x : List ByteArray} (h : kN.In B E w V x) : ∃ (m1 : Rw ByteArray) (ya : Option Addr) (ma da : Nat), V = .agg #[.slice ya ma da] ∧ kN.strip m1 = x ∧ kN.cells m1 = [.slice ya ma da] ∧ kN.Own B E w m1 := by
  obtain ⟨m1, rfl, rfl, ho⟩ := h.split
  obtain ⟨ya, ma, da, e, -⟩ := kN_shapeA (Kd.at_of (k := kN) ho.holds)
  exact ⟨m1, ya, ma, da, e, rfl, by injection e with e; exact congrArg Array.toList e, ho⟩
end Go.Proofs.Ytdaahcaafdleaab.Row
/- Copies of routes and of lists of them, model and program. No conditions but that lengths fit. -/
namespace Go.Proofs.Ytdaahcaafdleaab.Row
open Go.ChangeShapes Go.WideShapes Go.ChangeAt Go.RowKit Go.Instr
set_option linter.unusedVariables false
set_option maxRecDepth 100000
end Go.Proofs.Ytdaahcaafdleaab.Row
/- The model puts a route among sorted ones. No conditions but that lengths fit. -/
namespace Go.Proofs.Ytdaahcaafdleaab.Row
open Go.ChangeShapes Go.WideShapes Go.ChangeAt Go.RowKit Go.Instr
set_option linter.unusedVariables false
set_option maxRecDepth 100000
theorem holds_restR {w : World} {b off n cap i : Nat} {L : List Rtm} (h : HoldsK kRt.cells 3 w (.slice (some ⟨b, off, none⟩) n cap) L) (hi : i ≤ L.length) : HoldsK kRt.cells 3 w (.slice (if cap = i then some ⟨b, off, none⟩ else some ⟨b, off + i * 3, none⟩) (n - i) (cap - i)) (L.drop i) := by
  have hn := h.lenEq
  obtain ⟨x', n', cap', hv, hn', hc', -⟩ := h.shapeN
  cases hv
  by_cases e : cap = i
  · rw [if_pos e]
    exact holds_dropIf szRt_cells h hi (Or.inr (by omega))
  · rw [if_neg e]
    exact holds_dropIf szRt_cells h hi (Or.inl rfl)
theorem holds_blkR {w : World} {g : Nat} {r : Rtm} (h : Ret.Blk w g #[.slice r.1.ad r.1.n r.1.cap, .int .i64 r.2.1, .int .i64 r.2.2] 49) : HoldsK kRt.cells 3 w (.slice (some ⟨g, 0, none⟩) 1 1) [r] := by
  refine ⟨some ⟨g, 0, none⟩, 1, rfl, Nat.le_refl _, Or.inr ⟨g, 0, rfl, fun j hj => ?_⟩⟩
  match j, hj with
  | 0, _ => exact ⟨.slice r.1.ad r.1.n r.1.cap, rfl, h.cell 0⟩
  | 1, _ => exact ⟨.int .i64 r.2.1, rfl, h.cell 1⟩
  | 2, _ => exact ⟨.int .i64 r.2.2, rfl, h.cell 2⟩
set_option maxRecDepth 100000 in
set_option maxHeartbeats 4000000 in
theorem rpu0 {Q : Exit → Act → World → Prop} {v0 v1 v2 v3 v4 v6 v7 v8 v9 v10 v11 v12 v13 v14 v15 v16 v17 v18 v19 v20 v21 v22 v23 v24 v25 v26 v27 v28 v29 v30 v31 v32 v33 v34 v35 v36 v37 v38 v39 v40 v41 v42 v43 v44 v45 v46 v47 v48 v49 v50 v51 v52 v53 v54 v55 v56 : Value} {w : World}  
  (hQ : ∀ (u8 u9 u10 u11 u12 u13 u14 u15 u16 u17 u18 u19 u20 u21 u22 u23 u24 u25 u26 u27 u28 u29 u30 u31 u32 u33 u34 u35 u36 u37 u38 u39 u40 u41 : Value)  (wx : World), Below w.heap.size w wx → Q .normal ⟨#[v0, v1, v2, v3, v4, .int .i64 (0 : Nat), v6, v7, u8, u9, u10, u11, u12, u13, u14, u15, u16, u17, u18, u19, u20, u21, u22, u23, u24, u25, u26, u27, u28, u29, u30, u31, u32, u33, u34, u35, u36, u37, u38, u39, u40, u41, .bool false, v43, v44, v45, v46, v47, v48, v49, v50, v51, v52, v53, v54, v55, v56], []⟩ wx) :
  (Code.region 2 #[⟨some 8, .move (.tmp 5), 3, "l14_route.go:74", #[], none⟩,
   ⟨some 9, .binOp BinOp.gtr 3 (.tmp 8) (.const (Value.int IntKind.i64 0)) 3, 4, "l14_route.go:74", #[⟨0, .data⟩], none⟩,
   ⟨some 10, .move (.tmp 9), 4, "l14_route.go:74", #[⟨1, .data⟩], none⟩,
   ⟨some 11, .move (.tmp 0), 30, "l14_route.go:74", #[⟨2, .guard⟩], some (2, true)⟩,
   ⟨some 12, .move (.tmp 5), 3, "l14_route.go:74", #[⟨2, .guard⟩], some (2, true)⟩,
   ⟨some 13, .binOp BinOp.sub 3 (.tmp 12) (.const (Value.int IntKind.i64 1)) 3, 3, "l14_route.go:74", #[⟨4, .data⟩, ⟨2, .guard⟩], some (2, true)⟩,
   ⟨some 14, .indexAddr 30 (.tmp 11) (.tmp 13), 0, "l14_route.go:74", #[⟨3, .data⟩, ⟨5, .data⟩, ⟨2, .guard⟩], some (2, true)⟩,
   ⟨some 15, .fieldAddr 49 (.tmp 14) 2, 0, "l14_route.go:74", #[⟨6, .data⟩, ⟨2, .guard⟩], some (2, true)⟩,
   ⟨some 16, .load 3 (.tmp 15), 3, "l14_route.go:74", #[⟨7, .data⟩, ⟨2, .guard⟩], some (2, true)⟩,
   ⟨some 17, .fieldAddr 49 (.tmp 3) 2, 0, "l14_route.go:74", #[⟨2, .guard⟩], some (2, true)⟩,
   ⟨some 18, .load 3 (.tmp 17), 3, "l14_route.go:74", #[⟨9, .data⟩, ⟨2, .guard⟩], some (2, true)⟩,
   ⟨some 19, .binOp BinOp.gtr 3 (.tmp 16) (.tmp 18) 3, 4, "l14_route.go:74", #[⟨8, .data⟩, ⟨10, .data⟩, ⟨2, .guard⟩], some (2, true)⟩,
   ⟨some 20, .move (.tmp 19), 4, "l14_route.go:74", #[⟨11, .data⟩, ⟨2, .chain⟩, ⟨2, .guard⟩], some (2, true)⟩,
   ⟨some 21, .move (.tmp 0), 30, "l14_route.go:74", #[⟨12, .guard⟩], some (12, false)⟩,
   ⟨some 22, .move (.tmp 5), 3, "l14_route.go:74", #[⟨12, .guard⟩], some (12, false)⟩,
   ⟨some 23, .binOp BinOp.sub 3 (.tmp 22) (.const (Value.int IntKind.i64 1)) 3, 3, "l14_route.go:74", #[⟨14, .data⟩, ⟨12, .guard⟩], some (12, false)⟩,
   ⟨some 24, .indexAddr 30 (.tmp 21) (.tmp 23), 0, "l14_route.go:74", #[⟨13, .data⟩, ⟨15, .data⟩, ⟨12, .guard⟩], some (12, false)⟩,
   ⟨some 25, .fieldAddr 49 (.tmp 24) 2, 0, "l14_route.go:74", #[⟨16, .data⟩, ⟨12, .guard⟩], some (12, false)⟩,
   ⟨some 26, .load 3 (.tmp 25), 3, "l14_route.go:74", #[⟨17, .data⟩, ⟨12, .guard⟩], some (12, false)⟩,
   ⟨some 27, .fieldAddr 49 (.tmp 3) 2, 0, "l14_route.go:74", #[⟨12, .guard⟩], some (12, false)⟩,
   ⟨some 28, .load 3 (.tmp 27), 3, "l14_route.go:74", #[⟨19, .data⟩, ⟨12, .guard⟩], some (12, false)⟩,
   ⟨some 29, .binOp BinOp.eql 3 (.tmp 26) (.tmp 28) 3, 4, "l14_route.go:74", #[⟨18, .data⟩, ⟨20, .data⟩, ⟨12, .guard⟩], some (12, false)⟩,
   ⟨some 30, .move (.tmp 29), 4, "l14_route.go:74", #[⟨21, .data⟩, ⟨12, .chain⟩, ⟨12, .guard⟩], some (12, false)⟩,
   ⟨some 31, .move (.tmp 0), 30, "l14_route.go:74", #[⟨22, .guard⟩], some (22, true)⟩,
   ⟨some 32, .move (.tmp 5), 3, "l14_route.go:74", #[⟨22, .guard⟩], some (22, true)⟩,
   ⟨some 33, .binOp BinOp.sub 3 (.tmp 32) (.const (Value.int IntKind.i64 1)) 3, 3, "l14_route.go:74", #[⟨24, .data⟩, ⟨22, .guard⟩], some (22, true)⟩,
   ⟨some 34, .indexAddr 30 (.tmp 31) (.tmp 33), 0, "l14_route.go:74", #[⟨23, .data⟩, ⟨25, .data⟩, ⟨22, .guard⟩], some (22, true)⟩,
   ⟨some 35, .fieldAddr 49 (.tmp 34) 1, 0, "l14_route.go:74", #[⟨26, .data⟩, ⟨22, .guard⟩], some (22, true)⟩,
   ⟨some 36, .load 3 (.tmp 35), 3, "l14_route.go:74", #[⟨27, .data⟩, ⟨22, .guard⟩], some (22, true)⟩,
   ⟨some 37, .fieldAddr 49 (.tmp 3) 1, 0, "l14_route.go:74", #[⟨22, .guard⟩], some (22, true)⟩,
   ⟨some 38, .load 3 (.tmp 37), 3, "l14_route.go:74", #[⟨29, .data⟩, ⟨22, .guard⟩], some (22, true)⟩,
   ⟨some 39, .binOp BinOp.gtr 3 (.tmp 36) (.tmp 38) 3, 4, "l14_route.go:74", #[⟨28, .data⟩, ⟨30, .data⟩, ⟨22, .guard⟩], some (22, true)⟩,
   ⟨some 40, .pick (.tmp 30) (.tmp 39) (.const (Value.bool false)), 4, "l14_route.go:74", #[⟨22, .data⟩, ⟨31, .data⟩, ⟨12, .guard⟩], some (12, false)⟩,
   ⟨some 41, .pick (.tmp 20) (.const (Value.bool true)) (.tmp 40), 4, "l14_route.go:74", #[⟨12, .data⟩, ⟨32, .data⟩, ⟨2, .guard⟩], some (2, true)⟩,
   ⟨some 42, .pick (.tmp 10) (.tmp 41) (.const (Value.bool false)), 4, "l14_route.go:74", #[⟨2, .data⟩, ⟨33, .data⟩], none⟩] true).wp Try.prog Q ⟨#[v0, v1, v2, v3, v4, .int .i64 (0 : Nat), v6, v7, v8, v9, v10, v11, v12, v13, v14, v15, v16, v17, v18, v19, v20, v21, v22, v23, v24, v25, v26, v27, v28, v29, v30, v31, v32, v33, v34, v35, v36, v37, v38, v39, v40, v41, v42, v43, v44, v45, v46, v47, v48, v49, v50, v51, v52, v53, v54, v55, v56], []⟩ w := by
 have HQ := Lib.hid hQ; clear hQ
 have hdr : Below w.heap.size w w.drew := (Below.refl _ _).drew
 have BB := Lib.hid hdr
 refine wp_region_noPanic ?_
 refine wp_region_held_drew (S := (fun w' => True)) (by kernel_rfl) ?_ (fun hHeld => ?_)
 ·
  trivial
 clear hdr
 generalize w.drew = wd at *
 refine wpAnyH_take (i := 0) (oi := ⟨some 8, .move (.tmp 5), 3, "l14_route.go:74", #[], none⟩) (v := ?_) rfl (by kernel_rfl) (by kernel_rfl) (by kernel_rfl) (fun _ _ _ h => h) (Or.inl ⟨by rfl, ?_⟩) (by assumption) ?_
 rotate_left
 ·
  intro w' hSw; (try dsimp only at hSw); first | (go_simp; done) | (go_simp; with_reducible rfl)
 (try simp only [Act.put, Row.pB0, Row.pB1, Row.pB2])
 refine wpAnyH_take (i := 1) (oi := ⟨some 9, .binOp BinOp.gtr 3 (.tmp 8) (.const (Value.int IntKind.i64 0)) 3, 4, "l14_route.go:74", #[⟨0, .data⟩], none⟩) (v := ?_) rfl (by kernel_rfl) (by kernel_rfl) (by kernel_rfl) (fun _ _ _ h => h) (Or.inl ⟨by rfl, ?_⟩) (by assumption) ?_
 rotate_left
 ·
  intro w' hSw; (try dsimp only at hSw); first | (go_simp; done) | (go_simp; with_reducible rfl)
 (try simp only [Act.put, Row.pB0, Row.pB1, Row.pB2])
 refine wpAnyH_take (i := 2) (oi := ⟨some 10, .move (.tmp 9), 4, "l14_route.go:74", #[⟨1, .data⟩], none⟩) (v := ?_) rfl (by kernel_rfl) (by kernel_rfl) (by kernel_rfl) (fun _ _ _ h => h) (Or.inl ⟨by rfl, ?_⟩) (by assumption) ?_
 rotate_left
 ·
  intro w' hSw; (try dsimp only at hSw); first | (go_simp; done) | (go_simp; with_reducible rfl)
 (try simp only [Act.put, Row.pB0, Row.pB1, Row.pB2])
 refine wpAnyH_take (i := 3) (oi := ⟨some 11, .move (.tmp 0), 30, "l14_route.go:74", #[⟨2, .guard⟩], some (2, true)⟩) (v := undef) rfl (by kernel_rfl) (by kernel_rfl) (by kernel_rfl) (fun _ _ _ h => h) (Or.inr ⟨by rfl, rfl⟩) (by assumption) ?_
 (try simp only [Act.put, Row.pB0, Row.pB1, Row.pB2])
 refine wpAnyH_take (i := 4) (oi := ⟨some 12, .move (.tmp 5), 3, "l14_route.go:74", #[⟨2, .guard⟩], some (2, true)⟩) (v := undef) rfl (by kernel_rfl) (by kernel_rfl) (by kernel_rfl) (fun _ _ _ h => h) (Or.inr ⟨by rfl, rfl⟩) (by assumption) ?_
 (try simp only [Act.put, Row.pB0, Row.pB1, Row.pB2])
 refine wpAnyH_take (i := 5) (oi := ⟨some 13, .binOp BinOp.sub 3 (.tmp 12) (.const (Value.int IntKind.i64 1)) 3, 3, "l14_route.go:74", #[⟨4, .data⟩, ⟨2, .guard⟩], some (2, true)⟩) (v := undef) rfl (by kernel_rfl) (by kernel_rfl) (by kernel_rfl) (fun _ _ _ h => h) (Or.inr ⟨by rfl, rfl⟩) (by assumption) ?_
 (try simp only [Act.put, Row.pB0, Row.pB1, Row.pB2])
 refine wpAnyH_take (i := 6) (oi := ⟨some 14, .indexAddr 30 (.tmp 11) (.tmp 13), 0, "l14_route.go:74", #[⟨3, .data⟩, ⟨5, .data⟩, ⟨2, .guard⟩], some (2, true)⟩) (v := undef) rfl (by kernel_rfl) (by kernel_rfl) (by kernel_rfl) (fun _ _ _ h => h) (Or.inr ⟨by rfl, rfl⟩) (by assumption) ?_
 (try simp only [Act.put, Row.pB0, Row.pB1, Row.pB2])
 refine wpAnyH_take (i := 7) (oi := ⟨some 15, .fieldAddr 49 (.tmp 14) 2, 0, "l14_route.go:74", #[⟨6, .data⟩, ⟨2, .guard⟩], some (2, true)⟩) (v := undef) rfl (by kernel_rfl) (by kernel_rfl) (by kernel_rfl) (fun _ _ _ h => h) (Or.inr ⟨by rfl, rfl⟩) (by assumption) ?_
 (try simp only [Act.put, Row.pB0, Row.pB1, Row.pB2])
 refine wpAnyH_take (i := 8) (oi := ⟨some 16, .load 3 (.tmp 15), 3, "l14_route.go:74", #[⟨7, .data⟩, ⟨2, .guard⟩], some (2, true)⟩) (v := undef) rfl (by kernel_rfl) (by kernel_rfl) (by kernel_rfl) (fun _ _ _ h => h) (Or.inr ⟨by rfl, rfl⟩) (by assumption) ?_
 (try simp only [Act.put, Row.pB0, Row.pB1, Row.pB2])
 refine wpAnyH_take (i := 9) (oi := ⟨some 17, .fieldAddr 49 (.tmp 3) 2, 0, "l14_route.go:74", #[⟨2, .guard⟩], some (2, true)⟩) (v := undef) rfl (by kernel_rfl) (by kernel_rfl) (by kernel_rfl) (fun _ _ _ h => h) (Or.inr ⟨by rfl, rfl⟩) (by assumption) ?_
 (try simp only [Act.put, Row.pB0, Row.pB1, Row.pB2])
 refine wpAnyH_take (i := 10) (oi := ⟨some 18, .load 3 (.tmp 17), 3, "l14_route.go:74", #[⟨9, .data⟩, ⟨2, .guard⟩], some (2, true)⟩) (v := undef) rfl (by kernel_rfl) (by kernel_rfl) (by kernel_rfl) (fun _ _ _ h => h) (Or.inr ⟨by rfl, rfl⟩) (by assumption) ?_
 (try simp only [Act.put, Row.pB0, Row.pB1, Row.pB2])
 refine wpAnyH_take (i := 11) (oi := ⟨some 19, .binOp BinOp.gtr 3 (.tmp 16) (.tmp 18) 3, 4, "l14_route.go:74", #[⟨8, .data⟩, ⟨10, .data⟩, ⟨2, .guard⟩], some (2, true)⟩) (v := undef) rfl (by kernel_rfl) (by kernel_rfl) (by kernel_rfl) (fun _ _ _ h => h) (Or.inr ⟨by rfl, rfl⟩) (by assumption) ?_
 (try simp only [Act.put, Row.pB0, Row.pB1, Row.pB2])
 refine wpAnyH_take (i := 12) (oi := ⟨some 20, .move (.tmp 19), 4, "l14_route.go:74", #[⟨11, .data⟩, ⟨2, .chain⟩, ⟨2, .guard⟩], some (2, true)⟩) (v := undef) rfl (by kernel_rfl) (by kernel_rfl) (by kernel_rfl) (fun _ _ _ h => h) (Or.inr ⟨by rfl, rfl⟩) (by assumption) ?_
 (try simp only [Act.put, Row.pB0, Row.pB1, Row.pB2])
 refine wpAnyH_take (i := 13) (oi := ⟨some 21, .move (.tmp 0), 30, "l14_route.go:74", #[⟨12, .guard⟩], some (12, false)⟩) (v := undef) rfl (by kernel_rfl) (by kernel_rfl) (by kernel_rfl) (fun _ _ _ h => h) (Or.inr ⟨by rfl, rfl⟩) (by assumption) ?_
 (try simp only [Act.put, Row.pB0, Row.pB1, Row.pB2])
 refine wpAnyH_take (i := 14) (oi := ⟨some 22, .move (.tmp 5), 3, "l14_route.go:74", #[⟨12, .guard⟩], some (12, false)⟩) (v := undef) rfl (by kernel_rfl) (by kernel_rfl) (by kernel_rfl) (fun _ _ _ h => h) (Or.inr ⟨by rfl, rfl⟩) (by assumption) ?_
 (try simp only [Act.put, Row.pB0, Row.pB1, Row.pB2])
 refine wpAnyH_take (i := 15) (oi := ⟨some 23, .binOp BinOp.sub 3 (.tmp 22) (.const (Value.int IntKind.i64 1)) 3, 3, "l14_route.go:74", #[⟨14, .data⟩, ⟨12, .guard⟩], some (12, false)⟩) (v := undef) rfl (by kernel_rfl) (by kernel_rfl) (by kernel_rfl) (fun _ _ _ h => h) (Or.inr ⟨by rfl, rfl⟩) (by assumption) ?_
 (try simp only [Act.put, Row.pB0, Row.pB1, Row.pB2])
 refine wpAnyH_take (i := 16) (oi := ⟨some 24, .indexAddr 30 (.tmp 21) (.tmp 23), 0, "l14_route.go:74", #[⟨13, .data⟩, ⟨15, .data⟩, ⟨12, .guard⟩], some (12, false)⟩) (v := undef) rfl (by kernel_rfl) (by kernel_rfl) (by kernel_rfl) (fun _ _ _ h => h) (Or.inr ⟨by rfl, rfl⟩) (by assumption) ?_
 (try simp only [Act.put, Row.pB0, Row.pB1, Row.pB2])
 refine wpAnyH_take (i := 17) (oi := ⟨some 25, .fieldAddr 49 (.tmp 24) 2, 0, "l14_route.go:74", #[⟨16, .data⟩, ⟨12, .guard⟩], some (12, false)⟩) (v := undef) rfl (by kernel_rfl) (by kernel_rfl) (by kernel_rfl) (fun _ _ _ h => h) (Or.inr ⟨by rfl, rfl⟩) (by assumption) ?_
 (try simp only [Act.put, Row.pB0, Row.pB1, Row.pB2])
 refine wpAnyH_take (i := 18) (oi := ⟨some 26, .load 3 (.tmp 25), 3, "l14_route.go:74", #[⟨17, .data⟩, ⟨12, .guard⟩], some (12, false)⟩) (v := undef) rfl (by kernel_rfl) (by kernel_rfl) (by kernel_rfl) (fun _ _ _ h => h) (Or.inr ⟨by rfl, rfl⟩) (by assumption) ?_
 (try simp only [Act.put, Row.pB0, Row.pB1, Row.pB2])
 refine wpAnyH_take (i := 19) (oi := ⟨some 27, .fieldAddr 49 (.tmp 3) 2, 0, "l14_route.go:74", #[⟨12, .guard⟩], some (12, false)⟩) (v := undef) rfl (by kernel_rfl) (by kernel_rfl) (by kernel_rfl) (fun _ _ _ h => h) (Or.inr ⟨by rfl, rfl⟩) (by assumption) ?_
 (try simp only [Act.put, Row.pB0, Row.pB1, Row.pB2])
 refine wpAnyH_take (i := 20) (oi := ⟨some 28, .load 3 (.tmp 27), 3, "l14_route.go:74", #[⟨19, .data⟩, ⟨12, .guard⟩], some (12, false)⟩) (v := undef) rfl (by kernel_rfl) (by kernel_rfl) (by kernel_rfl) (fun _ _ _ h => h) (Or.inr ⟨by rfl, rfl⟩) (by assumption) ?_
 (try simp only [Act.put, Row.pB0, Row.pB1, Row.pB2])
 refine wpAnyH_take (i := 21) (oi := ⟨some 29, .binOp BinOp.eql 3 (.tmp 26) (.tmp 28) 3, 4, "l14_route.go:74", #[⟨18, .data⟩, ⟨20, .data⟩, ⟨12, .guard⟩], some (12, false)⟩) (v := undef) rfl (by kernel_rfl) (by kernel_rfl) (by kernel_rfl) (fun _ _ _ h => h) (Or.inr ⟨by rfl, rfl⟩) (by assumption) ?_
 (try simp only [Act.put, Row.pB0, Row.pB1, Row.pB2])
 refine wpAnyH_take (i := 22) (oi := ⟨some 30, .move (.tmp 29), 4, "l14_route.go:74", #[⟨21, .data⟩, ⟨12, .chain⟩, ⟨12, .guard⟩], some (12, false)⟩) (v := undef) rfl (by kernel_rfl) (by kernel_rfl) (by kernel_rfl) (fun _ _ _ h => h) (Or.inr ⟨by rfl, rfl⟩) (by assumption) ?_
 (try simp only [Act.put, Row.pB0, Row.pB1, Row.pB2])
 refine wpAnyH_take (i := 23) (oi := ⟨some 31, .move (.tmp 0), 30, "l14_route.go:74", #[⟨22, .guard⟩], some (22, true)⟩) (v := undef) rfl (by kernel_rfl) (by kernel_rfl) (by kernel_rfl) (fun _ _ _ h => h) (Or.inr ⟨by rfl, rfl⟩) (by assumption) ?_
 (try simp only [Act.put, Row.pB0, Row.pB1, Row.pB2])
 refine wpAnyH_take (i := 24) (oi := ⟨some 32, .move (.tmp 5), 3, "l14_route.go:74", #[⟨22, .guard⟩], some (22, true)⟩) (v := undef) rfl (by kernel_rfl) (by kernel_rfl) (by kernel_rfl) (fun _ _ _ h => h) (Or.inr ⟨by rfl, rfl⟩) (by assumption) ?_
 (try simp only [Act.put, Row.pB0, Row.pB1, Row.pB2])
 refine wpAnyH_take (i := 25) (oi := ⟨some 33, .binOp BinOp.sub 3 (.tmp 32) (.const (Value.int IntKind.i64 1)) 3, 3, "l14_route.go:74", #[⟨24, .data⟩, ⟨22, .guard⟩], some (22, true)⟩) (v := undef) rfl (by kernel_rfl) (by kernel_rfl) (by kernel_rfl) (fun _ _ _ h => h) (Or.inr ⟨by rfl, rfl⟩) (by assumption) ?_
 (try simp only [Act.put, Row.pB0, Row.pB1, Row.pB2])
 refine wpAnyH_take (i := 26) (oi := ⟨some 34, .indexAddr 30 (.tmp 31) (.tmp 33), 0, "l14_route.go:74", #[⟨23, .data⟩, ⟨25, .data⟩, ⟨22, .guard⟩], some (22, true)⟩) (v := undef) rfl (by kernel_rfl) (by kernel_rfl) (by kernel_rfl) (fun _ _ _ h => h) (Or.inr ⟨by rfl, rfl⟩) (by assumption) ?_
 (try simp only [Act.put, Row.pB0, Row.pB1, Row.pB2])
 refine wpAnyH_take (i := 27) (oi := ⟨some 35, .fieldAddr 49 (.tmp 34) 1, 0, "l14_route.go:74", #[⟨26, .data⟩, ⟨22, .guard⟩], some (22, true)⟩) (v := undef) rfl (by kernel_rfl) (by kernel_rfl) (by kernel_rfl) (fun _ _ _ h => h) (Or.inr ⟨by rfl, rfl⟩) (by assumption) ?_
 (try simp only [Act.put, Row.pB0, Row.pB1, Row.pB2])
 refine wpAnyH_take (i := 28) (oi := ⟨some 36, .load 3 (.tmp 35), 3, "l14_route.go:74", #[⟨27, .data⟩, ⟨22, .guard⟩], some (22, true)⟩) (v := undef) rfl (by kernel_rfl) (by kernel_rfl) (by kernel_rfl) (fun _ _ _ h => h) (Or.inr ⟨by rfl, rfl⟩) (by assumption) ?_
 (try simp only [Act.put, Row.pB0, Row.pB1, Row.pB2])
 refine wpAnyH_take (i := 29) (oi := ⟨some 37, .fieldAddr 49 (.tmp 3) 1, 0, "l14_route.go:74", #[⟨22, .guard⟩], some (22, true)⟩) (v := undef) rfl (by kernel_rfl) (by kernel_rfl) (by kernel_rfl) (fun _ _ _ h => h) (Or.inr ⟨by rfl, rfl⟩) (by assumption) ?_
 (try simp only [Act.put, Row.pB0, Row.pB1, Row.pB2])
 refine wpAnyH_take (i := 30) (oi := ⟨some 38, .load 3 (.tmp 37), 3, "l14_route.go:74", #[⟨29, .data⟩, ⟨22, .guard⟩], some (22, true)⟩) (v := undef) rfl (by kernel_rfl) (by kernel_rfl) (by kernel_rfl) (fun _ _ _ h => h) (Or.inr ⟨by rfl, rfl⟩) (by assumption) ?_
 (try simp only [Act.put, Row.pB0, Row.pB1, Row.pB2])
 refine wpAnyH_take (i := 31) (oi := ⟨some 39, .binOp BinOp.gtr 3 (.tmp 36) (.tmp 38) 3, 4, "l14_route.go:74", #[⟨28, .data⟩, ⟨30, .data⟩, ⟨22, .guard⟩], some (22, true)⟩) (v := undef) rfl (by kernel_rfl) (by kernel_rfl) (by kernel_rfl) (fun _ _ _ h => h) (Or.inr ⟨by rfl, rfl⟩) (by assumption) ?_
 (try simp only [Act.put, Row.pB0, Row.pB1, Row.pB2])
 refine wpAnyH_take (i := 32) (oi := ⟨some 40, .pick (.tmp 30) (.tmp 39) (.const (Value.bool false)), 4, "l14_route.go:74", #[⟨22, .data⟩, ⟨31, .data⟩, ⟨12, .guard⟩], some (12, false)⟩) (v := undef) rfl (by kernel_rfl) (by kernel_rfl) (by kernel_rfl) (fun _ _ _ h => h) (Or.inr ⟨by rfl, rfl⟩) (by assumption) ?_
 (try simp only [Act.put, Row.pB0, Row.pB1, Row.pB2])
 refine wpAnyH_take (i := 33) (oi := ⟨some 41, .pick (.tmp 20) (.const (Value.bool true)) (.tmp 40), 4, "l14_route.go:74", #[⟨12, .data⟩, ⟨32, .data⟩, ⟨2, .guard⟩], some (2, true)⟩) (v := undef) rfl (by kernel_rfl) (by kernel_rfl) (by kernel_rfl) (fun _ _ _ h => h) (Or.inr ⟨by rfl, rfl⟩) (by assumption) ?_
 (try simp only [Act.put, Row.pB0, Row.pB1, Row.pB2])
 refine wpAnyH_take (i := 34) (oi := ⟨some 42, .pick (.tmp 10) (.tmp 41) (.const (Value.bool false)), 4, "l14_route.go:74", #[⟨2, .data⟩, ⟨33, .data⟩], none⟩) (v := ?_) rfl (by kernel_rfl) (by kernel_rfl) (by kernel_rfl) (fun _ _ _ h => h) (Or.inl ⟨by rfl, ?_⟩) (by assumption) ?_
 rotate_left
 ·
  intro w' hSw; (try dsimp only at hSw); first | (go_simp; done) | (go_simp; with_reducible rfl)
 (try simp only [Act.put, Row.pB0, Row.pB1, Row.pB2])
 refine wpAnyH_done (by kernel_rfl) ?_ _
 exact NoPanic.normal (HQ.out _ _ _ _ _ _ _ _ _ _ _ _ _ _ _ _ _ _ _ _ _ _ _ _ _ _ _ _ _ _ _ _ _ _  _  BB.out)
set_option maxRecDepth 100000 in
set_option maxHeartbeats 4000000 in
theorem rpu1 {Q : Exit → Act → World → Prop} {v1 v2 v4 v6 v7 v8 v9 v10 v11 v12 v13 v14 v15 v16 v17 v18 v19 v20 v21 v22 v23 v24 v25 v26 v27 v28 v29 v30 v31 v32 v33 v34 v35 v36 v37 v38 v39 v40 v41 v42 v43 v44 v45 v46 v47 v48 v49 v50 v51 v52 v53 v54 v55 v56 : Value} {w : World} {b off n c k p : Nat} {rc c1 : Int} (hk0 : 0 < k) (hk : k - 1 < n) (hkc : k - 1 ≤ c) (hn : n ≤ 9000000) (hw : IntKind.i64.wrap ((k : Int) - 1) = ((k - 1 : Nat) : Int)) (ht : decide (0 < (k : Int)) = true) (tc : decide (rc < c1) = true) (K1 : Hid (w.cell? ⟨b, off + (k - 1) * 3 + 2, none⟩ = some (.int .i64 c1))) (K2 : Hid (w.cell? ⟨p, 2, none⟩ = some (.int .i64 rc)))
  (hQ : ∀ (u8 u9 u10 u11 u12 u13 u14 u15 u16 u17 u18 u19 u20 u21 u22 u23 u24 u25 u26 u27 u28 u29 u30 u31 u32 u33 u34 u35 u36 u37 u38 u39 u40 u41 : Value)  (wx : World), Below w.heap.size w wx → Q .normal ⟨#[.slice (some ⟨b, off, none⟩) n c, v1, v2, .pointer (some ⟨p, 0, none⟩), v4, .int .i64 k, v6, v7, u8, u9, u10, u11, u12, u13, u14, u15, u16, u17, u18, u19, u20, u21, u22, u23, u24, u25, u26, u27, u28, u29, u30, u31, u32, u33, u34, u35, u36, u37, u38, u39, u40, u41, .bool true, v43, v44, v45, v46, v47, v48, v49, v50, v51, v52, v53, v54, v55, v56], []⟩ wx) :
  (Code.region 2 #[⟨some 8, .move (.tmp 5), 3, "l14_route.go:74", #[], none⟩,
   ⟨some 9, .binOp BinOp.gtr 3 (.tmp 8) (.const (Value.int IntKind.i64 0)) 3, 4, "l14_route.go:74", #[⟨0, .data⟩], none⟩,
   ⟨some 10, .move (.tmp 9), 4, "l14_route.go:74", #[⟨1, .data⟩], none⟩,
   ⟨some 11, .move (.tmp 0), 30, "l14_route.go:74", #[⟨2, .guard⟩], some (2, true)⟩,
   ⟨some 12, .move (.tmp 5), 3, "l14_route.go:74", #[⟨2, .guard⟩], some (2, true)⟩,
   ⟨some 13, .binOp BinOp.sub 3 (.tmp 12) (.const (Value.int IntKind.i64 1)) 3, 3, "l14_route.go:74", #[⟨4, .data⟩, ⟨2, .guard⟩], some (2, true)⟩,
   ⟨some 14, .indexAddr 30 (.tmp 11) (.tmp 13), 0, "l14_route.go:74", #[⟨3, .data⟩, ⟨5, .data⟩, ⟨2, .guard⟩], some (2, true)⟩,
   ⟨some 15, .fieldAddr 49 (.tmp 14) 2, 0, "l14_route.go:74", #[⟨6, .data⟩, ⟨2, .guard⟩], some (2, true)⟩,
   ⟨some 16, .load 3 (.tmp 15), 3, "l14_route.go:74", #[⟨7, .data⟩, ⟨2, .guard⟩], some (2, true)⟩,
   ⟨some 17, .fieldAddr 49 (.tmp 3) 2, 0, "l14_route.go:74", #[⟨2, .guard⟩], some (2, true)⟩,
   ⟨some 18, .load 3 (.tmp 17), 3, "l14_route.go:74", #[⟨9, .data⟩, ⟨2, .guard⟩], some (2, true)⟩,
   ⟨some 19, .binOp BinOp.gtr 3 (.tmp 16) (.tmp 18) 3, 4, "l14_route.go:74", #[⟨8, .data⟩, ⟨10, .data⟩, ⟨2, .guard⟩], some (2, true)⟩,
   ⟨some 20, .move (.tmp 19), 4, "l14_route.go:74", #[⟨11, .data⟩, ⟨2, .chain⟩, ⟨2, .guard⟩], some (2, true)⟩,
   ⟨some 21, .move (.tmp 0), 30, "l14_route.go:74", #[⟨12, .guard⟩], some (12, false)⟩,
   ⟨some 22, .move (.tmp 5), 3, "l14_route.go:74", #[⟨12, .guard⟩], some (12, false)⟩,
   ⟨some 23, .binOp BinOp.sub 3 (.tmp 22) (.const (Value.int IntKind.i64 1)) 3, 3, "l14_route.go:74", #[⟨14, .data⟩, ⟨12, .guard⟩], some (12, false)⟩,
   ⟨some 24, .indexAddr 30 (.tmp 21) (.tmp 23), 0, "l14_route.go:74", #[⟨13, .data⟩, ⟨15, .data⟩, ⟨12, .guard⟩], some (12, false)⟩,
   ⟨some 25, .fieldAddr 49 (.tmp 24) 2, 0, "l14_route.go:74", #[⟨16, .data⟩, ⟨12, .guard⟩], some (12, false)⟩,
   ⟨some 26, .load 3 (.tmp 25), 3, "l14_route.go:74", #[⟨17, .data⟩, ⟨12, .guard⟩], some (12, false)⟩,
   ⟨some 27, .fieldAddr 49 (.tmp 3) 2, 0, "l14_route.go:74", #[⟨12, .guard⟩], some (12, false)⟩,
   ⟨some 28, .load 3 (.tmp 27), 3, "l14_route.go:74", #[⟨19, .data⟩, ⟨12, .guard⟩], some (12, false)⟩,
   ⟨some 29, .binOp BinOp.eql 3 (.tmp 26) (.tmp 28) 3, 4, "l14_route.go:74", #[⟨18, .data⟩, ⟨20, .data⟩, ⟨12, .guard⟩], some (12, false)⟩,
   ⟨some 30, .move (.tmp 29), 4, "l14_route.go:74", #[⟨21, .data⟩, ⟨12, .chain⟩, ⟨12, .guard⟩], some (12, false)⟩,
   ⟨some 31, .move (.tmp 0), 30, "l14_route.go:74", #[⟨22, .guard⟩], some (22, true)⟩,
   ⟨some 32, .move (.tmp 5), 3, "l14_route.go:74", #[⟨22, .guard⟩], some (22, true)⟩,
   ⟨some 33, .binOp BinOp.sub 3 (.tmp 32) (.const (Value.int IntKind.i64 1)) 3, 3, "l14_route.go:74", #[⟨24, .data⟩, ⟨22, .guard⟩], some (22, true)⟩,
   ⟨some 34, .indexAddr 30 (.tmp 31) (.tmp 33), 0, "l14_route.go:74", #[⟨23, .data⟩, ⟨25, .data⟩, ⟨22, .guard⟩], some (22, true)⟩,
   ⟨some 35, .fieldAddr 49 (.tmp 34) 1, 0, "l14_route.go:74", #[⟨26, .data⟩, ⟨22, .guard⟩], some (22, true)⟩,
   ⟨some 36, .load 3 (.tmp 35), 3, "l14_route.go:74", #[⟨27, .data⟩, ⟨22, .guard⟩], some (22, true)⟩,
   ⟨some 37, .fieldAddr 49 (.tmp 3) 1, 0, "l14_route.go:74", #[⟨22, .guard⟩], some (22, true)⟩,
   ⟨some 38, .load 3 (.tmp 37), 3, "l14_route.go:74", #[⟨29, .data⟩, ⟨22, .guard⟩], some (22, true)⟩,
   ⟨some 39, .binOp BinOp.gtr 3 (.tmp 36) (.tmp 38) 3, 4, "l14_route.go:74", #[⟨28, .data⟩, ⟨30, .data⟩, ⟨22, .guard⟩], some (22, true)⟩,
   ⟨some 40, .pick (.tmp 30) (.tmp 39) (.const (Value.bool false)), 4, "l14_route.go:74", #[⟨22, .data⟩, ⟨31, .data⟩, ⟨12, .guard⟩], some (12, false)⟩,
   ⟨some 41, .pick (.tmp 20) (.const (Value.bool true)) (.tmp 40), 4, "l14_route.go:74", #[⟨12, .data⟩, ⟨32, .data⟩, ⟨2, .guard⟩], some (2, true)⟩,
   ⟨some 42, .pick (.tmp 10) (.tmp 41) (.const (Value.bool false)), 4, "l14_route.go:74", #[⟨2, .data⟩, ⟨33, .data⟩], none⟩] true).wp Try.prog Q ⟨#[.slice (some ⟨b, off, none⟩) n c, v1, v2, .pointer (some ⟨p, 0, none⟩), v4, .int .i64 k, v6, v7, v8, v9, v10, v11, v12, v13, v14, v15, v16, v17, v18, v19, v20, v21, v22, v23, v24, v25, v26, v27, v28, v29, v30, v31, v32, v33, v34, v35, v36, v37, v38, v39, v40, v41, v42, v43, v44, v45, v46, v47, v48, v49, v50, v51, v52, v53, v54, v55, v56], []⟩ w := by
 have HQ := Lib.hid hQ; clear hQ
 have hdr : Below w.heap.size w w.drew := (Below.refl _ _).drew
 have BB := Lib.hid hdr
 refine wp_region_noPanic ?_
 refine wp_region_held_drew (S := (fun w' => w'.cell? ⟨b, off + (k - 1) * 3 + 2, none⟩ = some (.int .i64 c1) ∧ w'.cell? ⟨p, 2, none⟩ = some (.int .i64 rc))) (by kernel_rfl) ?_ (fun hHeld => ?_)
 ·
  exact ⟨kc K1.out BB.out, kc K2.out BB.out⟩
 clear hdr
 generalize w.drew = wd at *
 refine wpAnyH_take (i := 0) (oi := ⟨some 8, .move (.tmp 5), 3, "l14_route.go:74", #[], none⟩) (v := ?_) rfl (by kernel_rfl) (by kernel_rfl) (by kernel_rfl) (fun _ _ _ h => h) (Or.inl ⟨by rfl, ?_⟩) (by assumption) ?_
 rotate_left
 ·
  intro w' hSw; (try dsimp only at hSw); first | (go_simp; done) | (go_simp; with_reducible rfl)
 (try simp only [Act.put, Row.pB0, Row.pB1, Row.pB2])
 refine wpAnyH_take (i := 1) (oi := ⟨some 9, .binOp BinOp.gtr 3 (.tmp 8) (.const (Value.int IntKind.i64 0)) 3, 4, "l14_route.go:74", #[⟨0, .data⟩], none⟩) (v := ?_) rfl (by kernel_rfl) (by kernel_rfl) (by kernel_rfl) (fun _ _ _ h => h) (Or.inl ⟨by rfl, ?_⟩) (by assumption) ?_
 rotate_left
 ·
  intro w' hSw; (try dsimp only at hSw); first | (go_simp; done) | (go_simp; with_reducible rfl)
 (try simp only [Act.put, Row.pB0, Row.pB1, Row.pB2])
 refine wpAnyH_take (i := 2) (oi := ⟨some 10, .move (.tmp 9), 4, "l14_route.go:74", #[⟨1, .data⟩], none⟩) (v := ?_) rfl (by kernel_rfl) (by kernel_rfl) (by kernel_rfl) (fun _ _ _ h => h) (Or.inl ⟨by rfl, ?_⟩) (by assumption) ?_
 rotate_left
 ·
  intro w' hSw; (try dsimp only at hSw); first | (go_simp; done) | (go_simp; with_reducible rfl)
 (try simp only [Act.put, Row.pB0, Row.pB1, Row.pB2])
 refine wpAnyH_take (i := 3) (oi := ⟨some 11, .move (.tmp 0), 30, "l14_route.go:74", #[⟨2, .guard⟩], some (2, true)⟩) (v := ?_) rfl (by kernel_rfl) (by kernel_rfl) (by kernel_rfl) (fun _ _ _ h => h) (Or.inl ⟨by rfl, ?_⟩) (by assumption) ?_
 rotate_left
 ·
  intro w' hSw; (try dsimp only at hSw); first | (go_simp; done) | (go_simp; with_reducible rfl)
 (try simp only [Act.put, Row.pB0, Row.pB1, Row.pB2])
 refine wpAnyH_take (i := 4) (oi := ⟨some 12, .move (.tmp 5), 3, "l14_route.go:74", #[⟨2, .guard⟩], some (2, true)⟩) (v := ?_) rfl (by kernel_rfl) (by kernel_rfl) (by kernel_rfl) (fun _ _ _ h => h) (Or.inl ⟨by rfl, ?_⟩) (by assumption) ?_
 rotate_left
 ·
  intro w' hSw; (try dsimp only at hSw); first | (go_simp; done) | (go_simp; with_reducible rfl)
 (try simp only [Act.put, Row.pB0, Row.pB1, Row.pB2])
 refine wpAnyH_take (i := 5) (oi := ⟨some 13, .binOp BinOp.sub 3 (.tmp 12) (.const (Value.int IntKind.i64 1)) 3, 3, "l14_route.go:74", #[⟨4, .data⟩, ⟨2, .guard⟩], some (2, true)⟩) (v := ?_) rfl (by kernel_rfl) (by kernel_rfl) (by kernel_rfl) (fun _ _ _ h => h) (Or.inl ⟨by rfl, ?_⟩) (by assumption) ?_
 rotate_left
 ·
  intro w' hSw; (try dsimp only at hSw); first | (go_simp; done) | (go_simp; with_reducible rfl)
 (try simp only [Act.put, Row.pB0, Row.pB1, Row.pB2])
 refine wpAnyH_take (i := 6) (oi := ⟨some 14, .indexAddr 30 (.tmp 11) (.tmp 13), 0, "l14_route.go:74", #[⟨3, .data⟩, ⟨5, .data⟩, ⟨2, .guard⟩], some (2, true)⟩) (v := ?_) rfl (by kernel_rfl) (by kernel_rfl) (by kernel_rfl) (fun _ _ _ h => h) (Or.inl ⟨by rfl, ?_⟩) (by assumption) ?_
 rotate_left
 ·
  intro w' hSw; (try dsimp only at hSw); first | (go_simp; done) | (go_simp; with_reducible rfl)
 (try simp only [Act.put, Row.pB0, Row.pB1, Row.pB2])
 refine wpAnyH_take (i := 7) (oi := ⟨some 15, .fieldAddr 49 (.tmp 14) 2, 0, "l14_route.go:74", #[⟨6, .data⟩, ⟨2, .guard⟩], some (2, true)⟩) (v := ?_) rfl (by kernel_rfl) (by kernel_rfl) (by kernel_rfl) (fun _ _ _ h => h) (Or.inl ⟨by rfl, ?_⟩) (by assumption) ?_
 rotate_left
 ·
  intro w' hSw; (try dsimp only at hSw); first | (go_simp; done) | (go_simp; with_reducible rfl)
 (try simp only [Act.put, Row.pB0, Row.pB1, Row.pB2])
 refine wpAnyH_take (i := 8) (oi := ⟨some 16, .load 3 (.tmp 15), 3, "l14_route.go:74", #[⟨7, .data⟩, ⟨2, .guard⟩], some (2, true)⟩) (v := ?_) rfl (by kernel_rfl) (by kernel_rfl) (by kernel_rfl) (fun _ _ _ h => h) (Or.inl ⟨by rfl, ?_⟩) (by assumption) ?_
 rotate_left
 ·
  intro w' hSw; (try dsimp only at hSw); first | (go_simp; done) | (go_simp; with_reducible rfl)
 (try simp only [Act.put, Row.pB0, Row.pB1, Row.pB2])
 refine wpAnyH_take (i := 9) (oi := ⟨some 17, .fieldAddr 49 (.tmp 3) 2, 0, "l14_route.go:74", #[⟨2, .guard⟩], some (2, true)⟩) (v := ?_) rfl (by kernel_rfl) (by kernel_rfl) (by kernel_rfl) (fun _ _ _ h => h) (Or.inl ⟨by rfl, ?_⟩) (by assumption) ?_
 rotate_left
 ·
  intro w' hSw; (try dsimp only at hSw); first | (go_simp; done) | (go_simp; with_reducible rfl)
 (try simp only [Act.put, Row.pB0, Row.pB1, Row.pB2])
 refine wpAnyH_take (i := 10) (oi := ⟨some 18, .load 3 (.tmp 17), 3, "l14_route.go:74", #[⟨9, .data⟩, ⟨2, .guard⟩], some (2, true)⟩) (v := ?_) rfl (by kernel_rfl) (by kernel_rfl) (by kernel_rfl) (fun _ _ _ h => h) (Or.inl ⟨by rfl, ?_⟩) (by assumption) ?_
 rotate_left
 ·
  intro w' hSw; (try dsimp only at hSw); first | (go_simp; done) | (go_simp; with_reducible rfl)
 (try simp only [Act.put, Row.pB0, Row.pB1, Row.pB2])
 refine wpAnyH_take (i := 11) (oi := ⟨some 19, .binOp BinOp.gtr 3 (.tmp 16) (.tmp 18) 3, 4, "l14_route.go:74", #[⟨8, .data⟩, ⟨10, .data⟩, ⟨2, .guard⟩], some (2, true)⟩) (v := ?_) rfl (by kernel_rfl) (by kernel_rfl) (by kernel_rfl) (fun _ _ _ h => h) (Or.inl ⟨by rfl, ?_⟩) (by assumption) ?_
 rotate_left
 ·
  intro w' hSw; (try dsimp only at hSw); first | (go_simp; done) | (go_simp; with_reducible rfl)
 (try simp only [Act.put, Row.pB0, Row.pB1, Row.pB2])
 refine wpAnyH_take (i := 12) (oi := ⟨some 20, .move (.tmp 19), 4, "l14_route.go:74", #[⟨11, .data⟩, ⟨2, .chain⟩, ⟨2, .guard⟩], some (2, true)⟩) (v := ?_) rfl (by kernel_rfl) (by kernel_rfl) (by kernel_rfl) (fun _ _ _ h => h) (Or.inl ⟨by rfl, ?_⟩) (by assumption) ?_
 rotate_left
 ·
  intro w' hSw; (try dsimp only at hSw); first | (go_simp; done) | (go_simp; with_reducible rfl)
 (try simp only [Act.put, Row.pB0, Row.pB1, Row.pB2])
 refine wpAnyH_take (i := 13) (oi := ⟨some 21, .move (.tmp 0), 30, "l14_route.go:74", #[⟨12, .guard⟩], some (12, false)⟩) (v := undef) rfl (by kernel_rfl) (by kernel_rfl) (by kernel_rfl) (fun _ _ _ h => h) (Or.inr ⟨by rfl, rfl⟩) (by assumption) ?_
 (try simp only [Act.put, Row.pB0, Row.pB1, Row.pB2])
 refine wpAnyH_take (i := 14) (oi := ⟨some 22, .move (.tmp 5), 3, "l14_route.go:74", #[⟨12, .guard⟩], some (12, false)⟩) (v := undef) rfl (by kernel_rfl) (by kernel_rfl) (by kernel_rfl) (fun _ _ _ h => h) (Or.inr ⟨by rfl, rfl⟩) (by assumption) ?_
 (try simp only [Act.put, Row.pB0, Row.pB1, Row.pB2])
 refine wpAnyH_take (i := 15) (oi := ⟨some 23, .binOp BinOp.sub 3 (.tmp 22) (.const (Value.int IntKind.i64 1)) 3, 3, "l14_route.go:74", #[⟨14, .data⟩, ⟨12, .guard⟩], some (12, false)⟩) (v := undef) rfl (by kernel_rfl) (by kernel_rfl) (by kernel_rfl) (fun _ _ _ h => h) (Or.inr ⟨by rfl, rfl⟩) (by assumption) ?_
 (try simp only [Act.put, Row.pB0, Row.pB1, Row.pB2])
 refine wpAnyH_take (i := 16) (oi := ⟨some 24, .indexAddr 30 (.tmp 21) (.tmp 23), 0, "l14_route.go:74", #[⟨13, .data⟩, ⟨15, .data⟩, ⟨12, .guard⟩], some (12, false)⟩) (v := undef) rfl (by kernel_rfl) (by kernel_rfl) (by kernel_rfl) (fun _ _ _ h => h) (Or.inr ⟨by rfl, rfl⟩) (by assumption) ?_
 (try simp only [Act.put, Row.pB0, Row.pB1, Row.pB2])
 refine wpAnyH_take (i := 17) (oi := ⟨some 25, .fieldAddr 49 (.tmp 24) 2, 0, "l14_route.go:74", #[⟨16, .data⟩, ⟨12, .guard⟩], some (12, false)⟩) (v := undef) rfl (by kernel_rfl) (by kernel_rfl) (by kernel_rfl) (fun _ _ _ h => h) (Or.inr ⟨by rfl, rfl⟩) (by assumption) ?_
 (try simp only [Act.put, Row.pB0, Row.pB1, Row.pB2])
 refine wpAnyH_take (i := 18) (oi := ⟨some 26, .load 3 (.tmp 25), 3, "l14_route.go:74", #[⟨17, .data⟩, ⟨12, .guard⟩], some (12, false)⟩) (v := undef) rfl (by kernel_rfl) (by kernel_rfl) (by kernel_rfl) (fun _ _ _ h => h) (Or.inr ⟨by rfl, rfl⟩) (by assumption) ?_
 (try simp only [Act.put, Row.pB0, Row.pB1, Row.pB2])
 refine wpAnyH_take (i := 19) (oi := ⟨some 27, .fieldAddr 49 (.tmp 3) 2, 0, "l14_route.go:74", #[⟨12, .guard⟩], some (12, false)⟩) (v := undef) rfl (by kernel_rfl) (by kernel_rfl) (by kernel_rfl) (fun _ _ _ h => h) (Or.inr ⟨by rfl, rfl⟩) (by assumption) ?_
 (try simp only [Act.put, Row.pB0, Row.pB1, Row.pB2])
 refine wpAnyH_take (i := 20) (oi := ⟨some 28, .load 3 (.tmp 27), 3, "l14_route.go:74", #[⟨19, .data⟩, ⟨12, .guard⟩], some (12, false)⟩) (v := undef) rfl (by kernel_rfl) (by kernel_rfl) (by kernel_rfl) (fun _ _ _ h => h) (Or.inr ⟨by rfl, rfl⟩) (by assumption) ?_
 (try simp only [Act.put, Row.pB0, Row.pB1, Row.pB2])
 refine wpAnyH_take (i := 21) (oi := ⟨some 29, .binOp BinOp.eql 3 (.tmp 26) (.tmp 28) 3, 4, "l14_route.go:74", #[⟨18, .data⟩, ⟨20, .data⟩, ⟨12, .guard⟩], some (12, false)⟩) (v := undef) rfl (by kernel_rfl) (by kernel_rfl) (by kernel_rfl) (fun _ _ _ h => h) (Or.inr ⟨by rfl, rfl⟩) (by assumption) ?_
 (try simp only [Act.put, Row.pB0, Row.pB1, Row.pB2])
 refine wpAnyH_take (i := 22) (oi := ⟨some 30, .move (.tmp 29), 4, "l14_route.go:74", #[⟨21, .data⟩, ⟨12, .chain⟩, ⟨12, .guard⟩], some (12, false)⟩) (v := undef) rfl (by kernel_rfl) (by kernel_rfl) (by kernel_rfl) (fun _ _ _ h => h) (Or.inr ⟨by rfl, rfl⟩) (by assumption) ?_
 (try simp only [Act.put, Row.pB0, Row.pB1, Row.pB2])
 refine wpAnyH_take (i := 23) (oi := ⟨some 31, .move (.tmp 0), 30, "l14_route.go:74", #[⟨22, .guard⟩], some (22, true)⟩) (v := undef) rfl (by kernel_rfl) (by kernel_rfl) (by kernel_rfl) (fun _ _ _ h => h) (Or.inr ⟨by rfl, rfl⟩) (by assumption) ?_
 (try simp only [Act.put, Row.pB0, Row.pB1, Row.pB2])
 refine wpAnyH_take (i := 24) (oi := ⟨some 32, .move (.tmp 5), 3, "l14_route.go:74", #[⟨22, .guard⟩], some (22, true)⟩) (v := undef) rfl (by kernel_rfl) (by kernel_rfl) (by kernel_rfl) (fun _ _ _ h => h) (Or.inr ⟨by rfl, rfl⟩) (by assumption) ?_
 (try simp only [Act.put, Row.pB0, Row.pB1, Row.pB2])
 refine wpAnyH_take (i := 25) (oi := ⟨some 33, .binOp BinOp.sub 3 (.tmp 32) (.const (Value.int IntKind.i64 1)) 3, 3, "l14_route.go:74", #[⟨24, .data⟩, ⟨22, .guard⟩], some (22, true)⟩) (v := undef) rfl (by kernel_rfl) (by kernel_rfl) (by kernel_rfl) (fun _ _ _ h => h) (Or.inr ⟨by rfl, rfl⟩) (by assumption) ?_
 (try simp only [Act.put, Row.pB0, Row.pB1, Row.pB2])
 refine wpAnyH_take (i := 26) (oi := ⟨some 34, .indexAddr 30 (.tmp 31) (.tmp 33), 0, "l14_route.go:74", #[⟨23, .data⟩, ⟨25, .data⟩, ⟨22, .guard⟩], some (22, true)⟩) (v := undef) rfl (by kernel_rfl) (by kernel_rfl) (by kernel_rfl) (fun _ _ _ h => h) (Or.inr ⟨by rfl, rfl⟩) (by assumption) ?_
 (try simp only [Act.put, Row.pB0, Row.pB1, Row.pB2])
 refine wpAnyH_take (i := 27) (oi := ⟨some 35, .fieldAddr 49 (.tmp 34) 1, 0, "l14_route.go:74", #[⟨26, .data⟩, ⟨22, .guard⟩], some (22, true)⟩) (v := undef) rfl (by kernel_rfl) (by kernel_rfl) (by kernel_rfl) (fun _ _ _ h => h) (Or.inr ⟨by rfl, rfl⟩) (by assumption) ?_
 (try simp only [Act.put, Row.pB0, Row.pB1, Row.pB2])
 refine wpAnyH_take (i := 28) (oi := ⟨some 36, .load 3 (.tmp 35), 3, "l14_route.go:74", #[⟨27, .data⟩, ⟨22, .guard⟩], some (22, true)⟩) (v := undef) rfl (by kernel_rfl) (by kernel_rfl) (by kernel_rfl) (fun _ _ _ h => h) (Or.inr ⟨by rfl, rfl⟩) (by assumption) ?_
 (try simp only [Act.put, Row.pB0, Row.pB1, Row.pB2])
 refine wpAnyH_take (i := 29) (oi := ⟨some 37, .fieldAddr 49 (.tmp 3) 1, 0, "l14_route.go:74", #[⟨22, .guard⟩], some (22, true)⟩) (v := undef) rfl (by kernel_rfl) (by kernel_rfl) (by kernel_rfl) (fun _ _ _ h => h) (Or.inr ⟨by rfl, rfl⟩) (by assumption) ?_
 (try simp only [Act.put, Row.pB0, Row.pB1, Row.pB2])
 refine wpAnyH_take (i := 30) (oi := ⟨some 38, .load 3 (.tmp 37), 3, "l14_route.go:74", #[⟨29, .data⟩, ⟨22, .guard⟩], some (22, true)⟩) (v := undef) rfl (by kernel_rfl) (by kernel_rfl) (by kernel_rfl) (fun _ _ _ h => h) (Or.inr ⟨by rfl, rfl⟩) (by assumption) ?_
 (try simp only [Act.put, Row.pB0, Row.pB1, Row.pB2])
 refine wpAnyH_take (i := 31) (oi := ⟨some 39, .binOp BinOp.gtr 3 (.tmp 36) (.tmp 38) 3, 4, "l14_route.go:74", #[⟨28, .data⟩, ⟨30, .data⟩, ⟨22, .guard⟩], some (22, true)⟩) (v := undef) rfl (by kernel_rfl) (by kernel_rfl) (by kernel_rfl) (fun _ _ _ h => h) (Or.inr ⟨by rfl, rfl⟩) (by assumption) ?_
 (try simp only [Act.put, Row.pB0, Row.pB1, Row.pB2])
 refine wpAnyH_take (i := 32) (oi := ⟨some 40, .pick (.tmp 30) (.tmp 39) (.const (Value.bool false)), 4, "l14_route.go:74", #[⟨22, .data⟩, ⟨31, .data⟩, ⟨12, .guard⟩], some (12, false)⟩) (v := undef) rfl (by kernel_rfl) (by kernel_rfl) (by kernel_rfl) (fun _ _ _ h => h) (Or.inr ⟨by rfl, rfl⟩) (by assumption) ?_
 (try simp only [Act.put, Row.pB0, Row.pB1, Row.pB2])
 refine wpAnyH_take (i := 33) (oi := ⟨some 41, .pick (.tmp 20) (.const (Value.bool true)) (.tmp 40), 4, "l14_route.go:74", #[⟨12, .data⟩, ⟨32, .data⟩, ⟨2, .guard⟩], some (2, true)⟩) (v := ?_) rfl (by kernel_rfl) (by kernel_rfl) (by kernel_rfl) (fun _ _ _ h => h) (Or.inl ⟨by rfl, ?_⟩) (by assumption) ?_
 rotate_left
 ·
  intro w' hSw; (try dsimp only at hSw); first | (go_simp; done) | (go_simp; with_reducible rfl)
 (try simp only [Act.put, Row.pB0, Row.pB1, Row.pB2])
 refine wpAnyH_take (i := 34) (oi := ⟨some 42, .pick (.tmp 10) (.tmp 41) (.const (Value.bool false)), 4, "l14_route.go:74", #[⟨2, .data⟩, ⟨33, .data⟩], none⟩) (v := ?_) rfl (by kernel_rfl) (by kernel_rfl) (by kernel_rfl) (fun _ _ _ h => h) (Or.inl ⟨by rfl, ?_⟩) (by assumption) ?_
 rotate_left
 ·
  intro w' hSw; (try dsimp only at hSw); first | (go_simp; done) | (go_simp; with_reducible rfl)
 (try simp only [Act.put, Row.pB0, Row.pB1, Row.pB2])
 refine wpAnyH_done (by kernel_rfl) ?_ _
 exact NoPanic.normal (HQ.out _ _ _ _ _ _ _ _ _ _ _ _ _ _ _ _ _ _ _ _ _ _ _ _ _ _ _ _ _ _ _ _ _ _  _  BB.out)
set_option maxRecDepth 100000 in
set_option maxHeartbeats 4000000 in
theorem rpu2 {Q : Exit → Act → World → Prop} {v1 v2 v4 v6 v7 v8 v9 v10 v11 v12 v13 v14 v15 v16 v17 v18 v19 v20 v21 v22 v23 v24 v25 v26 v27 v28 v29 v30 v31 v32 v33 v34 v35 v36 v37 v38 v39 v40 v41 v42 v43 v44 v45 v46 v47 v48 v49 v50 v51 v52 v53 v54 v55 v56 : Value} {w : World} {b off n c k p : Nat} {rc c1 : Int} (hk0 : 0 < k) (hk : k - 1 < n) (hkc : k - 1 ≤ c) (hn : n ≤ 9000000) (hw : IntKind.i64.wrap ((k : Int) - 1) = ((k - 1 : Nat) : Int)) (ht : decide (0 < (k : Int)) = true) (tc : decide (rc < c1) = false) (te : (c1 == rc) = false) (K1 : Hid (w.cell? ⟨b, off + (k - 1) * 3 + 2, none⟩ = some (.int .i64 c1))) (K2 : Hid (w.cell? ⟨p, 2, none⟩ = some (.int .i64 rc)))
  (hQ : ∀ (u8 u9 u10 u11 u12 u13 u14 u15 u16 u17 u18 u19 u20 u21 u22 u23 u24 u25 u26 u27 u28 u29 u30 u31 u32 u33 u34 u35 u36 u37 u38 u39 u40 u41 : Value)  (wx : World), Below w.heap.size w wx → Q .normal ⟨#[.slice (some ⟨b, off, none⟩) n c, v1, v2, .pointer (some ⟨p, 0, none⟩), v4, .int .i64 k, v6, v7, u8, u9, u10, u11, u12, u13, u14, u15, u16, u17, u18, u19, u20, u21, u22, u23, u24, u25, u26, u27, u28, u29, u30, u31, u32, u33, u34, u35, u36, u37, u38, u39, u40, u41, .bool false, v43, v44, v45, v46, v47, v48, v49, v50, v51, v52, v53, v54, v55, v56], []⟩ wx) :
  (Code.region 2 #[⟨some 8, .move (.tmp 5), 3, "l14_route.go:74", #[], none⟩,
   ⟨some 9, .binOp BinOp.gtr 3 (.tmp 8) (.const (Value.int IntKind.i64 0)) 3, 4, "l14_route.go:74", #[⟨0, .data⟩], none⟩,
   ⟨some 10, .move (.tmp 9), 4, "l14_route.go:74", #[⟨1, .data⟩], none⟩,
   ⟨some 11, .move (.tmp 0), 30, "l14_route.go:74", #[⟨2, .guard⟩], some (2, true)⟩,
   ⟨some 12, .move (.tmp 5), 3, "l14_route.go:74", #[⟨2, .guard⟩], some (2, true)⟩,
   ⟨some 13, .binOp BinOp.sub 3 (.tmp 12) (.const (Value.int IntKind.i64 1)) 3, 3, "l14_route.go:74", #[⟨4, .data⟩, ⟨2, .guard⟩], some (2, true)⟩,
   ⟨some 14, .indexAddr 30 (.tmp 11) (.tmp 13), 0, "l14_route.go:74", #[⟨3, .data⟩, ⟨5, .data⟩, ⟨2, .guard⟩], some (2, true)⟩,
   ⟨some 15, .fieldAddr 49 (.tmp 14) 2, 0, "l14_route.go:74", #[⟨6, .data⟩, ⟨2, .guard⟩], some (2, true)⟩,
   ⟨some 16, .load 3 (.tmp 15), 3, "l14_route.go:74", #[⟨7, .data⟩, ⟨2, .guard⟩], some (2, true)⟩,
   ⟨some 17, .fieldAddr 49 (.tmp 3) 2, 0, "l14_route.go:74", #[⟨2, .guard⟩], some (2, true)⟩,
   ⟨some 18, .load 3 (.tmp 17), 3, "l14_route.go:74", #[⟨9, .data⟩, ⟨2, .guard⟩], some (2, true)⟩,
   ⟨some 19, .binOp BinOp.gtr 3 (.tmp 16) (.tmp 18) 3, 4, "l14_route.go:74", #[⟨8, .data⟩, ⟨10, .data⟩, ⟨2, .guard⟩], some (2, true)⟩,
   ⟨some 20, .move (.tmp 19), 4, "l14_route.go:74", #[⟨11, .data⟩, ⟨2, .chain⟩, ⟨2, .guard⟩], some (2, true)⟩,
   ⟨some 21, .move (.tmp 0), 30, "l14_route.go:74", #[⟨12, .guard⟩], some (12, false)⟩,
   ⟨some 22, .move (.tmp 5), 3, "l14_route.go:74", #[⟨12, .guard⟩], some (12, false)⟩,
   ⟨some 23, .binOp BinOp.sub 3 (.tmp 22) (.const (Value.int IntKind.i64 1)) 3, 3, "l14_route.go:74", #[⟨14, .data⟩, ⟨12, .guard⟩], some (12, false)⟩,
   ⟨some 24, .indexAddr 30 (.tmp 21) (.tmp 23), 0, "l14_route.go:74", #[⟨13, .data⟩, ⟨15, .data⟩, ⟨12, .guard⟩], some (12, false)⟩,
   ⟨some 25, .fieldAddr 49 (.tmp 24) 2, 0, "l14_route.go:74", #[⟨16, .data⟩, ⟨12, .guard⟩], some (12, false)⟩,
   ⟨some 26, .load 3 (.tmp 25), 3, "l14_route.go:74", #[⟨17, .data⟩, ⟨12, .guard⟩], some (12, false)⟩,
   ⟨some 27, .fieldAddr 49 (.tmp 3) 2, 0, "l14_route.go:74", #[⟨12, .guard⟩], some (12, false)⟩,
   ⟨some 28, .load 3 (.tmp 27), 3, "l14_route.go:74", #[⟨19, .data⟩, ⟨12, .guard⟩], some (12, false)⟩,
   ⟨some 29, .binOp BinOp.eql 3 (.tmp 26) (.tmp 28) 3, 4, "l14_route.go:74", #[⟨18, .data⟩, ⟨20, .data⟩, ⟨12, .guard⟩], some (12, false)⟩,
   ⟨some 30, .move (.tmp 29), 4, "l14_route.go:74", #[⟨21, .data⟩, ⟨12, .chain⟩, ⟨12, .guard⟩], some (12, false)⟩,
   ⟨some 31, .move (.tmp 0), 30, "l14_route.go:74", #[⟨22, .guard⟩], some (22, true)⟩,
   ⟨some 32, .move (.tmp 5), 3, "l14_route.go:74", #[⟨22, .guard⟩], some (22, true)⟩,
   ⟨some 33, .binOp BinOp.sub 3 (.tmp 32) (.const (Value.int IntKind.i64 1)) 3, 3, "l14_route.go:74", #[⟨24, .data⟩, ⟨22, .guard⟩], some (22, true)⟩,
   ⟨some 34, .indexAddr 30 (.tmp 31) (.tmp 33), 0, "l14_route.go:74", #[⟨23, .data⟩, ⟨25, .data⟩, ⟨22, .guard⟩], some (22, true)⟩,
   ⟨some 35, .fieldAddr 49 (.tmp 34) 1, 0, "l14_route.go:74", #[⟨26, .data⟩, ⟨22, .guard⟩], some (22, true)⟩,
   ⟨some 36, .load 3 (.tmp 35), 3, "l14_route.go:74", #[⟨27, .data⟩, ⟨22, .guard⟩], some (22, true)⟩,
   ⟨some 37, .fieldAddr 49 (.tmp 3) 1, 0, "l14_route.go:74", #[⟨22, .guard⟩], some (22, true)⟩,
   ⟨some 38, .load 3 (.tmp 37), 3, "l14_route.go:74", #[⟨29, .data⟩, ⟨22, .guard⟩], some (22, true)⟩,
   ⟨some 39, .binOp BinOp.gtr 3 (.tmp 36) (.tmp 38) 3, 4, "l14_route.go:74", #[⟨28, .data⟩, ⟨30, .data⟩, ⟨22, .guard⟩], some (22, true)⟩,
   ⟨some 40, .pick (.tmp 30) (.tmp 39) (.const (Value.bool false)), 4, "l14_route.go:74", #[⟨22, .data⟩, ⟨31, .data⟩, ⟨12, .guard⟩], some (12, false)⟩,
   ⟨some 41, .pick (.tmp 20) (.const (Value.bool true)) (.tmp 40), 4, "l14_route.go:74", #[⟨12, .data⟩, ⟨32, .data⟩, ⟨2, .guard⟩], some (2, true)⟩,
   ⟨some 42, .pick (.tmp 10) (.tmp 41) (.const (Value.bool false)), 4, "l14_route.go:74", #[⟨2, .data⟩, ⟨33, .data⟩], none⟩] true).wp Try.prog Q ⟨#[.slice (some ⟨b, off, none⟩) n c, v1, v2, .pointer (some ⟨p, 0, none⟩), v4, .int .i64 k, v6, v7, v8, v9, v10, v11, v12, v13, v14, v15, v16, v17, v18, v19, v20, v21, v22, v23, v24, v25, v26, v27, v28, v29, v30, v31, v32, v33, v34, v35, v36, v37, v38, v39, v40, v41, v42, v43, v44, v45, v46, v47, v48, v49, v50, v51, v52, v53, v54, v55, v56], []⟩ w := by
 have HQ := Lib.hid hQ; clear hQ
 have hdr : Below w.heap.size w w.drew := (Below.refl _ _).drew
 have BB := Lib.hid hdr
 refine wp_region_noPanic ?_
 refine wp_region_held_drew (S := (fun w' => w'.cell? ⟨b, off + (k - 1) * 3 + 2, none⟩ = some (.int .i64 c1) ∧ w'.cell? ⟨p, 2, none⟩ = some (.int .i64 rc))) (by kernel_rfl) ?_ (fun hHeld => ?_)
 ·
  exact ⟨kc K1.out BB.out, kc K2.out BB.out⟩
 clear hdr
 generalize w.drew = wd at *
 refine wpAnyH_take (i := 0) (oi := ⟨some 8, .move (.tmp 5), 3, "l14_route.go:74", #[], none⟩) (v := ?_) rfl (by kernel_rfl) (by kernel_rfl) (by kernel_rfl) (fun _ _ _ h => h) (Or.inl ⟨by rfl, ?_⟩) (by assumption) ?_
 rotate_left
 ·
  intro w' hSw; (try dsimp only at hSw); first | (go_simp; done) | (go_simp; with_reducible rfl)
 (try simp only [Act.put, Row.pB0, Row.pB1, Row.pB2])
 refine wpAnyH_take (i := 1) (oi := ⟨some 9, .binOp BinOp.gtr 3 (.tmp 8) (.const (Value.int IntKind.i64 0)) 3, 4, "l14_route.go:74", #[⟨0, .data⟩], none⟩) (v := ?_) rfl (by kernel_rfl) (by kernel_rfl) (by kernel_rfl) (fun _ _ _ h => h) (Or.inl ⟨by rfl, ?_⟩) (by assumption) ?_
 rotate_left
 ·
  intro w' hSw; (try dsimp only at hSw); first | (go_simp; done) | (go_simp; with_reducible rfl)
 (try simp only [Act.put, Row.pB0, Row.pB1, Row.pB2])
 refine wpAnyH_take (i := 2) (oi := ⟨some 10, .move (.tmp 9), 4, "l14_route.go:74", #[⟨1, .data⟩], none⟩) (v := ?_) rfl (by kernel_rfl) (by kernel_rfl) (by kernel_rfl) (fun _ _ _ h => h) (Or.inl ⟨by rfl, ?_⟩) (by assumption) ?_
 rotate_left
 ·
  intro w' hSw; (try dsimp only at hSw); first | (go_simp; done) | (go_simp; with_reducible rfl)
 (try simp only [Act.put, Row.pB0, Row.pB1, Row.pB2])
 refine wpAnyH_take (i := 3) (oi := ⟨some 11, .move (.tmp 0), 30, "l14_route.go:74", #[⟨2, .guard⟩], some (2, true)⟩) (v := ?_) rfl (by kernel_rfl) (by kernel_rfl) (by kernel_rfl) (fun _ _ _ h => h) (Or.inl ⟨by rfl, ?_⟩) (by assumption) ?_
 rotate_left
 ·
  intro w' hSw; (try dsimp only at hSw); first | (go_simp; done) | (go_simp; with_reducible rfl)
 (try simp only [Act.put, Row.pB0, Row.pB1, Row.pB2])
 refine wpAnyH_take (i := 4) (oi := ⟨some 12, .move (.tmp 5), 3, "l14_route.go:74", #[⟨2, .guard⟩], some (2, true)⟩) (v := ?_) rfl (by kernel_rfl) (by kernel_rfl) (by kernel_rfl) (fun _ _ _ h => h) (Or.inl ⟨by rfl, ?_⟩) (by assumption) ?_
 rotate_left
 ·
  intro w' hSw; (try dsimp only at hSw); first | (go_simp; done) | (go_simp; with_reducible rfl)
 (try simp only [Act.put, Row.pB0, Row.pB1, Row.pB2])
 refine wpAnyH_take (i := 5) (oi := ⟨some 13, .binOp BinOp.sub 3 (.tmp 12) (.const (Value.int IntKind.i64 1)) 3, 3, "l14_route.go:74", #[⟨4, .data⟩, ⟨2, .guard⟩], some (2, true)⟩) (v := ?_) rfl (by kernel_rfl) (by kernel_rfl) (by kernel_rfl) (fun _ _ _ h => h) (Or.inl ⟨by rfl, ?_⟩) (by assumption) ?_
 rotate_left
 ·
  intro w' hSw; (try dsimp only at hSw); first | (go_simp; done) | (go_simp; with_reducible rfl)
 (try simp only [Act.put, Row.pB0, Row.pB1, Row.pB2])
 refine wpAnyH_take (i := 6) (oi := ⟨some 14, .indexAddr 30 (.tmp 11) (.tmp 13), 0, "l14_route.go:74", #[⟨3, .data⟩, ⟨5, .data⟩, ⟨2, .guard⟩], some (2, true)⟩) (v := ?_) rfl (by kernel_rfl) (by kernel_rfl) (by kernel_rfl) (fun _ _ _ h => h) (Or.inl ⟨by rfl, ?_⟩) (by assumption) ?_
 rotate_left
 ·
  intro w' hSw; (try dsimp only at hSw); first | (go_simp; done) | (go_simp; with_reducible rfl)
 (try simp only [Act.put, Row.pB0, Row.pB1, Row.pB2])
 refine wpAnyH_take (i := 7) (oi := ⟨some 15, .fieldAddr 49 (.tmp 14) 2, 0, "l14_route.go:74", #[⟨6, .data⟩, ⟨2, .guard⟩], some (2, true)⟩) (v := ?_) rfl (by kernel_rfl) (by kernel_rfl) (by kernel_rfl) (fun _ _ _ h => h) (Or.inl ⟨by rfl, ?_⟩) (by assumption) ?_
 rotate_left
 ·
  intro w' hSw; (try dsimp only at hSw); first | (go_simp; done) | (go_simp; with_reducible rfl)
 (try simp only [Act.put, Row.pB0, Row.pB1, Row.pB2])
 refine wpAnyH_take (i := 8) (oi := ⟨some 16, .load 3 (.tmp 15), 3, "l14_route.go:74", #[⟨7, .data⟩, ⟨2, .guard⟩], some (2, true)⟩) (v := ?_) rfl (by kernel_rfl) (by kernel_rfl) (by kernel_rfl) (fun _ _ _ h => h) (Or.inl ⟨by rfl, ?_⟩) (by assumption) ?_
 rotate_left
 ·
  intro w' hSw; (try dsimp only at hSw); first | (go_simp; done) | (go_simp; with_reducible rfl)
 (try simp only [Act.put, Row.pB0, Row.pB1, Row.pB2])
 refine wpAnyH_take (i := 9) (oi := ⟨some 17, .fieldAddr 49 (.tmp 3) 2, 0, "l14_route.go:74", #[⟨2, .guard⟩], some (2, true)⟩) (v := ?_) rfl (by kernel_rfl) (by kernel_rfl) (by kernel_rfl) (fun _ _ _ h => h) (Or.inl ⟨by rfl, ?_⟩) (by assumption) ?_
 rotate_left
 ·
  intro w' hSw; (try dsimp only at hSw); first | (go_simp; done) | (go_simp; with_reducible rfl)
 (try simp only [Act.put, Row.pB0, Row.pB1, Row.pB2])
 refine wpAnyH_take (i := 10) (oi := ⟨some 18, .load 3 (.tmp 17), 3, "l14_route.go:74", #[⟨9, .data⟩, ⟨2, .guard⟩], some (2, true)⟩) (v := ?_) rfl (by kernel_rfl) (by kernel_rfl) (by kernel_rfl) (fun _ _ _ h => h) (Or.inl ⟨by rfl, ?_⟩) (by assumption) ?_
 rotate_left
 ·
  intro w' hSw; (try dsimp only at hSw); first | (go_simp; done) | (go_simp; with_reducible rfl)
 (try simp only [Act.put, Row.pB0, Row.pB1, Row.pB2])
 refine wpAnyH_take (i := 11) (oi := ⟨some 19, .binOp BinOp.gtr 3 (.tmp 16) (.tmp 18) 3, 4, "l14_route.go:74", #[⟨8, .data⟩, ⟨10, .data⟩, ⟨2, .guard⟩], some (2, true)⟩) (v := ?_) rfl (by kernel_rfl) (by kernel_rfl) (by kernel_rfl) (fun _ _ _ h => h) (Or.inl ⟨by rfl, ?_⟩) (by assumption) ?_
 rotate_left
 ·
  intro w' hSw; (try dsimp only at hSw); first | (go_simp; done) | (go_simp; with_reducible rfl)
 (try simp only [Act.put, Row.pB0, Row.pB1, Row.pB2])
 refine wpAnyH_take (i := 12) (oi := ⟨some 20, .move (.tmp 19), 4, "l14_route.go:74", #[⟨11, .data⟩, ⟨2, .chain⟩, ⟨2, .guard⟩], some (2, true)⟩) (v := ?_) rfl (by kernel_rfl) (by kernel_rfl) (by kernel_rfl) (fun _ _ _ h => h) (Or.inl ⟨by rfl, ?_⟩) (by assumption) ?_
 rotate_left
 ·
  intro w' hSw; (try dsimp only at hSw); first | (go_simp; done) | (go_simp; with_reducible rfl)
 (try simp only [Act.put, Row.pB0, Row.pB1, Row.pB2])
 refine wpAnyH_take (i := 13) (oi := ⟨some 21, .move (.tmp 0), 30, "l14_route.go:74", #[⟨12, .guard⟩], some (12, false)⟩) (v := ?_) rfl (by kernel_rfl) (by kernel_rfl) (by kernel_rfl) (fun _ _ _ h => h) (Or.inl ⟨by rfl, ?_⟩) (by assumption) ?_
 rotate_left
 ·
  intro w' hSw; (try dsimp only at hSw); first | (go_simp; done) | (go_simp; with_reducible rfl)
 (try simp only [Act.put, Row.pB0, Row.pB1, Row.pB2])
 refine wpAnyH_take (i := 14) (oi := ⟨some 22, .move (.tmp 5), 3, "l14_route.go:74", #[⟨12, .guard⟩], some (12, false)⟩) (v := ?_) rfl (by kernel_rfl) (by kernel_rfl) (by kernel_rfl) (fun _ _ _ h => h) (Or.inl ⟨by rfl, ?_⟩) (by assumption) ?_
 rotate_left
 ·
  intro w' hSw; (try dsimp only at hSw); first | (go_simp; done) | (go_simp; with_reducible rfl)
 (try simp only [Act.put, Row.pB0, Row.pB1, Row.pB2])
 refine wpAnyH_take (i := 15) (oi := ⟨some 23, .binOp BinOp.sub 3 (.tmp 22) (.const (Value.int IntKind.i64 1)) 3, 3, "l14_route.go:74", #[⟨14, .data⟩, ⟨12, .guard⟩], some (12, false)⟩) (v := ?_) rfl (by kernel_rfl) (by kernel_rfl) (by kernel_rfl) (fun _ _ _ h => h) (Or.inl ⟨by rfl, ?_⟩) (by assumption) ?_
 rotate_left
 ·
  intro w' hSw; (try dsimp only at hSw); first | (go_simp; done) | (go_simp; with_reducible rfl)
 (try simp only [Act.put, Row.pB0, Row.pB1, Row.pB2])
 refine wpAnyH_take (i := 16) (oi := ⟨some 24, .indexAddr 30 (.tmp 21) (.tmp 23), 0, "l14_route.go:74", #[⟨13, .data⟩, ⟨15, .data⟩, ⟨12, .guard⟩], some (12, false)⟩) (v := ?_) rfl (by kernel_rfl) (by kernel_rfl) (by kernel_rfl) (fun _ _ _ h => h) (Or.inl ⟨by rfl, ?_⟩) (by assumption) ?_
 rotate_left
 ·
  intro w' hSw; (try dsimp only at hSw); first | (go_simp; done) | (go_simp; with_reducible rfl)
 (try simp only [Act.put, Row.pB0, Row.pB1, Row.pB2])
 refine wpAnyH_take (i := 17) (oi := ⟨some 25, .fieldAddr 49 (.tmp 24) 2, 0, "l14_route.go:74", #[⟨16, .data⟩, ⟨12, .guard⟩], some (12, false)⟩) (v := ?_) rfl (by kernel_rfl) (by kernel_rfl) (by kernel_rfl) (fun _ _ _ h => h) (Or.inl ⟨by rfl, ?_⟩) (by assumption) ?_
 rotate_left
 ·
  intro w' hSw; (try dsimp only at hSw); first | (go_simp; done) | (go_simp; with_reducible rfl)
 (try simp only [Act.put, Row.pB0, Row.pB1, Row.pB2])
 refine wpAnyH_take (i := 18) (oi := ⟨some 26, .load 3 (.tmp 25), 3, "l14_route.go:74", #[⟨17, .data⟩, ⟨12, .guard⟩], some (12, false)⟩) (v := ?_) rfl (by kernel_rfl) (by kernel_rfl) (by kernel_rfl) (fun _ _ _ h => h) (Or.inl ⟨by rfl, ?_⟩) (by assumption) ?_
 rotate_left
 ·
  intro w' hSw; (try dsimp only at hSw); first | (go_simp; done) | (go_simp; with_reducible rfl)
 (try simp only [Act.put, Row.pB0, Row.pB1, Row.pB2])
 refine wpAnyH_take (i := 19) (oi := ⟨some 27, .fieldAddr 49 (.tmp 3) 2, 0, "l14_route.go:74", #[⟨12, .guard⟩], some (12, false)⟩) (v := ?_) rfl (by kernel_rfl) (by kernel_rfl) (by kernel_rfl) (fun _ _ _ h => h) (Or.inl ⟨by rfl, ?_⟩) (by assumption) ?_
 rotate_left
 ·
  intro w' hSw; (try dsimp only at hSw); first | (go_simp; done) | (go_simp; with_reducible rfl)
 (try simp only [Act.put, Row.pB0, Row.pB1, Row.pB2])
 refine wpAnyH_take (i := 20) (oi := ⟨some 28, .load 3 (.tmp 27), 3, "l14_route.go:74", #[⟨19, .data⟩, ⟨12, .guard⟩], some (12, false)⟩) (v := ?_) rfl (by kernel_rfl) (by kernel_rfl) (by kernel_rfl) (fun _ _ _ h => h) (Or.inl ⟨by rfl, ?_⟩) (by assumption) ?_
 rotate_left
 ·
  intro w' hSw; (try dsimp only at hSw); first | (go_simp; done) | (go_simp; with_reducible rfl)
 (try simp only [Act.put, Row.pB0, Row.pB1, Row.pB2])
 refine wpAnyH_take (i := 21) (oi := ⟨some 29, .binOp BinOp.eql 3 (.tmp 26) (.tmp 28) 3, 4, "l14_route.go:74", #[⟨18, .data⟩, ⟨20, .data⟩, ⟨12, .guard⟩], some (12, false)⟩) (v := ?_) rfl (by kernel_rfl) (by kernel_rfl) (by kernel_rfl) (fun _ _ _ h => h) (Or.inl ⟨by rfl, ?_⟩) (by assumption) ?_
 rotate_left
 ·
  intro w' hSw; (try dsimp only at hSw); first | (go_simp; done) | (go_simp; with_reducible rfl)
 (try simp only [Act.put, Row.pB0, Row.pB1, Row.pB2])
 refine wpAnyH_take (i := 22) (oi := ⟨some 30, .move (.tmp 29), 4, "l14_route.go:74", #[⟨21, .data⟩, ⟨12, .chain⟩, ⟨12, .guard⟩], some (12, false)⟩) (v := ?_) rfl (by kernel_rfl) (by kernel_rfl) (by kernel_rfl) (fun _ _ _ h => h) (Or.inl ⟨by rfl, ?_⟩) (by assumption) ?_
 rotate_left
 ·
  intro w' hSw; (try dsimp only at hSw); first | (go_simp; done) | (go_simp; with_reducible rfl)
 (try simp only [Act.put, Row.pB0, Row.pB1, Row.pB2])
 refine wpAnyH_take (i := 23) (oi := ⟨some 31, .move (.tmp 0), 30, "l14_route.go:74", #[⟨22, .guard⟩], some (22, true)⟩) (v := undef) rfl (by kernel_rfl) (by kernel_rfl) (by kernel_rfl) (fun _ _ _ h => h) (Or.inr ⟨by rfl, rfl⟩) (by assumption) ?_
 (try simp only [Act.put, Row.pB0, Row.pB1, Row.pB2])
 refine wpAnyH_take (i := 24) (oi := ⟨some 32, .move (.tmp 5), 3, "l14_route.go:74", #[⟨22, .guard⟩], some (22, true)⟩) (v := undef) rfl (by kernel_rfl) (by kernel_rfl) (by kernel_rfl) (fun _ _ _ h => h) (Or.inr ⟨by rfl, rfl⟩) (by assumption) ?_
 (try simp only [Act.put, Row.pB0, Row.pB1, Row.pB2])
 refine wpAnyH_take (i := 25) (oi := ⟨some 33, .binOp BinOp.sub 3 (.tmp 32) (.const (Value.int IntKind.i64 1)) 3, 3, "l14_route.go:74", #[⟨24, .data⟩, ⟨22, .guard⟩], some (22, true)⟩) (v := undef) rfl (by kernel_rfl) (by kernel_rfl) (by kernel_rfl) (fun _ _ _ h => h) (Or.inr ⟨by rfl, rfl⟩) (by assumption) ?_
 (try simp only [Act.put, Row.pB0, Row.pB1, Row.pB2])
 refine wpAnyH_take (i := 26) (oi := ⟨some 34, .indexAddr 30 (.tmp 31) (.tmp 33), 0, "l14_route.go:74", #[⟨23, .data⟩, ⟨25, .data⟩, ⟨22, .guard⟩], some (22, true)⟩) (v := undef) rfl (by kernel_rfl) (by kernel_rfl) (by kernel_rfl) (fun _ _ _ h => h) (Or.inr ⟨by rfl, rfl⟩) (by assumption) ?_
 (try simp only [Act.put, Row.pB0, Row.pB1, Row.pB2])
 refine wpAnyH_take (i := 27) (oi := ⟨some 35, .fieldAddr 49 (.tmp 34) 1, 0, "l14_route.go:74", #[⟨26, .data⟩, ⟨22, .guard⟩], some (22, true)⟩) (v := undef) rfl (by kernel_rfl) (by kernel_rfl) (by kernel_rfl) (fun _ _ _ h => h) (Or.inr ⟨by rfl, rfl⟩) (by assumption) ?_
 (try simp only [Act.put, Row.pB0, Row.pB1, Row.pB2])
 refine wpAnyH_take (i := 28) (oi := ⟨some 36, .load 3 (.tmp 35), 3, "l14_route.go:74", #[⟨27, .data⟩, ⟨22, .guard⟩], some (22, true)⟩) (v := undef) rfl (by kernel_rfl) (by kernel_rfl) (by kernel_rfl) (fun _ _ _ h => h) (Or.inr ⟨by rfl, rfl⟩) (by assumption) ?_
 (try simp only [Act.put, Row.pB0, Row.pB1, Row.pB2])
 refine wpAnyH_take (i := 29) (oi := ⟨some 37, .fieldAddr 49 (.tmp 3) 1, 0, "l14_route.go:74", #[⟨22, .guard⟩], some (22, true)⟩) (v := undef) rfl (by kernel_rfl) (by kernel_rfl) (by kernel_rfl) (fun _ _ _ h => h) (Or.inr ⟨by rfl, rfl⟩) (by assumption) ?_
 (try simp only [Act.put, Row.pB0, Row.pB1, Row.pB2])
 refine wpAnyH_take (i := 30) (oi := ⟨some 38, .load 3 (.tmp 37), 3, "l14_route.go:74", #[⟨29, .data⟩, ⟨22, .guard⟩], some (22, true)⟩) (v := undef) rfl (by kernel_rfl) (by kernel_rfl) (by kernel_rfl) (fun _ _ _ h => h) (Or.inr ⟨by rfl, rfl⟩) (by assumption) ?_
 (try simp only [Act.put, Row.pB0, Row.pB1, Row.pB2])
 refine wpAnyH_take (i := 31) (oi := ⟨some 39, .binOp BinOp.gtr 3 (.tmp 36) (.tmp 38) 3, 4, "l14_route.go:74", #[⟨28, .data⟩, ⟨30, .data⟩, ⟨22, .guard⟩], some (22, true)⟩) (v := undef) rfl (by kernel_rfl) (by kernel_rfl) (by kernel_rfl) (fun _ _ _ h => h) (Or.inr ⟨by rfl, rfl⟩) (by assumption) ?_
 (try simp only [Act.put, Row.pB0, Row.pB1, Row.pB2])
 refine wpAnyH_take (i := 32) (oi := ⟨some 40, .pick (.tmp 30) (.tmp 39) (.const (Value.bool false)), 4, "l14_route.go:74", #[⟨22, .data⟩, ⟨31, .data⟩, ⟨12, .guard⟩], some (12, false)⟩) (v := ?_) rfl (by kernel_rfl) (by kernel_rfl) (by kernel_rfl) (fun _ _ _ h => h) (Or.inl ⟨by rfl, ?_⟩) (by assumption) ?_
 rotate_left
 ·
  intro w' hSw; (try dsimp only at hSw); first | (go_simp; done) | (go_simp; with_reducible rfl)
 (try simp only [Act.put, Row.pB0, Row.pB1, Row.pB2])
 refine wpAnyH_take (i := 33) (oi := ⟨some 41, .pick (.tmp 20) (.const (Value.bool true)) (.tmp 40), 4, "l14_route.go:74", #[⟨12, .data⟩, ⟨32, .data⟩, ⟨2, .guard⟩], some (2, true)⟩) (v := ?_) rfl (by kernel_rfl) (by kernel_rfl) (by kernel_rfl) (fun _ _ _ h => h) (Or.inl ⟨by rfl, ?_⟩) (by assumption) ?_
 rotate_left
 ·
  intro w' hSw; (try dsimp only at hSw); first | (go_simp; done) | (go_simp; with_reducible rfl)
 (try simp only [Act.put, Row.pB0, Row.pB1, Row.pB2])
 refine wpAnyH_take (i := 34) (oi := ⟨some 42, .pick (.tmp 10) (.tmp 41) (.const (Value.bool false)), 4, "l14_route.go:74", #[⟨2, .data⟩, ⟨33, .data⟩], none⟩) (v := ?_) rfl (by kernel_rfl) (by kernel_rfl) (by kernel_rfl) (fun _ _ _ h => h) (Or.inl ⟨by rfl, ?_⟩) (by assumption) ?_
 rotate_left
 ·
  intro w' hSw; (try dsimp only at hSw); first | (go_simp; done) | (go_simp; with_reducible rfl)
 (try simp only [Act.put, Row.pB0, Row.pB1, Row.pB2])
 refine wpAnyH_done (by kernel_rfl) ?_ _
 exact NoPanic.normal (HQ.out _ _ _ _ _ _ _ _ _ _ _ _ _ _ _ _ _ _ _ _ _ _ _ _ _ _ _ _ _ _ _ _ _ _  _  BB.out)
set_option maxRecDepth 100000 in
set_option maxHeartbeats 4000000 in
theorem rpu3 {Q : Exit → Act → World → Prop} {v1 v2 v4 v6 v7 v8 v9 v10 v11 v12 v13 v14 v15 v16 v17 v18 v19 v20 v21 v22 v23 v24 v25 v26 v27 v28 v29 v30 v31 v32 v33 v34 v35 v36 v37 v38 v39 v40 v41 v42 v43 v44 v45 v46 v47 v48 v49 v50 v51 v52 v53 v54 v55 v56 : Value} {w : World} {b off n c k p : Nat} {rf rc f1 c1 : Int} (hk0 : 0 < k) (hk : k - 1 < n) (hkc : k - 1 ≤ c) (hn : n ≤ 9000000) (hw : IntKind.i64.wrap ((k : Int) - 1) = ((k - 1 : Nat) : Int)) (ht : decide (0 < (k : Int)) = true) (tc : decide (rc < c1) = false) (te : (c1 == rc) = true) (K1 : Hid (w.cell? ⟨b, off + (k - 1) * 3 + 2, none⟩ = some (.int .i64 c1))) (K2 : Hid (w.cell? ⟨p, 2, none⟩ = some (.int .i64 rc))) (K3 : Hid (w.cell? ⟨b, off + (k - 1) * 3 + 1, none⟩ = some (.int .i64 f1))) (K4 : Hid (w.cell? ⟨p, 1, none⟩ = some (.int .i64 rf)))
  (hQ : ∀ (u8 u9 u10 u11 u12 u13 u14 u15 u16 u17 u18 u19 u20 u21 u22 u23 u24 u25 u26 u27 u28 u29 u30 u31 u32 u33 u34 u35 u36 u37 u38 u39 u40 u41 : Value)  (wx : World), Below w.heap.size w wx → Q .normal ⟨#[.slice (some ⟨b, off, none⟩) n c, v1, v2, .pointer (some ⟨p, 0, none⟩), v4, .int .i64 k, v6, v7, u8, u9, u10, u11, u12, u13, u14, u15, u16, u17, u18, u19, u20, u21, u22, u23, u24, u25, u26, u27, u28, u29, u30, u31, u32, u33, u34, u35, u36, u37, u38, u39, u40, u41, .bool (decide (rf < f1)), v43, v44, v45, v46, v47, v48, v49, v50, v51, v52, v53, v54, v55, v56], []⟩ wx) :
  (Code.region 2 #[⟨some 8, .move (.tmp 5), 3, "l14_route.go:74", #[], none⟩,
   ⟨some 9, .binOp BinOp.gtr 3 (.tmp 8) (.const (Value.int IntKind.i64 0)) 3, 4, "l14_route.go:74", #[⟨0, .data⟩], none⟩,
   ⟨some 10, .move (.tmp 9), 4, "l14_route.go:74", #[⟨1, .data⟩], none⟩,
   ⟨some 11, .move (.tmp 0), 30, "l14_route.go:74", #[⟨2, .guard⟩], some (2, true)⟩,
   ⟨some 12, .move (.tmp 5), 3, "l14_route.go:74", #[⟨2, .guard⟩], some (2, true)⟩,
   ⟨some 13, .binOp BinOp.sub 3 (.tmp 12) (.const (Value.int IntKind.i64 1)) 3, 3, "l14_route.go:74", #[⟨4, .data⟩, ⟨2, .guard⟩], some (2, true)⟩,
   ⟨some 14, .indexAddr 30 (.tmp 11) (.tmp 13), 0, "l14_route.go:74", #[⟨3, .data⟩, ⟨5, .data⟩, ⟨2, .guard⟩], some (2, true)⟩,
   ⟨some 15, .fieldAddr 49 (.tmp 14) 2, 0, "l14_route.go:74", #[⟨6, .data⟩, ⟨2, .guard⟩], some (2, true)⟩,
   ⟨some 16, .load 3 (.tmp 15), 3, "l14_route.go:74", #[⟨7, .data⟩, ⟨2, .guard⟩], some (2, true)⟩,
   ⟨some 17, .fieldAddr 49 (.tmp 3) 2, 0, "l14_route.go:74", #[⟨2, .guard⟩], some (2, true)⟩,
   ⟨some 18, .load 3 (.tmp 17), 3, "l14_route.go:74", #[⟨9, .data⟩, ⟨2, .guard⟩], some (2, true)⟩,
   ⟨some 19, .binOp BinOp.gtr 3 (.tmp 16) (.tmp 18) 3, 4, "l14_route.go:74", #[⟨8, .data⟩, ⟨10, .data⟩, ⟨2, .guard⟩], some (2, true)⟩,
   ⟨some 20, .move (.tmp 19), 4, "l14_route.go:74", #[⟨11, .data⟩, ⟨2, .chain⟩, ⟨2, .guard⟩], some (2, true)⟩,
   ⟨some 21, .move (.tmp 0), 30, "l14_route.go:74", #[⟨12, .guard⟩], some (12, false)⟩,
   ⟨some 22, .move (.tmp 5), 3, "l14_route.go:74", #[⟨12, .guard⟩], some (12, false)⟩,
   ⟨some 23, .binOp BinOp.sub 3 (.tmp 22) (.const (Value.int IntKind.i64 1)) 3, 3, "l14_route.go:74", #[⟨14, .data⟩, ⟨12, .guard⟩], some (12, false)⟩,
   ⟨some 24, .indexAddr 30 (.tmp 21) (.tmp 23), 0, "l14_route.go:74", #[⟨13, .data⟩, ⟨15, .data⟩, ⟨12, .guard⟩], some (12, false)⟩,
   ⟨some 25, .fieldAddr 49 (.tmp 24) 2, 0, "l14_route.go:74", #[⟨16, .data⟩, ⟨12, .guard⟩], some (12, false)⟩,
   ⟨some 26, .load 3 (.tmp 25), 3, "l14_route.go:74", #[⟨17, .data⟩, ⟨12, .guard⟩], some (12, false)⟩,
   ⟨some 27, .fieldAddr 49 (.tmp 3) 2, 0, "l14_route.go:74", #[⟨12, .guard⟩], some (12, false)⟩,
   ⟨some 28, .load 3 (.tmp 27), 3, "l14_route.go:74", #[⟨19, .data⟩, ⟨12, .guard⟩], some (12, false)⟩,
   ⟨some 29, .binOp BinOp.eql 3 (.tmp 26) (.tmp 28) 3, 4, "l14_route.go:74", #[⟨18, .data⟩, ⟨20, .data⟩, ⟨12, .guard⟩], some (12, false)⟩,
   ⟨some 30, .move (.tmp 29), 4, "l14_route.go:74", #[⟨21, .data⟩, ⟨12, .chain⟩, ⟨12, .guard⟩], some (12, false)⟩,
   ⟨some 31, .move (.tmp 0), 30, "l14_route.go:74", #[⟨22, .guard⟩], some (22, true)⟩,
   ⟨some 32, .move (.tmp 5), 3, "l14_route.go:74", #[⟨22, .guard⟩], some (22, true)⟩,
   ⟨some 33, .binOp BinOp.sub 3 (.tmp 32) (.const (Value.int IntKind.i64 1)) 3, 3, "l14_route.go:74", #[⟨24, .data⟩, ⟨22, .guard⟩], some (22, true)⟩,
   ⟨some 34, .indexAddr 30 (.tmp 31) (.tmp 33), 0, "l14_route.go:74", #[⟨23, .data⟩, ⟨25, .data⟩, ⟨22, .guard⟩], some (22, true)⟩,
   ⟨some 35, .fieldAddr 49 (.tmp 34) 1, 0, "l14_route.go:74", #[⟨26, .data⟩, ⟨22, .guard⟩], some (22, true)⟩,
   ⟨some 36, .load 3 (.tmp 35), 3, "l14_route.go:74", #[⟨27, .data⟩, ⟨22, .guard⟩], some (22, true)⟩,
   ⟨some 37, .fieldAddr 49 (.tmp 3) 1, 0, "l14_route.go:74", #[⟨22, .guard⟩], some (22, true)⟩,
   ⟨some 38, .load 3 (.tmp 37), 3, "l14_route.go:74", #[⟨29, .data⟩, ⟨22, .guard⟩], some (22, true)⟩,
   ⟨some 39, .binOp BinOp.gtr 3 (.tmp 36) (.tmp 38) 3, 4, "l14_route.go:74", #[⟨28, .data⟩, ⟨30, .data⟩, ⟨22, .guard⟩], some (22, true)⟩,
   ⟨some 40, .pick (.tmp 30) (.tmp 39) (.const (Value.bool false)), 4, "l14_route.go:74", #[⟨22, .data⟩, ⟨31, .data⟩, ⟨12, .guard⟩], some (12, false)⟩,
   ⟨some 41, .pick (.tmp 20) (.const (Value.bool true)) (.tmp 40), 4, "l14_route.go:74", #[⟨12, .data⟩, ⟨32, .data⟩, ⟨2, .guard⟩], some (2, true)⟩,
   ⟨some 42, .pick (.tmp 10) (.tmp 41) (.const (Value.bool false)), 4, "l14_route.go:74", #[⟨2, .data⟩, ⟨33, .data⟩], none⟩] true).wp Try.prog Q ⟨#[.slice (some ⟨b, off, none⟩) n c, v1, v2, .pointer (some ⟨p, 0, none⟩), v4, .int .i64 k, v6, v7, v8, v9, v10, v11, v12, v13, v14, v15, v16, v17, v18, v19, v20, v21, v22, v23, v24, v25, v26, v27, v28, v29, v30, v31, v32, v33, v34, v35, v36, v37, v38, v39, v40, v41, v42, v43, v44, v45, v46, v47, v48, v49, v50, v51, v52, v53, v54, v55, v56], []⟩ w := by
 have HQ := Lib.hid hQ; clear hQ
 have hdr : Below w.heap.size w w.drew := (Below.refl _ _).drew
 have BB := Lib.hid hdr
 refine wp_region_noPanic ?_
 refine wp_region_held_drew (S := (fun w' => w'.cell? ⟨b, off + (k - 1) * 3 + 2, none⟩ = some (.int .i64 c1) ∧ w'.cell? ⟨p, 2, none⟩ = some (.int .i64 rc) ∧ w'.cell? ⟨b, off + (k - 1) * 3 + 1, none⟩ = some (.int .i64 f1) ∧ w'.cell? ⟨p, 1, none⟩ = some (.int .i64 rf))) (by kernel_rfl) ?_ (fun hHeld => ?_)
 ·
  exact ⟨kc K1.out BB.out, kc K2.out BB.out, kc K3.out BB.out, kc K4.out BB.out⟩
 clear hdr
 generalize w.drew = wd at *
 refine wpAnyH_take (i := 0) (oi := ⟨some 8, .move (.tmp 5), 3, "l14_route.go:74", #[], none⟩) (v := ?_) rfl (by kernel_rfl) (by kernel_rfl) (by kernel_rfl) (fun _ _ _ h => h) (Or.inl ⟨by rfl, ?_⟩) (by assumption) ?_
 rotate_left
 ·
  intro w' hSw; (try dsimp only at hSw); first | (go_simp; done) | (go_simp; with_reducible rfl)
 (try simp only [Act.put, Row.pB0, Row.pB1, Row.pB2])
 refine wpAnyH_take (i := 1) (oi := ⟨some 9, .binOp BinOp.gtr 3 (.tmp 8) (.const (Value.int IntKind.i64 0)) 3, 4, "l14_route.go:74", #[⟨0, .data⟩], none⟩) (v := ?_) rfl (by kernel_rfl) (by kernel_rfl) (by kernel_rfl) (fun _ _ _ h => h) (Or.inl ⟨by rfl, ?_⟩) (by assumption) ?_
 rotate_left
 ·
  intro w' hSw; (try dsimp only at hSw); first | (go_simp; done) | (go_simp; with_reducible rfl)
 (try simp only [Act.put, Row.pB0, Row.pB1, Row.pB2])
 refine wpAnyH_take (i := 2) (oi := ⟨some 10, .move (.tmp 9), 4, "l14_route.go:74", #[⟨1, .data⟩], none⟩) (v := ?_) rfl (by kernel_rfl) (by kernel_rfl) (by kernel_rfl) (fun _ _ _ h => h) (Or.inl ⟨by rfl, ?_⟩) (by assumption) ?_
 rotate_left
 ·
  intro w' hSw; (try dsimp only at hSw); first | (go_simp; done) | (go_simp; with_reducible rfl)
 (try simp only [Act.put, Row.pB0, Row.pB1, Row.pB2])
 refine wpAnyH_take (i := 3) (oi := ⟨some 11, .move (.tmp 0), 30, "l14_route.go:74", #[⟨2, .guard⟩], some (2, true)⟩) (v := ?_) rfl (by kernel_rfl) (by kernel_rfl) (by kernel_rfl) (fun _ _ _ h => h) (Or.inl ⟨by rfl, ?_⟩) (by assumption) ?_
 rotate_left
 ·
  intro w' hSw; (try dsimp only at hSw); first | (go_simp; done) | (go_simp; with_reducible rfl)
 (try simp only [Act.put, Row.pB0, Row.pB1, Row.pB2])
 refine wpAnyH_take (i := 4) (oi := ⟨some 12, .move (.tmp 5), 3, "l14_route.go:74", #[⟨2, .guard⟩], some (2, true)⟩) (v := ?_) rfl (by kernel_rfl) (by kernel_rfl) (by kernel_rfl) (fun _ _ _ h => h) (Or.inl ⟨by rfl, ?_⟩) (by assumption) ?_
 rotate_left
 ·
  intro w' hSw; (try dsimp only at hSw); first | (go_simp; done) | (go_simp; with_reducible rfl)
 (try simp only [Act.put, Row.pB0, Row.pB1, Row.pB2])
 refine wpAnyH_take (i := 5) (oi := ⟨some 13, .binOp BinOp.sub 3 (.tmp 12) (.const (Value.int IntKind.i64 1)) 3, 3, "l14_route.go:74", #[⟨4, .data⟩, ⟨2, .guard⟩], some (2, true)⟩) (v := ?_) rfl (by kernel_rfl) (by kernel_rfl) (by kernel_rfl) (fun _ _ _ h => h) (Or.inl ⟨by rfl, ?_⟩) (by assumption) ?_
 rotate_left
 ·
  intro w' hSw; (try dsimp only at hSw); first | (go_simp; done) | (go_simp; with_reducible rfl)
 (try simp only [Act.put, Row.pB0, Row.pB1, Row.pB2])
 refine wpAnyH_take (i := 6) (oi := ⟨some 14, .indexAddr 30 (.tmp 11) (.tmp 13), 0, "l14_route.go:74", #[⟨3, .data⟩, ⟨5, .data⟩, ⟨2, .guard⟩], some (2, true)⟩) (v := ?_) rfl (by kernel_rfl) (by kernel_rfl) (by kernel_rfl) (fun _ _ _ h => h) (Or.inl ⟨by rfl, ?_⟩) (by assumption) ?_
 rotate_left
 ·
  intro w' hSw; (try dsimp only at hSw); first | (go_simp; done) | (go_simp; with_reducible rfl)
 (try simp only [Act.put, Row.pB0, Row.pB1, Row.pB2])
 refine wpAnyH_take (i := 7) (oi := ⟨some 15, .fieldAddr 49 (.tmp 14) 2, 0, "l14_route.go:74", #[⟨6, .data⟩, ⟨2, .guard⟩], some (2, true)⟩) (v := ?_) rfl (by kernel_rfl) (by kernel_rfl) (by kernel_rfl) (fun _ _ _ h => h) (Or.inl ⟨by rfl, ?_⟩) (by assumption) ?_
 rotate_left
 ·
  intro w' hSw; (try dsimp only at hSw); first | (go_simp; done) | (go_simp; with_reducible rfl)
 (try simp only [Act.put, Row.pB0, Row.pB1, Row.pB2])
 refine wpAnyH_take (i := 8) (oi := ⟨some 16, .load 3 (.tmp 15), 3, "l14_route.go:74", #[⟨7, .data⟩, ⟨2, .guard⟩], some (2, true)⟩) (v := ?_) rfl (by kernel_rfl) (by kernel_rfl) (by kernel_rfl) (fun _ _ _ h => h) (Or.inl ⟨by rfl, ?_⟩) (by assumption) ?_
 rotate_left
 ·
  intro w' hSw; (try dsimp only at hSw); first | (go_simp; done) | (go_simp; with_reducible rfl)
 (try simp only [Act.put, Row.pB0, Row.pB1, Row.pB2])
 refine wpAnyH_take (i := 9) (oi := ⟨some 17, .fieldAddr 49 (.tmp 3) 2, 0, "l14_route.go:74", #[⟨2, .guard⟩], some (2, true)⟩) (v := ?_) rfl (by kernel_rfl) (by kernel_rfl) (by kernel_rfl) (fun _ _ _ h => h) (Or.inl ⟨by rfl, ?_⟩) (by assumption) ?_
 rotate_left
 ·
  intro w' hSw; (try dsimp only at hSw); first | (go_simp; done) | (go_simp; with_reducible rfl)
 (try simp only [Act.put, Row.pB0, Row.pB1, Row.pB2])
 refine wpAnyH_take (i := 10) (oi := ⟨some 18, .load 3 (.tmp 17), 3, "l14_route.go:74", #[⟨9, .data⟩, ⟨2, .guard⟩], some (2, true)⟩) (v := ?_) rfl (by kernel_rfl) (by kernel_rfl) (by kernel_rfl) (fun _ _ _ h => h) (Or.inl ⟨by rfl, ?_⟩) (by assumption) ?_
 rotate_left
 ·
  intro w' hSw; (try dsimp only at hSw); first | (go_simp; done) | (go_simp; with_reducible rfl)
 (try simp only [Act.put, Row.pB0, Row.pB1, Row.pB2])
 refine wpAnyH_take (i := 11) (oi := ⟨some 19, .binOp BinOp.gtr 3 (.tmp 16) (.tmp 18) 3, 4, "l14_route.go:74", #[⟨8, .data⟩, ⟨10, .data⟩, ⟨2, .guard⟩], some (2, true)⟩) (v := ?_) rfl (by kernel_rfl) (by kernel_rfl) (by kernel_rfl) (fun _ _ _ h => h) (Or.inl ⟨by rfl, ?_⟩) (by assumption) ?_
 rotate_left
 ·
  intro w' hSw; (try dsimp only at hSw); first | (go_simp; done) | (go_simp; with_reducible rfl)
 (try simp only [Act.put, Row.pB0, Row.pB1, Row.pB2])
 refine wpAnyH_take (i := 12) (oi := ⟨some 20, .move (.tmp 19), 4, "l14_route.go:74", #[⟨11, .data⟩, ⟨2, .chain⟩, ⟨2, .guard⟩], some (2, true)⟩) (v := ?_) rfl (by kernel_rfl) (by kernel_rfl) (by kernel_rfl) (fun _ _ _ h => h) (Or.inl ⟨by rfl, ?_⟩) (by assumption) ?_
 rotate_left
 ·
  intro w' hSw; (try dsimp only at hSw); first | (go_simp; done) | (go_simp; with_reducible rfl)
 (try simp only [Act.put, Row.pB0, Row.pB1, Row.pB2])
 refine wpAnyH_take (i := 13) (oi := ⟨some 21, .move (.tmp 0), 30, "l14_route.go:74", #[⟨12, .guard⟩], some (12, false)⟩) (v := ?_) rfl (by kernel_rfl) (by kernel_rfl) (by kernel_rfl) (fun _ _ _ h => h) (Or.inl ⟨by rfl, ?_⟩) (by assumption) ?_
 rotate_left
 ·
  intro w' hSw; (try dsimp only at hSw); first | (go_simp; done) | (go_simp; with_reducible rfl)
 (try simp only [Act.put, Row.pB0, Row.pB1, Row.pB2])
 refine wpAnyH_take (i := 14) (oi := ⟨some 22, .move (.tmp 5), 3, "l14_route.go:74", #[⟨12, .guard⟩], some (12, false)⟩) (v := ?_) rfl (by kernel_rfl) (by kernel_rfl) (by kernel_rfl) (fun _ _ _ h => h) (Or.inl ⟨by rfl, ?_⟩) (by assumption) ?_
 rotate_left
 ·
  intro w' hSw; (try dsimp only at hSw); first | (go_simp; done) | (go_simp; with_reducible rfl)
 (try simp only [Act.put, Row.pB0, Row.pB1, Row.pB2])
 refine wpAnyH_take (i := 15) (oi := ⟨some 23, .binOp BinOp.sub 3 (.tmp 22) (.const (Value.int IntKind.i64 1)) 3, 3, "l14_route.go:74", #[⟨14, .data⟩, ⟨12, .guard⟩], some (12, false)⟩) (v := ?_) rfl (by kernel_rfl) (by kernel_rfl) (by kernel_rfl) (fun _ _ _ h => h) (Or.inl ⟨by rfl, ?_⟩) (by assumption) ?_
 rotate_left
 ·
  intro w' hSw; (try dsimp only at hSw); first | (go_simp; done) | (go_simp; with_reducible rfl)
 (try simp only [Act.put, Row.pB0, Row.pB1, Row.pB2])
 refine wpAnyH_take (i := 16) (oi := ⟨some 24, .indexAddr 30 (.tmp 21) (.tmp 23), 0, "l14_route.go:74", #[⟨13, .data⟩, ⟨15, .data⟩, ⟨12, .guard⟩], some (12, false)⟩) (v := ?_) rfl (by kernel_rfl) (by kernel_rfl) (by kernel_rfl) (fun _ _ _ h => h) (Or.inl ⟨by rfl, ?_⟩) (by assumption) ?_
 rotate_left
 ·
  intro w' hSw; (try dsimp only at hSw); first | (go_simp; done) | (go_simp; with_reducible rfl)
 (try simp only [Act.put, Row.pB0, Row.pB1, Row.pB2])
 refine wpAnyH_take (i := 17) (oi := ⟨some 25, .fieldAddr 49 (.tmp 24) 2, 0, "l14_route.go:74", #[⟨16, .data⟩, ⟨12, .guard⟩], some (12, false)⟩) (v := ?_) rfl (by kernel_rfl) (by kernel_rfl) (by kernel_rfl) (fun _ _ _ h => h) (Or.inl ⟨by rfl, ?_⟩) (by assumption) ?_
 rotate_left
 ·
  intro w' hSw; (try dsimp only at hSw); first | (go_simp; done) | (go_simp; with_reducible rfl)
 (try simp only [Act.put, Row.pB0, Row.pB1, Row.pB2])
 refine wpAnyH_take (i := 18) (oi := ⟨some 26, .load 3 (.tmp 25), 3, "l14_route.go:74", #[⟨17, .data⟩, ⟨12, .guard⟩], some (12, false)⟩) (v := ?_) rfl (by kernel_rfl) (by kernel_rfl) (by kernel_rfl) (fun _ _ _ h => h) (Or.inl ⟨by rfl, ?_⟩) (by assumption) ?_
 rotate_left
 ·
  intro w' hSw; (try dsimp only at hSw); first | (go_simp; done) | (go_simp; with_reducible rfl)
 (try simp only [Act.put, Row.pB0, Row.pB1, Row.pB2])
 refine wpAnyH_take (i := 19) (oi := ⟨some 27, .fieldAddr 49 (.tmp 3) 2, 0, "l14_route.go:74", #[⟨12, .guard⟩], some (12, false)⟩) (v := ?_) rfl (by kernel_rfl) (by kernel_rfl) (by kernel_rfl) (fun _ _ _ h => h) (Or.inl ⟨by rfl, ?_⟩) (by assumption) ?_
 rotate_left
 ·
  intro w' hSw; (try dsimp only at hSw); first | (go_simp; done) | (go_simp; with_reducible rfl)
 (try simp only [Act.put, Row.pB0, Row.pB1, Row.pB2])
 refine wpAnyH_take (i := 20) (oi := ⟨some 28, .load 3 (.tmp 27), 3, "l14_route.go:74", #[⟨19, .data⟩, ⟨12, .guard⟩], some (12, false)⟩) (v := ?_) rfl (by kernel_rfl) (by kernel_rfl) (by kernel_rfl) (fun _ _ _ h => h) (Or.inl ⟨by rfl, ?_⟩) (by assumption) ?_
 rotate_left
 ·
  intro w' hSw; (try dsimp only at hSw); first | (go_simp; done) | (go_simp; with_reducible rfl)
 (try simp only [Act.put, Row.pB0, Row.pB1, Row.pB2])
 refine wpAnyH_take (i := 21) (oi := ⟨some 29, .binOp BinOp.eql 3 (.tmp 26) (.tmp 28) 3, 4, "l14_route.go:74", #[⟨18, .data⟩, ⟨20, .data⟩, ⟨12, .guard⟩], some (12, false)⟩) (v := ?_) rfl (by kernel_rfl) (by kernel_rfl) (by kernel_rfl) (fun _ _ _ h => h) (Or.inl ⟨by rfl, ?_⟩) (by assumption) ?_
 rotate_left
 ·
  intro w' hSw; (try dsimp only at hSw); first | (go_simp; done) | (go_simp; with_reducible rfl)
 (try simp only [Act.put, Row.pB0, Row.pB1, Row.pB2])
 refine wpAnyH_take (i := 22) (oi := ⟨some 30, .move (.tmp 29), 4, "l14_route.go:74", #[⟨21, .data⟩, ⟨12, .chain⟩, ⟨12, .guard⟩], some (12, false)⟩) (v := ?_) rfl (by kernel_rfl) (by kernel_rfl) (by kernel_rfl) (fun _ _ _ h => h) (Or.inl ⟨by rfl, ?_⟩) (by assumption) ?_
 rotate_left
 ·
  intro w' hSw; (try dsimp only at hSw); first | (go_simp; done) | (go_simp; with_reducible rfl)
 (try simp only [Act.put, Row.pB0, Row.pB1, Row.pB2])
 refine wpAnyH_take (i := 23) (oi := ⟨some 31, .move (.tmp 0), 30, "l14_route.go:74", #[⟨22, .guard⟩], some (22, true)⟩) (v := ?_) rfl (by kernel_rfl) (by kernel_rfl) (by kernel_rfl) (fun _ _ _ h => h) (Or.inl ⟨by rfl, ?_⟩) (by assumption) ?_
 rotate_left
 ·
  intro w' hSw; (try dsimp only at hSw); first | (go_simp; done) | (go_simp; with_reducible rfl)
 (try simp only [Act.put, Row.pB0, Row.pB1, Row.pB2])
 refine wpAnyH_take (i := 24) (oi := ⟨some 32, .move (.tmp 5), 3, "l14_route.go:74", #[⟨22, .guard⟩], some (22, true)⟩) (v := ?_) rfl (by kernel_rfl) (by kernel_rfl) (by kernel_rfl) (fun _ _ _ h => h) (Or.inl ⟨by rfl, ?_⟩) (by assumption) ?_
 rotate_left
 ·
  intro w' hSw; (try dsimp only at hSw); first | (go_simp; done) | (go_simp; with_reducible rfl)
 (try simp only [Act.put, Row.pB0, Row.pB1, Row.pB2])
 refine wpAnyH_take (i := 25) (oi := ⟨some 33, .binOp BinOp.sub 3 (.tmp 32) (.const (Value.int IntKind.i64 1)) 3, 3, "l14_route.go:74", #[⟨24, .data⟩, ⟨22, .guard⟩], some (22, true)⟩) (v := ?_) rfl (by kernel_rfl) (by kernel_rfl) (by kernel_rfl) (fun _ _ _ h => h) (Or.inl ⟨by rfl, ?_⟩) (by assumption) ?_
 rotate_left
 ·
  intro w' hSw; (try dsimp only at hSw); first | (go_simp; done) | (go_simp; with_reducible rfl)
 (try simp only [Act.put, Row.pB0, Row.pB1, Row.pB2])
 refine wpAnyH_take (i := 26) (oi := ⟨some 34, .indexAddr 30 (.tmp 31) (.tmp 33), 0, "l14_route.go:74", #[⟨23, .data⟩, ⟨25, .data⟩, ⟨22, .guard⟩], some (22, true)⟩) (v := ?_) rfl (by kernel_rfl) (by kernel_rfl) (by kernel_rfl) (fun _ _ _ h => h) (Or.inl ⟨by rfl, ?_⟩) (by assumption) ?_
 rotate_left
 ·
  intro w' hSw; (try dsimp only at hSw); first | (go_simp; done) | (go_simp; with_reducible rfl)
 (try simp only [Act.put, Row.pB0, Row.pB1, Row.pB2])
 refine wpAnyH_take (i := 27) (oi := ⟨some 35, .fieldAddr 49 (.tmp 34) 1, 0, "l14_route.go:74", #[⟨26, .data⟩, ⟨22, .guard⟩], some (22, true)⟩) (v := ?_) rfl (by kernel_rfl) (by kernel_rfl) (by kernel_rfl) (fun _ _ _ h => h) (Or.inl ⟨by rfl, ?_⟩) (by assumption) ?_
 rotate_left
 ·
  intro w' hSw; (try dsimp only at hSw); first | (go_simp; done) | (go_simp; with_reducible rfl)
 (try simp only [Act.put, Row.pB0, Row.pB1, Row.pB2])
 refine wpAnyH_take (i := 28) (oi := ⟨some 36, .load 3 (.tmp 35), 3, "l14_route.go:74", #[⟨27, .data⟩, ⟨22, .guard⟩], some (22, true)⟩) (v := ?_) rfl (by kernel_rfl) (by kernel_rfl) (by kernel_rfl) (fun _ _ _ h => h) (Or.inl ⟨by rfl, ?_⟩) (by assumption) ?_
 rotate_left
 ·
  intro w' hSw; (try dsimp only at hSw); first | (go_simp; done) | (go_simp; with_reducible rfl)
 (try simp only [Act.put, Row.pB0, Row.pB1, Row.pB2])
 refine wpAnyH_take (i := 29) (oi := ⟨some 37, .fieldAddr 49 (.tmp 3) 1, 0, "l14_route.go:74", #[⟨22, .guard⟩], some (22, true)⟩) (v := ?_) rfl (by kernel_rfl) (by kernel_rfl) (by kernel_rfl) (fun _ _ _ h => h) (Or.inl ⟨by rfl, ?_⟩) (by assumption) ?_
 rotate_left
 ·
  intro w' hSw; (try dsimp only at hSw); first | (go_simp; done) | (go_simp; with_reducible rfl)
 (try simp only [Act.put, Row.pB0, Row.pB1, Row.pB2])
 refine wpAnyH_take (i := 30) (oi := ⟨some 38, .load 3 (.tmp 37), 3, "l14_route.go:74", #[⟨29, .data⟩, ⟨22, .guard⟩], some (22, true)⟩) (v := ?_) rfl (by kernel_rfl) (by kernel_rfl) (by kernel_rfl) (fun _ _ _ h => h) (Or.inl ⟨by rfl, ?_⟩) (by assumption) ?_
 rotate_left
 ·
  intro w' hSw; (try dsimp only at hSw); first | (go_simp; done) | (go_simp; with_reducible rfl)
 (try simp only [Act.put, Row.pB0, Row.pB1, Row.pB2])
 refine wpAnyH_take (i := 31) (oi := ⟨some 39, .binOp BinOp.gtr 3 (.tmp 36) (.tmp 38) 3, 4, "l14_route.go:74", #[⟨28, .data⟩, ⟨30, .data⟩, ⟨22, .guard⟩], some (22, true)⟩) (v := ?_) rfl (by kernel_rfl) (by kernel_rfl) (by kernel_rfl) (fun _ _ _ h => h) (Or.inl ⟨by rfl, ?_⟩) (by assumption) ?_
 rotate_left
 ·
  intro w' hSw; (try dsimp only at hSw); first | (go_simp; done) | (go_simp; with_reducible rfl)
 (try simp only [Act.put, Row.pB0, Row.pB1, Row.pB2])
 refine wpAnyH_take (i := 32) (oi := ⟨some 40, .pick (.tmp 30) (.tmp 39) (.const (Value.bool false)), 4, "l14_route.go:74", #[⟨22, .data⟩, ⟨31, .data⟩, ⟨12, .guard⟩], some (12, false)⟩) (v := ?_) rfl (by kernel_rfl) (by kernel_rfl) (by kernel_rfl) (fun _ _ _ h => h) (Or.inl ⟨by rfl, ?_⟩) (by assumption) ?_
 rotate_left
 ·
  intro w' hSw; (try dsimp only at hSw); first | (go_simp; done) | (go_simp; with_reducible rfl)
 (try simp only [Act.put, Row.pB0, Row.pB1, Row.pB2])
 refine wpAnyH_take (i := 33) (oi := ⟨some 41, .pick (.tmp 20) (.const (Value.bool true)) (.tmp 40), 4, "l14_route.go:74", #[⟨12, .data⟩, ⟨32, .data⟩, ⟨2, .guard⟩], some (2, true)⟩) (v := ?_) rfl (by kernel_rfl) (by kernel_rfl) (by kernel_rfl) (fun _ _ _ h => h) (Or.inl ⟨by rfl, ?_⟩) (by assumption) ?_
 rotate_left
 ·
  intro w' hSw; (try dsimp only at hSw); first | (go_simp; done) | (go_simp; with_reducible rfl)
 (try simp only [Act.put, Row.pB0, Row.pB1, Row.pB2])
 refine wpAnyH_take (i := 34) (oi := ⟨some 42, .pick (.tmp 10) (.tmp 41) (.const (Value.bool false)), 4, "l14_route.go:74", #[⟨2, .data⟩, ⟨33, .data⟩], none⟩) (v := ?_) rfl (by kernel_rfl) (by kernel_rfl) (by kernel_rfl) (fun _ _ _ h => h) (Or.inl ⟨by rfl, ?_⟩) (by assumption) ?_
 rotate_left
 ·
  intro w' hSw; (try dsimp only at hSw); first | (go_simp; done) | (go_simp; with_reducible rfl)
 (try simp only [Act.put, Row.pB0, Row.pB1, Row.pB2])
 refine wpAnyH_done (by kernel_rfl) ?_ _
 exact NoPanic.normal (HQ.out _ _ _ _ _ _ _ _ _ _ _ _ _ _ _ _ _ _ _ _ _ _ _ _ _ _ _ _ _ _ _ _ _ _  _  BB.out)
set_option maxRecDepth 100000 in
set_option maxHeartbeats 4000000 in
theorem rpt {Q : Exit → Act → World → Prop} {v1 v2 v4 v6 v7 v8 v9 v10 v11 v12 v13 v14 v15 v16 v17 v18 v19 v20 v21 v22 v23 v24 v25 v26 v27 v28 v29 v30 v31 v32 v33 v34 v35 v36 v37 v38 v39 v40 v41 v42 v43 v44 v45 v46 v47 v48 v49 v50 v51 v52 v53 v54 v55 v56 : Value} {w : World} {b off n c k p : Nat} {S : List Rtm} {ax : Option Addr} {an ac : Nat} {ae : List ByteArray} {rf rc : Int} (hk : k ≤ n) (hkc : k ≤ c) (hnc : n ≤ c) (hn : n ≤ 1200000) (H_t : Hid (HoldsK kRt.cells 3 w (.slice (some ⟨b, off, none⟩) k c) (S.take k))) (H_d : Hid (HoldsK kRt.cells 3 w (.slice (if c = k then some ⟨b, off, none⟩ else some ⟨b, off + k * 3, none⟩) (n - k) (c - k)) (S.drop k))) (HSL : Hid (S.length = n)) (HNB : Hid (n ≤ 1200000 ∧ k ≤ n)) (K0 : Hid (w.cell? ⟨p, 0, none⟩ = some (.slice ax an ac))) (K1 : Hid (w.cell? ⟨p, 1, none⟩ = some (.int .i64 rf))) (K2 : Hid (w.cell? ⟨p, 2, none⟩ = some (.int .i64 rc)))
  (hQ : ∀ (u45 u46 u47 u48 u49 u50 u51 u52 u53 u54 u55 u56 : Value) (x4 : Option Addr) (n4 c4 : Nat)  (wx : World), Hid (OwnK 49 kRt.cells 3 w.heap.size wx (.slice x4 n4 c4) ((([] ++ S.take k) ++ [((⟨ax, an, ac, ae⟩, rf, rc) : Rtm)]) ++ S.drop k)) → Below w.heap.size w wx → Q .normal ⟨#[.slice (some ⟨b, off, none⟩) n c, v1, v2, .pointer (some ⟨p, 0, none⟩), .slice x4 n4 c4, .int .i64 k, v6, v7, v8, v9, v10, v11, v12, v13, v14, v15, v16, v17, v18, v19, v20, v21, v22, v23, v24, v25, v26, v27, v28, v29, v30, v31, v32, v33, v34, v35, v36, v37, v38, v39, v40, v41, v42, v43, v44, u45, u46, u47, u48, u49, u50, u51, u52, u53, u54, u55, u56], []⟩ wx) :
  (Code.region 4 #[⟨some 45, .buildSlice 30 0 #[], 30, "l14_route.go:77", #[], none⟩,
   ⟨some 46, .move (.tmp 0), 30, "l14_route.go:77", #[], none⟩,
   ⟨some 47, .move (.tmp 5), 3, "l14_route.go:77", #[], none⟩,
   ⟨some 48, .slice 30 (.tmp 46) none (some (.tmp 47)) none, 30, "l14_route.go:77", #[⟨1, .data⟩, ⟨2, .data⟩], none⟩,
   ⟨some 49, .call ⟨.builtin .append, #[.tmp 45, .tmp 48], #[30, 30]⟩, 30, "l14_route.go:77", #[⟨0, .data⟩, ⟨3, .data⟩], none⟩,
   ⟨some 50, .load 49 (.tmp 3), 49, "l14_route.go:77", #[], none⟩,
   ⟨some 51, .buildSlice 30 1 #[(0, .tmp 50)], 30, "l14_route.go:77", #[⟨5, .data⟩], none⟩,
   ⟨some 52, .call ⟨.builtin .append, #[.tmp 49, .tmp 51], #[30, 30]⟩, 30, "l14_route.go:77", #[⟨4, .data⟩, ⟨6, .data⟩, ⟨4, .chain⟩], none⟩,
   ⟨some 53, .move (.tmp 0), 30, "l14_route.go:77", #[], none⟩,
   ⟨some 54, .move (.tmp 5), 3, "l14_route.go:77", #[], none⟩,
   ⟨some 55, .slice 30 (.tmp 53) (some (.tmp 54)) none none, 30, "l14_route.go:77", #[⟨8, .data⟩, ⟨9, .data⟩], none⟩,
   ⟨some 56, .call ⟨.builtin .append, #[.tmp 52, .tmp 55], #[30, 30]⟩, 30, "l14_route.go:77", #[⟨7, .data⟩, ⟨10, .data⟩, ⟨7, .chain⟩], none⟩,
   ⟨some 4, .assign (.tmp 56), 30, "l14_route.go:77", #[⟨11, .data⟩, ⟨11, .chain⟩, ⟨0, .phase⟩, ⟨1, .phase⟩, ⟨2, .phase⟩, ⟨3, .phase⟩, ⟨4, .phase⟩, ⟨5, .phase⟩, ⟨6, .phase⟩, ⟨7, .phase⟩, ⟨8, .phase⟩, ⟨9, .phase⟩, ⟨10, .phase⟩, ⟨11, .phase⟩], none⟩] true).wp Try.prog Q ⟨#[.slice (some ⟨b, off, none⟩) n c, v1, v2, .pointer (some ⟨p, 0, none⟩), v4, .int .i64 k, v6, v7, v8, v9, v10, v11, v12, v13, v14, v15, v16, v17, v18, v19, v20, v21, v22, v23, v24, v25, v26, v27, v28, v29, v30, v31, v32, v33, v34, v35, v36, v37, v38, v39, v40, v41, v42, v43, v44, v45, v46, v47, v48, v49, v50, v51, v52, v53, v54, v55, v56], []⟩ w := by
 have HQ := Lib.hid hQ; clear hQ
 have hdr : Below w.heap.size w w.drew := (Below.refl _ _).drew
 have BB := Lib.hid hdr
 refine wp_region_noPanic ?_
 refine wp_region_held_drew (S := (fun w' => w'.cell? ⟨p, 0, none⟩ = some (.slice ax an ac) ∧ w'.cell? ⟨p, 1, none⟩ = some (.int .i64 rf) ∧ w'.cell? ⟨p, 2, none⟩ = some (.int .i64 rc))) (by kernel_rfl) ?_ (fun hHeld => ?_)
 ·
  exact ⟨kc K0.out BB.out, kc K1.out BB.out, kc K2.out BB.out⟩
 clear hdr
 generalize w.drew = wd at *
 refine wpAnyH_take (i := 1) (oi := ⟨some 46, .move (.tmp 0), 30, "l14_route.go:77", #[], none⟩) (v := ?_) rfl (by kernel_rfl) (by kernel_rfl) (by kernel_rfl) (fun _ _ _ h => h) (Or.inl ⟨by rfl, ?_⟩) (by assumption) ?_
 rotate_left
 ·
  intro w' hSw; (try dsimp only at hSw); first | (go_simp; done) | (go_simp; with_reducible rfl)
 (try simp only [Act.put, Row.pB0, Row.pB1, Row.pB2])
 refine wpAnyH_take (i := 2) (oi := ⟨some 47, .move (.tmp 5), 3, "l14_route.go:77", #[], none⟩) (v := ?_) rfl (by kernel_rfl) (by kernel_rfl) (by kernel_rfl) (fun _ _ _ h => h) (Or.inl ⟨by rfl, ?_⟩) (by assumption) ?_
 rotate_left
 ·
  intro w' hSw; (try dsimp only at hSw); first | (go_simp; done) | (go_simp; with_reducible rfl)
 (try simp only [Act.put, Row.pB0, Row.pB1, Row.pB2])
 refine wpAnyH_take (i := 3) (oi := ⟨some 48, .slice 30 (.tmp 46) none (some (.tmp 47)) none, 30, "l14_route.go:77", #[⟨1, .data⟩, ⟨2, .data⟩], none⟩) (v := ?_) rfl (by kernel_rfl) (by kernel_rfl) (by kernel_rfl) (fun _ _ _ h => h) (Or.inl ⟨by rfl, ?_⟩) (by assumption) ?_
 rotate_left
 ·
  intro w' hSw; (try dsimp only at hSw); first | (go_simp; done) | (go_simp; with_reducible rfl)
 (try simp only [Act.put, Row.pB0, Row.pB1, Row.pB2])
 refine wpAnyH_take (i := 5) (oi := ⟨some 50, .load 49 (.tmp 3), 49, "l14_route.go:77", #[], none⟩) (v := ?_) rfl (by kernel_rfl) (by kernel_rfl) (by kernel_rfl) (fun _ _ _ h => h) (Or.inl ⟨by rfl, ?_⟩) (by assumption) ?_
 rotate_left
 ·
  intro w' hSw; (try dsimp only at hSw); first | (go_simp; done) | (go_simp; with_reducible rfl)
 (try simp only [Act.put, Row.pB0, Row.pB1, Row.pB2])
 refine wpAnyH_take (i := 8) (oi := ⟨some 53, .move (.tmp 0), 30, "l14_route.go:77", #[], none⟩) (v := ?_) rfl (by kernel_rfl) (by kernel_rfl) (by kernel_rfl) (fun _ _ _ h => h) (Or.inl ⟨by rfl, ?_⟩) (by assumption) ?_
 rotate_left
 ·
  intro w' hSw; (try dsimp only at hSw); first | (go_simp; done) | (go_simp; with_reducible rfl)
 (try simp only [Act.put, Row.pB0, Row.pB1, Row.pB2])
 refine wpAnyH_take (i := 9) (oi := ⟨some 54, .move (.tmp 5), 3, "l14_route.go:77", #[], none⟩) (v := ?_) rfl (by kernel_rfl) (by kernel_rfl) (by kernel_rfl) (fun _ _ _ h => h) (Or.inl ⟨by rfl, ?_⟩) (by assumption) ?_
 rotate_left
 ·
  intro w' hSw; (try dsimp only at hSw); first | (go_simp; done) | (go_simp; with_reducible rfl)
 (try simp only [Act.put, Row.pB0, Row.pB1, Row.pB2])
 refine wpAnyH_take (i := 10) (oi := ⟨some 55, .slice 30 (.tmp 53) (some (.tmp 54)) none none, 30, "l14_route.go:77", #[⟨8, .data⟩, ⟨9, .data⟩], none⟩) (v := ?_) rfl (by kernel_rfl) (by kernel_rfl) (by kernel_rfl) (fun _ _ _ h => h) (Or.inl ⟨by rfl, ?_⟩) (by assumption) ?_
 rotate_left
 ·
  intro w' hSw; (try dsimp only at hSw); first | (go_simp; done) | (go_simp; with_reducible rfl)
 (try simp only [Act.put, Row.pB0, Row.pB1, Row.pB2])
 refine wpAnyH_ready (rs := [0, 6]) (by kernel_rfl) (by simp) ?_
 refine AllReadyH.cons (o := ⟨some 45, .buildSlice 30 0 #[], 30, "l14_route.go:77", #[], none⟩) rfl (fun K hK => ?_) ?_
 ·
  go_simp
  have hb : Below wd.heap.size wd (wd.alloc (.cells #[] 49)) := (Below.refl _ _).alloc (Nat.le_refl _) _
  obtain ⟨gE, hgE⟩ : ∃ g, g = wd.heap.size := ⟨_, rfl⟩
  have HO0 := Lib.hid (show OwnK 49 kRt.cells 3 w.heap.size (wd.alloc (.cells #[] 49)) (.slice (some ⟨gE, 0, none⟩) 0 0) [] from by rw [hgE]; exact (ownK_empty kRt.cells 3 49 wd).mono BB.out.size)
  (first | have HNE := Lib.hid (show gE ≠ gL from by have h5 := XL.out.lt; omega) | skip)
  rw [← hgE]
  clear hgE
  replace BB := Lib.hid (BB.out.trans (hb.mono BB.out.size))
  clear hb
  generalize wd.alloc (.cells #[] 49) = wn1 at *
  clear hHeld
  refine hK.out _ _ ?_ (fun hHeld => ?_)
  ·
   (try dsimp only); exact ⟨kc K0.out BB.out, kc K1.out BB.out, kc K2.out BB.out⟩
  clear hK K
  (try simp only [Act.put, Row.pB0, Row.pB1, Row.pB2])
  refine wpAnyH_ready (rs := [4, 6]) (by kernel_rfl) (by simp) ?_
  refine AllReadyH.cons (o := ⟨some 49, .call ⟨.builtin .append, #[.tmp 45, .tmp 48], #[30, 30]⟩, 30, "l14_route.go:77", #[⟨0, .data⟩, ⟨3, .data⟩], none⟩) rfl (fun K hK => ?_) ?_
  ·
   refine step_appKv kindRt (B := w.heap.size) (v := .slice (some ⟨gE, 0, none⟩) 0 0) (l := []) (m := S.take k) rfl _ _ (by rfl) Try.underlying30 (by rfl) (by rfl) ?_ ?_ ?_ ?_ ?_ ?_
   ·
    with_reducible exact HO0.out
   ·
    exact (H_t.out.on BB.out)
   ·
    have h5 := HSL.out; have h7 := HNB.out; simp; omega
   ·
    have h5 := HSL.out; have h7 := HNB.out; unfold maxLen; simp; omega
   ·
    exact BB.out.size
   intro v1_ wn2 ho5 hg5
   obtain ⟨y1, m1, d1, rfl, -, -, ho5⟩ := ho5.shapeN
   have HO1 := Lib.hid ho5
   have hb5 : Below w.heap.size wn1 wn2 := (Below.refl _ _).grown hg5 BB.out.size (fun g e => (HO0.out.lt g e).1)
   (first | replace XL := Lib.hid (XL.out.grown hg5 (fun e => by cases e; exact HNE.out rfl)) | skip)
   replace BB := Lib.hid (BB.out.trans hb5)
   clear ho5 hg5 hb5
   clear hHeld
   refine hK.out _ _ ?_ (fun hHeld => ?_)
   ·
    (try dsimp only); exact ⟨kc K0.out BB.out, kc K1.out BB.out, kc K2.out BB.out⟩
   clear hK K
   (try simp only [Act.put, Row.pB0, Row.pB1, Row.pB2])
   refine wpAnyH_ready (rs := [6]) (by kernel_rfl) (by simp) ?_
   refine AllReadyH.cons (o := ⟨some 51, .buildSlice 30 1 #[(0, .tmp 50)], 30, "l14_route.go:77", #[⟨5, .data⟩], none⟩) rfl (fun K hK => ?_) AllReadyH.nil
   go_simp
   have hb : Below wn2.heap.size wn2 (wn2.alloc (.cells #[.slice ax an ac, .int .i64 rf, .int .i64 rc] 49)) := (Below.refl _ _).alloc (Nat.le_refl _) _
   obtain ⟨gL, hgL⟩ : ∃ g, g = wn2.heap.size := ⟨_, rfl⟩
   have XL := Lib.hid (show Ret.Blk (wn2.alloc (.cells #[.slice ax an ac, .int .i64 rf, .int .i64 rc] 49)) gL #[.slice ax an ac, .int .i64 rf, .int .i64 rc] 49 from by rw [hgL]; exact Ret.Blk.new wn2 _ _)
   (first | have HNE := Lib.hid (show gE ≠ gL from by have h5 := (HO0.out.lt gE rfl).2; omega) | skip)
   rw [← hgL]
   clear hgL
   replace HO1 := Lib.hid (HO1.out.on hb)
   replace BB := Lib.hid (BB.out.trans (hb.mono BB.out.size))
   clear hb
   generalize wn2.alloc (.cells #[.slice ax an ac, .int .i64 rf, .int .i64 rc] 49) = wn3 at *
   clear hHeld
   refine hK.out _ _ ?_ (fun hHeld => ?_)
   ·
    (try dsimp only); exact ⟨kc K0.out BB.out, kc K1.out BB.out, kc K2.out BB.out⟩
   clear hK K
   (try simp only [Act.put, Row.pB0, Row.pB1, Row.pB2])
   refine wpAnyH_ready (rs := [7]) (by kernel_rfl) (by simp) ?_
   refine AllReadyH.cons (o := ⟨some 52, .call ⟨.builtin .append, #[.tmp 49, .tmp 51], #[30, 30]⟩, 30, "l14_route.go:77", #[⟨4, .data⟩, ⟨6, .data⟩, ⟨4, .chain⟩], none⟩) rfl (fun K hK => ?_) AllReadyH.nil
   refine step_appKv kindRt (B := w.heap.size) (v := .slice y1 m1 d1) (l := ([] ++ S.take k)) (m := [((⟨ax, an, ac, ae⟩, rf, rc) : Rtm)]) rfl _ _ (by rfl) Try.underlying30 (by rfl) (by rfl) ?_ ?_ ?_ ?_ ?_ ?_
   ·
    with_reducible exact HO1.out
   ·
    exact holds_blkR (r := ((⟨ax, an, ac, ae⟩, rf, rc) : Rtm)) XL.out
   ·
    have h5 := HSL.out; have h7 := HNB.out; simp; omega
   ·
    have h5 := HSL.out; have h7 := HNB.out; unfold maxLen; simp; omega
   ·
    exact BB.out.size
   intro v2_ wn4 ho5 hg5
   obtain ⟨y2, m2, d2, rfl, -, -, ho5⟩ := ho5.shapeN
   have HO2 := Lib.hid ho5
   have hb5 : Below w.heap.size wn3 wn4 := (Below.refl _ _).grown hg5 BB.out.size (fun g e => (HO1.out.lt g e).1)
   replace BB := Lib.hid (BB.out.trans hb5)
   clear ho5 hg5 hb5
   clear hHeld
   refine hK.out _ _ ?_ (fun hHeld => ?_)
   ·
    (try dsimp only); exact ⟨kc K0.out BB.out, kc K1.out BB.out, kc K2.out BB.out⟩
   clear hK K
   (try simp only [Act.put, Row.pB0, Row.pB1, Row.pB2])
   refine wpAnyH_ready (rs := [11]) (by kernel_rfl) (by simp) ?_
   refine AllReadyH.cons (o := ⟨some 56, .call ⟨.builtin .append, #[.tmp 52, .tmp 55], #[30, 30]⟩, 30, "l14_route.go:77", #[⟨7, .data⟩, ⟨10, .data⟩, ⟨7, .chain⟩], none⟩) rfl (fun K hK => ?_) AllReadyH.nil
   refine step_appKv kindRt (B := w.heap.size) (v := .slice y2 m2 d2) (l := (([] ++ S.take k) ++ [((⟨ax, an, ac, ae⟩, rf, rc) : Rtm)])) (m := S.drop k) rfl _ _ (by rfl) Try.underlying30 (by rfl) (by rfl) ?_ ?_ ?_ ?_ ?_ ?_
   ·
    with_reducible exact HO2.out
   ·
    exact (H_d.out.on BB.out)
   ·
    have h5 := HSL.out; have h7 := HNB.out; simp; omega
   ·
    have h5 := HSL.out; have h7 := HNB.out; unfold maxLen; simp; omega
   ·
    exact BB.out.size
   intro v3_ wn5 ho5 hg5
   obtain ⟨y3, m3, d3, rfl, -, -, ho5⟩ := ho5.shapeN
   have HO3 := Lib.hid ho5
   have hb5 : Below w.heap.size wn4 wn5 := (Below.refl _ _).grown hg5 BB.out.size (fun g e => (HO2.out.lt g e).1)
   replace BB := Lib.hid (BB.out.trans hb5)
   clear ho5 hg5 hb5
   clear hHeld
   refine hK.out _ _ ?_ (fun hHeld => ?_)
   ·
    (try dsimp only); exact ⟨kc K0.out BB.out, kc K1.out BB.out, kc K2.out BB.out⟩
   clear hK K
   (try simp only [Act.put, Row.pB0, Row.pB1, Row.pB2])
   refine wpAnyH_take (i := 12) (oi := ⟨some 4, .assign (.tmp 56), 30, "l14_route.go:77", #[⟨11, .data⟩, ⟨11, .chain⟩, ⟨0, .phase⟩, ⟨1, .phase⟩, ⟨2, .phase⟩, ⟨3, .phase⟩, ⟨4, .phase⟩, ⟨5, .phase⟩, ⟨6, .phase⟩, ⟨7, .phase⟩, ⟨8, .phase⟩, ⟨9, .phase⟩, ⟨10, .phase⟩, ⟨11, .phase⟩], none⟩) (v := ?_) rfl (by kernel_rfl) (by kernel_rfl) (by kernel_rfl) (fun _ _ _ h => h) (Or.inl ⟨by rfl, ?_⟩) (by assumption) ?_
   rotate_left
   ·
    intro w' hSw; (try dsimp only at hSw); first | (go_simp; done) | (go_simp; with_reducible rfl)
   (try simp only [Act.put, Row.pB0, Row.pB1, Row.pB2])
   refine wpAnyH_done (by kernel_rfl) ?_ _
   exact NoPanic.normal (HQ.out _ _ _ _ _ _ _ _ _ _ _ _ y3 m3 d3 _ HO3 BB.out)
  refine AllReadyH.cons (o := ⟨some 51, .buildSlice 30 1 #[(0, .tmp 50)], 30, "l14_route.go:77", #[⟨5, .data⟩], none⟩) rfl (fun K hK => ?_) AllReadyH.nil
  go_simp
  have hb : Below wn1.heap.size wn1 (wn1.alloc (.cells #[.slice ax an ac, .int .i64 rf, .int .i64 rc] 49)) := (Below.refl _ _).alloc (Nat.le_refl _) _
  obtain ⟨gL, hgL⟩ : ∃ g, g = wn1.heap.size := ⟨_, rfl⟩
  have XL := Lib.hid (show Ret.Blk (wn1.alloc (.cells #[.slice ax an ac, .int .i64 rf, .int .i64 rc] 49)) gL #[.slice ax an ac, .int .i64 rf, .int .i64 rc] 49 from by rw [hgL]; exact Ret.Blk.new wn1 _ _)
  (first | have HNE := Lib.hid (show gE ≠ gL from by have h5 := (HO0.out.lt gE rfl).2; omega) | skip)
  rw [← hgL]
  clear hgL
  replace HO0 := Lib.hid (HO0.out.on hb)
  replace BB := Lib.hid (BB.out.trans (hb.mono BB.out.size))
  clear hb
  generalize wn1.alloc (.cells #[.slice ax an ac, .int .i64 rf, .int .i64 rc] 49) = wn6 at *
  clear hHeld
  refine hK.out _ _ ?_ (fun hHeld => ?_)
  ·
   (try dsimp only); exact ⟨kc K0.out BB.out, kc K1.out BB.out, kc K2.out BB.out⟩
  clear hK K
  (try simp only [Act.put, Row.pB0, Row.pB1, Row.pB2])
  refine wpAnyH_ready (rs := [4]) (by kernel_rfl) (by simp) ?_
  refine AllReadyH.cons (o := ⟨some 49, .call ⟨.builtin .append, #[.tmp 45, .tmp 48], #[30, 30]⟩, 30, "l14_route.go:77", #[⟨0, .data⟩, ⟨3, .data⟩], none⟩) rfl (fun K hK => ?_) AllReadyH.nil
  refine step_appKv kindRt (B := w.heap.size) (v := .slice (some ⟨gE, 0, none⟩) 0 0) (l := []) (m := S.take k) rfl _ _ (by rfl) Try.underlying30 (by rfl) (by rfl) ?_ ?_ ?_ ?_ ?_ ?_
  ·
   with_reducible exact HO0.out
  ·
   exact (H_t.out.on BB.out)
  ·
   have h5 := HSL.out; have h7 := HNB.out; simp; omega
  ·
   have h5 := HSL.out; have h7 := HNB.out; unfold maxLen; simp; omega
  ·
   exact BB.out.size
  intro v1_ wn7 ho5 hg5
  obtain ⟨y1, m1, d1, rfl, -, -, ho5⟩ := ho5.shapeN
  have HO1 := Lib.hid ho5
  have hb5 : Below w.heap.size wn6 wn7 := (Below.refl _ _).grown hg5 BB.out.size (fun g e => (HO0.out.lt g e).1)
  (first | replace XL := Lib.hid (XL.out.grown hg5 (fun e => by cases e; exact HNE.out rfl)) | skip)
  replace BB := Lib.hid (BB.out.trans hb5)
  clear ho5 hg5 hb5
  clear hHeld
  refine hK.out _ _ ?_ (fun hHeld => ?_)
  ·
   (try dsimp only); exact ⟨kc K0.out BB.out, kc K1.out BB.out, kc K2.out BB.out⟩
  clear hK K
  (try simp only [Act.put, Row.pB0, Row.pB1, Row.pB2])
  refine wpAnyH_ready (rs := [7]) (by kernel_rfl) (by simp) ?_
  refine AllReadyH.cons (o := ⟨some 52, .call ⟨.builtin .append, #[.tmp 49, .tmp 51], #[30, 30]⟩, 30, "l14_route.go:77", #[⟨4, .data⟩, ⟨6, .data⟩, ⟨4, .chain⟩], none⟩) rfl (fun K hK => ?_) AllReadyH.nil
  refine step_appKv kindRt (B := w.heap.size) (v := .slice y1 m1 d1) (l := ([] ++ S.take k)) (m := [((⟨ax, an, ac, ae⟩, rf, rc) : Rtm)]) rfl _ _ (by rfl) Try.underlying30 (by rfl) (by rfl) ?_ ?_ ?_ ?_ ?_ ?_
  ·
   with_reducible exact HO1.out
  ·
   exact holds_blkR (r := ((⟨ax, an, ac, ae⟩, rf, rc) : Rtm)) XL.out
  ·
   have h5 := HSL.out; have h7 := HNB.out; simp; omega
  ·
   have h5 := HSL.out; have h7 := HNB.out; unfold maxLen; simp; omega
  ·
   exact BB.out.size
  intro v2_ wn8 ho5 hg5
  obtain ⟨y2, m2, d2, rfl, -, -, ho5⟩ := ho5.shapeN
  have HO2 := Lib.hid ho5
  have hb5 : Below w.heap.size wn7 wn8 := (Below.refl _ _).grown hg5 BB.out.size (fun g e => (HO1.out.lt g e).1)
  replace BB := Lib.hid (BB.out.trans hb5)
  clear ho5 hg5 hb5
  clear hHeld
  refine hK.out _ _ ?_ (fun hHeld => ?_)
  ·
   (try dsimp only); exact ⟨kc K0.out BB.out, kc K1.out BB.out, kc K2.out BB.out⟩
  clear hK K
  (try simp only [Act.put, Row.pB0, Row.pB1, Row.pB2])
  refine wpAnyH_ready (rs := [11]) (by kernel_rfl) (by simp) ?_
  refine AllReadyH.cons (o := ⟨some 56, .call ⟨.builtin .append, #[.tmp 52, .tmp 55], #[30, 30]⟩, 30, "l14_route.go:77", #[⟨7, .data⟩, ⟨10, .data⟩, ⟨7, .chain⟩], none⟩) rfl (fun K hK => ?_) AllReadyH.nil
  refine step_appKv kindRt (B := w.heap.size) (v := .slice y2 m2 d2) (l := (([] ++ S.take k) ++ [((⟨ax, an, ac, ae⟩, rf, rc) : Rtm)])) (m := S.drop k) rfl _ _ (by rfl) Try.underlying30 (by rfl) (by rfl) ?_ ?_ ?_ ?_ ?_ ?_
  ·
   with_reducible exact HO2.out
  ·
   exact (H_d.out.on BB.out)
  ·
   have h5 := HSL.out; have h7 := HNB.out; simp; omega
  ·
   have h5 := HSL.out; have h7 := HNB.out; unfold maxLen; simp; omega
  ·
   exact BB.out.size
  intro v3_ wn9 ho5 hg5
  obtain ⟨y3, m3, d3, rfl, -, -, ho5⟩ := ho5.shapeN
  have HO3 := Lib.hid ho5
  have hb5 : Below w.heap.size wn8 wn9 := (Below.refl _ _).grown hg5 BB.out.size (fun g e => (HO2.out.lt g e).1)
  replace BB := Lib.hid (BB.out.trans hb5)
  clear ho5 hg5 hb5
  clear hHeld
  refine hK.out _ _ ?_ (fun hHeld => ?_)
  ·
   (try dsimp only); exact ⟨kc K0.out BB.out, kc K1.out BB.out, kc K2.out BB.out⟩
  clear hK K
  (try simp only [Act.put, Row.pB0, Row.pB1, Row.pB2])
  refine wpAnyH_take (i := 12) (oi := ⟨some 4, .assign (.tmp 56), 30, "l14_route.go:77", #[⟨11, .data⟩, ⟨11, .chain⟩, ⟨0, .phase⟩, ⟨1, .phase⟩, ⟨2, .phase⟩, ⟨3, .phase⟩, ⟨4, .phase⟩, ⟨5, .phase⟩, ⟨6, .phase⟩, ⟨7, .phase⟩, ⟨8, .phase⟩, ⟨9, .phase⟩, ⟨10, .phase⟩, ⟨11, .phase⟩], none⟩) (v := ?_) rfl (by kernel_rfl) (by kernel_rfl) (by kernel_rfl) (fun _ _ _ h => h) (Or.inl ⟨by rfl, ?_⟩) (by assumption) ?_
  rotate_left
  ·
   intro w' hSw; (try dsimp only at hSw); first | (go_simp; done) | (go_simp; with_reducible rfl)
  (try simp only [Act.put, Row.pB0, Row.pB1, Row.pB2])
  refine wpAnyH_done (by kernel_rfl) ?_ _
  exact NoPanic.normal (HQ.out _ _ _ _ _ _ _ _ _ _ _ _ y3 m3 d3 _ HO3 BB.out)
 refine AllReadyH.cons (o := ⟨some 51, .buildSlice 30 1 #[(0, .tmp 50)], 30, "l14_route.go:77", #[⟨5, .data⟩], none⟩) rfl (fun K hK => ?_) AllReadyH.nil
 go_simp
 have hb : Below wd.heap.size wd (wd.alloc (.cells #[.slice ax an ac, .int .i64 rf, .int .i64 rc] 49)) := (Below.refl _ _).alloc (Nat.le_refl _) _
 obtain ⟨gL, hgL⟩ : ∃ g, g = wd.heap.size := ⟨_, rfl⟩
 have XL := Lib.hid (show Ret.Blk (wd.alloc (.cells #[.slice ax an ac, .int .i64 rf, .int .i64 rc] 49)) gL #[.slice ax an ac, .int .i64 rf, .int .i64 rc] 49 from by rw [hgL]; exact Ret.Blk.new wd _ _)
 (first | have HNE := Lib.hid (show gE ≠ gL from by have h5 := (HO0.out.lt gE rfl).2; omega) | skip)
 rw [← hgL]
 clear hgL
 replace BB := Lib.hid (BB.out.trans (hb.mono BB.out.size))
 clear hb
 generalize wd.alloc (.cells #[.slice ax an ac, .int .i64 rf, .int .i64 rc] 49) = wn10 at *
 clear hHeld
 refine hK.out _ _ ?_ (fun hHeld => ?_)
 ·
  (try dsimp only); exact ⟨kc K0.out BB.out, kc K1.out BB.out, kc K2.out BB.out⟩
 clear hK K
 (try simp only [Act.put, Row.pB0, Row.pB1, Row.pB2])
 refine wpAnyH_ready (rs := [0]) (by kernel_rfl) (by simp) ?_
 refine AllReadyH.cons (o := ⟨some 45, .buildSlice 30 0 #[], 30, "l14_route.go:77", #[], none⟩) rfl (fun K hK => ?_) AllReadyH.nil
 go_simp
 have hb : Below wn10.heap.size wn10 (wn10.alloc (.cells #[] 49)) := (Below.refl _ _).alloc (Nat.le_refl _) _
 obtain ⟨gE, hgE⟩ : ∃ g, g = wn10.heap.size := ⟨_, rfl⟩
 have HO0 := Lib.hid (show OwnK 49 kRt.cells 3 w.heap.size (wn10.alloc (.cells #[] 49)) (.slice (some ⟨gE, 0, none⟩) 0 0) [] from by rw [hgE]; exact (ownK_empty kRt.cells 3 49 wn10).mono BB.out.size)
 (first | have HNE := Lib.hid (show gE ≠ gL from by have h5 := XL.out.lt; omega) | skip)
 rw [← hgE]
 clear hgE
 replace XL := Lib.hid (XL.out.on hb)
 replace BB := Lib.hid (BB.out.trans (hb.mono BB.out.size))
 clear hb
 generalize wn10.alloc (.cells #[] 49) = wn11 at *
 clear hHeld
 refine hK.out _ _ ?_ (fun hHeld => ?_)
 ·
  (try dsimp only); exact ⟨kc K0.out BB.out, kc K1.out BB.out, kc K2.out BB.out⟩
 clear hK K
 (try simp only [Act.put, Row.pB0, Row.pB1, Row.pB2])
 refine wpAnyH_ready (rs := [4]) (by kernel_rfl) (by simp) ?_
 refine AllReadyH.cons (o := ⟨some 49, .call ⟨.builtin .append, #[.tmp 45, .tmp 48], #[30, 30]⟩, 30, "l14_route.go:77", #[⟨0, .data⟩, ⟨3, .data⟩], none⟩) rfl (fun K hK => ?_) AllReadyH.nil
 refine step_appKv kindRt (B := w.heap.size) (v := .slice (some ⟨gE, 0, none⟩) 0 0) (l := []) (m := S.take k) rfl _ _ (by rfl) Try.underlying30 (by rfl) (by rfl) ?_ ?_ ?_ ?_ ?_ ?_
 ·
  with_reducible exact HO0.out
 ·
  exact (H_t.out.on BB.out)
 ·
  have h5 := HSL.out; have h7 := HNB.out; simp; omega
 ·
  have h5 := HSL.out; have h7 := HNB.out; unfold maxLen; simp; omega
 ·
  exact BB.out.size
 intro v1_ wn12 ho5 hg5
 obtain ⟨y1, m1, d1, rfl, -, -, ho5⟩ := ho5.shapeN
 have HO1 := Lib.hid ho5
 have hb5 : Below w.heap.size wn11 wn12 := (Below.refl _ _).grown hg5 BB.out.size (fun g e => (HO0.out.lt g e).1)
 (first | replace XL := Lib.hid (XL.out.grown hg5 (fun e => by cases e; exact HNE.out rfl)) | skip)
 replace BB := Lib.hid (BB.out.trans hb5)
 clear ho5 hg5 hb5
 clear hHeld
 refine hK.out _ _ ?_ (fun hHeld => ?_)
 ·
  (try dsimp only); exact ⟨kc K0.out BB.out, kc K1.out BB.out, kc K2.out BB.out⟩
 clear hK K
 (try simp only [Act.put, Row.pB0, Row.pB1, Row.pB2])
 refine wpAnyH_ready (rs := [7]) (by kernel_rfl) (by simp) ?_
 refine AllReadyH.cons (o := ⟨some 52, .call ⟨.builtin .append, #[.tmp 49, .tmp 51], #[30, 30]⟩, 30, "l14_route.go:77", #[⟨4, .data⟩, ⟨6, .data⟩, ⟨4, .chain⟩], none⟩) rfl (fun K hK => ?_) AllReadyH.nil
 refine step_appKv kindRt (B := w.heap.size) (v := .slice y1 m1 d1) (l := ([] ++ S.take k)) (m := [((⟨ax, an, ac, ae⟩, rf, rc) : Rtm)]) rfl _ _ (by rfl) Try.underlying30 (by rfl) (by rfl) ?_ ?_ ?_ ?_ ?_ ?_
 ·
  with_reducible exact HO1.out
 ·
  exact holds_blkR (r := ((⟨ax, an, ac, ae⟩, rf, rc) : Rtm)) XL.out
 ·
  have h5 := HSL.out; have h7 := HNB.out; simp; omega
 ·
  have h5 := HSL.out; have h7 := HNB.out; unfold maxLen; simp; omega
 ·
  exact BB.out.size
 intro v2_ wn13 ho5 hg5
 obtain ⟨y2, m2, d2, rfl, -, -, ho5⟩ := ho5.shapeN
 have HO2 := Lib.hid ho5
 have hb5 : Below w.heap.size wn12 wn13 := (Below.refl _ _).grown hg5 BB.out.size (fun g e => (HO1.out.lt g e).1)
 replace BB := Lib.hid (BB.out.trans hb5)
 clear ho5 hg5 hb5
 clear hHeld
 refine hK.out _ _ ?_ (fun hHeld => ?_)
 ·
  (try dsimp only); exact ⟨kc K0.out BB.out, kc K1.out BB.out, kc K2.out BB.out⟩
 clear hK K
 (try simp only [Act.put, Row.pB0, Row.pB1, Row.pB2])
 refine wpAnyH_ready (rs := [11]) (by kernel_rfl) (by simp) ?_
 refine AllReadyH.cons (o := ⟨some 56, .call ⟨.builtin .append, #[.tmp 52, .tmp 55], #[30, 30]⟩, 30, "l14_route.go:77", #[⟨7, .data⟩, ⟨10, .data⟩, ⟨7, .chain⟩], none⟩) rfl (fun K hK => ?_) AllReadyH.nil
 refine step_appKv kindRt (B := w.heap.size) (v := .slice y2 m2 d2) (l := (([] ++ S.take k) ++ [((⟨ax, an, ac, ae⟩, rf, rc) : Rtm)])) (m := S.drop k) rfl _ _ (by rfl) Try.underlying30 (by rfl) (by rfl) ?_ ?_ ?_ ?_ ?_ ?_
 ·
  with_reducible exact HO2.out
 ·
  exact (H_d.out.on BB.out)
 ·
  have h5 := HSL.out; have h7 := HNB.out; simp; omega
 ·
  have h5 := HSL.out; have h7 := HNB.out; unfold maxLen; simp; omega
 ·
  exact BB.out.size
 intro v3_ wn14 ho5 hg5
 obtain ⟨y3, m3, d3, rfl, -, -, ho5⟩ := ho5.shapeN
 have HO3 := Lib.hid ho5
 have hb5 : Below w.heap.size wn13 wn14 := (Below.refl _ _).grown hg5 BB.out.size (fun g e => (HO2.out.lt g e).1)
 replace BB := Lib.hid (BB.out.trans hb5)
 clear ho5 hg5 hb5
 clear hHeld
 refine hK.out _ _ ?_ (fun hHeld => ?_)
 ·
  (try dsimp only); exact ⟨kc K0.out BB.out, kc K1.out BB.out, kc K2.out BB.out⟩
 clear hK K
 (try simp only [Act.put, Row.pB0, Row.pB1, Row.pB2])
 refine wpAnyH_take (i := 12) (oi := ⟨some 4, .assign (.tmp 56), 30, "l14_route.go:77", #[⟨11, .data⟩, ⟨11, .chain⟩, ⟨0, .phase⟩, ⟨1, .phase⟩, ⟨2, .phase⟩, ⟨3, .phase⟩, ⟨4, .phase⟩, ⟨5, .phase⟩, ⟨6, .phase⟩, ⟨7, .phase⟩, ⟨8, .phase⟩, ⟨9, .phase⟩, ⟨10, .phase⟩, ⟨11, .phase⟩], none⟩) (v := ?_) rfl (by kernel_rfl) (by kernel_rfl) (by kernel_rfl) (fun _ _ _ h => h) (Or.inl ⟨by rfl, ?_⟩) (by assumption) ?_
 rotate_left
 ·
  intro w' hSw; (try dsimp only at hSw); first | (go_simp; done) | (go_simp; with_reducible rfl)
 (try simp only [Act.put, Row.pB0, Row.pB1, Row.pB2])
 refine wpAnyH_done (by kernel_rfl) ?_ _
 exact NoPanic.normal (HQ.out _ _ _ _ _ _ _ _ _ _ _ _ y3 m3 d3 _ HO3 BB.out)
end Go.Proofs.Ytdaahcaafdleaab.Row
/- l14Put: the model puts a route among sorted ones. No conditions but that lengths fit. -/
namespace Go.Proofs.Ytdaahcaafdleaab.Row
open Go.ChangeShapes Go.WideShapes Go.ChangeAt Go.RowKit Go.Instr
set_option linter.unusedVariables false
set_option maxRecDepth 100000
set_option maxHeartbeats 8000000 in
theorem sPutRt (b off n c : Nat) (S : List Rtm) (r : Rtm) (w : World) (h : HoldsK kRt.cells 3 w (.slice (some ⟨b, off, none⟩) n c) S) (hl : n ≤ 1200000) (hs : (S.map kRt.strip).Pairwise (fun a b => leRt a b = true)) :
    Calls Try.prog 24 #[.slice (some ⟨b, off, none⟩) n c, .agg (kRt.cells r).toArray] w fun e w' => ∃ g n' c' S', e = .returned (.slice (some ⟨g, 0, none⟩) n' c') ∧ OwnK 49 kRt.cells 3 w.heap.size w' (.slice (some ⟨g, 0, none⟩) n' c') S' ∧ S'.map kRt.strip = putRt (kRt.strip r) (S.map kRt.strip) ∧ Below w.heap.size w w' := by
  obtain ⟨⟨ax, an, ac, ae⟩, rf, rc⟩ := r
  obtain ⟨nm, hnm⟩ : ∃ nm, kRt.strip (⟨ax, an, ac, ae⟩, rf, rc) = (nm, rf, rc) := ⟨_, rfl⟩
  rw [hnm]
  have hnl := h.lenEq
  have hnc : n ≤ c := by obtain ⟨x', n', cap', hv, hn', hc', -⟩ := h.shapeN; cases hv; exact hc'
  show Calls Try.prog 24 #[.slice (some ⟨b, off, none⟩) n c, .agg #[.slice ax an ac, .int .i64 rf, .int .i64 rc]] w _
  have HSR := Lib.hid hnm
  have HX := Lib.hid (Ret.Blk.new w #[.slice ax an ac, .int .i64 rf, .int .i64 rc] 49)
  have HB := Lib.hid ((Below.refl w.heap.size w).alloc (Nat.le_refl _) (.cells #[.slice ax an ac, .int .i64 rf, .int .i64 rc] 49))
  have HH := Lib.hid h; have HS := Lib.hid hs; have HSL := Lib.hid hnl.symm
  clear h hs hnl hnm
  go_enter Try.func24, Try.ntmps24
  go_wp2
  go_loopw [5] (fun iv wr => ∃ k : Nat, k ≤ n ∧ iv = .int .i64 k ∧ (∀ j, k ≤ j → j < n → leRt (nth (S.map kRt.strip) j) (nm, rf, rc) = false) ∧ Hid (Ret.Blk wr w.heap.size #[.slice ax an ac, .int .i64 rf, .int .i64 rc] 49) ∧ Hid (Below w.heap.size w wr)) (fun iv _ => (intOf iv).toNat)
  case atStart => exact ⟨n, Nat.le_refl _, rfl, fun j h1 h2 => absurd h2 (by omega), HX, HB⟩
  case round =>
    clear HX HB
    obtain ⟨k, hk, rfl, hno, hx, hb⟩ := hrel
    by_cases h0 : k = 0
    · subst h0
      go_wp2_with fail
      refine rpu0 ?_
      intro u8 u9 u10 u11 u12 u13 u14 u15 u16 u17 u18 u19 u20 u21 u22 u23 u24 u25 u26 u27 u28 u29 u30 u31 u32 u33 u34 u35 u36 u37 u38 u39 u40 u41 wx hbx
      replace hx := Lib.hid (hx.out.on hbx); replace hb := Lib.hid (hb.out.trans (hbx.mono hb.out.size))
      clear hbx
      have HT := Lib.hid ((HH.out.on hb.out).take szRt_cells (i := 0) (by have := HSL.out; omega))
      have HD := Lib.hid (holds_restR (i := 0) (HH.out.on hb.out) (by have := HSL.out; omega))
      have HPU := Lib.hid (show putRt (nm, rf, rc) (S.map kRt.strip) = (S.map kRt.strip).take 0 ++ [(nm, rf, rc)] ++ (S.map kRt.strip).drop 0 from putRt_at (by rw [List.length_map, HSL.out]; exact hk) HS.out (fun h9 => absurd h9 (by omega)) (fun j h1 h2 => hno j h1 (by rw [List.length_map, HSL.out] at h2; exact h2)))
      clear hno
      go_wp2_with fail
      refine rpt (S := S) (ae := ae) hk (by omega) hnc (by omega) HT HD HSL (Lib.hid ⟨hl, hk⟩) (Lib.hid (hx.out.cell 0)) (Lib.hid (hx.out.cell 1)) (Lib.hid (hx.out.cell 2)) ?_
      intro u45 u46 u47 u48 u49 u50 u51 u52 u53 u54 u55 u56 x4 n4 c4 wx ho hbx
      have HO := Lib.hid ho.out; have HB9 := Lib.hid (hb.out.trans (hbx.mono hb.out.size)); have HBS := Lib.hid hb.out.size
      clear ho hbx
      rcases HO.out.form with ⟨-, hL⟩ | ⟨g, cap', hv, -, -, -, -⟩
      · simp at hL
      · injection hv with e1 e2 e3
        subst e1; subst e2; subst e3
        go_wp2
        go_ret
        exact ⟨g, _, _, _, rfl, HO.out.mono HBS.out, by rw [HPU.out]; simp only [List.map_append, List.map_take, List.map_drop, List.nil_append, List.map_cons, List.map_nil]; rw [HSR.out], HB9.out⟩
    · have hk0 : 0 < k := by omega
      have hw : IntKind.i64.wrap ((k : Int) - 1) = ((k - 1 : Nat) : Int) := by rw [IntKind.wrap_i64]; omega
      have hdt : decide (0 < (k : Int)) = true := decide_eq_true (by omega)
      have hkS : k - 1 < S.length := by have := HSL.out; omega
      obtain ⟨b', off', e9, hcm⟩ := HH.out.at szRt_cells (j := k - 1) hkS
      cases e9
      obtain ⟨bx, bn, bc, be, f1, c1, he⟩ : ∃ bx bn bc be f1 c1, nth S (k - 1) = (⟨bx, bn, bc, be⟩, f1, c1) := ⟨_, _, _, _, _, _, rfl⟩
      obtain ⟨nm1, hnm1⟩ : ∃ nm1, kRt.strip (⟨bx, bn, bc, be⟩, f1, c1) = (nm1, f1, c1) := ⟨_, rfl⟩
      have HNT := Lib.hid (show nth (S.map kRt.strip) (k - 1) = (nm1, f1, c1) by rw [nth_map _ hkS, he, hnm1])
      have hq1 := hcm 1 (by decide)
      have hq2 := hcm 2 (by decide)
      rw [he] at hq1 hq2
      have K1 := Lib.hid (show wr.cell? ⟨b, off + (k - 1) * 3 + 1, none⟩ = some (.int .i64 f1) from by rw [show off + (k - 1) * 3 + 1 = off + ((k - 1) * 3 + 1) from by omega]; exact kc (hq1.trans rfl) hb.out)
      have K2 := Lib.hid (show wr.cell? ⟨b, off + (k - 1) * 3 + 2, none⟩ = some (.int .i64 c1) from by rw [show off + (k - 1) * 3 + 2 = off + ((k - 1) * 3 + 2) from by omega]; exact kc (hq2.trans rfl) hb.out)
      clear hcm he hnm1 hq1 hq2 hkS
      by_cases hc : rc < c1
      · have tc : decide (rc < c1) = true := decide_eq_true hc
        have hle : leRt (nth (S.map kRt.strip) (k - 1)) (nm, rf, rc) = false := by rw [HNT.out]; unfold leRt; simp; omega
        go_wp2_with fail
        refine rpu1 hk0 (by omega) (by omega) (by omega) hw hdt tc K2 (Lib.hid (hx.out.cell 2)) ?_
        intro u8 u9 u10 u11 u12 u13 u14 u15 u16 u17 u18 u19 u20 u21 u22 u23 u24 u25 u26 u27 u28 u29 u30 u31 u32 u33 u34 u35 u36 u37 u38 u39 u40 u41 wx hbx
        replace hx := Lib.hid (hx.out.on hbx); replace hb := Lib.hid (hb.out.trans (hbx.mono hb.out.size))
        clear hbx K1 K2 tc hc
        have hno2 : ∀ j, k - 1 ≤ j → j < n → leRt (nth (S.map kRt.strip) j) (nm, rf, rc) = false := fun j h1 h2 => by
          by_cases e : j = k - 1
          · subst e; exact hle
          · exact hno j (by omega) h2
        clear hno hle
        go_wp2
        go_roundw
        case rel => exact ⟨k - 1, by omega, by first | go_num | (rw [hw]), hno2, hx, hb⟩
        case measure => simp [intOf]; omega
      · have tc : decide (rc < c1) = false := decide_eq_false hc
        by_cases he : c1 = rc
        · have te : (c1 == rc) = true := by simp [he]
          obtain ⟨q, hq⟩ : ∃ q, decide (rf < f1) = q := ⟨_, rfl⟩
          go_wp2_with fail
          refine rpu3 hk0 (by omega) (by omega) (by omega) hw hdt tc te K2 (Lib.hid (hx.out.cell 2)) K1 (Lib.hid (hx.out.cell 1)) ?_
          intro u8 u9 u10 u11 u12 u13 u14 u15 u16 u17 u18 u19 u20 u21 u22 u23 u24 u25 u26 u27 u28 u29 u30 u31 u32 u33 u34 u35 u36 u37 u38 u39 u40 u41 wx hbx
          rw [hq]
          replace hx := Lib.hid (hx.out.on hbx); replace hb := Lib.hid (hb.out.trans (hbx.mono hb.out.size))
          clear hbx K1 K2 tc te
          cases q with
          | true =>
            have hle : leRt (nth (S.map kRt.strip) (k - 1)) (nm, rf, rc) = false := by rw [HNT.out]; unfold leRt; have := of_decide_eq_true hq; simp; omega
            clear hq hc he
            have hno2 : ∀ j, k - 1 ≤ j → j < n → leRt (nth (S.map kRt.strip) j) (nm, rf, rc) = false := fun j h1 h2 => by
              by_cases e : j = k - 1
              · subst e; exact hle
              · exact hno j (by omega) h2
            clear hno hle
            go_wp2
            go_roundw
            case rel => exact ⟨k - 1, by omega, by first | go_num | (rw [hw]), hno2, hx, hb⟩
            case measure => simp [intOf]; omega
          | false =>
            have hle : leRt (nth (S.map kRt.strip) (k - 1)) (nm, rf, rc) = true := by rw [HNT.out]; unfold leRt; have := of_decide_eq_false hq; simp; omega
            clear hq hc he
            have HT := Lib.hid ((HH.out.on hb.out).take szRt_cells (i := k) (by have := HSL.out; omega))
            have HD := Lib.hid (holds_restR (i := k) (HH.out.on hb.out) (by have := HSL.out; omega))
            have HPU := Lib.hid (show putRt (nm, rf, rc) (S.map kRt.strip) = (S.map kRt.strip).take k ++ [(nm, rf, rc)] ++ (S.map kRt.strip).drop k from putRt_at (by rw [List.length_map, HSL.out]; exact hk) HS.out (fun _ => hle) (fun j h1 h2 => hno j h1 (by rw [List.length_map, HSL.out] at h2; exact h2)))
            clear hno
            go_wp2_with fail
            refine rpt (S := S) (ae := ae) hk (by omega) hnc (by omega) HT HD HSL (Lib.hid ⟨hl, hk⟩) (Lib.hid (hx.out.cell 0)) (Lib.hid (hx.out.cell 1)) (Lib.hid (hx.out.cell 2)) ?_
            intro u45 u46 u47 u48 u49 u50 u51 u52 u53 u54 u55 u56 x4 n4 c4 wx ho hbx
            have HO := Lib.hid ho.out; have HB9 := Lib.hid (hb.out.trans (hbx.mono hb.out.size)); have HBS := Lib.hid hb.out.size
            clear ho hbx
            rcases HO.out.form with ⟨-, hL⟩ | ⟨g, cap', hv, -, -, -, -⟩
            · simp at hL
            · injection hv with e1 e2 e3
              subst e1; subst e2; subst e3
              go_wp2
              go_ret
              exact ⟨g, _, _, _, rfl, HO.out.mono HBS.out, by rw [HPU.out]; simp only [List.map_append, List.map_take, List.map_drop, List.nil_append, List.map_cons, List.map_nil]; rw [HSR.out], HB9.out⟩
        · have te : (c1 == rc) = false := by simpa using he
          have hle : leRt (nth (S.map kRt.strip) (k - 1)) (nm, rf, rc) = true := by rw [HNT.out]; unfold leRt; simp; omega
          go_wp2_with fail
          refine rpu2 hk0 (by omega) (by omega) (by omega) hw hdt tc te K2 (Lib.hid (hx.out.cell 2)) ?_
          intro u8 u9 u10 u11 u12 u13 u14 u15 u16 u17 u18 u19 u20 u21 u22 u23 u24 u25 u26 u27 u28 u29 u30 u31 u32 u33 u34 u35 u36 u37 u38 u39 u40 u41 wx hbx
          replace hx := Lib.hid (hx.out.on hbx); replace hb := Lib.hid (hb.out.trans (hbx.mono hb.out.size))
          clear hbx K1 K2 tc te hc he
          have HT := Lib.hid ((HH.out.on hb.out).take szRt_cells (i := k) (by have := HSL.out; omega))
          have HD := Lib.hid (holds_restR (i := k) (HH.out.on hb.out) (by have := HSL.out; omega))
          have HPU := Lib.hid (show putRt (nm, rf, rc) (S.map kRt.strip) = (S.map kRt.strip).take k ++ [(nm, rf, rc)] ++ (S.map kRt.strip).drop k from putRt_at (by rw [List.length_map, HSL.out]; exact hk) HS.out (fun _ => hle) (fun j h1 h2 => hno j h1 (by rw [List.length_map, HSL.out] at h2; exact h2)))
          clear hno
          go_wp2_with fail
          refine rpt (S := S) (ae := ae) hk (by omega) hnc (by omega) HT HD HSL (Lib.hid ⟨hl, hk⟩) (Lib.hid (hx.out.cell 0)) (Lib.hid (hx.out.cell 1)) (Lib.hid (hx.out.cell 2)) ?_
          intro u45 u46 u47 u48 u49 u50 u51 u52 u53 u54 u55 u56 x4 n4 c4 wx ho hbx
          have HO := Lib.hid ho.out; have HB9 := Lib.hid (hb.out.trans (hbx.mono hb.out.size)); have HBS := Lib.hid hb.out.size
          clear ho hbx
          rcases HO.out.form with ⟨-, hL⟩ | ⟨g, cap', hv, -, -, -, -⟩
          · simp at hL
          · injection hv with e1 e2 e3
            subst e1; subst e2; subst e3
            go_wp2
            go_ret
            exact ⟨g, _, _, _, rfl, HO.out.mono HBS.out, by rw [HPU.out]; simp only [List.map_append, List.map_take, List.map_drop, List.nil_append, List.map_cons, List.map_nil]; rw [HSR.out], HB9.out⟩
end Go.Proofs.Ytdaahcaafdleaab.Row
/- Routes compared as the program sorts them: the cost, then the face; the worlds are told exactly. No conditions. -/
namespace Go.Proofs.Ytdaahcaafdleaab.Row
open Go.ChangeShapes Go.WideShapes Go.ChangeAt Go.RowKit Go.Instr
set_option linter.unusedVariables false
set_option maxRecDepth 100000
theorem isNaNR (x : Int) (w : World) : Calls Try.prog 55 #[.int .i64 x] w fun e w' => e = .returned (.bool false) ∧ w' = w := by
  have t : (x != x) = false := by simp
  go_enter Try.func55, Try.ntmps55
  go_wp2
  go_ret
  exact ⟨rfl, rfl⟩
set_option maxHeartbeats 2000000 in
theorem compareR (x y z : Int) (hz : Lib.compareInt x y = z) (w : World) : Calls Try.prog 46 #[.int .i64 x, .int .i64 y] w fun e w' => e = .returned (.int .i64 z) ∧ w' = w := by
  have HZ := Lib.hid hz
  clear hz
  go_enter Try.func46, Try.ntmps46
  go_wp2_with fail
  refine (isNaNR x w).mono ?_
  rintro e w1 ⟨rfl, rfl⟩
  go_wp2_with fail
  refine (isNaNR y _).mono ?_
  rintro e w2 ⟨rfl, rfl⟩
  by_cases h1 : x < y
  · have t1 : decide (x < y) = true := decide_eq_true h1
    have HE := Lib.hid (show z = -1 by rw [← HZ.out]; unfold Lib.compareInt; rw [if_pos h1])
    clear h1
    go_wp2
    go_ret
    exact ⟨ret_int HE.out.symm, rfl⟩
  · have t1 : decide (x < y) = false := decide_eq_false h1
    by_cases h2 : y < x
    · have t2 : decide (y < x) = true := decide_eq_true h2
      have HE := Lib.hid (show z = 1 by rw [← HZ.out]; unfold Lib.compareInt; rw [if_neg h1, if_pos h2])
      clear h1 h2
      go_wp2
      go_ret
      exact ⟨ret_int HE.out.symm, rfl⟩
    · have t2 : decide (y < x) = false := decide_eq_false h2
      have HE := Lib.hid (show z = 0 by rw [← HZ.out]; unfold Lib.compareInt; rw [if_neg h1, if_neg h2])
      clear h1 h2
      go_wp2
      go_ret
      exact ⟨ret_int HE.out.symm, rfl⟩
def orI (a b : Int) : Int := if a = 0 then b else a
set_option maxHeartbeats 4000000 in
theorem orR (g n c : Nat) (hn : n = 2) (a b : Int) (w : World) (h0 : w.cell? ⟨g, 0, none⟩ = some (.int .i64 a)) (h1 : w.cell? ⟨g, 1, none⟩ = some (.int .i64 b)) (hc : 2 ≤ c) :
    Calls Try.prog 45 #[.slice (some ⟨g, 0, none⟩) n c] w fun e w' => e = .returned (.int .i64 (orI a b)) ∧ w' = w := by
  subst hn
  have H0 := Lib.hid h0; have H1 := Lib.hid h1
  clear h0 h1
  go_enter Try.func45, Try.ntmps45
  go_wp2
  go_loopw [8] (fun iv wr => ∃ k : Nat, k ≤ 2 ∧ iv = .int .i64 k ∧ wr = w ∧ (1 ≤ k → a = 0) ∧ (2 ≤ k → b = 0)) (fun iv _ => 2 - (intOf iv).toNat)
  case atStart => exact ⟨0, by omega, rfl, rfl, by omega, by omega⟩
  case round =>
    obtain ⟨k, hk, rfl, rfl, ha, hb⟩ := hrel
    match k, hk with
    | 0, _ =>
      have c0 := H0.out
      by_cases e : a = 0
      · have t : (a != 0) = false := by simp [e]
        clear ha hb
        go_wp2
        go_roundw
        case rel => exact ⟨0 + 1, by omega, by first | go_num | trivial, by first | rfl | trivial, by first | exact fun _ => e | trivial, by first | omega | trivial⟩
        case measure => simp [intOf]
      · have t : (a != 0) = true := by simp [e]
        have HE := Lib.hid (show orI a b = a by unfold orI; rw [if_neg e])
        clear ha hb e
        go_wp2
        go_ret
        exact ⟨ret_int HE.out.symm, rfl⟩
    | 1, _ =>
      have c0 := H1.out
      have hz := ha (by omega)
      by_cases e : b = 0
      · have t : (b != 0) = false := by simp [e]
        clear ha hb
        go_wp2
        go_roundw
        case rel => exact ⟨1 + 1, by omega, by first | go_num | trivial, by first | rfl | trivial, by first | exact fun _ => hz | trivial, by first | exact fun _ => e | trivial⟩
        case measure => simp [intOf]
      · have t : (b != 0) = true := by simp [e]
        have HE := Lib.hid (show orI a b = b by unfold orI; rw [if_pos hz])
        clear ha hb e hz
        go_wp2
        go_ret
        exact ⟨ret_int HE.out.symm, rfl⟩
    | 2, _ =>
      have HE := Lib.hid (show orI a b = 0 by unfold orI; rw [if_pos (ha (by omega)), hb (by omega)])
      clear ha hb
      go_wp2
      go_ret
      exact ⟨ret_int HE.out.symm, rfl⟩
def GrowD (w w' : World) : Prop := ∃ q os, w' = Go.Sort.grow (w.drewN q) os
theorem GrowD.refl (w : World) : GrowD w w := ⟨0, #[], by rw [Go.Sort.grow_empty]; rfl⟩
theorem GrowD.alloc {w W : World} (h : GrowD w W) (o : Obj) : GrowD w (W.alloc o) := by
  obtain ⟨q, os, rfl⟩ := h
  exact ⟨q, os ++ #[o], by rw [Go.Sort.alloc_eq_grow, Go.Sort.grow_grow]⟩
theorem GrowD.drew {w W : World} (h : GrowD w W) : GrowD w W.drew := by
  obtain ⟨q, os, rfl⟩ := h
  exact ⟨q + 1, os, rfl⟩
theorem GrowD.trans {w W Z : World} (h : GrowD w W) (g : GrowD W Z) : GrowD w Z := by
  obtain ⟨q, os, rfl⟩ := h
  obtain ⟨q', os', rfl⟩ := g
  exact ⟨q + q', os ++ os', by
    show Go.Sort.grow (Go.Sort.grow ((w.drewN q).drewN q') os) os' = _
    rw [Go.Sort.grow_grow]
    show Go.Sort.grow { w with drawn := w.drawn + q + q' } (os ++ os') = Go.Sort.grow { w with drawn := w.drawn + (q + q') } (os ++ os')
    rw [Nat.add_assoc]⟩
set_option maxRecDepth 100000 in
set_option maxHeartbeats 4000000 in
theorem rcr {Q : Exit → Act → World → Prop} {v0 v1 v4 v5 v6 v7 v8 v9 v10 v11 v12 v13 v14 v15 v16 : Value} {w : World} {p q : Nat} {c1 c2 f1 f2 : Int} (K0 : Hid (w.cell? ⟨p, 2, none⟩ = some (.int .i64 c1))) (K1 : Hid (w.cell? ⟨q, 2, none⟩ = some (.int .i64 c2))) (K2 : Hid (w.cell? ⟨p, 1, none⟩ = some (.int .i64 f1))) (K3 : Hid (w.cell? ⟨q, 1, none⟩ = some (.int .i64 f2)))
  (hQ : ∀ (u5 u6 u7 u8 u9 u10 u11 u12 u13 u14 u15 u16 : Value)  (wx : World), GrowD w wx → Below w.heap.size w wx → Q .normal ⟨#[v0, v1, .pointer (some ⟨p, 0, none⟩), .pointer (some ⟨q, 0, none⟩), .int .i64 (orI (Lib.compareInt c1 c2) (Lib.compareInt f1 f2)), u5, u6, u7, u8, u9, u10, u11, u12, u13, u14, u15, u16], []⟩ wx) :
  (Code.region 1 #[⟨some 5, .fieldAddr 49 (.tmp 2) 2, 0, "l14_route.go:115", #[], none⟩,
   ⟨some 6, .load 3 (.tmp 5), 3, "l14_route.go:115", #[⟨0, .data⟩], none⟩,
   ⟨some 7, .fieldAddr 49 (.tmp 3) 2, 0, "l14_route.go:115", #[], none⟩,
   ⟨some 8, .load 3 (.tmp 7), 3, "l14_route.go:115", #[⟨2, .data⟩], none⟩,
   ⟨some 9, .call ⟨.value (.func 46), #[.tmp 6, .tmp 8], #[3, 3]⟩, 3, "l14_route.go:115", #[⟨1, .data⟩, ⟨3, .data⟩], none⟩,
   ⟨some 10, .fieldAddr 49 (.tmp 2) 1, 0, "l14_route.go:115", #[], none⟩,
   ⟨some 11, .load 3 (.tmp 10), 3, "l14_route.go:115", #[⟨5, .data⟩], none⟩,
   ⟨some 12, .fieldAddr 49 (.tmp 3) 1, 0, "l14_route.go:115", #[], none⟩,
   ⟨some 13, .load 3 (.tmp 12), 3, "l14_route.go:115", #[⟨7, .data⟩], none⟩,
   ⟨some 14, .call ⟨.value (.func 46), #[.tmp 11, .tmp 13], #[3, 3]⟩, 3, "l14_route.go:115", #[⟨6, .data⟩, ⟨8, .data⟩, ⟨4, .chain⟩], none⟩,
   ⟨some 15, .buildSlice 28 2 #[(0, .tmp 9), (1, .tmp 14)], 28, "l14_route.go:115", #[⟨4, .data⟩, ⟨9, .data⟩], none⟩,
   ⟨some 16, .call ⟨.value (.func 45), #[.tmp 15], #[28]⟩, 3, "l14_route.go:115", #[⟨10, .data⟩, ⟨9, .chain⟩], none⟩,
   ⟨some 4, .assign (.tmp 16), 3, "l14_route.go:115", #[⟨11, .data⟩, ⟨11, .chain⟩, ⟨0, .phase⟩, ⟨1, .phase⟩, ⟨2, .phase⟩, ⟨3, .phase⟩, ⟨4, .phase⟩, ⟨5, .phase⟩, ⟨6, .phase⟩, ⟨7, .phase⟩, ⟨8, .phase⟩, ⟨9, .phase⟩, ⟨10, .phase⟩, ⟨11, .phase⟩], none⟩] true).wp Try.prog Q ⟨#[v0, v1, .pointer (some ⟨p, 0, none⟩), .pointer (some ⟨q, 0, none⟩), v4, v5, v6, v7, v8, v9, v10, v11, v12, v13, v14, v15, v16], []⟩ w := by
 have HQ := Lib.hid hQ; clear hQ
 have hdr : Below w.heap.size w w.drew := (Below.refl _ _).drew
 have GD := Lib.hid (show GrowD w w.drew from (GrowD.refl w).drew)
 have BB := Lib.hid hdr
 refine wp_region_noPanic ?_
 refine wp_region_held_drew (S := (fun w' => w'.cell? ⟨p, 2, none⟩ = some (.int .i64 c1) ∧ w'.cell? ⟨q, 2, none⟩ = some (.int .i64 c2) ∧ w'.cell? ⟨p, 1, none⟩ = some (.int .i64 f1) ∧ w'.cell? ⟨q, 1, none⟩ = some (.int .i64 f2))) (by kernel_rfl) ?_ (fun hHeld => ?_)
 ·
  exact ⟨kc K0.out BB.out, kc K1.out BB.out, kc K2.out BB.out, kc K3.out BB.out⟩
 clear hdr
 generalize w.drew = wd at *
 refine wpAnyH_take (i := 0) (oi := ⟨some 5, .fieldAddr 49 (.tmp 2) 2, 0, "l14_route.go:115", #[], none⟩) (v := ?_) rfl (by kernel_rfl) (by kernel_rfl) (by kernel_rfl) (fun _ _ _ h => h) (Or.inl ⟨by rfl, ?_⟩) (by assumption) ?_
 rotate_left
 ·
  intro w' hSw; (try dsimp only at hSw); first | (go_simp; done) | (go_simp; with_reducible rfl)
 (try simp only [Act.put, Row.pB0, Row.pB1, Row.pB2])
 refine wpAnyH_take (i := 1) (oi := ⟨some 6, .load 3 (.tmp 5), 3, "l14_route.go:115", #[⟨0, .data⟩], none⟩) (v := ?_) rfl (by kernel_rfl) (by kernel_rfl) (by kernel_rfl) (fun _ _ _ h => h) (Or.inl ⟨by rfl, ?_⟩) (by assumption) ?_
 rotate_left
 ·
  intro w' hSw; (try dsimp only at hSw); first | (go_simp; done) | (go_simp; with_reducible rfl)
 (try simp only [Act.put, Row.pB0, Row.pB1, Row.pB2])
 refine wpAnyH_take (i := 2) (oi := ⟨some 7, .fieldAddr 49 (.tmp 3) 2, 0, "l14_route.go:115", #[], none⟩) (v := ?_) rfl (by kernel_rfl) (by kernel_rfl) (by kernel_rfl) (fun _ _ _ h => h) (Or.inl ⟨by rfl, ?_⟩) (by assumption) ?_
 rotate_left
 ·
  intro w' hSw; (try dsimp only at hSw); first | (go_simp; done) | (go_simp; with_reducible rfl)
 (try simp only [Act.put, Row.pB0, Row.pB1, Row.pB2])
 refine wpAnyH_take (i := 3) (oi := ⟨some 8, .load 3 (.tmp 7), 3, "l14_route.go:115", #[⟨2, .data⟩], none⟩) (v := ?_) rfl (by kernel_rfl) (by kernel_rfl) (by kernel_rfl) (fun _ _ _ h => h) (Or.inl ⟨by rfl, ?_⟩) (by assumption) ?_
 rotate_left
 ·
  intro w' hSw; (try dsimp only at hSw); first | (go_simp; done) | (go_simp; with_reducible rfl)
 (try simp only [Act.put, Row.pB0, Row.pB1, Row.pB2])
 refine wpAnyH_take (i := 5) (oi := ⟨some 10, .fieldAddr 49 (.tmp 2) 1, 0, "l14_route.go:115", #[], none⟩) (v := ?_) rfl (by kernel_rfl) (by kernel_rfl) (by kernel_rfl) (fun _ _ _ h => h) (Or.inl ⟨by rfl, ?_⟩) (by assumption) ?_
 rotate_left
 ·
  intro w' hSw; (try dsimp only at hSw); first | (go_simp; done) | (go_simp; with_reducible rfl)
 (try simp only [Act.put, Row.pB0, Row.pB1, Row.pB2])
 refine wpAnyH_take (i := 6) (oi := ⟨some 11, .load 3 (.tmp 10), 3, "l14_route.go:115", #[⟨5, .data⟩], none⟩) (v := ?_) rfl (by kernel_rfl) (by kernel_rfl) (by kernel_rfl) (fun _ _ _ h => h) (Or.inl ⟨by rfl, ?_⟩) (by assumption) ?_
 rotate_left
 ·
  intro w' hSw; (try dsimp only at hSw); first | (go_simp; done) | (go_simp; with_reducible rfl)
 (try simp only [Act.put, Row.pB0, Row.pB1, Row.pB2])
 refine wpAnyH_take (i := 7) (oi := ⟨some 12, .fieldAddr 49 (.tmp 3) 1, 0, "l14_route.go:115", #[], none⟩) (v := ?_) rfl (by kernel_rfl) (by kernel_rfl) (by kernel_rfl) (fun _ _ _ h => h) (Or.inl ⟨by rfl, ?_⟩) (by assumption) ?_
 rotate_left
 ·
  intro w' hSw; (try dsimp only at hSw); first | (go_simp; done) | (go_simp; with_reducible rfl)
 (try simp only [Act.put, Row.pB0, Row.pB1, Row.pB2])
 refine wpAnyH_take (i := 8) (oi := ⟨some 13, .load 3 (.tmp 12), 3, "l14_route.go:115", #[⟨7, .data⟩], none⟩) (v := ?_) rfl (by kernel_rfl) (by kernel_rfl) (by kernel_rfl) (fun _ _ _ h => h) (Or.inl ⟨by rfl, ?_⟩) (by assumption) ?_
 rotate_left
 ·
  intro w' hSw; (try dsimp only at hSw); first | (go_simp; done) | (go_simp; with_reducible rfl)
 (try simp only [Act.put, Row.pB0, Row.pB1, Row.pB2])
 refine wpAnyH_ready (rs := [4]) (by kernel_rfl) (by simp) ?_
 refine AllReadyH.cons (o := ⟨some 9, .call ⟨.value (.func 46), #[.tmp 6, .tmp 8], #[3, 3]⟩, 3, "l14_route.go:115", #[⟨1, .data⟩, ⟨3, .data⟩], none⟩) rfl (fun K hK => ?_) AllReadyH.nil
 go_simp
 refine (compareR c1 c2 _ rfl _).mono ?_
 rintro e wn1 ⟨rfl, hw⟩
 have hb : Below wd.heap.size wd wn1 := by rw [hw]; exact Below.refl _ _
 have HGN : GrowD w wn1 := by rw [hw]; exact GD.out
 replace GD := Lib.hid HGN; clear HGN hw
 replace BB := Lib.hid (BB.out.trans (hb.mono BB.out.size))
 clear hb
 (try go_wp2_with fail)
 clear hHeld
 refine hK.out _ _ ?_ (fun hHeld => ?_)
 ·
  (try dsimp only); exact ⟨kc K0.out BB.out, kc K1.out BB.out, kc K2.out BB.out, kc K3.out BB.out⟩
 clear hK K
 (try simp only [Act.put, Row.pB0, Row.pB1, Row.pB2])
 refine wpAnyH_ready (rs := [9]) (by kernel_rfl) (by simp) ?_
 refine AllReadyH.cons (o := ⟨some 14, .call ⟨.value (.func 46), #[.tmp 11, .tmp 13], #[3, 3]⟩, 3, "l14_route.go:115", #[⟨6, .data⟩, ⟨8, .data⟩, ⟨4, .chain⟩], none⟩) rfl (fun K hK => ?_) AllReadyH.nil
 go_simp
 refine (compareR f1 f2 _ rfl _).mono ?_
 rintro e wn2 ⟨rfl, hw⟩
 have hb : Below wn1.heap.size wn1 wn2 := by rw [hw]; exact Below.refl _ _
 have HGN : GrowD w wn2 := by rw [hw]; exact GD.out
 replace GD := Lib.hid HGN; clear HGN hw
 replace BB := Lib.hid (BB.out.trans (hb.mono BB.out.size))
 clear hb
 (try go_wp2_with fail)
 clear hHeld
 refine hK.out _ _ ?_ (fun hHeld => ?_)
 ·
  (try dsimp only); exact ⟨kc K0.out BB.out, kc K1.out BB.out, kc K2.out BB.out, kc K3.out BB.out⟩
 clear hK K
 (try simp only [Act.put, Row.pB0, Row.pB1, Row.pB2])
 refine wpAnyH_ready (rs := [10]) (by kernel_rfl) (by simp) ?_
 refine AllReadyH.cons (o := ⟨some 15, .buildSlice 28 2 #[(0, .tmp 9), (1, .tmp 14)], 28, "l14_route.go:115", #[⟨4, .data⟩, ⟨9, .data⟩], none⟩) rfl (fun K hK => ?_) AllReadyH.nil
 go_simp
 have hb : Below wn2.heap.size wn2 (wn2.alloc (.cells #[.int .i64 (Lib.compareInt c1 c2), .int .i64 (Lib.compareInt f1 f2)] 3)) := (Below.refl _ _).alloc (Nat.le_refl _) _
 replace GD := Lib.hid (GD.out.alloc (.cells #[.int .i64 (Lib.compareInt c1 c2), .int .i64 (Lib.compareInt f1 f2)] 3))
 obtain ⟨gE, hgE⟩ : ∃ g, g = wn2.heap.size := ⟨_, rfl⟩
 have XB := Lib.hid (show Ret.Blk (wn2.alloc (.cells #[.int .i64 (Lib.compareInt c1 c2), .int .i64 (Lib.compareInt f1 f2)] 3)) gE _ _ from by rw [hgE]; exact Ret.Blk.new wn2 _ _)
 rw [← hgE]
 clear hgE
 replace BB := Lib.hid (BB.out.trans (hb.mono BB.out.size))
 clear hb
 generalize wn2.alloc (.cells #[.int .i64 (Lib.compareInt c1 c2), .int .i64 (Lib.compareInt f1 f2)] 3) = wn3 at *
 clear hHeld
 refine hK.out _ _ ?_ (fun hHeld => ?_)
 ·
  (try dsimp only); exact ⟨kc K0.out BB.out, kc K1.out BB.out, kc K2.out BB.out, kc K3.out BB.out⟩
 clear hK K
 (try simp only [Act.put, Row.pB0, Row.pB1, Row.pB2])
 refine wpAnyH_ready (rs := [11]) (by kernel_rfl) (by simp) ?_
 refine AllReadyH.cons (o := ⟨some 16, .call ⟨.value (.func 45), #[.tmp 15], #[28]⟩, 3, "l14_route.go:115", #[⟨10, .data⟩, ⟨9, .chain⟩], none⟩) rfl (fun K hK => ?_) AllReadyH.nil
 go_simp
 refine (orR gE 2 2 rfl _ _ _ (XB.out.cell 0) (XB.out.cell 1) (by omega)).mono ?_
 rintro e wn4 ⟨rfl, hw⟩
 have hb : Below wn3.heap.size wn3 wn4 := by rw [hw]; exact Below.refl _ _
 have HGN : GrowD w wn4 := by rw [hw]; exact GD.out
 replace GD := Lib.hid HGN; clear HGN hw
 replace XB := Lib.hid (XB.out.on hb)
 replace BB := Lib.hid (BB.out.trans (hb.mono BB.out.size))
 clear hb
 (try go_wp2_with fail)
 clear hHeld
 refine hK.out _ _ ?_ (fun hHeld => ?_)
 ·
  (try dsimp only); exact ⟨kc K0.out BB.out, kc K1.out BB.out, kc K2.out BB.out, kc K3.out BB.out⟩
 clear hK K
 (try simp only [Act.put, Row.pB0, Row.pB1, Row.pB2])
 refine wpAnyH_take (i := 12) (oi := ⟨some 4, .assign (.tmp 16), 3, "l14_route.go:115", #[⟨11, .data⟩, ⟨11, .chain⟩, ⟨0, .phase⟩, ⟨1, .phase⟩, ⟨2, .phase⟩, ⟨3, .phase⟩, ⟨4, .phase⟩, ⟨5, .phase⟩, ⟨6, .phase⟩, ⟨7, .phase⟩, ⟨8, .phase⟩, ⟨9, .phase⟩, ⟨10, .phase⟩, ⟨11, .phase⟩], none⟩) (v := ?_) rfl (by kernel_rfl) (by kernel_rfl) (by kernel_rfl) (fun _ _ _ h => h) (Or.inl ⟨by rfl, ?_⟩) (by assumption) ?_
 rotate_left
 ·
  intro w' hSw; (try dsimp only at hSw); first | (go_simp; done) | (go_simp; with_reducible rfl)
 (try simp only [Act.put, Row.pB0, Row.pB1, Row.pB2])
 refine wpAnyH_done (by kernel_rfl) ?_ _
 exact NoPanic.normal (HQ.out _ _ _ _ _ _ _ _ _ _ _ _  _ GD.out BB.out)
def cfRt (x y : Rtm) : Int := orI (Lib.compareInt x.2.2 y.2.2) (Lib.compareInt x.2.1 y.2.1)
set_option maxHeartbeats 4000000 in
theorem cmpRt (x y : Rtm) (w : World) : Calls Try.prog 30 #[.agg (kRt.cells x).toArray, .agg (kRt.cells y).toArray] w fun e w' => e = .returned (.int .i64 (cfRt x y)) ∧ GrowD w w' := by
  obtain ⟨⟨x0, n0, d0, L0⟩, f1, c1⟩ := x
  obtain ⟨⟨x1, n1, d1, L1⟩, f2, c2⟩ := y
  show Calls Try.prog 30 #[.agg #[.slice x0 n0 d0, .int .i64 f1, .int .i64 c1], .agg #[.slice x1 n1 d1, .int .i64 f2, .int .i64 c2]] w _
  have g1 := (GrowD.refl w).alloc (.cells #[.slice x0 n0 d0, .int .i64 f1, .int .i64 c1] 49)
  have G2 := Lib.hid (g1.alloc (.cells #[.slice x1 n1 d1, .int .i64 f2, .int .i64 c2] 49))
  have X0 := Lib.hid ((Ret.Blk.new w #[.slice x0 n0 d0, .int .i64 f1, .int .i64 c1] 49).on ((Below.refl _ _).alloc (Nat.le_refl _) (.cells #[.slice x1 n1 d1, .int .i64 f2, .int .i64 c2] 49)))
  have X1 := Lib.hid (Ret.Blk.new' (w := w.alloc (.cells #[.slice x0 n0 d0, .int .i64 f1, .int .i64 c1] 49)) (n := w.heap.size + 1) #[.slice x1 n1 d1, .int .i64 f2, .int .i64 c2] 49 (by simp))
  clear g1
  go_enter Try.func30, Try.ntmps30
  go_wp2_with fail
  refine rcr (Lib.hid (X0.out.cell 2)) (Lib.hid (X1.out.cell 2)) (Lib.hid (X0.out.cell 1)) (Lib.hid (X1.out.cell 1)) ?_
  intro u5 u6 u7 u8 u9 u10 u11 u12 u13 u14 u15 u16 wx hg hbx
  have HG := Lib.hid (G2.out.trans hg)
  clear hg hbx
  go_wp2
  go_ret
  exact ⟨rfl, HG.out⟩
theorem ltRt (x y : Rtm) : Go.Proofs.ltOf cfRt x y = !leRt (kRt.strip y) (kRt.strip x) := by
  obtain ⟨m, f, c⟩ := x
  obtain ⟨m', f', c'⟩ := y
  show decide (orI (Lib.compareInt c c') (Lib.compareInt f f') < 0) = !(decide (c' < c) || (decide (c' = c) && decide (f' ≤ f)))
  unfold orI Lib.compareInt
  rw [Bool.eq_iff_iff]
  simp only [decide_eq_true_eq, Bool.not_eq_true', Bool.or_eq_false_iff, Bool.and_eq_false_iff, decide_eq_false_iff_not]
  split <;> (repeat' split) <;> omega
theorem swoRt : Go.Sort.SWO (Go.Proofs.ltOf cfRt) where
  irrefl x := by rw [ltRt]; have := leRt_total (kRt.strip x) (kRt.strip x); simp at this; simp [this]
  trans x y z h1 h2 := by
    rw [ltRt] at *
    simp only [Bool.not_eq_true'] at *
    rw [Bool.eq_false_iff] at *
    intro h
    have h3 := (leRt_total (kRt.strip y) (kRt.strip z)).resolve_right h2
    exact h1 (leRt_trans h3 h)
  ntrans x y z h1 h2 := by
    rw [ltRt] at *
    simp only [Bool.not_eq_false'] at *
    exact leRt_trans h2 h1
end Go.Proofs.Ytdaahcaafdleaab.Row
/- A list of routes handed on by slices.Values, and collected: a row of its own, over the same names. No conditions but that lengths fit. -/
namespace Go.Proofs.Ytdaahcaafdleaab.Row
open Go.Shelf
open Go.ChangeShapes Go.WideShapes Go.ChangeAt Go.RowKit Go.Instr
attribute [local go_sem] Oper.semAt_some
set_option linter.unusedVariables false
set_option maxRecDepth 100000
theorem blk3_newR (W : World) (a b c : Value) (t : TypeId) (j : Nat) (u : Value) (hj : [a, b, c][j]? = some u) : (W.alloc (.cells #[a, b, c] t)).cell? ((⟨W.heap.size, 0, none⟩ : Addr).add j) = some u := by
  have h5 := (Ret.Blk.new W #[a, b, c] t).cell j
  have h7 : (⟨W.heap.size, 0, none⟩ : Addr).add j = ⟨W.heap.size, j, none⟩ := by simp [Addr.add]; intro h; exact h.symm
  rw [h7]
  refine h5.trans ?_
  simpa using hj
theorem blk_ownR {g : Nat} {cs : Array Value} {t : TypeId} : Go.Own (fun (_ : Unit) W => Ret.Blk W g cs t) := fun s X Y row hs hg hrow => by
  refine (hg.block g hs.lt (fun e => ?_)).trans hs
  obtain ⟨o, ho, hc⟩ := hrow g e.symm
  rw [show X.heap[g]? = _ from hs] at ho
  cases ho
  cases hc
theorem belowK_t14 {n₀ : Nat} {X Y Z : World} (h : Below n₀ X Y) (k : Below n₀ Y Z) : Below n₀ X Z := h.trans k
theorem grown_none14 {W W' : World} (h : Below W.heap.size W W') : W.grownBy W' none := Sl.grown_of_below h none
theorem rtCells (y : Rtm) : kRt.cells y = [.slice y.1.ad y.1.n y.1.cap, .int .i64 y.2.1, .int .i64 y.2.2] := rfl
set_option maxHeartbeats 4000000 in
theorem valR (n : Nat) (hn : 1 ≤ n) (l Bl n₀ : Nat) (x : Option Addr) (len cap : Nat) (L : List Rtm) (w0 : World) (hw0 : w0.heap.size = n₀) (hl9 : len ≤ 9000000) (hlen : len = L.length) (hlc : len ≤ cap)
    (J Jx : List Rtm → World → Prop) (hJ : ∀ s W W', J s W → Below W.heap.size W W' → J s W')
    (hBl : w0.cell? ⟨Bl, 0, none⟩ = some (.slice x len cap)) (hh : HoldsK kRt.cells 3 w0 (.slice x len cap) L)
    (hY : ∀ pre y W, J pre W → pre.length < L.length → YieldAt Fence.wide (n - 1) Try.prog l #[.agg #[.slice y.1.ad y.1.n y.1.cap, .int .i64 y.2.1, .int .i64 y.2.2]] W fun e W' =>
      (e = .returned (.bool true) ∧ J (pre ++ [y]) W' ∧ Below n₀ W W') ∨ (e = .returned (.bool false) ∧ Jx (pre ++ [y]) W'))
    (W : World) (hW : Below n₀ w0 W) (h0 : J [] W) :
    CallsIn Fence.wide n Try.prog 44 #[.func (.yield l) #[] #[], .pointer (some ⟨Bl, 0, none⟩)] W fun e W' => (∃ v, e = .returned v) ∧ (J L W' ∨ ∃ pre, Jx pre W') := by
  refine callsIn_of_wp Try.func44 rfl trivial ?_ rfl
  simp only [Try.ntmps44, List.size_toArray, List.length_cons, List.length_nil, Nat.reduceAdd, Nat.reduceSub, Array.replicate_succ, Array.replicate_zero, List.push_toArray, List.append_toArray, List.nil_append, List.cons_append]
  have q0 : W.cell? ⟨Bl, 0, none⟩ = some (.slice x len cap) := (hW.cell (by rw [← hw0]; exact Ret.cell_lt hBl)).trans hBl
  have HH := Lib.hid hh; have HW0 := Lib.hid hw0; have HY := Lib.hid hY; have HJ := Lib.hid hJ; have HLEN := Lib.hid hlen
  clear hBl hh hw0 hY hJ hlen
  gi_wp2
  gi_loopw [7] (fun iv wr => ∃ k : Nat, k ≤ len ∧ iv = .int .i64 k ∧ J (L.take k) wr ∧ Hid (Below n₀ w0 wr)) (fun iv _ => len - (intOf iv).toNat)
  case atStart => exact ⟨0, Nat.zero_le _, rfl, h0, Lib.hid hW⟩
  case round =>
    obtain ⟨k, hk, rfl, hJs, hb⟩ := hrel
    by_cases hlt : k < len
    · have hlen := HLEN.out
      have hb0 : Below w0.heap.size w0 wr := by rw [HW0.out]; exact hb.out
      obtain ⟨b, off, rfl, hcm⟩ := HH.out.at szRt_cells (j := k) (by omega)
      obtain ⟨ax, an, ac, ae, f, u, hx⟩ : ∃ ax an ac ae f u, nth L k = (⟨ax, an, ac, ae⟩, f, u) := ⟨_, _, _, _, _, _, rfl⟩
      have hcc : ∀ i, i < 3 → wr.cell? ⟨b, off + k * 3 + i, none⟩ = ([.slice ax an ac, .int .i64 f, .int .i64 u] : List Value)[i]? := fun i hi => by
        have h5 := hcm i hi
        rw [hx, ← Nat.add_assoc] at h5
        have h6 : ([.slice ax an ac, .int .i64 f, .int .i64 u] : List Value)[i]? = some (([.slice ax an ac, .int .i64 f, .int .i64 u] : List Value)[i]'hi) := List.getElem?_eq_getElem hi
        rw [h6]
        exact kc (h5.trans h6) hb0
      have c0 : wr.cell? ⟨b, off + k * 3, none⟩ = some (.slice ax an ac) := hcc 0 (by decide)
      have c1 : wr.cell? ⟨b, off + k * 3 + 1, none⟩ = some (.int .i64 f) := hcc 1 (by decide)
      have c2 : wr.cell? ⟨b, off + k * 3 + 2, none⟩ = some (.int .i64 u) := hcc 2 (by decide)
      have hal := (Below.refl wr.heap.size wr).alloc (Nat.le_refl _) (.cells #[.slice ax an ac, .int .i64 f, .int .i64 u] 49)
      have HX := Lib.hid (Ret.Blk.new wr #[.slice ax an ac, .int .i64 f, .int .i64 u] 49)
      have HB1 := Lib.hid (hb.out.trans (hal.mono (by have := hb.out.size; have := HW0.out; omega)))
      have HJ1 := Lib.hid (HJ.out _ _ _ hJs hal)
      have hkl : k < L.length := by have := HLEN.out; omega
      have HF := Lib.hid (show L.take (k + 1) = L.take k ++ [(⟨ax, an, ac, ae⟩, f, u)] from by rw [take_nx hkl, hx])
      have hlt2 : (L.take k).length < L.length := by rw [List.length_take]; omega
      have x0 : (wr.alloc (.cells #[.slice ax an ac, .int .i64 f, .int .i64 u] 49)).cell? ⟨wr.heap.size, 0, none⟩ = some (.slice ax an ac) := HX.out.cell 0
      have x1 : (wr.alloc (.cells #[.slice ax an ac, .int .i64 f, .int .i64 u] 49)).cell? ⟨wr.heap.size, 1, none⟩ = some (.int .i64 f) := HX.out.cell 1
      have x2 : (wr.alloc (.cells #[.slice ax an ac, .int .i64 f, .int .i64 u] 49)).cell? ⟨wr.heap.size, 2, none⟩ = some (.int .i64 u) := HX.out.cell 2
      obtain ⟨fn, tmps, assign, body, hy, hR⟩ := HY.out _ (⟨ax, an, ac, ae⟩, f, u) _ HJ1.out hlt2
      dsimp only at hy
      clear hcm hcc hx hal hlen hb0 hJs
      gi_wp2
      refine hR.mono ?_
      rintro e' W3 (⟨rfl, hJ3, hk3⟩ | ⟨rfl, hJx3⟩)
      · have HB3 := Lib.hid (HB1.out.trans hk3)
        gi_wp2
        go_roundw
        case rel => exact ⟨k + 1, by omega, by go_num, HF.out ▸ hJ3, HB3⟩
        case measure => simp [intOf]; omega
      · gi_wp2
        refine bodyPost_ret (results_none rfl _ _ _) rfl ?_
        exact ⟨⟨_, rfl⟩, .inr ⟨_, hJx3⟩⟩
    · obtain rfl : k = len := by omega
      have HF := Lib.hid (show L.take k = L by rw [List.take_of_length_le (by rw [HLEN.out]; exact Nat.le_refl _)])
      gi_wp2
      go_end0
      exact ⟨⟨_, rfl⟩, .inl (HF.out ▸ hJs)⟩
theorem stopsV (n : Nat) (hn : 1 ≤ n) (Bl : Nat) (x : Option Addr) (len cap : Nat) (L : List Rtm) (w0 : World) (hl9 : len ≤ 9000000) (hlen : len = L.length) (hlc : len ≤ cap)
    (hBl : w0.cell? ⟨Bl, 0, none⟩ = some (.slice x len cap)) (hh : HoldsK kRt.cells 3 w0 (.slice x len cap) L) :
    SeqStopsK Fence.wide n Try.prog 44 #[.pointer (some ⟨Bl, 0, none⟩)] (fun y : Rtm => #[.agg #[.slice y.1.ad y.1.n y.1.cap, .int .i64 y.2.1, .int .i64 y.2.2]]) (Below w0.heap.size) (fun ys => ys = L) (fun _ => True) L.length w0 := fun l J Jx W hW hJ _ hY h0 =>
  (valR n hn l Bl w0.heap.size x len cap L w0 rfl hl9 hlen hlc J Jx (fun s X Y hs hb => hJ s X Y none hs (grown_none14 hb) (fun r e => by cases e)) hBl hh hY W hW h0).mono fun e W' h =>
    ⟨h.1, h.2.elim (fun h => .inl ⟨_, rfl, h⟩) (fun ⟨pre, h⟩ => .inr ⟨pre, trivial, h⟩)⟩
set_option maxRecDepth 100000 in
set_option maxHeartbeats 8000000 in
theorem appSeqV (Bl : Nat) (x : Option Addr) (len cap : Nat) (L : List Rtm) (w : World) (hl9 : len ≤ 1200000) (hlen : len = L.length) (hlc : len ≤ cap)
    (hBl : w.cell? ⟨Bl, 0, none⟩ = some (.slice x len cap)) (hh : HoldsK kRt.cells 3 w (.slice x len cap) L) :
    Calls Try.prog 52 #[.slice none 0 0, .func (.func 44) #[] #[.pointer (some ⟨Bl, 0, none⟩)]] w fun e w' => ∃ v, e = .returned v ∧ OwnK 49 kRt.cells 3 w.heap.size w' v L ∧ Below w.heap.size w w' := by
  have HSQ := Lib.hid (stopsV 2 (by decide) Bl x len cap L w (by omega) hlen hlc hBl hh)
  have hfl : L.length ≤ 1200000 := by omega
  obtain ⟨i0, hi, hz0, hz1, hz2⟩ := info_parts kindRt.elem
  have bO := Boxed.new w 30 (.slice none 0 0)
  have hB0 : Below w.heap.size w (w.alloc (.cells #[.slice none 0 0] 30)) := (Below.refl _ w).alloc (Nat.le_refl _) _
  clear hBl hh hlen hlc hl9
  refine (callsIn_wide (n := 3)).1 ?_
  refine callsIn_of_wp_marks Try.func52 rfl trivial ?_ rfl
  simp only [Try.ntmps52, List.size_toArray, List.length_cons, List.length_nil, Nat.reduceAdd, Nat.reduceSub, Array.replicate_succ, Array.replicate_zero, List.push_toArray, List.append_toArray, List.nil_append, List.cons_append]
  gi_wp2
  refine wpIn_rangeFunc_ownH rfl (by omega) (gf := 44) (lb := #[.pointer (some ⟨Bl, 0, none⟩)]) rfl trivial (enters_of Try.func44 (by kernel_rfl) rfl)
    HSQ.out belowK_t14 (belowK_b (by simp)) hB0 (fun _ => rfl)
    (fun pre W => (∃ v, Boxed W w.heap.size 30 v ∧ W.ownsRow w.heap.size 49 3 v pre.length (flat kRt.cells pre) ∧ True) ∧ Below w.heap.size w W)
    (fun _ _ _ => False)
    (OwnFrom.and (Own.from (holdsRow_own w.heap.size w.heap.size 30 49 3 (fun pre : List Rtm => pre.length) (fun pre => flat kRt.cells pre) (fun _ _ => True)) _) (ownFrom_below (Nat.le_refl _) (by simp)))
    (fun _ _ _ _ _ hs _ _ => hs)
    ⟨⟨_, bO, World.ownsRow_nil _ _ _ _, trivial⟩, hB0⟩
    (fun y a' W => ∃ Bx, w.heap.size < Bx ∧ Ret.Blk W Bx #[.slice y.1.ad y.1.n y.1.cap, .int .i64 y.2.1, .int .i64 y.2.2] 49 ∧ a' = { tmps := #[.slice none 0 0, .func (.func 44) #[] #[.pointer (some ⟨Bl, 0, none⟩)], .pointer (some ⟨w.heap.size, 0, none⟩), undef, .slice none 0 0, .pointer (some ⟨Bx, 0, none⟩), .func (.func 44) #[] #[.pointer (some ⟨Bl, 0, none⟩)], .agg #[.slice y.1.ad y.1.n y.1.cap, .int .i64 y.2.1, .int .i64 y.2.2], undef, undef, undef, undef, undef], defers := [] })
    (fun y a' _ X Y row hs hg hr => by obtain ⟨Bx, h1, h2, h3⟩ := hs; exact ⟨Bx, h1, blk_ownR () X Y row h2 hg (fun r e => (hr r e).2), h3⟩)
    ?assign ?body ?done ?stop
  case assign =>
    rintro l pre y W K ⟨⟨v, bS, hrow, -⟩, hB⟩ hK
    gi_wp2
    exact hK _ _ ((KeepsOthers.alloc _ _).from _) ((Below.refl _ W).alloc hB.size _) ⟨⟨v, bS.alloc _, hrow.alloc _, trivial⟩, hB.alloc hB.size _⟩ ⟨W.heap.size, bS.lt, Ret.Blk.new W _ _, rfl⟩
  case body =>
    rintro l pre y a' W hl - ⟨⟨v, hv, hrow, -⟩, hB⟩ ⟨Bx, hBx, bX, rfl⟩ hlt
    have hc := hv.cell
    have x0 := bX.cell 0; have x1 := bX.cell 1; have x2 := bX.cell 2
    have hpl : pre.length + 1 ≤ 1200000 := by omega
    gi_wp2_with (gi_at_builtin; refine wpListIn_append_own _ rfl _ _ 30 rfl w.heap.size 49 i0 (.agg #[.slice none 0 0, .int .i64 0, .int .i64 0]) 3 _ Try.underlying30 hi hz0 hz1 hz2 rfl (by decide) _ _ _ rfl (hrow.alloc _) ⟨W.heap.size, 0, none⟩ 1 1 [.slice y.1.ad y.1.n y.1.cap, .int .i64 y.2.1, .int .i64 y.2.2] rfl rfl (blk3_newR W _ _ _ _) (by simp [Value.oneCell']) (by unfold maxLen; omega) (by omega) (by have := hB.size; simp; omega) ?_; intro v' w1 hown' hgrow _; obtain ⟨g', cap', rfl⟩ := ownsRow_succ hown'; obtain ⟨hv1, hv2, hr2, hk2, hb2⟩ := hv.appended (by decide) hrow hB.size (Nat.le_refl _) hown' hgrow; have hc1 := hv1.cell; have hf1 := hv1.frozen)
    exact ⟨hk2.from _, hb2, ⟨_, hv2, by rw [List.length_append, flat_append]; exact hr2, trivial⟩, hB.trans hb2⟩
  case done =>
    rintro D ys W hD rfl ⟨⟨v, hv, hrow, -⟩, hB⟩ hK
    have hc := hv.cell
    gi_wp2
    refine ⟨by simp, .inl ⟨_, _, rfl, run_takeDeferred hK, ?_⟩⟩
    exact ⟨_, results_tmp rfl _ _ _, v, rfl, ownsRow_putObj hrow _ hK rfl, hB.trans (belowK_b (w := w) (Nat.le_refl _) W D _ _ (by simp at hD; omega) hK rfl rfl)⟩
  case stop =>
    rintro D c pre W _ _ h _
    exact h.elim
set_option maxHeartbeats 2000000 in
theorem collectV (Bl : Nat) (x : Option Addr) (len cap : Nat) (L : List Rtm) (w : World) (hl9 : len ≤ 1200000) (hlen : len = L.length) (hlc : len ≤ cap)
    (hBl : w.cell? ⟨Bl, 0, none⟩ = some (.slice x len cap)) (hh : HoldsK kRt.cells 3 w (.slice x len cap) L) :
    Calls Try.prog 42 #[.func (.func 44) #[] #[.pointer (some ⟨Bl, 0, none⟩)]] w fun e w' => ∃ v, e = .returned v ∧ OwnK 49 kRt.cells 3 w.heap.size w' v L ∧ Below w.heap.size w w' := by
  have HA := Lib.hid (appSeqV Bl x len cap L w hl9 hlen hlc hBl hh)
  clear hBl hh hlen hlc hl9
  go_enter Try.func42, Try.ntmps42
  go_wp2_with fail
  refine HA.out.mono ?_
  rintro e w1 ⟨v, rfl, ho, hb⟩
  obtain ⟨x1, n1, c1, rfl, -, -, ho⟩ := ho.shapeN
  have HO := Lib.hid ho; have HB := Lib.hid hb
  clear ho hb
  go_wp2_with fail
  go_ret
  exact ⟨_, rfl, HO.out, HB.out⟩
end Go.Proofs.Ytdaahcaafdleaab.Row
/- The contract of the library's sort of a row of structs, laid at this seat in plain words. -/
namespace Go.Proofs
open Go.Shelf
def Try.sortRt_ren : Go.Shelf.Ren := ⟨fun | 6 => 43 | 15 => 54 | 14 => 53 | 28 => 66 | 29 => 67 | 20 => 58 | 21 => 59 | 22 => 60 | 23 => 61 | 24 => 62 | 25 => 63 | 26 => 64 | 27 => 65 | 46 => 68 | 47 => 69 | 48 => 70 | 49 => 71 | 50 => 72 | 57 => 73 | n => n, fun | 22 => 30 | 24 => 49 | 25 => 57 | 3 => 3 | 39 => 74 | 0 => 0 | 53 => 86 | 55 => 88 | 4 => 4 | 46 => 79 | 45 => 78 | 50 => 83 | 5 => 5 | 9 => 9 | 66 => 89 | 70 => 93 | 76 => 95 | 77 => 96 | n => n, fun | n => n⟩
theorem Try.sortRt : Go.Proofs.SlLaysF0.n6 Try.prog Try.sortRt_ren := {
  mixed := by kernel_rfl
  f6 := ⟨Try.f43.name, by decide, Try.func43.trans (congrArg some (by kernel_rfl))⟩
  f14 := ⟨Try.f53.name, by decide, Try.func53.trans (congrArg some (by kernel_rfl))⟩
  f15 := Try.func54.trans (congrArg some (by kernel_rfl))
  f20 := ⟨Try.f58.name, by decide, Try.func58.trans (congrArg some (by kernel_rfl))⟩
  f21 := ⟨Try.f59.name, by decide, Try.func59.trans (congrArg some (by kernel_rfl))⟩
  f22 := ⟨Try.f60.name, by decide, Try.func60.trans (congrArg some (by kernel_rfl))⟩
  f23 := ⟨Try.f61.name, by decide, Try.func61.trans (congrArg some (by kernel_rfl))⟩
  f24 := ⟨Try.f62.name, by decide, Try.func62.trans (congrArg some (by kernel_rfl))⟩
  f25 := ⟨Try.f63.name, by decide, Try.func63.trans (congrArg some (by kernel_rfl))⟩
  f26 := ⟨Try.f64.name, by decide, Try.func64.trans (congrArg some (by kernel_rfl))⟩
  f27 := ⟨Try.f65.name, by decide, Try.func65.trans (congrArg some (by kernel_rfl))⟩
  f28 := Try.func66.trans (congrArg some (by kernel_rfl))
  f29 := Try.func67.trans (congrArg some (by kernel_rfl))
  f46 := ⟨Try.f68.name, by decide, Try.func68.trans (congrArg some (by kernel_rfl))⟩
  f47 := Try.func69.trans (congrArg some (by kernel_rfl))
  f48 := Try.func70.trans (congrArg some (by kernel_rfl))
  f49 := ⟨Try.f71.name, by decide, Try.func71.trans (congrArg some (by kernel_rfl))⟩
  f50 := ⟨Try.f72.name, by decide, Try.func72.trans (congrArg some (by kernel_rfl))⟩
  f57 := ⟨Try.f73.name, by decide, Try.func73.trans (congrArg some (by kernel_rfl))⟩
  t0 := Try.underlying0
  a0 := Try.isAgg0
  z0 := Try.sizeOf0
  v0 := Try.zeroValue0
  t3 := Try.underlying3
  a3 := Try.isAgg3
  z3 := Try.sizeOf3
  v3 := Try.zeroValue3
  t4 := Try.underlying4
  a4 := Try.isAgg4
  z4 := Try.sizeOf4
  v4 := Try.zeroValue4
  t5 := Try.underlying5
  a5 := Try.isAgg5
  z5 := Try.sizeOf5
  v5 := Try.zeroValue5
  t9 := Try.underlying9
  a9 := Try.isAgg9
  z9 := Try.sizeOf9
  v9 := Try.zeroValue9
  t22 := Try.underlying30
  a22 := Try.isAgg30
  z22 := Try.sizeOf30
  v22 := Try.zeroValue30
  t25 := Try.underlying57
  a25 := Try.isAgg57
  z25 := Try.sizeOf57
  v25 := Try.zeroValue57
  t39 := Try.underlying74
  a39 := Try.isAgg74
  z39 := Try.sizeOf74
  v39 := Try.zeroValue74
  t45 := Try.underlying78
  a45 := Try.isAgg78
  z45 := Try.sizeOf78
  v45 := Try.zeroValue78
  t46 := Try.underlying79
  a46 := Try.isAgg79
  z46 := Try.sizeOf79
  v46 := Try.zeroValue79
  t50 := Try.underlying83
  a50 := Try.isAgg83
  z50 := Try.sizeOf83
  v50 := Try.zeroValue83
  t53 := Try.underlying86
  a53 := Try.isAgg86
  z53 := Try.sizeOf86
  v53 := Try.zeroValue86
  t55 := Try.underlying88
  a55 := Try.isAgg88
  z55 := Try.sizeOf88
  v55 := Try.zeroValue88
  t66 := Try.underlying89
  a66 := Try.isAgg89
  z66 := Try.sizeOf89
  v66 := Try.zeroValue89
  t70 := Try.underlying93
  a70 := Try.isAgg93
  z70 := Try.sizeOf93
  v70 := Try.zeroValue93
  t76 := Try.underlying95
  a76 := Try.isAgg95
  z76 := Try.sizeOf95
  v76 := Try.zeroValue95
  t77 := Try.underlying96
  a77 := Try.isAgg96
  z77 := Try.sizeOf96
  v77 := Try.zeroValue96 }
end Go.Proofs
/- A row of routes sorted by slices.SortFunc; slices.SortedFunc over slices.Values. No conditions but that lengths fit. -/
namespace Go.Proofs.Ytdaahcaafdleaab.Row
open Go.Shelf Go.Proofs
open Go.ChangeShapes Go.WideShapes Go.ChangeAt Go.RowKit Go.Instr
set_option linter.unusedVariables false
set_option maxRecDepth 100000
theorem aggRS (w : World) : (isAgg 49).run Try.prog w = .ok true w := by kernel_rfl
theorem sizeRS (w : World) : (Go.sizeOf 49).run Try.prog w = .ok (3 : Nat) w := by kernel_rfl
theorem cmpLaysR (blk off size : Nat) (w : World) : Go.Proofs.CmpLays Try.prog 30 #[] kRt.cells 3 cfRt blk off size w := fun _ _ _ _ x y => cmpRt x y _
theorem getToArray {L : List Rtm} {j : Nat} (hj : j < L.length) : L.toArray[j]! = nth L j := by
  rw [nth_eq hj]
  simp [hj]
theorem get3 {L : List Value} {i : Nat} {u : Value} (h : L[i]? = some u) : L[i]! = u := by
  rw [List.getElem!_eq_getElem?_getD, h]; rfl
theorem sortHolds {B : Nat} {w : World} {g n cap : Nat} {L : List Rtm} (h : OwnK 49 kRt.cells 3 B w (.slice (some ⟨g, 0, none⟩) n cap) L) : Go.Sort.HoldsK kRt.cells 3 w g 0 L.toArray := by
  intro t ht
  rw [Go.Sort.size_flatK] at ht
  have hd : t / 3 < L.length := by simp at ht; omega
  have hm : t % 3 < 3 := Nat.mod_lt _ (by decide)
  obtain ⟨h1, h2⟩ := ownK_cell szRt_cells h h.holds.lenEq hd hm
  have e : 0 + t = t / 3 * 3 + t % 3 := by omega
  rw [e]
  refine ⟨?_, h2⟩
  rw [h1, Go.Sort.get_flatK _ _ _ _ (by simpa using ht), getToArray hd]
  obtain ⟨u, hu⟩ : ∃ u, (kRt.cells (nth L (t / 3)))[t % 3]? = some u := ⟨_, List.getElem?_eq_getElem (by rw [kRt.len]; exact hm)⟩
  rw [hu, get3 hu]
  rfl
theorem sortBack {w : World} {g cap : Nat} {d : Array Rtm} (h : Go.Sort.HoldsK kRt.cells 3 w g 0 d) (hc : d.size ≤ cap) : HoldsK kRt.cells 3 w (.slice (some ⟨g, 0, none⟩) d.size cap) d.toList := by
  refine ⟨some ⟨g, 0, none⟩, cap, by simp, by simpa using hc, Or.inr ⟨g, 0, rfl, fun j hj => ?_⟩⟩
  simp only [Array.length_toList] at hj
  have hd : j / 3 < d.toList.length := by simp; omega
  have hm : j % 3 < 3 := Nat.mod_lt _ (by decide)
  have e : j = j / 3 * 3 + j % 3 := by omega
  obtain ⟨h1, -⟩ := Go.Sort.HoldsK.cell h (i := j / 3) (c := j % 3) (by simpa using hd) hm
  have h2 := flat_at (enc := kRt.cells) szRt_cells d.toList (j / 3) (j % 3) hd hm
  obtain ⟨u, hu⟩ : ∃ u, (kRt.cells (nth d.toList (j / 3)))[j % 3]? = some u := ⟨_, List.getElem?_eq_getElem (by rw [kRt.len]; exact hm)⟩
  rw [hu, ← e] at h2
  refine ⟨u, h2, ?_⟩
  have e3 : 0 + j / 3 * 3 + j % 3 = 0 + j := by omega
  rw [e3] at h1
  rw [h1]
  have e4 : d[j / 3]! = nth d.toList (j / 3) := by
    have := getToArray hd
    simpa using this
  rw [e4, get3 hu]
theorem below_mapBlock {B : Nat} {w : World} {g : Nat} (f : Array Value → Array Value) (hg : B ≤ g) : Below B w (Go.Sort.mapBlock w g f) := by
  refine ⟨rfl, rfl, rfl, by simp [Go.Sort.mapBlock], fun k hk => ?_⟩
  unfold Go.Sort.mapBlock
  simp only [Array.getElem?_modify]
  rw [if_neg (by omega)]
theorem below_sorted {B : Nat} {w : World} {g m : Nat} {d : Array Rtm} {os : Array Obj} (hg : B ≤ g) (hB : B ≤ w.heap.size) : Below B w (Go.Proofs.sortWorldK kRt.cells 3 w g 0 m d os) := by
  unfold Go.Proofs.sortWorldK Go.Sort.putRowK Go.Sort.putRow
  have h1 := below_mapBlock (B := B) (w := Go.Sort.ahead w m) (g := g) (Go.Sort.putCells id 0 (Go.Sort.flatK kRt.cells 3 d)) hg
  generalize Go.Sort.mapBlock (Go.Sort.ahead w m) g (Go.Sort.putCells id 0 (Go.Sort.flatK kRt.cells 3 d)) = W at h1 ⊢
  refine ⟨h1.os, h1.tape, h1.output, ?_, fun k hk => ?_⟩
  · have h2 : w.heap.size ≤ W.heap.size := h1.size
    rw [Go.Sort.size_grow]; omega
  · have h2 : w.heap.size ≤ W.heap.size := h1.size
    have h3 : (Go.Sort.grow W os).heap[k]? = W.heap[k]? := by
      show (W.heap ++ os)[k]? = _
      rw [Array.getElem?_append_left (by omega)]
    rw [h3]
    exact h1.block k hk
def SortedRow (B : Nat) (w : World) (L : List Rtm) (v : Value) (w' : World) : Prop := ∃ L' : List Rtm, L'.Perm L ∧ (L'.map kRt.strip).Pairwise (fun a b => leRt a b = true) ∧ HoldsK kRt.cells 3 w' v L' ∧ Below B w w' ∧ (∀ g, v.ownBlock = some g → B ≤ g)
set_option maxHeartbeats 4000000 in
theorem sortFR (B : Nat) (g n cap : Nat) (L : List Rtm) (w : World) (h : OwnK 49 kRt.cells 3 B w (.slice (some ⟨g, 0, none⟩) n cap) L) (hl : L.length ≤ 1200000) :
    Calls Try.prog 43 #[.slice (some ⟨g, 0, none⟩) n cap, .func (.func 30) #[] #[]] w fun e w' => e = .returned (.tuple #[]) ∧ SortedRow B w L (.slice (some ⟨g, 0, none⟩) n cap) w' := by
  have hn : n = L.length := h.holds.lenEq
  subst hn
  obtain ⟨hB, hg⟩ := h.lt g rfl
  have hcap : L.length ≤ cap := by obtain ⟨x', n', cap', hv, hn', hc', -⟩ := h.shapeN; cases hv; exact hc'
  have eg : ∀ args w, (callFunc 30 args).run Try.prog w = .ok (.enter 30 args) w := enters_of Try.func30 (by kernel_rfl) rfl
  have hS := sortHolds h
  have hcon := Go.Proofs.AnyQ.slices_SortFunc Try.sortRt 3 aggRS sizeRS kRt.cells (fun x => kRt.len x) (fun x v hv => by rw [rtCells] at hv; simp at hv; rcases hv with rfl | rfl | rfl <;> rfl) cfRt swoRt 30 #[] g 0 cap L.toArray w eg (cmpLaysR g 0 _ w) hS hg (by simp; omega)
  have e9 : L.toArray.size = L.length := by simp
  rw [e9] at hcon
  refine Calls.mono (show Calls Try.prog 43 _ w _ from hcon) ?_
  rintro e w' ⟨rfl, d', m, os, hp, hs, rfl⟩
  refine ⟨rfl, d'.toList, ?_, ?_, ?_, below_sorted hB (by omega), fun g' hg' => by cases hg'; exact hB⟩
  · have h9 := hp.2.2
    have hsz := hp.1
    rw [e9] at hsz
    have x1 : d'.extract 0 L.length = d' := by rw [← hsz]; simp
    have x2 : L.toArray.extract 0 L.length = L.toArray := by rw [← e9]; simp
    rw [x1, x2] at h9
    exact h9
  · have hsz := hp.1
    rw [e9] at hsz
    rw [List.pairwise_map, List.pairwise_iff_getElem]
    intro i j hi hj hij
    have h9 := hs i j (Nat.zero_le _) hij (by simp at hj; omega)
    rw [ltRt] at h9
    simp only [Bool.not_eq_false'] at h9
    have e1 : d'[i]! = d'.toList[i] := by simp at hi; rw [getElem!_pos d' i hi]; rfl
    have e2 : d'[j]! = d'.toList[j] := by simp at hj; rw [getElem!_pos d' j hj]; rfl
    rw [e1, e2] at h9
    exact h9
  · have hsz : d'.size = L.length := by have := hp.1; rwa [e9] at this
    have h9 := Go.Proofs.holdsK_sortWorldK_c kRt.cells 3 w g 0 L.toArray d' m os hS hg (by rw [e9]; exact hsz)
    have := sortBack h9 (cap := cap) (by omega)
    rw [hsz] at this
    exact this
theorem sortFR0 (p : Option Addr) (cap : Nat) (w : World) : Calls Try.prog 43 #[.slice p 0 cap, .func (.func 30) #[] #[]] w fun e w' => e = .returned (.tuple #[]) ∧ w' = w :=
  Go.Proofs.AnyF.slices_SortFunc_none Try.sortRt p cap (.func (.func 30) #[] #[]) w
set_option maxHeartbeats 4000000 in
theorem sortedFR (Bl : Nat) (x : Option Addr) (len cap : Nat) (L : List Rtm) (w : World) (hl9 : len ≤ 1200000) (hlen : len = L.length) (hlc : len ≤ cap)
    (hBl : w.cell? ⟨Bl, 0, none⟩ = some (.slice x len cap)) (hh : HoldsK kRt.cells 3 w (.slice x len cap) L) :
    Calls Try.prog 28 #[.func (.func 44) #[] #[.pointer (some ⟨Bl, 0, none⟩)], .func (.func 30) #[] #[]] w fun e w' => ∃ v, e = .returned v ∧ SortedRow w.heap.size w L v w' := by
  have HA := Lib.hid (collectV Bl x len cap L w hl9 hlen hlc hBl hh)
  have HLL := Lib.hid (show L.length ≤ 1200000 by omega)
  clear hBl hh hlen hlc hl9
  go_enter Try.func28, Try.ntmps28
  go_wp2_with fail
  refine HA.out.mono ?_
  rintro e w1 ⟨v, rfl, ho, hb⟩
  obtain ⟨x1, n1, c1, rfl, hn1, -, ho⟩ := ho.shapeN
  have HB := Lib.hid hb
  rcases ho.form with ⟨hv, hL⟩ | ⟨g, cap', hv, h1, h2, h3, h4⟩
  · injection hv with e1 e2 e3
    subst e1; subst e2; subst e3
    subst hL
    have HN := Lib.hid (OwnK.nil 49 kRt.cells 3 w.heap.size w1).holds
    clear ho hb hn1
    go_wp2_with fail
    refine (sortFR0 none 0 _).mono ?_
    rintro e w2 ⟨rfl, rfl⟩
    go_wp2_with fail
    go_ret
    exact ⟨_, rfl, [], List.Perm.refl _, List.Pairwise.nil, HN.out, HB.out, fun g hg => by cases hg⟩
  · injection hv with e1 e2 e3
    subst e1; subst e2; subst e3
    have HS := Lib.hid (sortFR w.heap.size g L.length c1 L w1 ho HLL.out)
    clear ho hb hn1 h1 h2 h3 h4
    go_wp2_with fail
    refine HS.out.mono ?_
    rintro e w2 ⟨rfl, L', hp, hs, hh2, hb2, hgb2⟩
    have HGB2 := Lib.hid hgb2
    have HP := Lib.hid hp; have HSS := Lib.hid hs; have HH2 := Lib.hid hh2; have HB2 := Lib.hid (HB.out.trans hb2)
    clear hp hs hh2 hb2 hgb2
    go_wp2_with fail
    go_ret
    exact ⟨_, rfl, L', HP.out, HSS.out, HH2.out, HB2.out, HGB2.out⟩
set_option maxHeartbeats 2000000 in
theorem valuesR (x : Option Addr) (n c : Nat) (w : World) (g : Nat) (hg : g = w.heap.size) : Calls Try.prog 29 #[.slice x n c] w fun e w' => e = .returned (.func (.func 44) #[] #[.pointer (some ⟨g, 0, none⟩)]) ∧ w' = w.alloc (.cells #[.slice x n c] 30) := by
  subst hg
  have hmf : ∀ (fn : Fn) (first cap : Array Value) (w : World), (Instr.makeFunc fn first cap).run Try.prog w = .ok (.func fn first cap) w := fun _ _ _ _ => rfl
  go_enter Try.func29, Try.ntmps29
  go_wp2
  go_ret
  exact ⟨rfl, rfl⟩
end Go.Proofs.Ytdaahcaafdleaab.Row
