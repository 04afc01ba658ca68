/- Contracts and mathematics, joined: Frame, Row, Str, Ret, Name, NameLaw, Many, Keep. No conditions but those that each states. -/
import Derived.ProofKit
import Derived.Carry
import Derived.SizedLaws
import Derived.ChangeSlices
import Derived.Lib.SmallJoins
import Derived.RowKit
import Derived.WalkKit
import Derived.WalkLawsBesides
import Derived.Lib.Hide
import Derived.Below
import Derived.OwnWalk
import Derived.Laws.OwnMore
import Derived.Laws.AppendOwnNone
import Derived.ArgAppend
import Derived.Maps.AppendAt
import Derived.Test.YtfglcmanmfenpaaGreatRows
import Derived.LoopTactic
import Derived.Deep.QuietTactic
import Derived.Deep.RegionHeld3
import Derived.BigQuiet
import Derived.Laws.Rows
import Derived.Laws.ResultCell
import Derived.Deep.Strs
import Derived.ChangeSame
/- The frame of a law, once for every law: a call that returns true and leaves all that was in memory as it was meets the law's statement, whatever the types of its arguments. -/
namespace Go.Proofs.YtfglcmanmfenpaaGreat.Frame
open Go.ChangeShapes Go.WideShapes Go.ChangeAt Go.RowKit
theorem stays {H : Type} {enc : TypeId × Value → H} {P : Program} (hl : laidOutB P = true) {W W' : World} (hb : Below W.heap.size W W') :
    ∀ {ts : List TypeId} {vs : List Value} {ds : List (DataW H)} {ps : List MemPlace}, (∀ t ∈ ts, P.readableRec t = true ∧ t < P.types.size) → DataW.TrodAll enc P W 0 (fun _ => true) true ts vs ds ps → (∀ x ∈ ps, x.block < W.heap.size) →
      DataW.TrodAll enc P W' 0 (fun b => decide (b < W.heap.size)) true ts vs ds ps
  | [], [], [], _, _, h, _ => h
  | [], [], _ :: _, _, _, h, _ => h.elim
  | [], _ :: _, [], _, _, h, _ => h.elim
  | [], _ :: _, _ :: _, _, _, h, _ => h.elim
  | _ :: _, [], [], _, _, h, _ => h.elim
  | _ :: _, [], _ :: _, _, _, h, _ => h.elim
  | _ :: _, _ :: _, [], _, _, h, _ => h.elim
  | t :: ts, v :: vs, d :: ds, ps, ht, h, hlt => by
    obtain ⟨p, q, h1, h2, e⟩ := h
    have h3 := ht t (by simp)
    exact ⟨p, q, Below.trod hl h3.1 h3.2 h1 hb (fun x hx => hlt x (by rw [e]; simp [hx])), stays hl hb (fun t' ht' => ht t' (by simp [ht'])) h2 (fun x hx => hlt x (by rw [e]; simp [hx])), e⟩
def rowed (P : Program) (ts : List TypeId) : Bool := ts.all fun t => P.readableRec t && decide (t < P.types.size)
theorem law_post {H : Type} {enc : TypeId × Value → H} {P : Program} {f : Func} {s : ChangeSpec} {tb : TypeId} {W W' : World} {args : Array Value} {ds : List (DataW H)} {before : List MemPlace}
    (hl : laidOutB P = true) (hp : rowed P f.params.toList = true) (hres : f.resultTypes = #[tb]) (hub : P.underlying tb = some .bool) (hvars : s.vars = [])
    (hfn : s.fn H (ds ++ []) = { results := [.lit (.bool true)], args := ds }) (hW : DataW.Whole enc P f.params.toList s.vars false W args.toList ds [] before) (hb : Below W.heap.size W W') :
    s.post enc P f false true false false W args (.bool true) W' := by
  have hlt := hW.lt
  have hW' := hW
  obtain ⟨p, q, hA, hV, rfl, _, _⟩ := hW
  refine ⟨ds, [], p ++ q, [], p, [], hW', ?_, ?_, ?_, hb.frame _, fun h => by cases h⟩
  · rw [hfn, hres]
    exact trodAll_mk1 (shut_bool hub true)
  · rw [hfn]
    refine stays hl hb (fun t ht => ?_) hA (fun x hx => hlt x (by simp [hx]))
    have := List.all_eq_true.1 hp t ht
    simpa using this
  · rw [hfn, hvars]
    exact rfl
def Bytes (w : World) (v : Value) (l : List UInt8) : Prop :=
  (v = .slice none 0 0 ∧ l = []) ∨ ∃ a cap, v = .slice (some a) l.length cap ∧ l.length ≤ cap ∧ cap ≤ 140737488351232 ∧ ∀ i (h : i < l.length), w.cell? (a.add i) = some (.int .u8 l[i].toNat)
theorem cell_lt {w : World} {a : Addr} {v : Value} (h : w.cell? a = some v) : a.block < w.heap.size := by
  unfold World.cell? at h
  cases hh : w.heap[a.block]? with
  | none => simp [hh] at h
  | some o => exact (Array.getElem?_eq_some_iff.1 hh).1
theorem Bytes.on {w w' : World} {v : Value} {l : List UInt8} (h : Bytes w v l) (hb : Below w.heap.size w w') : Bytes w' v l := by
  rcases h with h | ⟨a, cap, h1, h2, h3, h4⟩
  · exact Or.inl h
  · exact Or.inr ⟨a, cap, h1, h2, h3, fun i hi => by rw [hb.cell (cell_lt (h4 i hi))]; exact h4 i hi⟩
theorem bytesOf_nums {zs : List Int} (h : ∀ n ∈ zs, (Lit.int .u8 n).wf = true) : ∃ l : List UInt8, zs = l.map fun c => (c.toNat : Int) := by
  induction zs with
  | nil => exact ⟨[], rfl⟩
  | cons z r ih =>
    obtain ⟨l, hl⟩ := ih (fun n hn => h n (by simp [hn]))
    have e1 : IntKind.u8.min = 0 := rfl
    have e2 : IntKind.u8.max = 255 := rfl
    have hz : 0 ≤ z ∧ z ≤ 255 := by simpa [Lit.wf, e1, e2] using h z (by simp)
    refine ⟨UInt8.ofNat z.toNat :: l, ?_⟩
    rw [hl]
    simp only [List.map_cons, List.cons.injEq, and_true]
    have : (UInt8.ofNat z.toNat).toNat = z.toNat := by simp; omega
    rw [this]; omega
theorem open_bytes {H : Type} {enc : TypeId × Value → H} {P : Program} {w : World} {base b2 : Nat} {held : Bool} {t e : TypeId} {v : Value} {d : DataW H} {p : List MemPlace} {ts : List TypeId} {ds : List (DataW H)} {j : Nat}
    (ht : P.underlying t = some (.slice e)) (he : P.underlying e = some (.int .u8)) (hc : P.cellsOf e = 1) (hz : P.bytesOf e = 1) (hv : Value.okWide P w .any base t v)
    (h : DataW.Trod enc P w b2 (fun _ => true) held t v d p) (hsz : (DataW.weightsEach P ts ds).all (· ≤ reachBytes) = true) (htj : ts[j]? = some t) (hdj : ds[j]? = some d) : ∃ l, Bytes w v l := by
  obtain ⟨a0, len, cap, rfl⟩ := okWide_slice ht hv
  obtain ⟨fuel, hf⟩ := h
  rcases open_ints ht he hc hf with ⟨hcs, hx⟩ | ⟨a, len', cap', zs, hcs, _, hl, hm, hn, hx, hcell, hwz⟩
  · refine ⟨[], Or.inl ⟨?_, rfl⟩⟩
    simpa [Value.cells] using hcs
  · have hcs' : Value.slice a0 len cap = .slice (some a) len' cap' := by simpa [Value.cells] using hcs
    simp only [Prod.mk.injEq] at hx
    obtain ⟨hd, -⟩ := hx
    subst hd
    have hw := sized_slice hsz htj hdj ht
    rw [hz] at hw
    obtain ⟨l, hl2⟩ := bytesOf_nums hwz
    subst hl2
    simp only [if_true, List.length_map] at hn
    have e : reachBytes = 140737488351232 := by decide
    have hlen : (l.take len').length = len' := by rw [List.length_take]; omega
    refine ⟨l.take len', Or.inr ⟨a, cap', ?_, by rw [hlen]; exact hl, ?_, ?_⟩⟩
    · rw [hlen]; exact hcs'
    · simp [lits] at hw; omega
    · intro i hi
      rw [hlen] at hi
      have := hcell i (by simp; omega)
      rw [this]
      simp [List.getD, List.getElem?_eq_getElem (show i < l.length by omega)]
end Go.Proofs.YtfglcmanmfenpaaGreat.Frame
/- Slices of one-cell elements in memory (strings, numbers, slices), for any program: a slice value that holds a list; a slice in blocks of the call's own that holds a list; what keeps both; one list appended to another. No conditions but that lengths fit. -/
namespace Go.Proofs.YtfglcmanmfenpaaGreat.Row
open Go.ChangeShapes Go.WideShapes Go.ChangeAt Go.RowKit
set_option linter.unusedVariables false
set_option maxRecDepth 100000
def nth {α : Type} [Inhabited α] (l : List α) (j : Nat) : α := l.getD j default
def Holds {α : Type} [Inhabited α] (enc : α → Value) (w : World) (v : Value) (l : List α) : Prop :=
  ∃ x cap, v = .slice x l.length cap ∧ l.length ≤ cap ∧ (l = [] ∨ ∃ b off, x = some ⟨b, off, none⟩ ∧ ∀ j, j < l.length → w.cell? ⟨b, off + j, none⟩ = some (enc (nth l j)))
def Own {α : Type} [Inhabited α] (e : TypeId) (enc : α → Value) (B : Nat) (w : World) (v : Value) (l : List α) : Prop := w.ownsRow B e 1 v l.length (l.map enc)
section
variable {α : Type} [Inhabited α] {enc : α → Value} {e : TypeId} {B : Nat} {w w' : World} {v : Value} {l : List α}
theorem Own.form (h : Own e enc B w v l) : (v = .slice none 0 0 ∧ l = []) ∨ ∃ g cap, v = .slice (some ⟨g, 0, none⟩) l.length cap ∧ B ≤ g ∧ g < w.heap.size ∧ l.length ≤ cap ∧ cap ≤ maxLen := by
  rcases h.2 with ⟨hv, hn⟩ | ⟨g, cap, cur, hv, hg, hh, h1, h2, h3, h4⟩
  · exact Or.inl ⟨hv, List.eq_nil_of_length_eq_zero hn⟩
  · exact Or.inr ⟨g, cap, hv, hg, (Array.getElem?_eq_some_iff.1 hh).1, h1, h2⟩
theorem Own.holds (h : Own e enc B w v l) : Holds enc w v l := by
  rcases h.form with ⟨rfl, rfl⟩ | ⟨g, cap, rfl, h1, h2, h3, h4⟩
  · exact ⟨none, 0, rfl, by simp, Or.inl rfl⟩
  · refine ⟨_, cap, rfl, h3, ?_⟩
    by_cases hl : l = []
    · exact Or.inl hl
    · refine Or.inr ⟨g, 0, rfl, fun j hj => ?_⟩
      have h5 := World.ownsRow.cellAt h j (by simpa using hj)
      rw [Nat.zero_add, h5, List.getElem?_map]
      simp [nth, List.getD, List.getElem?_eq_getElem hj]
theorem Own.lt (h : Own e enc B w v l) : ∀ g, v.ownBlock = some g → B ≤ g ∧ g < w.heap.size := World.ownsRow.lt h
theorem Own.grown (h : Own e enc B w v l) {row : Option Nat} (hg : w.grownBy w' row) (hne : v.ownBlock = none ∨ v.ownBlock ≠ row) : Own e enc B w' v l := World.ownsRow.kept h hg hne
theorem grown_of_below (hb : Below w.heap.size w w') (row : Option Nat) : w.grownBy w' row := ⟨hb.os, hb.tape, hb.output, hb.size, fun i hi _ => hb.block i hi⟩
theorem Own.on (h : Own e enc B w v l) (hb : Below w.heap.size w w') : Own e enc B w' v l := by
  refine World.ownsRow.kept h (grown_of_below hb none) ?_
  cases hv : v.ownBlock <;> simp
theorem Own.mono (h : Own e enc B w v l) {B' : Nat} (hB : B' ≤ B) : Own e enc B' w v l := by
  refine ⟨h.1, ?_⟩
  rcases h.2 with h2 | ⟨g, cap, cur, hv, hg, r⟩
  · exact Or.inl h2
  · exact Or.inr ⟨g, cap, cur, hv, Nat.le_trans hB hg, r⟩
theorem Own.nil (e : TypeId) (enc : α → Value) (B : Nat) (w : World) : Own e enc B w (.slice none 0 0) [] := World.ownsRow_nil w B e 1
theorem Own.len (h : Own e enc B w v l) : l.length ≤ maxLen := by
  rcases h.form with ⟨rfl, rfl⟩ | ⟨g, cap, rfl, h1, h2, h3, h4⟩
  · simp
  · omega
theorem Own.block (h : Own e enc B w v l) (hn : v ≠ .slice none 0 0) : ∃ g cap, v = .slice (some ⟨g, 0, none⟩) l.length cap ∧ B ≤ g ∧ g < w.heap.size ∧ l.length ≤ cap := by
  rcases h.form with ⟨hv, _⟩ | ⟨g, cap, hv, h1, h2, h3, h4⟩
  · exact absurd hv hn
  · exact ⟨g, cap, hv, h1, h2, h3⟩
theorem cell_lt {a : Addr} {u : Value} (h : w.cell? a = some u) : a.block < w.heap.size := by
  unfold World.cell? at h
  cases hh : w.heap[a.block]? with
  | none => simp [hh] at h
  | some o => exact (Array.getElem?_eq_some_iff.1 hh).1
theorem Holds.on (h : Holds enc w v l) (hb : Below w.heap.size w w') : Holds enc w' v l := by
  obtain ⟨x, cap, hv, hc, h⟩ := h
  refine ⟨x, cap, hv, hc, ?_⟩
  rcases h with h | ⟨b, off, hx, h⟩
  · exact Or.inl h
  · exact Or.inr ⟨b, off, hx, fun j hj => by rw [hb.cell (cell_lt (h j hj))]; exact h j hj⟩
theorem Holds.nil (enc : α → Value) (w : World) : Holds enc w (.slice none 0 0) [] := ⟨none, 0, rfl, by simp, Or.inl rfl⟩
theorem Holds.shape (h : Holds enc w v l) : ∃ x cap, v = .slice x l.length cap ∧ l.length ≤ cap ∧ Holds enc w (.slice x l.length cap) l := by
  obtain ⟨x, cap, hv, hc, h⟩ := h
  exact ⟨x, cap, hv, hc, x, cap, rfl, hc, h⟩
theorem Holds.at {x : Option Addr} {n cap : Nat} (h : Holds enc w (.slice x n cap) l) {j : Nat} (hj : j < l.length) :
    ∃ b off, x = some ⟨b, off, none⟩ ∧ w.cell? ⟨b, off + j, none⟩ = some (enc (nth l j)) := by
  obtain ⟨x', cap', hv, hc, h⟩ := h
  cases hv
  rcases h with rfl | ⟨b, off, hx, h⟩
  · simp at hj
  · exact ⟨b, off, hx, h j hj⟩
theorem Holds.lenEq {x : Option Addr} {n cap : Nat} (h : Holds enc w (.slice x n cap) l) : n = l.length := by
  obtain ⟨x', cap', hv, hc, h⟩ := h
  cases hv; rfl
theorem Own.apart {β : Type} [Inhabited β] {enc' : β → Value} {B' : Nat} {v' : Value} {l' : List β} {e' : TypeId} (h : Own e enc B w v l) (h' : Own e' enc' B' w' v' l') (hB : w'.heap.size ≤ B) : v.ownBlock = none ∨ v.ownBlock ≠ v'.ownBlock := by
  cases hv : v.ownBlock with
  | none => exact Or.inl rfl
  | some g =>
    refine Or.inr fun he => ?_
    have h1 := h.lt g hv
    have h2 := h'.lt g he.symm
    omega
theorem Holds.grown (h : Holds enc w v l) {row : Option Nat} (hg : w.grownBy w' row) (hne : ∀ g, v.ownBlock = some g → some g ≠ row) : Holds enc w' v l := by
  obtain ⟨x, cap, rfl, hc, h⟩ := h
  refine ⟨x, cap, rfl, hc, ?_⟩
  rcases h with h | ⟨b, off, rfl, h⟩
  · exact Or.inl h
  · exact Or.inr ⟨b, off, rfl, fun j hj => hg.cell (h j hj) (hne b rfl)⟩
theorem nth_eq {l : List α} {j : Nat} (hj : j < l.length) : nth l j = l[j] := by simp [nth, List.getD, List.getElem?_eq_getElem hj]
theorem getD_map {j : Nat} (hj : j < l.length) : (l.map enc)[j]? = some (enc (nth l j)) := by
  simp [nth, List.getD, List.getElem?_eq_getElem hj]
end
theorem oneCell {α : Type} {enc : α → Value} (h1c : ∀ x, (enc x).oneCell' = true) (l : List α) : ∀ u ∈ l.map enc, u.oneCell' = true := by
  intro u hu
  obtain ⟨x, _, rfl⟩ := List.mem_map.1 hu
  exact h1c x
theorem Holds.cells {α : Type} [Inhabited α] {enc : α → Value} {w : World} {ad : Addr} {n cap : Nat} {l : List α} (h : Holds enc w (.slice (some ad) n cap) l) : ∀ j u, (l.map enc)[j]? = some u → w.cell? (ad.add j) = some u := by
  intro j u hu
  have hj : j < l.length := by have := (List.getElem?_eq_some_iff.1 hu).1; simpa using this
  obtain ⟨b, off, hx, hc⟩ := h.at hj
  cases hx
  rw [Go.WideShapes.add_plain, hc]
  rw [getD_map hj] at hu
  exact hu
def Elem (P : Program) (e : TypeId) (z : Value) (bytes : Nat) : Prop := (P.info? e).map (fun i => (i.zero, i.size, i.bytes)) = some (some z, 1, bytes)
section
variable {P : Program} {w : World} {ops : Array Oper} {rest : List Oper} {o : Oper} {a : Act} {Q : Exit → Act → World → Prop} {α : Type} [Inhabited α] {enc : α → Value} {e t : TypeId} {bytes : Nat} {z : Value}
theorem wpList_app_nn (hgd : o.guard = none) (s x : Operand) (ho : o.op = .call { callee := .builtin .append, args := #[s, x], argTypes := #[t, t] }) (ht : P.underlying t = some (.slice e)) (hi : Elem P e z bytes) (hz : z.cells.size = 1)
    {B : Nat} {v vx : Value} {l m : List α} (hs : a.eval s = v) (hx : a.eval x = vx) (hown : Own e enc B w v l) (hsrc : Holds enc w vx m) (h1c : ∀ x, (enc x).oneCell' = true) (hlen : (l.length + m.length) * bytes ≤ 140737488355328) (hmx : l.length + m.length ≤ maxLen) (hB : B ≤ w.heap.size)
    (h : ∀ v' w', Own e enc B w' v' (l ++ m) → w.grownBy w' v.ownBlock → (v ≠ .slice none 0 0 → v' ≠ .slice none 0 0) → wpList P ops Q rest (a.put o.dst v') w') : wpList P ops Q (o :: rest) a w := by
  obtain ⟨i, h1, h2, h3, h4⟩ := info_parts hi
  have hbytes := hlen
  have h63 := hmx
  obtain ⟨ao, cap, rfl, hcap, hc⟩ := hsrc
  have hsrc : Holds enc w (.slice ao m.length cap) m := ⟨ao, cap, rfl, hcap, hc⟩
  have fin : ∀ v' w', w'.ownsRow B e 1 v' (l.length + m.length) (l.map enc ++ m.map enc) → Own e enc B w' v' (l ++ m) := by
    intro v' w' hh
    unfold Own
    rw [List.length_append, List.map_append]; exact hh
  cases ao with
  | some ad =>
    exact wpList_append_own w hgd s x t ho B e i z 1 bytes ht h1 h2 h3 h4 hz (by decide) v l.length _ hs hown ad m.length cap (m.map enc) hx (by simp) hsrc.cells (oneCell h1c m) h63 hbytes hB
      fun v' w' r1 r2 r3 => h v' w' (fin v' w' r1) r2 (fun hn he => hn (r3.1 he).1)
  | none =>
    rcases hc with rfl | ⟨b, off, hc, _⟩
    · refine wpList_plain hgd fun K hK => ?_
      have hrun : (Builtin.append_ #[t, t] o.type #[v, .slice none 0 cap]).run P w = .ok v w := by
        rcases hown.2 with ⟨rfl, hn⟩ | ⟨g, cap', cur, rfl, _, _, hnc, _⟩
        · simp [Builtin.append_, run_underlying ht, sizeOf, typeInfo, h1, Builtin.lenOf, Builtin.firstCells]
        · simp [Builtin.append_, run_underlying ht, sizeOf, typeInfo, h1, Builtin.lenOf, Builtin.firstCells, hnc, storeCells]
      have hx' : a.eval x = .slice none 0 cap := by simpa using hx
      unfold Oper.wp
      simp [execOp, ho, resolve, invoke, builtin, hs, hx', hrun, Result.andThen]
      exact hK _ _ (h v w (by simpa using hown) (World.grownBy.refl _ _) (fun hn => hn))
    · cases hc
theorem wpList_app (hgd : o.guard = none) (s x : Operand) (ho : o.op = .call { callee := .builtin .append, args := #[s, x], argTypes := #[t, t] }) (ht : P.underlying t = some (.slice e)) (hi : Elem P e z bytes) (hz : z.cells.size = 1)
    {B : Nat} {v vx : Value} {l m : List α} (hs : a.eval s = v) (hx : a.eval x = vx) (hown : Own e enc B w v l) (hsrc : Holds enc w vx m) (h1c : ∀ x, (enc x).oneCell' = true) (hlen : (l.length + m.length) * bytes ≤ 140737488355328) (hmx : l.length + m.length ≤ maxLen) (hB : B ≤ w.heap.size)
    (h : ∀ v' w', Own e enc B w' v' (l ++ m) → w.grownBy w' v.ownBlock → wpList P ops Q rest (a.put o.dst v') w') : wpList P ops Q (o :: rest) a w :=
  wpList_app_nn hgd s x ho ht hi hz hs hx hown hsrc h1c hlen hmx hB fun v' w' h1 h2 _ => h v' w' h1 h2
end
def Fits {α : Type} [Inhabited α] (e : TypeId) (enc : α → Value) (B : Nat) (w : World) (v : Value) (l : List α) : Prop := Own e enc B w v l ∨ ∃ x, v = .slice x l.length l.length ∧ Holds enc w v l
theorem Fits.on {α : Type} [Inhabited α] {enc : α → Value} {e : TypeId} {B : Nat} {w w' : World} {v : Value} {l : List α} (h : Fits e enc B w v l) (hb : Below w.heap.size w w') : Fits e enc B w' v l := by
  rcases h with h | ⟨x, hv, h⟩
  · exact Or.inl (h.on hb)
  · exact Or.inr ⟨x, hv, h.on hb⟩
theorem Fits.holds {α : Type} [Inhabited α] {enc : α → Value} {e : TypeId} {B : Nat} {w : World} {v : Value} {l : List α} (h : Fits e enc B w v l) : Holds enc w v l := by
  rcases h with h | ⟨x, hv, h⟩
  · exact h.holds
  · exact h
section
variable {P : Program} {w : World} {ops : Array Oper} {rest : List Oper} {o : Oper} {a : Act} {Q : Exit → Act → World → Prop} {α : Type} [Inhabited α] {enc : α → Value} {e t : TypeId} {bytes : Nat} {z : Value}
end
theorem holds_one {α : Type} [Inhabited α] (enc : α → Value) (e : TypeId) (w : World) (x : α) : Holds enc (w.alloc (.cells #[enc x] e)) (.slice (some ⟨w.heap.size, 0, none⟩) 1 1) [x] := by
  refine ⟨_, 1, rfl, by simp, Or.inr ⟨_, _, rfl, fun j hj => ?_⟩⟩
  have : j = 0 := by simpa using hj
  subst this
  simp [World.cell?_alloc_mark, nth]
theorem own_empty {α : Type} [Inhabited α] (enc : α → Value) (e : TypeId) (w : World) : Own e enc w.heap.size (w.alloc (.cells #[] e)) (.slice (some ⟨w.heap.size, 0, none⟩) 0 0) [] := World.ownsRow_lit w #[] 0 (Nat.le_refl _) (by unfold maxLen; omega) rfl
theorem pB0 {α : Type _} (l : List α) (i : Nat) (a : α) : l.toArray.setIfInBounds i a = (l.set i a).toArray := by simp
theorem pB1 {α : Type _} {x a : α} {xs : List α} : (x :: xs).set 0 a = a :: xs := rfl
theorem pB2 {α : Type _} {x a : α} {xs : List α} {n : Nat} : (x :: xs).set (n + 1) a = x :: xs.set n a := rfl
end Go.Proofs.YtfglcmanmfenpaaGreat.Row
/- Contracts of the helpers by which the laws measure, copy, compare, mark and look at slices of strings: a copy lies in memory of the call's own and holds the same list; comparing tells whether the lists are equal; marking writes the texts of the numbers from k on; looking at the marks tells that they are there. No conditions but that lengths fit. -/
namespace Go.Proofs.YtfglcmanmfenpaaGreat.Row
open Go.ChangeShapes Go.WideShapes Go.ChangeAt Go.RowKit Go.Instr
set_option linter.unusedVariables false
set_option maxRecDepth 100000
def bulkTo (l : List ByteArray) (k : Nat) : Nat := l.length + ((l.take k).map (·.size)).sum
def bulk (l : List ByteArray) : Nat := bulkTo l l.length
theorem bulkTo_succ (l : List ByteArray) {k : Nat} (h : k < l.length) : bulkTo l (k + 1) = bulkTo l k + (nth l k).size := by
  unfold bulkTo
  rw [List.take_succ_eq_append_getElem h, nth_eq h, List.map_append, List.sum_append]
  simp only [List.map_cons, List.map_nil, List.sum_cons, List.sum_nil]
  omega
theorem sum_take_le (l : List Nat) : ∀ k, (l.take k).sum ≤ l.sum := by
  induction l with
  | nil => simp
  | cons a r ih => intro k; cases k with
    | zero => simp
    | succ k => have := ih k; simp only [List.take_succ_cons, List.sum_cons]; omega
theorem bulkTo_le (l : List ByteArray) (k : Nat) : bulkTo l k ≤ bulk l := by
  unfold bulk bulkTo
  have := sum_take_le (l.map (·.size)) k
  rw [List.take_length, List.map_take]; omega
theorem bulk_len (l : List ByteArray) : l.length ≤ bulk l := by unfold bulk bulkTo; omega
def szL (l : List ByteArray) (left : Int) : Int := if (bulk l : Int) ≤ left then left - bulk l else -1
def filled (l : List ByteArray) (k : Nat) : List ByteArray := l.take k ++ List.replicate (l.length - k) ByteArray.empty
def agree {α : Type} [Inhabited α] (a b : List α) (k : Nat) : Prop := ∀ j, j < k → nth a j = nth b j
section
variable {α : Type} [Inhabited α]
theorem agree_zero (a b : List α) : agree a b 0 := fun j h => absurd h (by omega)
theorem agree_succ {a b : List α} {k : Nat} (h : agree a b k) (hk : nth a k = nth b k) : agree a b (k + 1) := fun j hj => by
  by_cases e : j = k
  · subst e; exact hk
  · exact h j (by omega)
theorem agree_all {a b : List α} (hl : a.length = b.length) (h : agree a b a.length) : a = b := by
  apply List.ext_getElem hl
  intro i h1 h2
  have := h i h1
  rwa [nth_eq h1, nth_eq h2] at this
theorem differ_at {a b : List α} {k : Nat} (h : ¬ nth a k = nth b k) : a ≠ b := fun e => h (by rw [e])
end
def eqB (a b : List ByteArray) : Bool := decide (a = b)
theorem eqB_true {a b : List ByteArray} (h : a = b) : eqB a b = true := by simp [eqB, h]
theorem eqB_false {a b : List ByteArray} (h : a ≠ b) : eqB a b = false := by simp [eqB, h]
def marks {α : Type} (f : Int → α) (k : Int) : Nat → List α
  | 0 => []
  | n + 1 => marks f k n ++ [f (k + n)]
section
variable {α : Type} (f : Int → α)
def marked {α : Type} (f : Int → α) (k : Int) (l : List α) (j : Nat) : List α := marks f k j ++ l.drop j
end
section
variable {α : Type} [Inhabited α] {enc : α → Value}
end
theorem below_drewN {B : Nat} {a w : World} (h : Below B a w) (n : Nat) : Below B a (w.drewN n) := ⟨h.os, h.tape, h.output, h.size, h.block⟩
theorem ret_bool {a b : Bool} (h : a = b) : Ending.returned (.bool a) = .returned (.bool b) := by rw [h]
theorem ret_int {k : IntKind} {a b : Int} (h : a = b) : Ending.returned (.int k a) = .returned (.int k b) := by rw [h]
theorem toList_inj {a b : ByteArray} (h : a.toList = b.toList) : a = b := by
  rw [ByteArray.toList_eq, ByteArray.toList_eq] at h
  exact ByteArray.ext (Array.toList_inj.1 h)
theorem tl_eq {a b : ByteArray} (h : a = b) : (!(a.toList == b.toList)) = false := by subst h; simp
theorem tl_ne {a b : ByteArray} (h : ¬ a = b) : (!(a.toList == b.toList)) = true := by
  have : a.toList ≠ b.toList := fun e => h (toList_inj e)
  simpa using this
theorem oneStr (x : ByteArray) : (Value.string x).oneCell' = true := rfl
theorem elemSTR : Elem Tryz.prog 9 (.string ByteArray.empty) 16 := by unfold Elem; kernel_rfl
theorem sameTexts_len (x y : Option Addr) (n m cx cy : Nat) (w : World) (h : (((n : Nat) : Int) != ((m : Nat) : Int)) = true) :
    Calls Tryz.prog 80 #[.slice x n cx, .slice y m cy] w fun e w' => e = .returned (.bool false) ∧ w = w' := by
  go_enter Tryz.func80, Tryz.ntmps80
  go_wp2
  go_ret
  exact ⟨rfl, rfl⟩
set_option maxHeartbeats 1000000 in
theorem sameTexts (v u : Value) (l m : List ByteArray) (w : World) (h : Holds Value.string w v l) (g : Holds Value.string w u m) (hl : l.length ≤ 140737488351232) (hm : m.length ≤ 140737488351232) :
    Calls Tryz.prog 80 #[v, u] w fun e w' => e = .returned (.bool (eqB l m)) ∧ Below w.heap.size w w' := by
  obtain ⟨x, cx, rfl, hcx, hh⟩ := h.shape
  obtain ⟨y, cy, rfl, hcy, hg⟩ := g.shape
  by_cases he : l.length = m.length
  · obtain ⟨n, hn⟩ : ∃ n, n = l.length := ⟨_, rfl⟩
    rw [← he] at hg hm hcy ⊢
    rw [← hn] at hcx hh hl hg hm hcy ⊢
    have HE := Lib.hid he
    have HN := Lib.hid hn
    have HH := Lib.hid hh
    have HG := Lib.hid hg
    have htest : (((n : Nat) : Int) != ((n : Nat) : Int)) = false := by simp
    clear hn h hh g hg he
    go_enter Tryz.func80, Tryz.ntmps80
    go_wp2
    go_loopw [5] (fun i wr => ∃ k nq : Nat, k ≤ n ∧ i = .int .i64 k ∧ Hid (agree l m k) ∧ wr = w.drewN nq) (fun i _ => n - (intOf i).toNat)
    case atStart => exact ⟨0, 0, Nat.zero_le _, rfl, Lib.hid (agree_zero _ _), rfl⟩
    case round =>
      obtain ⟨k, nq, hk, rfl, ha, rfl⟩ := hrel
      by_cases hlt : k < n
      · have hlen := HN.out
        have hlen2 := HE.out
        obtain ⟨b, off, rfl, hc⟩ := HH.out.at (j := k) (by omega)
        obtain ⟨b', off', rfl, hc'⟩ := HG.out.at (j := k) (by omega)
        clear hlen hlen2
        by_cases hd : nth l k = nth m k
        · have hd2 := tl_eq hd
          have HD := Lib.hid hd; clear hd
          go_wp2_with fail
          go_quiet (fail)
          go_wp2_with fail
          go_roundw
          case rel => exact ⟨k + 1, _, by omega, by go_num, Lib.hid (agree_succ ha.out HD.out), rfl⟩
          case measure => simp [intOf]; omega
        · have hd2 := tl_ne hd
          have HD := Lib.hid (eqB_false (differ_at hd)); clear hd
          go_wp2_with fail
          go_quiet (fail)
          go_wp2_with fail
          go_ret
          exact ⟨ret_bool HD.out.symm, below_drewN (below_drewN (Below.refl _ _) _) _⟩
      · obtain rfl : k = n := by omega
        have HD := Lib.hid (eqB_true (agree_all HE.out (HN.out ▸ ha.out)))
        clear hlt
        go_wp2
        go_ret
        exact ⟨ret_bool HD.out.symm, below_drewN (Below.refl _ _) _⟩
  · have htest : (((l.length : Nat) : Int) != ((m.length : Nat) : Int)) = true := by
      rw [bne_iff_ne]; omega
    rw [eqB_false (fun e => he (by rw [e]))]
    exact (sameTexts_len x y _ _ cx cy w htest).mono fun e w' ⟨h1, h2⟩ => ⟨h1, by subst h2; exact Below.refl _ _⟩
def str (l : List UInt8) : ByteArray := ⟨l.toArray⟩
def digs (u : Nat) : List UInt8 := if u = 0 then [] else digs (u / 10) ++ [UInt8.ofNat (48 + u % 10)]
decreasing_by omega
def markT (k : Int) : ByteArray := if k ≤ 0 then str [109, 48] else str (109 :: digs k.toNat)
end Go.Proofs.YtfglcmanmfenpaaGreat.Row
/- Results that lie in a variable of the call's own: a struct is read back cell by cell. For any program. -/
namespace Go.Proofs.YtfglcmanmfenpaaGreat.Ret
variable {P : Program}
def AggOf (P : Program) (ty : TypeId) (n : Nat) : Prop := (match P.underlying ty with | some (.struct _) => true | some (.array _ _) => true | _ => false) = true ∧ (P.info? ty).map (·.size) = some n
theorem run_loadVar_cells (w : World) (b : Nat) (ty : TypeId) (cs : List Value) (hc : ∀ j v, cs[j]? = some v → w.cell? ⟨b, j, none⟩ = some v) (ha : AggOf P ty cs.length) :
    (loadVar ty ⟨b, 0, none⟩).run P w = .ok (.agg cs.toArray) w := by
  obtain ⟨hd, hi⟩ := ha
  have hl : (loadCells ⟨b, 0, none⟩ cs.length).run P w = .ok cs.toArray w :=
    run_loadCells_list (P := P) w ⟨b, 0, none⟩ cs (fun j v hv => by
      have hadd : (⟨b, 0, none⟩ : Addr).add j = ⟨b, j, none⟩ := by unfold Addr.add; split <;> simp_all
      rw [hadd]; exact hc j v hv)
  cases hq : P.info? ty with
  | none => simp [hq] at hi
  | some i =>
    have hs : i.size = cs.length := by simpa [hq] using hi
    cases hu : P.underlying ty with
    | none => simp [hu] at hd
    | some d =>
      have hagg : (isAgg ty).run P w = .ok true w := by
        unfold isAgg
        rw [Sem.run_bind, run_underlying hu w]
        cases d <;> simp_all
      simp [loadVar, Sem.run_bind, hagg, sizeOf, typeInfo, hq, hs, hl]
theorem results_c {fn : Func} {p : Tmp} {ty : TypeId} (h : fn.results = #[.cell p ty]) (tmps : Array Value) (w : World) (b : Nat) (cs : List Value) (hp : tmps.getD p undef = .pointer (some ⟨b, 0, none⟩))
    (ha : AggOf P ty cs.length) (hc : ∀ j v, cs[j]? = some v → w.cell? ⟨b, j, none⟩ = some v) : (results fn tmps).run P w = .ok (.agg cs.toArray) w := by
  have hp' : tmps[p]?.getD undef = .pointer (some ⟨b, 0, none⟩) := by simpa using hp
  have hl := run_loadVar_cells (P := P) w b ty cs hc ha
  simp [results, h, hp', asAddr, hl]
theorem results_ct {fn : Func} {p u : Tmp} {ty : TypeId} (h : fn.results = #[.cell p ty, .tmp u]) (tmps : Array Value) (w : World) (b : Nat) (cs : List Value) (hp : tmps.getD p undef = .pointer (some ⟨b, 0, none⟩))
    (ha : AggOf P ty cs.length) (hc : ∀ j v, cs[j]? = some v → w.cell? ⟨b, j, none⟩ = some v) : (results fn tmps).run P w = .ok (.tuple #[.agg cs.toArray, tmps.getD u undef]) w := by
  have hp' : tmps[p]?.getD undef = .pointer (some ⟨b, 0, none⟩) := by simpa using hp
  have hl := run_loadVar_cells (P := P) w b ty cs hc ha
  simp [results, h, hp', asAddr, hl, Result.andThen]
theorem results_cc {fn : Func} {p p2 : Tmp} {ty ty2 : TypeId} (h : fn.results = #[.cell p ty, .cell p2 ty2]) (tmps : Array Value) (w : World) (b b2 : Nat) (cs cs2 : List Value) (hp : tmps.getD p undef = .pointer (some ⟨b, 0, none⟩)) (hp2 : tmps.getD p2 undef = .pointer (some ⟨b2, 0, none⟩))
    (ha : AggOf P ty cs.length) (ha2 : AggOf P ty2 cs2.length) (hc : ∀ j v, cs[j]? = some v → w.cell? ⟨b, j, none⟩ = some v) (hc2 : ∀ j v, cs2[j]? = some v → w.cell? ⟨b2, j, none⟩ = some v) : (results fn tmps).run P w = .ok (.tuple #[.agg cs.toArray, .agg cs2.toArray]) w := by
  have hp' : tmps[p]?.getD undef = .pointer (some ⟨b, 0, none⟩) := by simpa using hp
  have hp2' : tmps[p2]?.getD undef = .pointer (some ⟨b2, 0, none⟩) := by simpa using hp2
  have hl := run_loadVar_cells (P := P) w b ty cs hc ha
  have hl2 := run_loadVar_cells (P := P) w b2 ty2 cs2 hc2 ha2
  simp [results, h, hp', hp2', asAddr, hl, hl2, Result.andThen]
theorem one {w : World} {b : Nat} {u : Value} (h : w.cell? ⟨b, 0, none⟩ = some u) : ∀ j v, [u][j]? = some v → w.cell? ⟨b, j, none⟩ = some v := by
  intro j v hv
  cases j with
  | zero => simp at hv; subst hv; exact h
  | succ j => simp at hv
theorem cell_at {w : World} {u : Value} {t : TypeId} {n : Nat} (hn : n = w.heap.size) : (w.alloc (.cells #[u] t)).cell? ⟨n, 0, none⟩ = some u := by
  rw [World.cell?_alloc_at _ _ _ _ hn]; rfl
theorem set_same {w : World} {a : Addr} {u v : Value} (h : w.cell? a = some u) : (w.setCell a v).cell? a = some v := World.cell?_setCell_same' w a v (by rw [h]; rfl)
theorem grownBy_set (w : World) (a : Addr) (u : Value) : w.grownBy (w.setCell a u) (some a.block) := ⟨rfl, rfl, rfl, by simp [World.setCell], fun i hi hne => Go.RowKit.Below.heap_setCell _ _ _ _ (fun e => hne (by rw [e]))⟩
open Go.RowKit in
theorem cell_lt {w : World} {a : Addr} {u : Value} (h : w.cell? a = some u) : a.block < w.heap.size := World.block_lt_of_cell? w a h
def NC (w : World) (g : Nat) (u : Value) : Prop := w.cell? ⟨g, 0, none⟩ = some u ∧ w.frozen? ⟨g, 0, none⟩ = false
section
open Go.RowKit
variable {w w' : World} {g : Nat} {u : Value}
theorem NC.lt (h : NC w g u) : g < w.heap.size := cell_lt h.1
theorem NC.on (h : NC w g u) (hb : Below w.heap.size w w') : NC w' g u := ⟨by rw [hb.cell h.lt]; exact h.1, by rw [hb.frozen h.lt]; exact h.2⟩
theorem NC.grown (h : NC w g u) {row : Option Nat} (hg : w.grownBy w' row) (hne : some g ≠ row) : NC w' g u := ⟨hg.cell h.1 hne, (World.frozen?_of_block (hg.block g h.lt hne)).trans h.2⟩
theorem NC.new (w : World) (u : Value) (t : TypeId) : NC (w.alloc (.cells #[u] t)) w.heap.size u := ⟨cell_at rfl, World.frozen?_alloc_at _ _ _ _ rfl⟩
theorem NC.new' {w : World} (u : Value) (t : TypeId) {n : Nat} (h : n = w.heap.size) : NC (w.alloc (.cells #[u] t)) n u := by subst h; exact NC.new w u t
theorem NC.alloc (h : NC w g u) (o : Obj) : NC (w.alloc o) g u := ⟨by rw [World.cell?_alloc_past _ _ _ h.lt]; exact h.1, by rw [World.frozen?_alloc_past _ _ _ h.lt]; exact h.2⟩
theorem NC.drew (h : NC w g u) : NC w.drew g u := h
theorem NC.other (h : NC w g u) {a : Addr} (hne : a.block ≠ g) (v : Value) : NC (w.setCell a v) g u := h.grown (grownBy_set w a v) (fun e => hne (by cases e; rfl))
end
def Box (w : World) (g : Nat) (u : Value) (t : TypeId) : Prop := w.heap[g]? = some (.cells #[u] t)
section
open Go.RowKit
variable {w w' : World} {g : Nat} {u : Value} {t : TypeId}
theorem Box.lt (h : Box w g u t) : g < w.heap.size := (Array.getElem?_eq_some_iff.1 h).1
theorem Box.cell (h : Box w g u t) : w.cell? ⟨g, 0, none⟩ = some u := by rw [cell_of_row w g 0 #[u] t _ h]; rfl
theorem Box.on (h : Box w g u t) (hb : Below w.heap.size w w') : Box w' g u t := (hb.block g h.lt).trans h
theorem Box.grown (h : Box w g u t) {row : Option Nat} (hg : w.grownBy w' row) (hne : some g ≠ row) : Box w' g u t := (hg.block g h.lt hne).trans h
theorem Box.new (w : World) (u : Value) (t : TypeId) : Box (w.alloc (.cells #[u] t)) w.heap.size u t := heap_alloc_new w _
theorem Box.frozen (h : Box w g u t) : w.frozen? ⟨g, 0, none⟩ = false := by simp [World.frozen?, show w.heap[g]? = some (.cells #[u] t) from h]
theorem Box.nc (h : Box w g u t) : NC w g u := ⟨h.cell, h.frozen⟩
theorem Box.set (h : Box w g u t) (v : Value) : Box (w.setCell ⟨g, 0, none⟩ v) g v t := by
  have h' : w.heap[g]? = some (.cells #[u] t) := h
  unfold Box
  simp [World.setCell, Array.getElem?_modify, h']
theorem Box.new' {w : World} (u : Value) (t : TypeId) {n : Nat} (h : n = w.heap.size) : Box (w.alloc (.cells #[u] t)) n u t := by subst h; exact Box.new w u t
end
end Go.Proofs.YtfglcmanmfenpaaGreat.Ret
/- Contracts of the helpers by which the laws measure, copy, compare, mark and look at names (a struct of one slice of strings). No conditions but that lengths fit. -/
namespace Go.Proofs.YtfglcmanmfenpaaGreat.Row
open Go.ChangeShapes Go.WideShapes Go.ChangeAt Go.RowKit Go.Instr
set_option linter.unusedVariables false
set_option maxRecDepth 100000
theorem Own.shape {α : Type} [Inhabited α] {enc : α → Value} {e : TypeId} {B : Nat} {w : World} {v : Value} {l : List α} (h : Own e enc B w v l) : ∃ x cap, v = .slice x l.length cap ∧ l.length ≤ cap ∧ Own e enc B w (.slice x l.length cap) l := by
  rcases h.form with ⟨rfl, rfl⟩ | ⟨g, cap, rfl, h1, h2, h3, h4⟩
  · exact ⟨none, 0, rfl, by simp, h⟩
  · exact ⟨_, cap, rfl, h3, h⟩
theorem Own.shapeN {α : Type} [Inhabited α] {enc : α → Value} {e : TypeId} {B : Nat} {w : World} {v : Value} {l : List α} (h : Own e enc B w v l) : ∃ x n cap, v = .slice x n cap ∧ n = l.length ∧ n ≤ cap ∧ Own e enc B w (.slice x n cap) l := by
  obtain ⟨x, cap, rfl, hc, ho⟩ := h.shape
  exact ⟨x, _, cap, rfl, rfl, hc, ho⟩
theorem Holds.shapeN {α : Type} [Inhabited α] {enc : α → Value} {w : World} {v : Value} {l : List α} (h : Holds enc w v l) : ∃ x n cap, v = .slice x n cap ∧ n = l.length ∧ n ≤ cap ∧ Holds enc w (.slice x n cap) l := by
  obtain ⟨x, cap, rfl, hc, ho⟩ := h.shape
  exact ⟨x, _, cap, rfl, rfl, hc, ho⟩
theorem nb {α : Type} [Inhabited α] {enc : α → Value} {e : TypeId} {B : Nat} {w : World} {v : Value} {l : List α} (h : Own e enc B w v l) {b : Nat} (hb : b < B) : v.ownBlock = none ∨ v.ownBlock ≠ some b := by
  cases hv : v.ownBlock with
  | none => exact Or.inl rfl
  | some g =>
    have := (h.lt g hv).1
    exact Or.inr (fun e => by cases e; omega)
theorem bigLen {l : List ByteArray} {n : Nat} (h : bulk l ≤ n) : l.length ≤ n := Nat.le_trans (bulk_len l) h
set_option maxHeartbeats 1000000 in
theorem sameName (v u : Value) (l m : List ByteArray) (w : World) (h : Holds Value.string w v l) (g : Holds Value.string w u m) (hl : l.length ≤ 140737488351232) (hm : m.length ≤ 140737488351232) :
    Calls Tryz.prog 53 #[.agg #[v], .agg #[u]] w fun e w' => e = .returned (.bool (eqB l m)) ∧ Below w.heap.size w w' := by
  obtain ⟨x, cx, rfl, hcx, hh⟩ := h.shape
  obtain ⟨y, cy, rfl, hcy, hg⟩ := g.shape
  have HH := Lib.hid hh; have HG := Lib.hid hg
  clear hh h hg g
  go_enter Tryz.func53, Tryz.ntmps53
  go_wp2_with fail
  have HB := Lib.hid (((Below.refl w.heap.size w).alloc (Nat.le_refl _) (.cells #[.slice x l.length cx] 29)).alloc (Nat.le_trans (Nat.le_refl _) (by simp)) (.cells #[.slice y m.length cy] 29))
  have HA := Lib.hid (HH.out.on HB.out); have HC := Lib.hid (HG.out.on HB.out)
  refine (sameTexts _ _ l m _ HA.out HC.out hl hm).mono ?_
  rintro e w' ⟨rfl, hb⟩
  have HB2 := Lib.hid (HB.out.trans (hb.mono (by simp; omega))); clear hb
  go_wp2
  go_ret
  exact ⟨rfl, HB2.out⟩
end Go.Proofs.YtfglcmanmfenpaaGreat.Row
/- What the exact laws on names use besides the contracts: a name that came in as an argument; equal names compared; blocks that differ. No conditions. -/
namespace Go.Proofs.YtfglcmanmfenpaaGreat.Row
open Go.ChangeShapes Go.WideShapes Go.ChangeAt Go.RowKit Go.Instr
set_option linter.unusedVariables false
set_option maxRecDepth 100000
theorem Own.notBox {α : Type} [Inhabited α] {enc : α → Value} {e : TypeId} {B : Nat} {w : World} {v : Value} {l : List α} (h : Own e enc B w v l) {g : Nat} {u : Value} {t : TypeId} (hb : Ret.Box w g u t) (hne : e ≠ t) : some g ≠ v.ownBlock := by
  rcases h.2 with ⟨rfl, _⟩ | ⟨g', cap, cur, rfl, _, hg, _⟩
  · simp [Value.ownBlock]
  · intro e1
    have : g = g' := by simpa [Value.ownBlock] using e1
    rw [← this, hb] at hg
    cases hg
    exact hne rfl
def Apart (v u : Value) : Prop := ∀ g, v.ownBlock = some g → u.ownBlock ≠ some g
theorem Apart.symm {v u : Value} (h : Apart v u) : Apart u v := fun g h1 h2 => h g h2 h1
def Far {α : Type} [Inhabited α] (enc : α → Value) (B : Nat) (w : World) (v : Value) (l : List α) : Prop :=
  ∃ x cap, v = .slice x l.length cap ∧ l.length ≤ cap ∧ (l = [] ∨ ∃ b off, x = some ⟨b, off, none⟩ ∧ b < B ∧ ∀ j, j < l.length → w.cell? ⟨b, off + j, none⟩ = some (enc (nth l j)))
section
variable {α : Type} [Inhabited α] {enc : α → Value} {B : Nat} {w w' : World} {v : Value} {l : List α}
theorem Far.holds (h : Far enc B w v l) : Holds enc w v l := by
  obtain ⟨x, cap, hv, hc, hh⟩ := h
  refine ⟨x, cap, hv, hc, ?_⟩
  rcases hh with h1 | ⟨b, off, hx, _, h2⟩
  · exact Or.inl h1
  · exact Or.inr ⟨b, off, hx, h2⟩
theorem Far.on (h : Far enc B w v l) (hb : Below w.heap.size w w') : Far enc B w' v l := by
  obtain ⟨x, cap, hv, hc, hh⟩ := h
  refine ⟨x, cap, hv, hc, ?_⟩
  rcases hh with h1 | ⟨b, off, hx, hlt, h2⟩
  · exact Or.inl h1
  · exact Or.inr ⟨b, off, hx, hlt, fun j hj => by rw [hb.cell (cell_lt (h2 j hj))]; exact h2 j hj⟩
theorem Far.grown (h : Far enc B w v l) {row : Option Nat} (hg : w.grownBy w' row) (hr : ∀ g, row = some g → B ≤ g) : Far enc B w' v l := by
  obtain ⟨x, cap, hv, hc, hh⟩ := h
  refine ⟨x, cap, hv, hc, ?_⟩
  rcases hh with h1 | ⟨b, off, hx, hlt, h2⟩
  · exact Or.inl h1
  · exact Or.inr ⟨b, off, hx, hlt, fun j hj => hg.cell (h2 j hj) (fun e => by have := hr b e.symm; omega)⟩
def Over (B : Nat) (u : Value) : Prop := ∀ g, u.ownBlock = some g → B ≤ g
end
end Go.Proofs.YtfglcmanmfenpaaGreat.Row
/- Slices of elements of several cells (structs) in memory, for any program: a slice value that holds a list; a slice in blocks of the call's own that holds a list; what keeps both; appending, storing. No conditions but that lengths fit. -/
namespace Go.Proofs.YtfglcmanmfenpaaGreat.Row
open Go.ChangeShapes Go.WideShapes Go.ChangeAt Go.RowKit
set_option linter.unusedVariables false
set_option maxRecDepth 100000
def Sz {α : Type} (enc : α → List Value) (sz : Nat) : Prop := ∀ x, (enc x).length = sz
def flat {α : Type} (enc : α → List Value) (l : List α) : List Value := l.flatMap enc
section
variable {α : Type} {enc : α → List Value} {sz : Nat}
theorem flat_length (hs : Sz enc sz) (l : List α) : (flat enc l).length = l.length * sz := by
  unfold flat
  induction l with
  | nil => simp
  | cons a r ih => rw [List.flatMap_cons, List.length_append, ih, hs a, List.length_cons, Nat.add_mul]; omega
theorem flat_append (l m : List α) : flat enc (l ++ m) = flat enc l ++ flat enc m := by simp [flat]
theorem flat_one (x : α) : flat enc [x] = enc x := by simp [flat]
theorem flat_at [Inhabited α] (hs : Sz enc sz) : ∀ (l : List α) (j i : Nat), j < l.length → i < sz → (flat enc l)[j * sz + i]? = (enc (nth l j))[i]?
  | a :: r, 0, i, _, hi => by
    unfold flat
    rw [List.flatMap_cons, List.getElem?_append_left (by rw [hs a]; omega)]
    simp [nth]
  | a :: r, j + 1, i, hj, hi => by
    have ih := flat_at hs r j i (by simpa using hj) hi
    unfold flat at *
    rw [List.flatMap_cons, List.getElem?_append_right (by rw [hs a, Nat.add_mul]; omega), hs a, show (j + 1) * sz + i - sz = j * sz + i by rw [Nat.add_mul]; omega, ih]
    simp [nth]
theorem flat_set [Inhabited α] (hs : Sz enc sz) {y : α} {u : Value} {i : Nat} (hi : i < sz) : ∀ (l : List α) (j : Nat), j < l.length → enc y = (enc (nth l j)).set i u → (flat enc l).set (j * sz + i) u = flat enc (l.set j y)
  | a :: r, 0, _, he => by
    have he : enc y = (enc a).set i u := by simpa [nth] using he
    unfold flat
    rw [List.flatMap_cons, List.set_cons_zero, List.flatMap_cons, List.set_append_left _ _ (by rw [hs a]; omega), he]
    simp
  | a :: r, j + 1, hj, he => by
    have ih := flat_set hs hi r j (by simpa using hj) (by simpa [nth] using he)
    unfold flat at *
    rw [List.flatMap_cons, List.set_cons_succ, List.flatMap_cons, List.set_append_right _ _ (by rw [hs a, Nat.add_mul]; omega), hs a, show (j + 1) * sz + i - sz = j * sz + i by rw [Nat.add_mul]; omega, ih]
theorem flat_one' (h1c : ∀ x, ∀ u ∈ enc x, u.oneCell' = true) (l : List α) : ∀ u ∈ flat enc l, u.oneCell' = true := by
  intro u hu
  unfold flat at hu
  obtain ⟨x, _, hx⟩ := List.mem_flatMap.1 hu
  exact h1c x u hx
end
def HoldsK {α : Type} (enc : α → List Value) (sz : Nat) (w : World) (v : Value) (l : List α) : Prop :=
  ∃ x cap, v = .slice x l.length cap ∧ l.length ≤ cap ∧ (l = [] ∨ ∃ b off, x = some ⟨b, off, none⟩ ∧ ∀ j, j < l.length * sz → ∃ u, (flat enc l)[j]? = some u ∧ w.cell? ⟨b, off + j, none⟩ = some u)
def OwnK {α : Type} (e : TypeId) (enc : α → List Value) (sz : Nat) (B : Nat) (w : World) (v : Value) (l : List α) : Prop := w.ownsRow B e sz v l.length (flat enc l)
section
variable {α : Type} {enc : α → List Value} {sz : Nat} {e : TypeId} {B : Nat} {w w' : World} {v : Value} {l : List α}
theorem OwnK.form (h : OwnK e enc sz B w v l) : (v = .slice none 0 0 ∧ l = []) ∨ ∃ g cap, v = .slice (some ⟨g, 0, none⟩) l.length cap ∧ B ≤ g ∧ g < w.heap.size ∧ l.length ≤ cap ∧ cap ≤ maxLen := by
  rcases h.2 with ⟨hv, hn⟩ | ⟨g, cap, cur, hv, hg, hh, h1, h2, h3, h4⟩
  · exact Or.inl ⟨hv, List.eq_nil_of_length_eq_zero hn⟩
  · exact Or.inr ⟨g, cap, hv, hg, (Array.getElem?_eq_some_iff.1 hh).1, h1, h2⟩
theorem OwnK.holds (h : OwnK e enc sz B w v l) : HoldsK enc sz w v l := by
  rcases h.form with ⟨rfl, rfl⟩ | ⟨g, cap, rfl, h1, h2, h3, h4⟩
  · exact ⟨none, 0, rfl, by simp, Or.inl rfl⟩
  · refine ⟨_, cap, rfl, h3, ?_⟩
    by_cases hl : l = []
    · exact Or.inl hl
    · refine Or.inr ⟨g, 0, rfl, fun j hj => ?_⟩
      have h5 := World.ownsRow.cellAt h j hj
      have h6 : (flat enc l)[j]? = some ((flat enc l)[j]'(by rw [h.1]; exact hj)) := List.getElem?_eq_getElem _
      exact ⟨_, h6, by rw [Nat.zero_add, h5]; exact h6⟩
theorem OwnK.lt (h : OwnK e enc sz B w v l) : ∀ g, v.ownBlock = some g → B ≤ g ∧ g < w.heap.size := World.ownsRow.lt h
theorem OwnK.grown (h : OwnK e enc sz B w v l) {row : Option Nat} (hg : w.grownBy w' row) (hne : v.ownBlock = none ∨ v.ownBlock ≠ row) : OwnK e enc sz B w' v l := World.ownsRow.kept h hg hne
theorem OwnK.on (h : OwnK e enc sz B w v l) (hb : Below w.heap.size w w') : OwnK e enc sz B w' v l := by
  refine World.ownsRow.kept h (grown_of_below hb none) ?_
  cases hv : v.ownBlock <;> simp
theorem OwnK.mono (h : OwnK e enc sz B w v l) {B' : Nat} (hB : B' ≤ B) : OwnK e enc sz B' w v l := by
  refine ⟨h.1, ?_⟩
  rcases h.2 with h2 | ⟨g, cap, cur, hv, hg, r⟩
  · exact Or.inl h2
  · exact Or.inr ⟨g, cap, cur, hv, Nat.le_trans hB hg, r⟩
theorem OwnK.nil (e : TypeId) (enc : α → List Value) (sz B : Nat) (w : World) : OwnK e enc sz B w (.slice none 0 0) [] := World.ownsRow_nil w B e sz
theorem OwnK.len (h : OwnK e enc sz B w v l) : l.length ≤ maxLen := by
  rcases h.form with ⟨rfl, rfl⟩ | ⟨g, cap, rfl, h1, h2, h3, h4⟩
  · simp
  · omega
theorem HoldsK.on (h : HoldsK enc sz w v l) (hb : Below w.heap.size w w') : HoldsK enc sz w' v l := by
  obtain ⟨x, cap, hv, hc, h⟩ := h
  refine ⟨x, cap, hv, hc, ?_⟩
  rcases h with h | ⟨b, off, hx, h⟩
  · exact Or.inl h
  · refine Or.inr ⟨b, off, hx, fun j hj => ?_⟩
    obtain ⟨u, h1, h2⟩ := h j hj
    exact ⟨u, h1, by rw [hb.cell (cell_lt h2)]; exact h2⟩
theorem HoldsK.nil (enc : α → List Value) (sz : Nat) (w : World) : HoldsK enc sz w (.slice none 0 0) [] := ⟨none, 0, rfl, by simp, Or.inl rfl⟩
theorem HoldsK.shape (h : HoldsK enc sz w v l) : ∃ x cap, v = .slice x l.length cap ∧ l.length ≤ cap ∧ HoldsK enc sz w (.slice x l.length cap) l := by
  obtain ⟨x, cap, hv, hc, h⟩ := h
  exact ⟨x, cap, hv, hc, x, cap, rfl, hc, h⟩
theorem OwnK.shape (h : OwnK e enc sz B w v l) : ∃ x cap, v = .slice x l.length cap ∧ l.length ≤ cap ∧ OwnK e enc sz B w (.slice x l.length cap) l := by
  rcases h.form with ⟨rfl, rfl⟩ | ⟨g, cap, rfl, h1, h2, h3, h4⟩
  · exact ⟨none, 0, rfl, by simp, h⟩
  · exact ⟨_, cap, rfl, h3, h⟩
theorem OwnK.shapeN (h : OwnK e enc sz B w v l) : ∃ x n cap, v = .slice x n cap ∧ n = l.length ∧ n ≤ cap ∧ OwnK e enc sz B w (.slice x n cap) l := by
  obtain ⟨x, cap, rfl, hc, ho⟩ := h.shape
  exact ⟨x, _, cap, rfl, rfl, hc, ho⟩
theorem HoldsK.shapeN (h : HoldsK enc sz w v l) : ∃ x n cap, v = .slice x n cap ∧ n = l.length ∧ n ≤ cap ∧ HoldsK enc sz w (.slice x n cap) l := by
  obtain ⟨x, cap, rfl, hc, ho⟩ := h.shape
  exact ⟨x, _, cap, rfl, rfl, hc, ho⟩
theorem HoldsK.lenEq {x : Option Addr} {n cap : Nat} (h : HoldsK enc sz w (.slice x n cap) l) : n = l.length := by
  obtain ⟨x', cap', hv, hc, h⟩ := h
  cases hv; rfl
theorem HoldsK.at [Inhabited α] (hs : Sz enc sz) {x : Option Addr} {n cap : Nat} (h : HoldsK enc sz w (.slice x n cap) l) {j : Nat} (hj : j < l.length) :
    ∃ b off, x = some ⟨b, off, none⟩ ∧ ∀ i, i < sz → w.cell? ⟨b, off + (j * sz + i), none⟩ = (enc (nth l j))[i]? := by
  obtain ⟨x', cap', hv, hc, h⟩ := h
  cases hv
  rcases h with rfl | ⟨b, off, hx, h⟩
  · simp at hj
  · refine ⟨b, off, hx, fun i hi => ?_⟩
    have hlt : j * sz + i < l.length * sz := by
      have : (j + 1) * sz ≤ l.length * sz := Nat.mul_le_mul_right _ hj
      rw [Nat.add_mul] at this; omega
    obtain ⟨u, h1, h2⟩ := h _ hlt
    rw [h2, ← flat_at hs l j i hj hi, h1]
theorem HoldsK.cells (hs : Sz enc sz) {ad : Addr} {n cap : Nat} (h : HoldsK enc sz w (.slice (some ad) n cap) l) : ∀ j u, (flat enc l)[j]? = some u → w.cell? (ad.add j) = some u := by
  intro j u hu
  have hj : j < l.length * sz := by have := (List.getElem?_eq_some_iff.1 hu).1; rwa [flat_length hs] at this
  obtain ⟨x', cap', hv, hc, h⟩ := h
  cases hv
  rcases h with rfl | ⟨b, off, hx, h⟩
  · simp [flat] at hu
  · cases hx
    obtain ⟨u', h1, h2⟩ := h j hj
    rw [Go.WideShapes.add_plain, h2, ← h1, hu]
theorem HoldsK.grown (h : HoldsK enc sz w v l) {row : Option Nat} (hg : w.grownBy w' row) (hne : ∀ g, v.ownBlock = some g → some g ≠ row) : HoldsK enc sz w' v l := by
  obtain ⟨x, cap, rfl, hc, h⟩ := h
  refine ⟨x, cap, rfl, hc, ?_⟩
  rcases h with h | ⟨b, off, rfl, h⟩
  · exact Or.inl h
  · refine Or.inr ⟨b, off, rfl, fun j hj => ?_⟩
    obtain ⟨u, h1, h2⟩ := h j hj
    exact ⟨u, h1, hg.cell h2 (hne b rfl)⟩
end
def ElemK (P : Program) (e : TypeId) (z : Value) (sz bytes : Nat) : Prop := (P.info? e).map (fun i => (i.zero, i.size, i.bytes)) = some (some z, sz, bytes)
structure Kind {α : Type} (P : Program) (e : TypeId) (enc : α → List Value) (z : Value) (sz bytes : Nat) : Prop where
  elem : ElemK P e z sz bytes
  zs : z.cells.size = sz
  pos : 0 < sz
  size : Sz enc sz
  one : ∀ x, ∀ u ∈ enc x, u.oneCell' = true
section
variable {P : Program} {w : World} {ops : Array Oper} {rest : List Oper} {o : Oper} {a : Act} {Q : Exit → Act → World → Prop} {α : Type} {enc : α → List Value} {sz : Nat} {e t : TypeId} {bytes : Nat} {z : Value}
theorem wpList_appK_nn (K : Kind P e enc z sz bytes) (hgd : o.guard = none) (s x : Operand) (ho : o.op = .call { callee := .builtin .append, args := #[s, x], argTypes := #[t, t] }) (ht : P.underlying t = some (.slice e))
    {B : Nat} {v vx : Value} {l m : List α} (hs : a.eval s = v) (hx : a.eval x = vx) (hown : OwnK e enc sz B w v l) (hsrc : HoldsK enc sz w vx m) (hlen : (l.length + m.length) * bytes ≤ 140737488355328) (hmx : l.length + m.length ≤ maxLen) (hB : B ≤ w.heap.size)
    (h : ∀ v' w', OwnK e enc sz B w' v' (l ++ m) → w.grownBy w' v.ownBlock → (v ≠ .slice none 0 0 → v' ≠ .slice none 0 0) → wpList P ops Q rest (a.put o.dst v') w') : wpList P ops Q (o :: rest) a w := by
  obtain ⟨i, h1, h2, h3, h4⟩ := info_parts K.elem
  obtain ⟨ao, cap, rfl, hcap, hc⟩ := hsrc
  have hsrc : HoldsK enc sz w (.slice ao m.length cap) m := ⟨ao, cap, rfl, hcap, hc⟩
  have fin : ∀ v' w', w'.ownsRow B e sz v' (l.length + m.length) (flat enc l ++ flat enc m) → OwnK e enc sz B w' v' (l ++ m) := by
    intro v' w' hh
    unfold OwnK
    rw [List.length_append, flat_append]; exact hh
  cases ao with
  | some ad =>
    exact wpList_append_own w hgd s x t ho B e i z sz bytes ht h1 h2 h3 h4 K.zs K.pos v l.length _ hs hown ad m.length cap (flat enc m) hx (flat_length K.size m) (hsrc.cells K.size) (flat_one' K.one m) hmx hlen hB
      fun v' w' r1 r2 r3 => h v' w' (fin v' w' r1) r2 (fun hn he => hn (r3.1 he).1)
  | none =>
    rcases hc with rfl | ⟨b, off, hc, _⟩
    · refine wpList_plain hgd fun K hK => ?_
      have hrun : (Builtin.append_ #[t, t] o.type #[v, .slice none 0 cap]).run P w = .ok v w := by
        rcases hown.2 with ⟨rfl, hn⟩ | ⟨g, cap', cur, rfl, _, _, hnc, _⟩
        · simp [Builtin.append_, run_underlying ht, sizeOf, typeInfo, h1, Builtin.lenOf, Builtin.firstCells]
        · simp [Builtin.append_, run_underlying ht, sizeOf, typeInfo, h1, Builtin.lenOf, Builtin.firstCells, hnc, storeCells]
      have hx' : a.eval x = .slice none 0 cap := by simpa using hx
      unfold Oper.wp
      simp [execOp, ho, resolve, invoke, builtin, hs, hx', hrun, Result.andThen]
      exact hK _ _ (h v w (by simpa using hown) (World.grownBy.refl _ _) (fun hn => hn))
    · cases hc
theorem wpList_appK (K : Kind P e enc z sz bytes) (hgd : o.guard = none) (s x : Operand) (ho : o.op = .call { callee := .builtin .append, args := #[s, x], argTypes := #[t, t] }) (ht : P.underlying t = some (.slice e))
    {B : Nat} {v vx : Value} {l m : List α} (hs : a.eval s = v) (hx : a.eval x = vx) (hown : OwnK e enc sz B w v l) (hsrc : HoldsK enc sz w vx m) (hlen : (l.length + m.length) * bytes ≤ 140737488355328) (hmx : l.length + m.length ≤ maxLen) (hB : B ≤ w.heap.size)
    (h : ∀ v' w', OwnK e enc sz B w' v' (l ++ m) → w.grownBy w' v.ownBlock → wpList P ops Q rest (a.put o.dst v') w') : wpList P ops Q (o :: rest) a w :=
  wpList_appK_nn K hgd s x ho ht hs hx hown hsrc hlen hmx hB fun v' w' h1 h2 _ => h v' w' h1 h2
end
theorem holdsK_one {α : Type} {enc : α → List Value} {sz : Nat} (hs : Sz enc sz) (e : TypeId) (w : World) (x : α) : HoldsK enc sz (w.alloc (.cells (enc x).toArray e)) (.slice (some ⟨w.heap.size, 0, none⟩) 1 1) [x] := by
  refine ⟨_, 1, rfl, by simp, Or.inr ⟨_, _, rfl, fun j hj => ?_⟩⟩
  have hj' : j < (enc x).length := by rw [hs x]; simpa using hj
  refine ⟨(enc x)[j], by rw [flat_one]; exact List.getElem?_eq_getElem hj', ?_⟩
  rw [Nat.zero_add, World.cell?_alloc_mark]
  simp [hj']
theorem ownK_empty {α : Type} (enc : α → List Value) (sz : Nat) (e : TypeId) (w : World) : OwnK e enc sz w.heap.size (w.alloc (.cells #[] e)) (.slice (some ⟨w.heap.size, 0, none⟩) 0 0) [] := World.ownsRow_lit w #[] 0 (Nat.le_refl _) (by unfold maxLen; omega) (by simp)
theorem madeK {α : Type} [Inhabited α] {enc : α → List Value} {sz : Nat} (hs : Sz enc sz) (hp : 0 < sz) {z : Value} (hz : z.cells.toList = enc default) (n : Nat) : (madeCells z.cells (n * sz)).toList = flat enc (List.replicate n default) := by
  have hzs : z.cells.size = sz := by rw [← Array.length_toList, hz, hs]
  apply List.ext_getElem?
  intro j
  by_cases hj : j < n * sz
  · have e1 : j = j / sz * sz + j % sz := by rw [Nat.mul_comm]; exact (Nat.div_add_mod j sz).symm
    have h1 : j / sz < n := (Nat.div_lt_iff_lt_mul hp).2 hj
    have h2 : j % sz < sz := Nat.mod_lt _ hp
    have hL : (madeCells z.cells (n * sz)).toList[j]? = some (z.cells[j % z.cells.size]!) := by simp [madeCells, hj]
    rw [hL]
    conv => rhs; rw [e1]
    rw [flat_at hs _ _ _ (by simpa using h1) h2]
    have : nth (List.replicate n (default : α)) (j / sz) = default := by simp [nth, List.getD, h1]
    rw [this, ← hz, hzs, getElem!_pos z.cells (j % sz) (by omega)]
    simp [Array.getElem?_toList, getElem?_pos z.cells (j % sz) (by omega)]
  · rw [List.getElem?_eq_none (by simp [madeCells]; omega), List.getElem?_eq_none (by rw [flat_length hs]; simp; omega)]
section
variable {α : Type} [Inhabited α] {enc : α → List Value} {sz : Nat}
theorem ownK_store (hs : Sz enc sz) {e : TypeId} {B : Nat} {w : World} {g n cap : Nat} {l : List α} (h : OwnK e enc sz B w (.slice (some ⟨g, 0, none⟩) n cap) l) (hn : n = l.length) {j i : Nat} (hj : j < l.length) (hi : i < sz) {y : α} {u : Value} (hy : enc y = (enc (nth l j)).set i u) :
    OwnK e enc sz B (w.setCell ⟨g, j * sz + i, none⟩ u) (.slice (some ⟨g, 0, none⟩) n cap) (l.set j y) ∧ w.grownBy (w.setCell ⟨g, j * sz + i, none⟩ u) (some g) := by
  subst hn
  have := World.ownsRow.stored h (j * sz + i) u
  refine ⟨?_, this.2⟩
  unfold OwnK
  rw [List.length_set, ← flat_set hs hi l j hj hy]
  exact this.1
theorem ownK_cell (hs : Sz enc sz) {e : TypeId} {B : Nat} {w : World} {g n cap : Nat} {l : List α} (h : OwnK e enc sz B w (.slice (some ⟨g, 0, none⟩) n cap) l) (hn : n = l.length) {j i : Nat} (hj : j < l.length) (hi : i < sz) :
    w.cell? ⟨g, j * sz + i, none⟩ = (enc (nth l j))[i]? ∧ w.frozen? ⟨g, j * sz + i, none⟩ = false := by
  subst hn
  have hlt : j * sz + i < l.length * sz := by
    have : (j + 1) * sz ≤ l.length * sz := Nat.mul_le_mul_right _ hj
    rw [Nat.add_mul] at this; omega
  exact ⟨by rw [World.ownsRow.cellAt h _ hlt, flat_at hs l j i hj hi], World.ownsRow.frozenAt h _⟩
end
theorem nth_set {α : Type} [Inhabited α] {l : List α} {k : Nat} (h : k < l.length) (x : α) : nth (l.set k x) k = x := by simp [nth, List.getD, h]
def filledK {α : Type} [Inhabited α] (l : List α) (k : Nat) : List α := l.take k ++ List.replicate (l.length - k) default
section
variable {α : Type} [Inhabited α]
end
theorem step_appK {P : Program} {ops : Array Oper} {o : Oper} {a : Act} {w : World} {K : Act → World → Prop} {Q : Exit → Act → World → Prop} {E : Prop} {α : Type} {enc : α → List Value} {sz : Nat} {e t : TypeId} {bytes : Nat} {z : Value}
    (KD : Kind P e enc z sz bytes) (hg : o.guard = none) (s x : Operand) (hop : o.op = Op.call { callee := Callee.builtin Builtin.append, args := #[s, x], argTypes := #[t, t] }) (ht : P.underlying t = some (.slice e))
    {B : Nat} {v : Value} {ad : Addr} {n c : Nat} {l m : List α} (hs : a.eval s = v) (hx : a.eval x = .slice (some ad) n c) (hown : OwnK e enc sz B w v l) (hsrc : HoldsK enc sz w (.slice (some ad) n c) m) (hlen : (l.length + m.length) * bytes ≤ 140737488355328) (hmx : l.length + m.length ≤ maxLen) (hB : B ≤ w.heap.size)
    (hK : ∀ v' w', OwnK e enc sz B w' v' (l ++ m) → w.grownBy w' v.ownBlock → K (a.put o.dst v') w') :
    if Region.wanted o (yielded ops a.tmps) = true then Oper.wp P o a w K Q else E := by
  have hw : Region.wanted o (yielded ops a.tmps) = true := by simp [Region.wanted, hg]
  rw [if_pos hw]
  obtain ⟨i, h1, h2, h3, h4⟩ := info_parts KD.elem
  obtain rfl := hsrc.lenEq
  obtain ⟨v', w', hrun, r1, r2, _⟩ := run_append_own (P := P) w B t o.type e i z sz bytes ht h1 h2 h3 h4 KD.zs KD.pos v l.length (flat enc l) hown ad m.length c (flat enc m) (flat_length KD.size m) (hsrc.cells KD.size) (flat_one' KD.one m) hmx hlen hB
  unfold Oper.wp
  simp [execOp, hop, resolve, invoke, builtin, hs, hx, hrun, Result.andThen]
  refine hK v' w' ?_ r2
  unfold OwnK
  rw [List.length_append, flat_append]; exact r1
end Go.Proofs.YtfglcmanmfenpaaGreat.Row
/- What laws over several values use: blocks that differ, loads' facts kept by calls. For any program. -/
namespace Go.Proofs.YtfglcmanmfenpaaGreat.Row
open Go.ChangeShapes Go.WideShapes Go.ChangeAt Go.RowKit Go.Instr
set_option linter.unusedVariables false
set_option maxRecDepth 100000
theorem OwnK.notBox {α : Type} {enc : α → List Value} {sz : Nat} {e : TypeId} {B : Nat} {w : World} {v : Value} {l : List α} (h : OwnK e enc sz B w v l) {g : Nat} {u : Value} {t : TypeId} (hb : Ret.Box w g u t) (hne : e ≠ t) : some g ≠ v.ownBlock := by
  rcases h.2 with ⟨rfl, _⟩ | ⟨g', cap, cur, rfl, _, hg, _⟩
  · simp [Value.ownBlock]
  · intro e1
    have : g = g' := by simpa [Value.ownBlock] using e1
    rw [← this, hb] at hg
    cases hg
    exact hne rfl
end Go.Proofs.YtfglcmanmfenpaaGreat.Row
