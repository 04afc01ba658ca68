/- Tables (slices of a name and a number each) in memory: a slice that holds a list of entries, each of which holds its name; one whose blocks are all the call's own and all differ. No conditions. -/
import Derived.Test.YtihcebjbkifbpaaKeep
namespace Go.Proofs.Ytihcebjbkifbpaa.Row
open Go.ChangeShapes Go.WideShapes Go.ChangeAt Go.RowKit Go.Instr
set_option linter.unusedVariables false
set_option maxRecDepth 100000

/-- An entry as it lies in memory: where its name's parts lie, what they are, and its number. -/
structure Ent where
  ad : Option Addr
  n : Nat
  cap : Nat
  ps : List ByteArray
  val : Int
instance : Inhabited Ent := ⟨⟨none, 0, 0, [], 0⟩⟩
def Ent.v (x : Ent) : Value := .slice x.ad x.n x.cap
/-- An entry as it is read. -/
def Ent.t (x : Ent) : List ByteArray × Int := (x.ps, x.val)
def Ent.whole (x : Ent) : Value := .agg #[x.v, .int .i64 x.val]
def strip (L : List Ent) : List (List ByteArray × Int) := L.map Ent.t
theorem strip_length (L : List Ent) : (strip L).length = L.length := by simp [strip]
theorem strip_nth {L : List Ent} {k : Nat} (h : k < L.length) : nth (strip L) k = (nth L k).t := by simp [strip, nth, List.getD, h]
theorem strip_append (L M : List Ent) : strip (L ++ M) = strip L ++ strip M := by simp [strip]
theorem strip_take (L : List Ent) (k : Nat) : strip (L.take k) = (strip L).take k := by simp [strip, List.map_take]
theorem strip_drop (L : List Ent) (k : Nat) : strip (L.drop k) = (strip L).drop k := by simp [strip, List.map_drop]
theorem strip_set (L : List Ent) (k : Nat) (x : Ent) : strip (L.set k x) = (strip L).set k x.t := by simp [strip, List.map_set]
theorem strip_mem {L : List Ent} {x : Ent} (h : x ∈ L) : x.t ∈ strip L := List.mem_map_of_mem h
theorem nth_mem {α : Type} [Inhabited α] {L : List α} {k : Nat} (h : k < L.length) : nth L k ∈ L := by rw [nth_eq h]; exact List.getElem_mem _
def encE (x : Ent) : List Value := [x.v, .int .i64 x.val]
theorem szE : Sz encE 2 := fun _ => rfl
theorem kindE : Kind Try.prog 44 encE (.agg #[.slice none 0 0, .int .i64 0]) 2 32 where
  elem := by unfold ElemK; kernel_rfl
  zs := rfl
  pos := by decide
  size := szE
  one := by intro x u hu; simp [encE, Ent.v] at hu; rcases hu with rfl | rfl <;> rfl

/-- v is a slice of the entries L, whose names are there. -/
def TabH (w : World) (v : Value) (L : List Ent) : Prop := HoldsK encE 2 w v L ∧ ∀ x ∈ L, Holds Value.string w x.v x.ps
/-- v is a slice of the entries L, all of whose blocks are from B on, and no two the same. -/
def TabO (B : Nat) (w : World) (v : Value) (L : List Ent) : Prop := OwnK 44 encE 2 B w v L ∧ (∀ x ∈ L, Own 9 Value.string B w x.v x.ps) ∧ L.Pairwise (fun a b => Apart a.v b.v)
section
variable {B : Nat} {w w' : World} {v : Value} {L : List Ent}
theorem TabO.holds (h : TabO B w v L) : TabH w v L := ⟨h.1.holds, fun x hx => (h.2.1 x hx).holds⟩
theorem TabH.on (h : TabH w v L) (hb : Below w.heap.size w w') : TabH w' v L := ⟨h.1.on hb, fun x hx => (h.2 x hx).on hb⟩
theorem TabO.on (h : TabO B w v L) (hb : Below w.heap.size w w') : TabO B w' v L := ⟨h.1.on hb, fun x hx => (h.2.1 x hx).on hb, h.2.2⟩
theorem TabO.mono (h : TabO B w v L) {B' : Nat} (hB : B' ≤ B) : TabO B' w v L := ⟨h.1.mono hB, fun x hx => (h.2.1 x hx).mono hB, h.2.2⟩
theorem TabO.nil (B : Nat) (w : World) : TabO B w (.slice none 0 0) [] := ⟨OwnK.nil _ _ _ _ _, by simp, by simp⟩
theorem TabO.empty (w : World) : TabO w.heap.size (w.alloc (.cells #[] 44)) (.slice (some ⟨w.heap.size, 0, none⟩) 0 0) [] := ⟨ownK_empty _ _ _ _, by simp, by simp⟩
theorem TabH.nil (w : World) : TabH w (.slice none 0 0) [] := ⟨HoldsK.nil _ _ _, by simp⟩
theorem TabH.shapeN (h : TabH w v L) : ∃ x n cap, v = .slice x n cap ∧ n = L.length ∧ n ≤ cap ∧ TabH w (.slice x n cap) L := by
  obtain ⟨x, n, cap, rfl, hn, hc, ho⟩ := h.1.shapeN
  exact ⟨x, n, cap, rfl, hn, hc, ho, h.2⟩
theorem TabO.shapeN (h : TabO B w v L) : ∃ x n cap, v = .slice x n cap ∧ n = L.length ∧ n ≤ cap ∧ TabO B w (.slice x n cap) L := by
  obtain ⟨x, n, cap, rfl, hn, hc, ho⟩ := h.1.shapeN
  exact ⟨x, n, cap, rfl, hn, hc, ho, h.2⟩
/-- Entry k's two cells, and its name. -/
theorem TabH.at {x : Option Addr} {n cap : Nat} (h : TabH w (.slice x n cap) L) {k : Nat} (hk : k < L.length) :
    ∃ b off, x = some ⟨b, off, none⟩ ∧ w.cell? ⟨b, off + k * 2, none⟩ = some (.slice (nth L k).ad (nth L k).n (nth L k).cap) ∧ w.cell? ⟨b, off + k * 2 + 1, none⟩ = some (.int .i64 (nth L k).val) ∧ Holds Value.string w (.slice (nth L k).ad (nth L k).n (nth L k).cap) (nth L k).ps := by
  obtain ⟨b, off, hx, hc⟩ := h.1.at szE hk
  exact ⟨b, off, hx, by have := hc 0 (by decide); simpa [encE, Ent.v] using this, by have := hc 1 (by decide); simpa [encE, Nat.add_assoc] using this, h.2 _ (nth_mem hk)⟩
theorem TabO.cells {g n cap : Nat} (h : TabO B w (.slice (some ⟨g, 0, none⟩) n cap) L) (hn : n = L.length) {k : Nat} (hk : k < L.length) :
    (w.cell? ⟨g, k * 2, none⟩ = some (.slice (nth L k).ad (nth L k).n (nth L k).cap) ∧ w.frozen? ⟨g, k * 2, none⟩ = false) ∧ (w.cell? ⟨g, k * 2 + 1, none⟩ = some (.int .i64 (nth L k).val) ∧ w.frozen? ⟨g, k * 2 + 1, none⟩ = false) ∧ Own 9 Value.string B w (.slice (nth L k).ad (nth L k).n (nth L k).cap) (nth L k).ps :=
  ⟨by simpa [encE, Ent.v] using ownK_cell szE h.1 hn hk (i := 0) (by decide), by simpa [encE] using ownK_cell szE h.1 hn hk (i := 1) (by decide), h.2.1 _ (nth_mem hk)⟩
/-- A slice of strings and a slice of entries never share a block. -/
theorem name_row {u : Value} {ps : List ByteArray} {B' : Nat} (h : Own 9 Value.string B w u ps) (g : OwnK 44 encE 2 B' w v L) : Apart u v := by
  intro k h1 h2
  rcases h.2 with ⟨rfl, _⟩ | ⟨b, cap, cur, rfl, _, hb, _⟩
  · cases h1
  · rcases g.2 with ⟨rfl, _⟩ | ⟨b', cap', cur', rfl, _, hb', _⟩
    · cases h2
    · have e1 : b = k := by simpa [Value.ownBlock] using h1
      have e2 : b' = k := by simpa [Value.ownBlock] using h2
      rw [e1] at hb; rw [e2, hb] at hb'
      cases hb'
/-- What writes into the entries' own row alone leaves the names. -/
theorem TabO.names (h : TabO B w v L) (hg : w.grownBy w' v.ownBlock) : ∀ x ∈ L, Own 9 Value.string B w' x.v x.ps := fun x hx => (h.2.1 x hx).grown hg (apart_or (name_row (h.2.1 x hx) h.1))
theorem TabO.row (h : TabO B w v L) {v' : Value} {L' : List Ent} (ho : OwnK 44 encE 2 B w' v' L') (hg : w.grownBy w' v.ownBlock) (hm : ∀ x ∈ L', ∃ y ∈ L, x.v = y.v ∧ x.ps = y.ps) (hp : L'.Pairwise (fun a b => Apart a.v b.v)) : TabO B w' v' L' := by
  refine ⟨ho, fun x hx => ?_, hp⟩
  obtain ⟨y, hy, e1, e2⟩ := hm x hx
  rw [e1, e2]
  exact h.names hg y hy
theorem TabO.lt (h : TabO B w v L) : (∀ g, v.ownBlock = some g → B ≤ g ∧ g < w.heap.size) ∧ ∀ x ∈ L, ∀ g, x.v.ownBlock = some g → B ≤ g ∧ g < w.heap.size := ⟨h.1.lt, fun x hx => (h.2.1 x hx).lt⟩
/-- A name in new memory is apart from all names that were there. -/
theorem TabO.fresh (h : TabO B w v L) {u : Value} (hu : ∀ g, u.ownBlock = some g → w.heap.size ≤ g) : ∀ y ∈ L, Apart y.v u := fun y hy g h1 h2 => by
  have := h.lt.2 y hy g h1
  have := hu g h2
  omega
/-- One entry more. -/
theorem TabO.push (h : TabO B w v L) {x : Ent} (hx : Own 9 Value.string B w x.v x.ps) (hap : ∀ y ∈ L, Apart y.v x.v) {v' : Value} (ho : OwnK 44 encE 2 B w' v' (L ++ [x])) (hg : w.grownBy w' v.ownBlock) : TabO B w' v' (L ++ [x]) := by
  refine ⟨ho, fun y hy => ?_, ?_⟩
  · rcases List.mem_append.1 hy with hy | hy
    · exact h.names hg y hy
    · rw [List.mem_singleton.1 hy]; exact hx.grown hg (apart_or (name_row hx h.1))
  · rw [List.pairwise_append]
    exact ⟨h.2.2, by simp, fun a ha b hb => by rw [List.mem_singleton.1 hb]; exact hap a ha⟩
theorem TabO.len (h : TabO B w v L) : L.length ≤ maxLen := h.1.len
theorem TabO.onGrown (h : TabO B w v L) {row : Option Nat} (hg : w.grownBy w' row) (hr : ∀ g, row = some g → v.ownBlock ≠ some g ∧ ∀ x ∈ L, x.v.ownBlock ≠ some g) : TabO B w' v L := by
  have key : ∀ u : Value, (∀ g, row = some g → u.ownBlock ≠ some g) → u.ownBlock = none ∨ u.ownBlock ≠ row := by
    intro u hu
    cases hu2 : u.ownBlock with
    | none => exact Or.inl rfl
    | some g => exact Or.inr fun e => hu g e.symm hu2
  exact ⟨h.1.grown hg (key v fun g e => (hr g e).1), fun x hx => (h.2.1 x hx).grown hg (key x.v fun g e => (hr g e).2 x hx), h.2.2⟩
end

/-! ### as they are read -/
def TabHolds (w : World) (v : Value) (T : List (List ByteArray × Int)) : Prop := ∃ L, strip L = T ∧ TabH w v L
def TabOwn (B : Nat) (w : World) (v : Value) (T : List (List ByteArray × Int)) : Prop := ∃ L, strip L = T ∧ TabO B w v L
/-- Only blocks from B on and below E are written, and new ones. -/
structure Wrote (B E : Nat) (w w' : World) : Prop where
  os : w'.os = w.os
  tape : w'.tape = w.tape
  output : w'.output = w.output
  size : w.heap.size ≤ w'.heap.size
  block : ∀ i, i < w.heap.size → ¬ (B ≤ i ∧ i < E) → w'.heap[i]? = w.heap[i]?
theorem Wrote.of {B E : Nat} {w w' : World} {row : Option Nat} (h : w.grownBy w' row) (hr : ∀ g, row = some g → B ≤ g ∧ g < E) : Wrote B E w w' := ⟨h.os, h.tape, h.output, h.size, fun i hi hn => h.block i hi (fun e => hn (hr i e.symm))⟩
theorem Wrote.refl (B E : Nat) (w : World) : Wrote B E w w := ⟨rfl, rfl, rfl, Nat.le_refl _, fun _ _ _ => rfl⟩
theorem Wrote.trans {B E : Nat} {w w1 w2 : World} (h : Wrote B E w w1) (g : Wrote B E w1 w2) : Wrote B E w w2 := ⟨g.os.trans h.os, g.tape.trans h.tape, g.output.trans h.output, Nat.le_trans h.size g.size, fun i hi hn => (g.block i (Nat.lt_of_lt_of_le hi h.size) hn).trans (h.block i hi hn)⟩
theorem Wrote.below {B E X : Nat} {w0 w w' : World} (hb : Below X w0 w) (h : Wrote B E w w') (hX : X ≤ w.heap.size) (hB : X ≤ B) : Below X w0 w' :=
  hb.trans ⟨h.os, h.tape, h.output, h.size, fun k hk => h.block k (by omega) (by omega)⟩
theorem Wrote.ofBelow {B E : Nat} {w w' : World} (h : Below w.heap.size w w') : Wrote B E w w' := ⟨h.os, h.tape, h.output, h.size, fun i hi _ => h.block i hi⟩
/-- What does not lie there is kept. -/
theorem Wrote.grown {B E : Nat} {w w' : World} (h : Wrote B E w w') {g : Nat} (hg : g < w.heap.size) (hn : g < B ∨ E ≤ g) : w'.heap[g]? = w.heap[g]? := h.block g hg (by omega)
theorem Wrote.box {B E : Nat} {w w' : World} (h : Wrote B E w w') {g : Nat} {u : Value} {t : TypeId} (hb : Ret.Box w g u t) (hn : g < B ∨ E ≤ g) : Ret.Box w' g u t := (h.grown hb.lt hn).trans hb
theorem Wrote.row {e : TypeId} {sz n B0 B E : Nat} {w w' : World} {v : Value} {xs : List Value} (h : Wrote B E w w') (ho : w.ownsRow B0 e sz v n xs) (hn : ∀ g, v.ownBlock = some g → g < B ∨ E ≤ g) : w'.ownsRow B0 e sz v n xs := by
  refine ⟨ho.1, ?_⟩
  rcases ho.2 with h2 | ⟨g, cap, cur, hv, hB, hc, r⟩
  · exact Or.inl h2
  · refine Or.inr ⟨g, cap, cur, hv, hB, ?_, r⟩
    rw [h.grown (Array.getElem?_eq_some_iff.1 hc).1 (hn g (by rw [hv]; rfl))]
    exact hc
/-- A name, a table whose blocks lie from B on and below E. -/
def NameIn (B E : Nat) (w : World) (v : Value) (l : List ByteArray) : Prop := Own 9 Value.string B w v l ∧ ∀ g, v.ownBlock = some g → g < E
def TabIn (B E : Nat) (w : World) (v : Value) (T : List (List ByteArray × Int)) : Prop := ∃ L, strip L = T ∧ TabO B w v L ∧ (∀ g, v.ownBlock = some g → g < E) ∧ ∀ x ∈ L, ∀ g, x.v.ownBlock = some g → g < E
section
variable {B E B' E' : Nat} {w w' : World} {v : Value} {l : List ByteArray} {T : List (List ByteArray × Int)}
theorem NameIn.of (h : Own 9 Value.string B w v l) : NameIn B w.heap.size w v l := ⟨h, fun g hg => (h.lt g hg).2⟩
theorem TabIn.of (h : TabOwn B w v T) : TabIn B w.heap.size w v T := by
  obtain ⟨L, e, h⟩ := h
  exact ⟨L, e, h, fun g hg => (h.lt.1 g hg).2, fun x hx g hg => (h.lt.2 x hx g hg).2⟩
theorem NameIn.on (h : NameIn B E w v l) (hb : Below w.heap.size w w') : NameIn B E w' v l := ⟨h.1.on hb, h.2⟩
theorem TabIn.on (h : TabIn B E w v T) (hb : Below w.heap.size w w') : TabIn B E w' v T := by
  obtain ⟨L, e, h, h1, h2⟩ := h
  exact ⟨L, e, h.on hb, h1, h2⟩
theorem NameIn.wrote (h : NameIn B E w v l) (hw : Wrote B' E' w w') (hn : E ≤ B' ∨ E' ≤ B) : NameIn B E w' v l :=
  ⟨hw.row h.1 (fun g hg => by have := (h.1.lt g hg).1; have := h.2 g hg; omega), h.2⟩
theorem TabIn.wrote (h : TabIn B E w v T) (hw : Wrote B' E' w w') (hn : E ≤ B' ∨ E' ≤ B) : TabIn B E w' v T := by
  obtain ⟨L, e, h, h1, h2⟩ := h
  refine ⟨L, e, ⟨hw.row h.1 (fun g hg => ?_), fun x hx => hw.row (h.2.1 x hx) (fun g hg => ?_), h.2.2⟩, h1, h2⟩
  · have := (h.lt.1 g hg).1; have := h1 g hg; omega
  · have := (h.lt.2 x hx g hg).1; have := h2 x hx g hg; omega
theorem NameIn.holds (h : NameIn B E w v l) : Holds Value.string w v l := h.1.holds
theorem TabIn.own (h : TabIn B E w v T) : TabOwn B w v T := by
  obtain ⟨L, e, h, -, -⟩ := h
  exact ⟨L, e, h⟩
theorem TabOwn.holds (h : TabOwn B w v T) : TabHolds w v T := by
  obtain ⟨L, e, h⟩ := h
  exact ⟨L, e, h.holds⟩
theorem TabIn.holds (h : TabIn B E w v T) : TabHolds w v T := h.own.holds
theorem TabOwn.mono (h : TabOwn B w v T) (hB : B' ≤ B) : TabOwn B' w v T := by
  obtain ⟨L, e, h⟩ := h
  exact ⟨L, e, h.mono hB⟩
theorem TabOwn.on (h : TabOwn B w v T) (hb : Below w.heap.size w w') : TabOwn B w' v T := by
  obtain ⟨L, e, h⟩ := h
  exact ⟨L, e, h.on hb⟩
theorem TabHolds.on (h : TabHolds w v T) (hb : Below w.heap.size w w') : TabHolds w' v T := by
  obtain ⟨L, e, h⟩ := h
  exact ⟨L, e, h.on hb⟩
theorem TabHolds.shapeN (h : TabHolds w v T) : ∃ x n cap, v = .slice x n cap ∧ n = T.length ∧ n ≤ cap ∧ TabHolds w (.slice x n cap) T := by
  obtain ⟨L, e, h⟩ := h
  obtain ⟨x, n, cap, rfl, hn, hc, ho⟩ := h.shapeN
  exact ⟨x, n, cap, rfl, by rw [hn, ← e, strip_length], hc, L, e, ho⟩
theorem TabOwn.shapeN (h : TabOwn B w v T) : ∃ x n cap, v = .slice x n cap ∧ n = T.length ∧ n ≤ cap ∧ TabOwn B w (.slice x n cap) T := by
  obtain ⟨L, e, h⟩ := h
  obtain ⟨x, n, cap, rfl, hn, hc, ho⟩ := h.shapeN
  exact ⟨x, n, cap, rfl, by rw [hn, ← e, strip_length], hc, L, e, ho⟩
end
end Go.Proofs.Ytihcebjbkifbpaa.Row
