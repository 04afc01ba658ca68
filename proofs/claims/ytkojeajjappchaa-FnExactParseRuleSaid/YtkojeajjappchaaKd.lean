/- Kinds of values with memory beneath them, for any program: scalars, structs, slices of whatever: what lies in memory, what it reads as, what is the call's own; what keeps it. No conditions. -/
import Derived.Test.YtkojeajjappchaaKeep
import Derived.Test.YtkojeajjappchaaTab
namespace Go.Proofs.Ytkojeajjappchaa.Row
open Go.ChangeShapes Go.WideShapes Go.ChangeAt Go.RowKit Go.Instr
set_option linter.unusedVariables false
set_option maxRecDepth 100000

/-- A slice as it lies: where, and its elements as they lie. -/
structure Rw (M : Type) where
  ad : Option Addr
  n : Nat
  cap : Nat
  els : List M
instance {M : Type} : Inhabited (Rw M) := ⟨⟨none, 0, 0, []⟩⟩
def Rw.v {M : Type} (r : Rw M) : Value := .slice r.ad r.n r.cap

/-- A kind: α: as it is read; M: as it lies in memory. -/
structure Kd (α M : Type) where
  strip : M → α
  cells : M → List Value
  size : Nat
  val : M → Value
  len : ∀ m, (cells m).length = size
  one : ∀ m, ∀ u ∈ cells m, u.oneCell' = true
  holds : World → M → Prop
  own : Nat → World → M → Prop
  blocks : M → List Nat
  holds_on : ∀ {w w' m}, holds w m → Below w.heap.size w w' → holds w' m
  own_holds : ∀ {B w m}, own B w m → holds w m
  own_keep : ∀ {B w w' m}, own B w m → (∀ g ∈ blocks m, w'.heap[g]? = w.heap[g]?) → own B w' m
  own_lt : ∀ {B w m}, own B w m → ∀ g ∈ blocks m, B ≤ g ∧ g < w.heap.size
  own_mono : ∀ {B B' w m}, own B w m → B' ≤ B → own B' w m

/-- A scalar: one cell, nothing beneath. -/
def Kd.scalar {α : Type} (enc : α → Value) (h1 : ∀ x, (enc x).oneCell' = true) : Kd α α where
  strip := id
  cells := fun x => [enc x]
  size := 1
  val := enc
  len := fun _ => rfl
  one := fun x u hu => by rw [List.mem_singleton.1 hu]; exact h1 x
  holds := fun _ _ => True
  own := fun _ _ _ => True
  blocks := fun _ => []
  holds_on := fun _ _ => trivial
  own_holds := fun _ => trivial
  own_keep := fun _ _ => trivial
  own_lt := fun _ g hg => by cases hg
  own_mono := fun _ _ => trivial
def kInt : Kd Int Int := Kd.scalar (Value.int .i64) (fun _ => rfl)
def kByte : Kd Int Int := Kd.scalar (Value.int .u8) (fun _ => rfl)
def kBool : Kd Bool Bool := Kd.scalar Value.bool (fun _ => rfl)
def kStr : Kd ByteArray ByteArray := Kd.scalar Value.string (fun _ => rfl)

/-- Two fields, one behind the other. -/
def Kd.pair {α M β N : Type} (k : Kd α M) (l : Kd β N) : Kd (α × β) (M × N) where
  strip := fun m => (k.strip m.1, l.strip m.2)
  cells := fun m => k.cells m.1 ++ l.cells m.2
  size := k.size + l.size
  val := fun m => .agg (k.cells m.1 ++ l.cells m.2).toArray
  len := fun m => by rw [List.length_append, k.len, l.len]
  one := fun m u hu => (List.mem_append.1 hu).elim (k.one _ u) (l.one _ u)
  holds := fun w m => k.holds w m.1 ∧ l.holds w m.2
  own := fun B w m => k.own B w m.1 ∧ l.own B w m.2
  blocks := fun m => k.blocks m.1 ++ l.blocks m.2
  holds_on := fun h hb => ⟨k.holds_on h.1 hb, l.holds_on h.2 hb⟩
  own_holds := fun h => ⟨k.own_holds h.1, l.own_holds h.2⟩
  own_keep := fun h hg => ⟨k.own_keep h.1 (fun g e => hg g (List.mem_append_left _ e)), l.own_keep h.2 (fun g e => hg g (List.mem_append_right _ e))⟩
  own_lt := fun h g e => (List.mem_append.1 e).elim (k.own_lt h.1 g) (l.own_lt h.2 g)
  own_mono := fun h hB => ⟨k.own_mono h.1 hB, l.own_mono h.2 hB⟩
/-- A struct of one field. -/
def Kd.wrap {α M : Type} (k : Kd α M) : Kd α M := { k with val := fun m => .agg (k.cells m).toArray }

theorem ownK_keep {α : Type} {enc : α → List Value} {sz B : Nat} {e : TypeId} {w w' : World} {v : Value} {l : List α} (h : OwnK e enc sz B w v l) (hg : ∀ g, v.ownBlock = some g → w'.heap[g]? = w.heap[g]?) : OwnK e enc sz B w' v l := by
  refine ⟨h.1, ?_⟩
  rcases h.2 with h2 | ⟨g, cap, cur, hv, hB, hc, r⟩
  · exact Or.inl h2
  · refine Or.inr ⟨g, cap, cur, hv, hB, ?_, r⟩
    rw [hg g (by rw [hv]; rfl)]
    exact hc
/-- A slice of elements of a kind; e: the elements' type. -/
def Kd.slice {α M : Type} (e : TypeId) (k : Kd α M) : Kd (List α) (Rw M) where
  strip := fun r => r.els.map k.strip
  cells := fun r => [r.v]
  size := 1
  val := Rw.v
  len := fun _ => rfl
  one := fun r u hu => by rw [List.mem_singleton.1 hu]; rfl
  holds := fun w r => HoldsK k.cells k.size w r.v r.els ∧ ∀ x ∈ r.els, k.holds w x
  own := fun B w r => OwnK e k.cells k.size B w r.v r.els ∧ ∀ x ∈ r.els, k.own B w x
  blocks := fun r => r.v.ownBlock.toList ++ r.els.flatMap k.blocks
  holds_on := fun h hb => ⟨h.1.on hb, fun x hx => k.holds_on (h.2 x hx) hb⟩
  own_holds := fun h => ⟨h.1.holds, fun x hx => k.own_holds (h.2 x hx)⟩
  own_keep := fun h hg => ⟨ownK_keep h.1 (fun g e => hg g (List.mem_append_left _ (by simp [e]))), fun x hx => k.own_keep (h.2 x hx) (fun g e => hg g (List.mem_append_right _ (List.mem_flatMap.2 ⟨x, hx, e⟩)))⟩
  own_lt := fun h g e => by
    rcases List.mem_append.1 e with e | e
    · exact h.1.lt g (by simpa using e)
    · obtain ⟨x, hx, e⟩ := List.mem_flatMap.1 e
      exact k.own_lt (h.2 x hx) g e
  own_mono := fun h hB => ⟨h.1.mono hB, fun x hx => k.own_mono (h.2 x hx) hB⟩

section
variable {α M : Type} {k : Kd α M} {B B' E E' : Nat} {w w' : World} {v : Value} {m : M} {a : α}
/-- The value v reads as a in the world w. -/
def Kd.At (k : Kd α M) (w : World) (v : Value) (a : α) : Prop := ∃ m, v = k.val m ∧ k.strip m = a ∧ k.holds w m
/-- .. and all that is beneath is the call's own, in blocks from B on and below E, no two the same. -/
def Kd.In (k : Kd α M) (B E : Nat) (w : World) (v : Value) (a : α) : Prop := ∃ m, v = k.val m ∧ k.strip m = a ∧ k.own B w m ∧ (k.blocks m).Nodup ∧ ∀ g ∈ k.blocks m, g < E
theorem Kd.At.on (h : k.At w v a) (hb : Below w.heap.size w w') : k.At w' v a := by
  obtain ⟨m, e1, e2, h⟩ := h
  exact ⟨m, e1, e2, k.holds_on h hb⟩
theorem Kd.In.at (h : k.In B E w v a) : k.At w v a := by
  obtain ⟨m, e1, e2, h, -, -⟩ := h
  exact ⟨m, e1, e2, k.own_holds h⟩
theorem Kd.In.keep (h : k.In B E w v a) (hg : ∀ g, B ≤ g → g < E → w'.heap[g]? = w.heap[g]?) : k.In B E w' v a := by
  obtain ⟨m, e1, e2, h, h1, h2⟩ := h
  exact ⟨m, e1, e2, k.own_keep h (fun g e => hg g (k.own_lt h g e).1 (h2 g e)), h1, h2⟩
theorem Kd.In.on (h : k.In B E w v a) (hb : Below w.heap.size w w') : k.In B E w' v a := by
  obtain ⟨m, e1, e2, h, h1, h2⟩ := h
  exact ⟨m, e1, e2, k.own_keep h (fun g e => hb.block g (k.own_lt h g e).2), h1, h2⟩
theorem Kd.In.wrote (h : k.In B E w v a) (hw : Wrote B' E' w w') (hn : E ≤ B' ∨ E' ≤ B) : k.In B E w' v a := by
  obtain ⟨m, e1, e2, h, h1, h2⟩ := h
  exact ⟨m, e1, e2, k.own_keep h (fun g e => hw.block g (k.own_lt h g e).2 (by have := (k.own_lt h g e).1; have := h2 g e; omega)), h1, h2⟩
theorem Kd.In.grown (h : k.In B E w v a) {row : Option Nat} (hg : w.grownBy w' row) (hr : ∀ g, row = some g → g < B ∨ E ≤ g) : k.In B E w' v a := by
  obtain ⟨m, e1, e2, h, h1, h2⟩ := h
  refine ⟨m, e1, e2, k.own_keep h (fun g e => hg.block g (k.own_lt h g e).2 (fun er => ?_)), h1, h2⟩
  have := hr g er.symm
  have := (k.own_lt h g e).1
  have := h2 g e
  omega
theorem Kd.In.mono (h : k.In B E w v a) (hB : B' ≤ B) (hE : E ≤ E') : k.In B' E' w v a := by
  obtain ⟨m, e1, e2, h, h1, h2⟩ := h
  exact ⟨m, e1, e2, k.own_mono h hB, h1, fun g e => Nat.lt_of_lt_of_le (h2 g e) hE⟩
/-- What is the call's own up to now. -/
theorem Kd.In.now (h : k.own B w m) (hn : (k.blocks m).Nodup) : k.In B w.heap.size w (k.val m) (k.strip m) := ⟨m, rfl, rfl, h, hn, fun g e => (k.own_lt h g e).2⟩
end

/-! ### The kinds that are in use, in the elder words -/
theorem flat_single {α : Type} (enc : α → Value) (l : List α) : flat (fun x => [enc x]) l = l.map enc := by
  induction l with
  | nil => rfl
  | cons a r ih => simp only [flat, List.flatMap_cons] at *; simp [ih]
theorem holdsK_single {α : Type} [Inhabited α] {enc : α → Value} {w : World} {v : Value} {l : List α} : HoldsK (fun x => [enc x]) 1 w v l ↔ Holds enc w v l := by
  constructor
  · rintro ⟨x, cap, hv, hc, h⟩
    refine ⟨x, cap, hv, hc, h.imp id ?_⟩
    rintro ⟨b, off, hx, h⟩
    refine ⟨b, off, hx, fun j hj => ?_⟩
    obtain ⟨u, h1, h2⟩ := h j (by omega)
    rw [flat_single, getD_map hj] at h1
    rw [h2, ← h1]
  · rintro ⟨x, cap, hv, hc, h⟩
    refine ⟨x, cap, hv, hc, h.imp id ?_⟩
    rintro ⟨b, off, hx, h⟩
    refine ⟨b, off, hx, fun j hj => ?_⟩
    have hj : j < l.length := by omega
    exact ⟨_, by rw [flat_single]; exact getD_map hj, h j hj⟩
theorem ownK_single {α : Type} [Inhabited α] {enc : α → Value} {e : TypeId} {B : Nat} {w : World} {v : Value} {l : List α} : OwnK e (fun x => [enc x]) 1 B w v l ↔ Own e enc B w v l := by
  unfold OwnK Own
  rw [flat_single]
def kNm (e : TypeId) : Kd (List ByteArray) (Rw ByteArray) := kStr.slice e
section
variable {e : TypeId} {w : World} {v : Value} {l : List ByteArray} {B : Nat}
theorem kNm_at (h : (kNm e).At w v l) : Holds Value.string w v l := by
  obtain ⟨m, rfl, rfl, h, -⟩ := h
  have : (kNm e).strip m = m.els := by simp [kNm, Kd.slice, kStr, Kd.scalar]
  rw [this]
  exact holdsK_single.1 h
theorem kNm_of (h : Holds Value.string w v l) : (kNm e).At w v l := by
  obtain ⟨x, n, cap, rfl, -, -, hh⟩ := h.shapeN
  exact ⟨⟨x, n, cap, l⟩, rfl, by simp [kNm, Kd.slice, kStr, Kd.scalar], holdsK_single.2 hh, fun _ _ => trivial⟩
theorem kNm_blocks (r : Rw ByteArray) : (kNm e).blocks r = r.v.ownBlock.toList := by simp [kNm, Kd.slice, kStr, Kd.scalar]
theorem kNm_own (h : Own e Value.string B w v l) : (kNm e).In B w.heap.size w v l := by
  obtain ⟨x, n, cap, rfl, -, -, hh⟩ := h.shapeN
  refine ⟨⟨x, n, cap, l⟩, rfl, by simp [kNm, Kd.slice, kStr, Kd.scalar], ⟨ownK_single.2 hh, fun _ _ => trivial⟩, ?_, ?_⟩
  · rw [kNm_blocks]
    cases h2 : (Rw.v ⟨x, n, cap, l⟩).ownBlock <;> simp
  · rw [kNm_blocks]
    intro g hg
    exact (hh.lt g (by simpa [Rw.v] using hg)).2
theorem kNm_in {E : Nat} (h : (kNm e).In B E w v l) : Own e Value.string B w v l ∧ ∀ g, v.ownBlock = some g → g < E := by
  obtain ⟨m, rfl, rfl, h, -, h2⟩ := h
  have hs : (kNm e).strip m = m.els := by simp [kNm, Kd.slice, kStr, Kd.scalar]
  rw [hs]
  rw [kNm_blocks] at h2
  exact ⟨ownK_single.1 h.1, fun g hg => h2 g (by rw [show m.v.ownBlock = some g from hg]; simp)⟩
end
end Go.Proofs.Ytkojeajjappchaa.Row
