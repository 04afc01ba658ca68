/- Contracts and mathematics, joined: Keep, Tab, Kd, Blk, Slice, Exact, KLaw, KInt, Want, Gives, Conv, Num, VarMath. No conditions but those that each states. -/
import Derived.Test.YtnblopilgfdjkaaGreatB1
import Derived.WalkKit
import Derived.ProofKit
import Derived.WalkLawsBesides
import Derived.Lib.Hide
import Derived.Below
import Derived.OwnWalk
import Derived.Laws.OwnMore
import Derived.Laws.AppendOwnNone
import Derived.ArgAppend
import Derived.Maps.AppendAt
import Derived.Test.YtnblopilgfdjkaaGreatRows
import Derived.LoopTactic
import Derived.Deep.QuietTactic
import Derived.BigQuiet
import Derived.Lib.ConvBytes
import Derived.Lib.SmallJoins
import Derived.Laws.BitsLemmas
import Derived.Laws.Bits128
/- What laws over several values use: blocks that differ, loads' facts kept by calls. For any program. -/
namespace Go.Proofs.YtnblopilgfdjkaaGreat.Row
open Go.ChangeShapes Go.WideShapes Go.ChangeAt Go.RowKit Go.Instr
set_option linter.unusedVariables false
set_option maxRecDepth 100000

theorem OwnK.notBox {α : Type} {enc : α → List Value} {sz : Nat} {e : TypeId} {B : Nat} {w : World} {v : Value} {l : List α} (h : OwnK e enc sz B w v l) {g : Nat} {u : Value} {t : TypeId} (hb : Ret.Box w g u t) (hne : e ≠ t) : some g ≠ v.ownBlock := by
  rcases h.2 with ⟨rfl, _⟩ | ⟨g', cap, cur, rfl, _, hg, _⟩
  · simp [Value.ownBlock]
  · intro e1
    have : g = g' := by simpa [Value.ownBlock] using e1
    rw [← this, hb] at hg
    cases hg
    exact hne rfl
theorem keep4 {w w' : World} {a1 a2 a3 a4 : Addr} {v1 v2 v3 v4 : Value} (h1 : w.cell? a1 = some v1) (h2 : w.cell? a2 = some v2) (h3 : w.cell? a3 = some v3) (h4 : w.cell? a4 = some v4) {W : World} (hbW : Below W.heap.size W w) (hb : Below w.heap.size w w') :
    w'.cell? a1 = some v1 ∧ w'.cell? a2 = some v2 ∧ w'.cell? a3 = some v3 ∧ w'.cell? a4 = some v4 ∧ Below W.heap.size W w' :=
  ⟨by rw [hb.cell (cell_lt h1)]; exact h1, by rw [hb.cell (cell_lt h2)]; exact h2, by rw [hb.cell (cell_lt h3)]; exact h3, by rw [hb.cell (cell_lt h4)]; exact h4, hbW.trans (hb.mono hbW.size)⟩
theorem keepN2 {W w1 w2 : World} {a1 a2 : Addr} {u1 u2 : Value} (h : w1.cell? a1 = some u1 ∧ w1.cell? a2 = some u2 ∧ Below W.heap.size W w1) (hb : Below w1.heap.size w1 w2) : w2.cell? a1 = some u1 ∧ w2.cell? a2 = some u2 ∧ Below W.heap.size W w2 :=
  ⟨by rw [hb.cell (cell_lt h.1)]; exact h.1, by rw [hb.cell (cell_lt h.2.1)]; exact h.2.1, h.2.2.trans (hb.mono h.2.2.size)⟩
end Go.Proofs.YtnblopilgfdjkaaGreat.Row
/- Tables (slices of a name and a number each) in memory: a slice that holds a list of entries, each of which holds its name; one whose blocks are all the call's own and all differ. No conditions. -/
namespace Go.Proofs.YtnblopilgfdjkaaGreat.Row
open Go.ChangeShapes Go.WideShapes Go.ChangeAt Go.RowKit Go.Instr
set_option linter.unusedVariables false
set_option maxRecDepth 100000

/-- An entry as it lies in memory: where its name's parts lie, what they are, and its number. -/
structure Ent where
  ad : Option Addr
  n : Nat
  cap : Nat
  ps : List ByteArray
  val : Int
instance : Inhabited Ent := ⟨⟨none, 0, 0, [], 0⟩⟩
def Ent.v (x : Ent) : Value := .slice x.ad x.n x.cap
/-- An entry as it is read. -/
def Ent.t (x : Ent) : List ByteArray × Int := (x.ps, x.val)
def Ent.whole (x : Ent) : Value := .agg #[x.v, .int .i64 x.val]
def strip (L : List Ent) : List (List ByteArray × Int) := L.map Ent.t
theorem strip_length (L : List Ent) : (strip L).length = L.length := by simp [strip]
theorem strip_nth {L : List Ent} {k : Nat} (h : k < L.length) : nth (strip L) k = (nth L k).t := by simp [strip, nth, List.getD, h]
theorem strip_append (L M : List Ent) : strip (L ++ M) = strip L ++ strip M := by simp [strip]
theorem strip_take (L : List Ent) (k : Nat) : strip (L.take k) = (strip L).take k := by simp [strip, List.map_take]
theorem strip_mem {L : List Ent} {x : Ent} (h : x ∈ L) : x.t ∈ strip L := List.mem_map_of_mem h
theorem nth_mem {α : Type} [Inhabited α] {L : List α} {k : Nat} (h : k < L.length) : nth L k ∈ L := by rw [nth_eq h]; exact List.getElem_mem _
def encE (x : Ent) : List Value := [x.v, .int .i64 x.val]
theorem szE : Sz encE 2 := fun _ => rfl
/-- v is a slice of the entries L, whose names are there. -/
def TabH (w : World) (v : Value) (L : List Ent) : Prop := HoldsK encE 2 w v L ∧ ∀ x ∈ L, Holds Value.string w x.v x.ps
section
variable {B : Nat} {w w' : World} {v : Value} {L : List Ent}
theorem TabH.on (h : TabH w v L) (hb : Below w.heap.size w w') : TabH w' v L := ⟨h.1.on hb, fun x hx => (h.2 x hx).on hb⟩
theorem TabH.nil (w : World) : TabH w (.slice none 0 0) [] := ⟨HoldsK.nil _ _ _, by simp⟩
theorem TabH.shapeN (h : TabH w v L) : ∃ x n cap, v = .slice x n cap ∧ n = L.length ∧ n ≤ cap ∧ TabH w (.slice x n cap) L := by
  obtain ⟨x, n, cap, rfl, hn, hc, ho⟩ := h.1.shapeN
  exact ⟨x, n, cap, rfl, hn, hc, ho, h.2⟩
/-- Entry k's two cells, and its name. -/
theorem TabH.at {x : Option Addr} {n cap : Nat} (h : TabH w (.slice x n cap) L) {k : Nat} (hk : k < L.length) :
    ∃ b off, x = some ⟨b, off, none⟩ ∧ w.cell? ⟨b, off + k * 2, none⟩ = some (.slice (nth L k).ad (nth L k).n (nth L k).cap) ∧ w.cell? ⟨b, off + k * 2 + 1, none⟩ = some (.int .i64 (nth L k).val) ∧ Holds Value.string w (.slice (nth L k).ad (nth L k).n (nth L k).cap) (nth L k).ps := by
  obtain ⟨b, off, hx, hc⟩ := h.1.at szE hk
  exact ⟨b, off, hx, by have := hc 0 (by decide); simpa [encE, Ent.v] using this, by have := hc 1 (by decide); simpa [encE, Nat.add_assoc] using this, h.2 _ (nth_mem hk)⟩
end

/-! ### as they are read -/
def TabHolds (w : World) (v : Value) (T : List (List ByteArray × Int)) : Prop := ∃ L, strip L = T ∧ TabH w v L
/-- Only blocks from B on and below E are written, and new ones. -/
structure Wrote (B E : Nat) (w w' : World) : Prop where
  os : w'.os = w.os
  tape : w'.tape = w.tape
  output : w'.output = w.output
  size : w.heap.size ≤ w'.heap.size
  block : ∀ i, i < w.heap.size → ¬ (B ≤ i ∧ i < E) → w'.heap[i]? = w.heap[i]?
theorem Wrote.of {B E : Nat} {w w' : World} {row : Option Nat} (h : w.grownBy w' row) (hr : ∀ g, row = some g → B ≤ g ∧ g < E) : Wrote B E w w' := ⟨h.os, h.tape, h.output, h.size, fun i hi hn => h.block i hi (fun e => hn (hr i e.symm))⟩
theorem Wrote.refl (B E : Nat) (w : World) : Wrote B E w w := ⟨rfl, rfl, rfl, Nat.le_refl _, fun _ _ _ => rfl⟩
theorem Wrote.trans {B E : Nat} {w w1 w2 : World} (h : Wrote B E w w1) (g : Wrote B E w1 w2) : Wrote B E w w2 := ⟨g.os.trans h.os, g.tape.trans h.tape, g.output.trans h.output, Nat.le_trans h.size g.size, fun i hi hn => (g.block i (Nat.lt_of_lt_of_le hi h.size) hn).trans (h.block i hi hn)⟩
theorem Wrote.below {B E X : Nat} {w0 w w' : World} (hb : Below X w0 w) (h : Wrote B E w w') (hX : X ≤ w.heap.size) (hB : X ≤ B) : Below X w0 w' :=
  hb.trans ⟨h.os, h.tape, h.output, h.size, fun k hk => h.block k (by omega) (by omega)⟩
/-- What does not lie there is kept. -/
theorem Wrote.grown {B E : Nat} {w w' : World} (h : Wrote B E w w') {g : Nat} (hg : g < w.heap.size) (hn : g < B ∨ E ≤ g) : w'.heap[g]? = w.heap[g]? := h.block g hg (by omega)
theorem Wrote.row {e : TypeId} {sz n B0 B E : Nat} {w w' : World} {v : Value} {xs : List Value} (h : Wrote B E w w') (ho : w.ownsRow B0 e sz v n xs) (hn : ∀ g, v.ownBlock = some g → g < B ∨ E ≤ g) : w'.ownsRow B0 e sz v n xs := by
  refine ⟨ho.1, ?_⟩
  rcases ho.2 with h2 | ⟨g, cap, cur, hv, hB, hc, r⟩
  · exact Or.inl h2
  · refine Or.inr ⟨g, cap, cur, hv, hB, ?_, r⟩
    rw [h.grown (Array.getElem?_eq_some_iff.1 hc).1 (hn g (by rw [hv]; rfl))]
    exact hc
/-- A name, a table whose blocks lie from B on and below E. -/
def NameIn (B E : Nat) (w : World) (v : Value) (l : List ByteArray) : Prop := Own 9 Value.string B w v l ∧ ∀ g, v.ownBlock = some g → g < E
section
variable {B E B' E' : Nat} {w w' : World} {v : Value} {l : List ByteArray} {T : List (List ByteArray × Int)}
theorem NameIn.of (h : Own 9 Value.string B w v l) : NameIn B w.heap.size w v l := ⟨h, fun g hg => (h.lt g hg).2⟩
theorem NameIn.on (h : NameIn B E w v l) (hb : Below w.heap.size w w') : NameIn B E w' v l := ⟨h.1.on hb, h.2⟩
theorem NameIn.holds (h : NameIn B E w v l) : Holds Value.string w v l := h.1.holds
theorem TabHolds.on (h : TabHolds w v T) (hb : Below w.heap.size w w') : TabHolds w' v T := by
  obtain ⟨L, e, h⟩ := h
  exact ⟨L, e, h.on hb⟩
theorem TabHolds.shapeN (h : TabHolds w v T) : ∃ x n cap, v = .slice x n cap ∧ n = T.length ∧ n ≤ cap ∧ TabHolds w (.slice x n cap) T := by
  obtain ⟨L, e, h⟩ := h
  obtain ⟨x, n, cap, rfl, hn, hc, ho⟩ := h.shapeN
  exact ⟨x, n, cap, rfl, by rw [hn, ← e, strip_length], hc, L, e, ho⟩
end
end Go.Proofs.YtnblopilgfdjkaaGreat.Row
/- Kinds of values with memory beneath them, for any program: scalars, structs, slices of whatever: what lies in memory, what it reads as, what is the call's own; what keeps it. No conditions. -/
namespace Go.Proofs.YtnblopilgfdjkaaGreat.Row
open Go.ChangeShapes Go.WideShapes Go.ChangeAt Go.RowKit Go.Instr
set_option linter.unusedVariables false
set_option maxRecDepth 100000

/-- A slice as it lies: where, and its elements as they lie. -/
structure Rw (M : Type) where
  ad : Option Addr
  n : Nat
  cap : Nat
  els : List M
instance {M : Type} : Inhabited (Rw M) := ⟨⟨none, 0, 0, []⟩⟩
def Rw.v {M : Type} (r : Rw M) : Value := .slice r.ad r.n r.cap

/-- A kind: α: as it is read; M: as it lies in memory. -/
structure Kd (α M : Type) where
  strip : M → α
  cells : M → List Value
  size : Nat
  val : M → Value
  len : ∀ m, (cells m).length = size
  one : ∀ m, ∀ u ∈ cells m, u.oneCell' = true
  holds : World → M → Prop
  own : Nat → World → M → Prop
  blocks : M → List Nat
  holds_on : ∀ {w w' m}, holds w m → Below w.heap.size w w' → holds w' m
  own_holds : ∀ {B w m}, own B w m → holds w m
  own_keep : ∀ {B w w' m}, own B w m → (∀ g ∈ blocks m, w'.heap[g]? = w.heap[g]?) → own B w' m
  own_lt : ∀ {B w m}, own B w m → ∀ g ∈ blocks m, B ≤ g ∧ g < w.heap.size
  own_mono : ∀ {B B' w m}, own B w m → B' ≤ B → own B' w m

/-- A scalar: one cell, nothing beneath. -/
def Kd.scalar {α : Type} (enc : α → Value) (h1 : ∀ x, (enc x).oneCell' = true) : Kd α α where
  strip := id
  cells := fun x => [enc x]
  size := 1
  val := enc
  len := fun _ => rfl
  one := fun x u hu => by rw [List.mem_singleton.1 hu]; exact h1 x
  holds := fun _ _ => True
  own := fun _ _ _ => True
  blocks := fun _ => []
  holds_on := fun _ _ => trivial
  own_holds := fun _ => trivial
  own_keep := fun _ _ => trivial
  own_lt := fun _ g hg => by cases hg
  own_mono := fun _ _ => trivial
def kInt : Kd Int Int := Kd.scalar (Value.int .i64) (fun _ => rfl)
def kByte : Kd Int Int := Kd.scalar (Value.int .u8) (fun _ => rfl)
def kBool : Kd Bool Bool := Kd.scalar Value.bool (fun _ => rfl)
def kStr : Kd ByteArray ByteArray := Kd.scalar Value.string (fun _ => rfl)

/-- Two fields, one behind the other. -/
def Kd.pair {α M β N : Type} (k : Kd α M) (l : Kd β N) : Kd (α × β) (M × N) where
  strip := fun m => (k.strip m.1, l.strip m.2)
  cells := fun m => k.cells m.1 ++ l.cells m.2
  size := k.size + l.size
  val := fun m => .agg (k.cells m.1 ++ l.cells m.2).toArray
  len := fun m => by rw [List.length_append, k.len, l.len]
  one := fun m u hu => (List.mem_append.1 hu).elim (k.one _ u) (l.one _ u)
  holds := fun w m => k.holds w m.1 ∧ l.holds w m.2
  own := fun B w m => k.own B w m.1 ∧ l.own B w m.2
  blocks := fun m => k.blocks m.1 ++ l.blocks m.2
  holds_on := fun h hb => ⟨k.holds_on h.1 hb, l.holds_on h.2 hb⟩
  own_holds := fun h => ⟨k.own_holds h.1, l.own_holds h.2⟩
  own_keep := fun h hg => ⟨k.own_keep h.1 (fun g e => hg g (List.mem_append_left _ e)), l.own_keep h.2 (fun g e => hg g (List.mem_append_right _ e))⟩
  own_lt := fun h g e => (List.mem_append.1 e).elim (k.own_lt h.1 g) (l.own_lt h.2 g)
  own_mono := fun h hB => ⟨k.own_mono h.1 hB, l.own_mono h.2 hB⟩
/-- A struct of one field. -/
def Kd.wrap {α M : Type} (k : Kd α M) : Kd α M := { k with val := fun m => .agg (k.cells m).toArray }

theorem ownK_keep {α : Type} {enc : α → List Value} {sz B : Nat} {e : TypeId} {w w' : World} {v : Value} {l : List α} (h : OwnK e enc sz B w v l) (hg : ∀ g, v.ownBlock = some g → w'.heap[g]? = w.heap[g]?) : OwnK e enc sz B w' v l := by
  refine ⟨h.1, ?_⟩
  rcases h.2 with h2 | ⟨g, cap, cur, hv, hB, hc, r⟩
  · exact Or.inl h2
  · refine Or.inr ⟨g, cap, cur, hv, hB, ?_, r⟩
    rw [hg g (by rw [hv]; rfl)]
    exact hc
/-- A slice of elements of a kind; e: the elements' type. -/
def Kd.slice {α M : Type} (e : TypeId) (k : Kd α M) : Kd (List α) (Rw M) where
  strip := fun r => r.els.map k.strip
  cells := fun r => [r.v]
  size := 1
  val := Rw.v
  len := fun _ => rfl
  one := fun r u hu => by rw [List.mem_singleton.1 hu]; rfl
  holds := fun w r => HoldsK k.cells k.size w r.v r.els ∧ ∀ x ∈ r.els, k.holds w x
  own := fun B w r => OwnK e k.cells k.size B w r.v r.els ∧ ∀ x ∈ r.els, k.own B w x
  blocks := fun r => r.v.ownBlock.toList ++ r.els.flatMap k.blocks
  holds_on := fun h hb => ⟨h.1.on hb, fun x hx => k.holds_on (h.2 x hx) hb⟩
  own_holds := fun h => ⟨h.1.holds, fun x hx => k.own_holds (h.2 x hx)⟩
  own_keep := fun h hg => ⟨ownK_keep h.1 (fun g e => hg g (List.mem_append_left _ (by simp [e]))), fun x hx => k.own_keep (h.2 x hx) (fun g e => hg g (List.mem_append_right _ (List.mem_flatMap.2 ⟨x, hx, e⟩)))⟩
  own_lt := fun h g e => by
    rcases List.mem_append.1 e with e | e
    · exact h.1.lt g (by simpa using e)
    · obtain ⟨x, hx, e⟩ := List.mem_flatMap.1 e
      exact k.own_lt (h.2 x hx) g e
  own_mono := fun h hB => ⟨h.1.mono hB, fun x hx => k.own_mono (h.2 x hx) hB⟩

section
variable {α M : Type} {k : Kd α M} {B B' E E' : Nat} {w w' : World} {v : Value} {m : M} {a : α}
/-- The value v reads as a in the world w. -/
def Kd.At (k : Kd α M) (w : World) (v : Value) (a : α) : Prop := ∃ m, v = k.val m ∧ k.strip m = a ∧ k.holds w m
/-- .. and all that is beneath is the call's own, in blocks from B on and below E, no two the same. -/
def Kd.In (k : Kd α M) (B E : Nat) (w : World) (v : Value) (a : α) : Prop := ∃ m, v = k.val m ∧ k.strip m = a ∧ k.own B w m ∧ (k.blocks m).Nodup ∧ ∀ g ∈ k.blocks m, g < E
theorem Kd.At.on (h : k.At w v a) (hb : Below w.heap.size w w') : k.At w' v a := by
  obtain ⟨m, e1, e2, h⟩ := h
  exact ⟨m, e1, e2, k.holds_on h hb⟩
theorem Kd.In.at (h : k.In B E w v a) : k.At w v a := by
  obtain ⟨m, e1, e2, h, -, -⟩ := h
  exact ⟨m, e1, e2, k.own_holds h⟩
theorem Kd.In.keep (h : k.In B E w v a) (hg : ∀ g, B ≤ g → g < E → w'.heap[g]? = w.heap[g]?) : k.In B E w' v a := by
  obtain ⟨m, e1, e2, h, h1, h2⟩ := h
  exact ⟨m, e1, e2, k.own_keep h (fun g e => hg g (k.own_lt h g e).1 (h2 g e)), h1, h2⟩
theorem Kd.In.on (h : k.In B E w v a) (hb : Below w.heap.size w w') : k.In B E w' v a := by
  obtain ⟨m, e1, e2, h, h1, h2⟩ := h
  exact ⟨m, e1, e2, k.own_keep h (fun g e => hb.block g (k.own_lt h g e).2), h1, h2⟩
theorem Kd.In.grown (h : k.In B E w v a) {row : Option Nat} (hg : w.grownBy w' row) (hr : ∀ g, row = some g → g < B ∨ E ≤ g) : k.In B E w' v a := by
  obtain ⟨m, e1, e2, h, h1, h2⟩ := h
  refine ⟨m, e1, e2, k.own_keep h (fun g e => hg.block g (k.own_lt h g e).2 (fun er => ?_)), h1, h2⟩
  have := hr g er.symm
  have := (k.own_lt h g e).1
  have := h2 g e
  omega
theorem Kd.In.mono (h : k.In B E w v a) (hB : B' ≤ B) (hE : E ≤ E') : k.In B' E' w v a := by
  obtain ⟨m, e1, e2, h, h1, h2⟩ := h
  exact ⟨m, e1, e2, k.own_mono h hB, h1, fun g e => Nat.lt_of_lt_of_le (h2 g e) hE⟩
end

/-! ### The kinds that are in use, in the elder words -/
theorem flat_single {α : Type} (enc : α → Value) (l : List α) : flat (fun x => [enc x]) l = l.map enc := by
  induction l with
  | nil => rfl
  | cons a r ih => simp only [flat, List.flatMap_cons] at *; simp [ih]
theorem holdsK_single {α : Type} [Inhabited α] {enc : α → Value} {w : World} {v : Value} {l : List α} : HoldsK (fun x => [enc x]) 1 w v l ↔ Holds enc w v l := by
  constructor
  · rintro ⟨x, cap, hv, hc, h⟩
    refine ⟨x, cap, hv, hc, h.imp id ?_⟩
    rintro ⟨b, off, hx, h⟩
    refine ⟨b, off, hx, fun j hj => ?_⟩
    obtain ⟨u, h1, h2⟩ := h j (by omega)
    rw [flat_single, getD_map hj] at h1
    rw [h2, ← h1]
  · rintro ⟨x, cap, hv, hc, h⟩
    refine ⟨x, cap, hv, hc, h.imp id ?_⟩
    rintro ⟨b, off, hx, h⟩
    refine ⟨b, off, hx, fun j hj => ?_⟩
    have hj : j < l.length := by omega
    exact ⟨_, by rw [flat_single]; exact getD_map hj, h j hj⟩
theorem ownK_single {α : Type} [Inhabited α] {enc : α → Value} {e : TypeId} {B : Nat} {w : World} {v : Value} {l : List α} : OwnK e (fun x => [enc x]) 1 B w v l ↔ Own e enc B w v l := by
  unfold OwnK Own
  rw [flat_single]
def kNm (e : TypeId) : Kd (List ByteArray) (Rw ByteArray) := kStr.slice e
section
variable {e : TypeId} {w : World} {v : Value} {l : List ByteArray} {B : Nat}
theorem kNm_at (h : (kNm e).At w v l) : Holds Value.string w v l := by
  obtain ⟨m, rfl, rfl, h, -⟩ := h
  have : (kNm e).strip m = m.els := by simp [kNm, Kd.slice, kStr, Kd.scalar]
  rw [this]
  exact holdsK_single.1 h
theorem kNm_of (h : Holds Value.string w v l) : (kNm e).At w v l := by
  obtain ⟨x, n, cap, rfl, -, -, hh⟩ := h.shapeN
  exact ⟨⟨x, n, cap, l⟩, rfl, by simp [kNm, Kd.slice, kStr, Kd.scalar], holdsK_single.2 hh, fun _ _ => trivial⟩
theorem kNm_blocks (r : Rw ByteArray) : (kNm e).blocks r = r.v.ownBlock.toList := by simp [kNm, Kd.slice, kStr, Kd.scalar]
theorem kNm_in {E : Nat} (h : (kNm e).In B E w v l) : Own e Value.string B w v l ∧ ∀ g, v.ownBlock = some g → g < E := by
  obtain ⟨m, rfl, rfl, h, -, h2⟩ := h
  have hs : (kNm e).strip m = m.els := by simp [kNm, Kd.slice, kStr, Kd.scalar]
  rw [hs]
  rw [kNm_blocks] at h2
  exact ⟨ownK_single.1 h.1, fun g hg => h2 g (by rw [show m.v.ownBlock = some g from hg]; simp)⟩
end
end Go.Proofs.YtnblopilgfdjkaaGreat.Row
/- A variable of several cells (a struct): its block, whole; what keeps it; its cells written; it is given back. For any program. -/
namespace Go.Proofs.YtnblopilgfdjkaaGreat.Ret
open Go.RowKit
set_option linter.unusedVariables false
/-- Block g is a variable of type t, and holds the cells cs. -/
def Blk (w : World) (g : Nat) (cs : Array Value) (t : TypeId) : Prop := w.heap[g]? = some (.cells cs t)
section
variable {w w' : World} {g : Nat} {cs : Array Value} {t : TypeId}
theorem Blk.lt (h : Blk w g cs t) : g < w.heap.size := (Array.getElem?_eq_some_iff.1 h).1
theorem Blk.cell (h : Blk w g cs t) (i : Nat) : w.cell? ⟨g, i, none⟩ = cs[i]? := cell_of_row w g i cs t _ h
theorem Blk.frozen (h : Blk w g cs t) (i : Nat) : w.frozen? ⟨g, i, none⟩ = false := by simp [World.frozen?, show w.heap[g]? = some (.cells cs t) from h]
theorem Blk.on (h : Blk w g cs t) (hb : Below w.heap.size w w') : Blk w' g cs t := (hb.block g h.lt).trans h
theorem Blk.grown (h : Blk w g cs t) {row : Option Nat} (hg : w.grownBy w' row) (hne : some g ≠ row) : Blk w' g cs t := (hg.block g h.lt hne).trans h
theorem Blk.new (w : World) (cs : Array Value) (t : TypeId) : Blk (w.alloc (.cells cs t)) w.heap.size cs t := heap_alloc_new w _
theorem Blk.new' {w : World} (cs : Array Value) (t : TypeId) {n : Nat} (h : n = w.heap.size) : Blk (w.alloc (.cells cs t)) n cs t := by subst h; exact Blk.new w cs t
theorem Blk.other (h : Blk w g cs t) {a : Addr} (hne : a.block ≠ g) (v : Value) : Blk (w.setCell a v) g cs t := h.grown (grownBy_set w a v) (fun e => hne (by cases e; rfl))
theorem Blk.set (h : Blk w g cs t) (i : Nat) (v : Value) : Blk (w.setCell ⟨g, i, none⟩ v) g (cs.setIfInBounds i v) t := by
  have h' : w.heap[g]? = some (.cells cs t) := h
  unfold Blk
  simp only [World.setCell, Array.getElem?_modify, h']
  simp
theorem Blk.cells (h : Blk w g cs t) : ∀ j v, cs.toList[j]? = some v → w.cell? ⟨g, j, none⟩ = some v := fun j v e => by rw [h.cell]; simpa using e
end
end Go.Proofs.YtnblopilgfdjkaaGreat.Ret
/- Slices of numbers in memory, for any program: a slice value that holds a list; a slice in blocks of the call's own that holds a list; what keeps both; one list appended to another. No conditions but that lengths fit. -/
namespace Go.Proofs.YtnblopilgfdjkaaGreat.Sl
open Go.ChangeShapes Go.WideShapes Go.ChangeAt Go.RowKit
set_option linter.unusedVariables false
set_option maxRecDepth 100000

/-- The number at place j. (A plain definition: the walk leaves it alone.) -/
def nth (l : List Int) (j : Nat) : Int := l.getD j 0

/-- The slice value v holds the numbers l, of kind k, in the world w. -/
def Holds (k : IntKind) (w : World) (v : Value) (l : List Int) : Prop :=
  ∃ x cap, v = .slice x l.length cap ∧ l.length ≤ cap ∧ (l = [] ∨ ∃ b off, x = some ⟨b, off, none⟩ ∧ ∀ j, j < l.length → w.cell? ⟨b, off + j, none⟩ = some (.int k (nth l j)))

/-- The slice value v lies at the head of a row of its own, in a block from B on, and holds l. -/
def Own (e : TypeId) (k : IntKind) (B : Nat) (w : World) (v : Value) (l : List Int) : Prop := w.ownsRow B e 1 v l.length (l.map (Value.int k))

section
variable {k : IntKind} {e : TypeId} {B : Nat} {w w' : World} {v : Value} {l : List Int}

theorem Own.form (h : Own e k B w v l) : (v = .slice none 0 0 ∧ l = []) ∨ ∃ g cap, v = .slice (some ⟨g, 0, none⟩) l.length cap ∧ B ≤ g ∧ g < w.heap.size ∧ l.length ≤ cap ∧ cap ≤ maxLen := by
  rcases h.2 with ⟨hv, hn⟩ | ⟨g, cap, cur, hv, hg, hh, h1, h2, h3, h4⟩
  · exact Or.inl ⟨hv, List.eq_nil_of_length_eq_zero hn⟩
  · exact Or.inr ⟨g, cap, hv, hg, (Array.getElem?_eq_some_iff.1 hh).1, h1, h2⟩

theorem Own.holds (h : Own e k B w v l) : Holds k w v l := by
  rcases h.form with ⟨rfl, rfl⟩ | ⟨g, cap, rfl, h1, h2, h3, h4⟩
  · exact ⟨none, 0, rfl, by simp, Or.inl rfl⟩
  · refine ⟨_, cap, rfl, h3, ?_⟩
    by_cases hl : l = []
    · exact Or.inl hl
    · refine Or.inr ⟨g, 0, rfl, fun j hj => ?_⟩
      have h5 := World.ownsRow.cellAt h j (by simpa using hj)
      rw [Nat.zero_add, h5, List.getElem?_map]
      simp [nth, List.getD, List.getElem?_eq_getElem hj]

theorem Own.lt (h : Own e k B w v l) : ∀ g, v.ownBlock = some g → B ≤ g ∧ g < w.heap.size := World.ownsRow.lt h
theorem Own.grown (h : Own e k B w v l) {row : Option Nat} (hg : w.grownBy w' row) (hne : v.ownBlock = none ∨ v.ownBlock ≠ row) : Own e k B w' v l := World.ownsRow.kept h hg hne
theorem grown_of_below (hb : Below w.heap.size w w') (row : Option Nat) : w.grownBy w' row := ⟨hb.os, hb.tape, hb.output, hb.size, fun i hi _ => hb.block i hi⟩
theorem Own.on (h : Own e k B w v l) (hb : Below w.heap.size w w') : Own e k B w' v l := by
  refine World.ownsRow.kept h (grown_of_below hb none) ?_
  cases hv : v.ownBlock <;> simp
theorem Own.mono (h : Own e k B w v l) {B' : Nat} (hB : B' ≤ B) : Own e k B' w v l := by
  refine ⟨h.1, ?_⟩
  rcases h.2 with h2 | ⟨g, cap, cur, hv, hg, r⟩
  · exact Or.inl h2
  · exact Or.inr ⟨g, cap, cur, hv, Nat.le_trans hB hg, r⟩
theorem Own.nil (e : TypeId) (k : IntKind) (B : Nat) (w : World) : Own e k B w (.slice none 0 0) [] := World.ownsRow_nil w B e 1
theorem Own.len (h : Own e k B w v l) : l.length ≤ maxLen := by
  rcases h.form with ⟨rfl, rfl⟩ | ⟨g, cap, rfl, h1, h2, h3, h4⟩
  · simp
  · omega
/-- A slice of the call's own that is not nil: its block. -/
theorem Own.block (h : Own e k B w v l) (hn : v ≠ .slice none 0 0) : ∃ g cap, v = .slice (some ⟨g, 0, none⟩) l.length cap ∧ B ≤ g ∧ g < w.heap.size ∧ l.length ≤ cap := by
  rcases h.form with ⟨hv, _⟩ | ⟨g, cap, hv, h1, h2, h3, h4⟩
  · exact absurd hv hn
  · exact ⟨g, cap, hv, h1, h2, h3⟩

theorem cell_lt {a : Addr} {u : Value} (h : w.cell? a = some u) : a.block < w.heap.size := by
  unfold World.cell? at h
  cases hh : w.heap[a.block]? with
  | none => simp [hh] at h
  | some o => exact (Array.getElem?_eq_some_iff.1 hh).1

theorem Holds.on (h : Holds k w v l) (hb : Below w.heap.size w w') : Holds k w' v l := by
  obtain ⟨x, cap, hv, hc, h⟩ := h
  refine ⟨x, cap, hv, hc, ?_⟩
  rcases h with h | ⟨b, off, hx, h⟩
  · exact Or.inl h
  · exact Or.inr ⟨b, off, hx, fun j hj => by rw [hb.cell (cell_lt (h j hj))]; exact h j hj⟩
theorem Holds.nil (k : IntKind) (w : World) : Holds k w (.slice none 0 0) [] := ⟨none, 0, rfl, by simp, Or.inl rfl⟩
theorem Holds.shape (h : Holds k w v l) : ∃ x cap, v = .slice x l.length cap ∧ l.length ≤ cap ∧ Holds k w (.slice x l.length cap) l := by
  obtain ⟨x, cap, hv, hc, h⟩ := h
  exact ⟨x, cap, hv, hc, x, cap, rfl, hc, h⟩
theorem Holds.at {x : Option Addr} {n cap : Nat} (h : Holds k w (.slice x n cap) l) {j : Nat} (hj : j < l.length) :
    ∃ b off, x = some ⟨b, off, none⟩ ∧ w.cell? ⟨b, off + j, none⟩ = some (.int k (nth l j)) := by
  obtain ⟨x', cap', hv, hc, h⟩ := h
  cases hv
  rcases h with rfl | ⟨b, off, hx, h⟩
  · simp at hj
  · exact ⟨b, off, hx, h j hj⟩
theorem Holds.lenEq {x : Option Addr} {n cap : Nat} (h : Holds k w (.slice x n cap) l) : n = l.length := by
  obtain ⟨x', cap', hv, hc, h⟩ := h
  cases hv; rfl

theorem Holds.grown (h : Holds k w v l) {row : Option Nat} (hg : w.grownBy w' row) (hne : ∀ g, v.ownBlock = some g → some g ≠ row) : Holds k w' v l := by
  obtain ⟨x, cap, rfl, hc, h⟩ := h
  refine ⟨x, cap, rfl, hc, ?_⟩
  rcases h with h | ⟨b, off, rfl, h⟩
  · exact Or.inl h
  · exact Or.inr ⟨b, off, rfl, fun j hj => hg.cell (h j hj) (hne b rfl)⟩

theorem nth_eq {l : List Int} {j : Nat} (hj : j < l.length) : nth l j = l[j] := by simp [nth, List.getD, List.getElem?_eq_getElem hj]
theorem getD_map {j : Nat} (hj : j < l.length) : (l.map (Value.int k))[j]? = some (.int k (nth l j)) := by
  simp [nth, List.getD, List.getElem?_eq_getElem hj]
end

/-! ### append -/
theorem oneCell (k : IntKind) (l : List Int) : ∀ u ∈ l.map (Value.int k), u.oneCell' = true := by
  intro u hu
  obtain ⟨_, _, rfl⟩ := List.mem_map.1 hu
  rfl

/-- What holds l is read as l's cells, or l is empty. -/
theorem Holds.cells {k : IntKind} {w : World} {ad : Addr} {n cap : Nat} {l : List Int} (h : Holds k w (.slice (some ad) n cap) l) : ∀ j u, (l.map (Value.int k))[j]? = some u → w.cell? (ad.add j) = some u := by
  intro j u hu
  have hj : j < l.length := by have := (List.getElem?_eq_some_iff.1 hu).1; simpa using this
  obtain ⟨b, off, hx, hc⟩ := h.at hj
  cases hx
  rw [Go.WideShapes.add_plain, hc]
  rw [getD_map hj] at hu
  exact hu

/-- The element type's row of the program's table: its zero, one cell, so many bytes. -/
def Elem (P : Program) (e : TypeId) (z : Value) (bytes : Nat) : Prop := (P.info? e).map (fun i => (i.zero, i.size, i.bytes)) = some (some z, 1, bytes)

section
variable {P : Program} {w : World} {ops : Array Oper} {rest : List Oper} {o : Oper} {a : Act} {Q : Exit → Act → World → Prop} {k : IntKind} {e t : TypeId} {bytes : Nat} {z : Value}

/-- append to a slice of the call's own, whatever is appended. -/
theorem wpList_app_nn (hgd : o.guard = none) (s x : Operand) (ho : o.op = .call { callee := .builtin .append, args := #[s, x], argTypes := #[t, t] }) (ht : P.underlying t = some (.slice e)) (hi : Elem P e z bytes) (hz : z.cells.size = 1)
    {B : Nat} {v vx : Value} {l m : List Int} (hs : a.eval s = v) (hx : a.eval x = vx) (hown : Own e k B w v l) (hsrc : Holds k w vx m) (hlen : (l.length + m.length) * 8 ≤ 140737488355328) (hby : bytes ≤ 8) (hB : B ≤ w.heap.size)
    (h : ∀ v' w', Own e k B w' v' (l ++ m) → w.grownBy w' v.ownBlock → (v ≠ .slice none 0 0 → v' ≠ .slice none 0 0) → wpList P ops Q rest (a.put o.dst v') w') : wpList P ops Q (o :: rest) a w := by
  obtain ⟨i, h1, h2, h3, h4⟩ := info_parts hi
  have hbytes : (l.length + m.length) * bytes ≤ 140737488355328 := Nat.le_trans (Nat.mul_le_mul_left _ hby) hlen
  have h63 : l.length + m.length ≤ maxLen := by unfold maxLen; omega
  obtain ⟨ao, cap, rfl, hcap, hc⟩ := hsrc
  have hsrc : Holds k w (.slice ao m.length cap) m := ⟨ao, cap, rfl, hcap, hc⟩
  have fin : ∀ v' w', w'.ownsRow B e 1 v' (l.length + m.length) (l.map (Value.int k) ++ m.map (Value.int k)) → Own e k B w' v' (l ++ m) := by
    intro v' w' hh
    unfold Own
    rw [List.length_append, List.map_append]; exact hh
  cases ao with
  | some ad =>
    exact wpList_append_own w hgd s x t ho B e i z 1 bytes ht h1 h2 h3 h4 hz (by decide) v l.length _ hs hown ad m.length cap (m.map (Value.int k)) hx (by simp) hsrc.cells (oneCell k m) h63 hbytes hB
      fun v' w' r1 r2 r3 => h v' w' (fin v' w' r1) r2 (fun hn he => hn (r3.1 he).1)
  | none =>
    rcases hc with rfl | ⟨b, off, hc, _⟩
    · refine wpList_plain hgd fun K hK => ?_
      have hrun : (Builtin.append_ #[t, t] o.type #[v, .slice none 0 cap]).run P w = .ok v w := by
        rcases hown.2 with ⟨rfl, hn⟩ | ⟨g, cap', cur, rfl, _, _, hnc, _⟩
        · simp [Builtin.append_, run_underlying ht, sizeOf, typeInfo, h1, Builtin.lenOf, Builtin.firstCells]
        · simp [Builtin.append_, run_underlying ht, sizeOf, typeInfo, h1, Builtin.lenOf, Builtin.firstCells, hnc, storeCells]
      have hx' : a.eval x = .slice none 0 cap := by simpa using hx
      unfold Oper.wp
      simp [execOp, ho, resolve, invoke, builtin, hs, hx', hrun, Result.andThen]
      exact hK _ _ (h v w (by simpa using hown) (World.grownBy.refl _ _) (fun hn => hn))
    · cases hc

theorem wpList_app (hgd : o.guard = none) (s x : Operand) (ho : o.op = .call { callee := .builtin .append, args := #[s, x], argTypes := #[t, t] }) (ht : P.underlying t = some (.slice e)) (hi : Elem P e z bytes) (hz : z.cells.size = 1)
    {B : Nat} {v vx : Value} {l m : List Int} (hs : a.eval s = v) (hx : a.eval x = vx) (hown : Own e k B w v l) (hsrc : Holds k w vx m) (hlen : (l.length + m.length) * 8 ≤ 140737488355328) (hby : bytes ≤ 8) (hB : B ≤ w.heap.size)
    (h : ∀ v' w', Own e k B w' v' (l ++ m) → w.grownBy w' v.ownBlock → wpList P ops Q rest (a.put o.dst v') w') : wpList P ops Q (o :: rest) a w :=
  wpList_app_nn hgd s x ho ht hi hz hs hx hown hsrc hlen hby hB fun v' w' h1 h2 _ => h v' w' h1 h2

/-- append to a slice without spare capacity: the new row is the call's own. -/
theorem wpList_app_full (hgd : o.guard = none) (s x : Operand) (ho : o.op = .call { callee := .builtin .append, args := #[s, x], argTypes := #[t, t] }) (ht : P.underlying t = some (.slice e)) (hi : Elem P e z bytes) (hz : z.cells.size = 1)
    {ao : Option Addr} {n : Nat} {ad : Addr} {c mm : Nat} {l m : List Int} (hs : a.eval s = .slice ao n n) (hx : a.eval x = .slice (some ad) mm c) (hold : Holds k w (.slice ao n n) l) (hsrc : Holds k w (.slice (some ad) mm c) m) (hm : m ≠ []) (hlen : (l.length + m.length) * 8 ≤ 140737488355328) (hby : bytes ≤ 8)
    (h : ∀ v' w', Own e k w.heap.size w' v' (l ++ m) → w.grownBy w' none → wpList P ops Q rest (a.put o.dst v') w') : wpList P ops Q (o :: rest) a w := by
  obtain ⟨i, h1, h2, h3, h4⟩ := info_parts hi
  have hbytes : (l.length + m.length) * bytes ≤ 140737488355328 := Nat.le_trans (Nat.mul_le_mul_left _ hby) hlen
  have h63 : l.length + m.length ≤ maxLen := by unfold maxLen; omega
  have e1 := hold.lenEq; subst e1
  have e2 := hsrc.lenEq; subst e2
  have hm0 : 0 < m.length := by cases m <;> simp_all
  refine wpList_append_grows w hgd s x t ho e i z 1 bytes ht h1 h2 h3 h4 hz (by decide) ao l.length l.length (l.map (Value.int k)) hs ?_ (by simp) ?_ ad m.length c (m.map (Value.int k)) hx (by simp) hsrc.cells (oneCell k m) (by omega) h63 hbytes ?_
  · rintro rfl
    obtain ⟨x', cap', hv, hc, hh⟩ := hold
    rcases hh with rfl | ⟨b, off, hx', _⟩
    · simp
    · cases hv; cases hx'
  · rintro b rfl
    exact hold.cells
  · intro v' w' r1 r2
    refine h v' w' ?_ r2
    unfold Own
    rw [List.length_append, List.map_append]; exact r1
end

/-- A slice of the call's own, or one without spare capacity: an append leaves what is below B. -/
def Fits (e : TypeId) (k : IntKind) (B : Nat) (w : World) (v : Value) (l : List Int) : Prop := Own e k B w v l ∨ ∃ x, v = .slice x l.length l.length ∧ Holds k w v l
theorem Fits.on {k : IntKind} {e : TypeId} {B : Nat} {w w' : World} {v : Value} {l : List Int} (h : Fits e k B w v l) (hb : Below w.heap.size w w') : Fits e k B w' v l := by
  rcases h with h | ⟨x, hv, h⟩
  · exact Or.inl (h.on hb)
  · exact Or.inr ⟨x, hv, h.on hb⟩
theorem Fits.holds {k : IntKind} {e : TypeId} {B : Nat} {w : World} {v : Value} {l : List Int} (h : Fits e k B w v l) : Holds k w v l := by
  rcases h with h | ⟨x, hv, h⟩
  · exact h.holds
  · exact h

section
variable {P : Program} {w : World} {ops : Array Oper} {rest : List Oper} {o : Oper} {a : Act} {Q : Exit → Act → World → Prop} {k : IntKind} {e t : TypeId} {bytes : Nat} {z : Value}
theorem wpList_app_fit (hgd : o.guard = none) (s x : Operand) (ho : o.op = .call { callee := .builtin .append, args := #[s, x], argTypes := #[t, t] }) (ht : P.underlying t = some (.slice e)) (hi : Elem P e z bytes) (hz : z.cells.size = 1)
    {B : Nat} {v vx : Value} {l m : List Int} (hs : a.eval s = v) (hx : a.eval x = vx) (hown : Fits e k B w v l) (hsrc : Holds k w vx m) (hm : m ≠ []) (hlen : (l.length + m.length) * 8 ≤ 140737488355328) (hby : bytes ≤ 8) (hB : B ≤ w.heap.size)
    (h : ∀ v' w', Own e k B w' v' (l ++ m) → Below B w w' → wpList P ops Q rest (a.put o.dst v') w') : wpList P ops Q (o :: rest) a w := by
  rcases hown with hown | ⟨ao, rfl, hold⟩
  · exact wpList_app hgd s x ho ht hi hz hs hx hown hsrc hlen hby hB fun v' w' h1 h2 => h v' w' h1 ((Below.refl _ _).grown h2 hB (fun g hg => (hown.lt g hg).1))
  · obtain ⟨xo, c, rfl, hc, hh⟩ := hsrc
    have hsrc : Holds k w (.slice xo m.length c) m := ⟨xo, c, rfl, hc, hh⟩
    rcases hh with hh | ⟨b, off, rfl, _⟩
    · exact absurd hh hm
    · exact wpList_app_full hgd s x ho ht hi hz hs hx hold hsrc hm hlen hby fun v' w' h1 h2 => h v' w' (h1.mono hB) ((Below.refl _ _).grown h2 hB (fun g hg => by cases hg))
end

/-- A new block of one number; a new empty block. -/
theorem holds_one (k : IntKind) (e : TypeId) (w : World) (x : Int) : Holds k (w.alloc (.cells #[.int k x] e)) (.slice (some ⟨w.heap.size, 0, none⟩) 1 1) [x] := by
  refine ⟨_, 1, rfl, by simp, Or.inr ⟨_, _, rfl, fun j hj => ?_⟩⟩
  have : j = 0 := by simpa using hj
  subst this
  simp [World.cell?_alloc_mark, nth]
theorem own_empty (k : IntKind) (e : TypeId) (w : World) : Own e k w.heap.size (w.alloc (.cells #[] e)) (.slice (some ⟨w.heap.size, 0, none⟩) 0 0) [] := World.ownsRow_lit w #[] 0 (Nat.le_refl _) (by unfold maxLen; omega) rfl
end Go.Proofs.YtnblopilgfdjkaaGreat.Sl
/- Contracts of the helpers by which the exact laws copy, compare, mark and look at slices of numbers: a copy lies in memory of the call's own and holds the same list; comparing tells whether the lists are equal; marking writes the numbers from k on; looking at the marks tells that they are there. No conditions but that lengths fit. -/
namespace Go.Proofs.YtnblopilgfdjkaaGreat.Sl
open Go.ChangeShapes Go.WideShapes Go.ChangeAt Go.RowKit Go.Instr
set_option linter.unusedVariables false
set_option maxRecDepth 100000

/-- The list behind the first k stores of a copy. -/
def filled (l : List Int) (k : Nat) : List Int := l.take k ++ List.replicate (l.length - k) 0
/-- The numbers that a marking writes: from k on, as the element's kind holds them. -/
def marks (kd : IntKind) (k : Int) : Nat → List Int
  | 0 => []
  | n + 1 => marks kd k n ++ [kd.wrap (k + n)]
/-- The list behind the first j marks. -/
def marked (kd : IntKind) (k : Int) (l : List Int) (j : Nat) : List Int := marks kd k j ++ l.drop j
/-- Two lists agree up to k. -/
def agree (a b : List Int) (k : Nat) : Prop := ∀ j, j < k → nth a j = nth b j
theorem agree_zero (a b : List Int) : agree a b 0 := fun j h => absurd h (by omega)
theorem agree_succ {a b : List Int} {k : Nat} (h : agree a b k) (hk : nth a k = nth b k) : agree a b (k + 1) := fun j hj => by
  by_cases e : j = k
  · subst e; exact hk
  · exact h j (by omega)
theorem agree_all {a b : List Int} (hl : a.length = b.length) (h : agree a b a.length) : a = b := by
  apply List.ext_getElem hl
  intro i h1 h2
  have := h i h1
  rwa [nth_eq h1, nth_eq h2] at this
theorem differ_at {a b : List Int} {k : Nat} (h : ¬ nth a k = nth b k) : a ≠ b := fun e => h (by rw [e])
def eqB (a b : List Int) : Bool := decide (a = b)
theorem eqB_true {a b : List Int} (h : a = b) : eqB a b = true := by simp [eqB, h]
theorem eqB_false {a b : List Int} (h : a ≠ b) : eqB a b = false := by simp [eqB, h]
theorem eqB_self (a : List Int) : eqB a a = true := by simp [eqB]

theorem below_drewN {B : Nat} {a w : World} (h : Below B a w) (n : Nat) : Below B a (w.drewN n) := ⟨h.os, h.tape, h.output, h.size, h.block⟩
theorem ret_bool {a b : Bool} (h : a = b) : Ending.returned (.bool a) = .returned (.bool b) := by rw [h]
theorem ret_int {k : IntKind} {a b : Int} (h : a = b) : Ending.returned (.int k a) = .returned (.int k b) := by rw [h]

/-! ### BYTES -/
theorem elemBYTE : Elem Tryz.prog 5 (.int .u8 0) 1 := by unfold Elem; kernel_rfl

/-- Marking: every element of a slice of the call's own is written. -/
def MarkedB (B : Nat) (w : World) (v : Value) (n : Nat) (k : Int) (e : Ending) (w' : World) : Prop :=
  e = .returned (.int .i64 (k + n)) ∧ Own 5 .u8 B w' v (marks .u8 k n) ∧ w.grownBy w' v.ownBlock

/-! ### INTS -/
theorem elemINT : Elem Tryz.prog 3 (.int .i64 0) 8 := by unfold Elem; kernel_rfl

/-- Marking: every element of a slice of the call's own is written. -/
def MarkedI (B : Nat) (w : World) (v : Value) (n : Nat) (k : Int) (e : Ending) (w' : World) : Prop :=
  e = .returned (.int .i64 (k + n)) ∧ Own 3 .i64 B w' v (marks .i64 k n) ∧ w.grownBy w' v.ownBlock

/-- Two slices never lie in one block. -/
def Apart (v u : Value) : Prop := ∀ g, v.ownBlock = some g → u.ownBlock ≠ some g
theorem Apart.symm {v u : Value} (h : Apart v u) : Apart u v := fun g h1 h2 => h g h2 h1
theorem apart_or {v u : Value} (h : Apart v u) : v.ownBlock = none ∨ v.ownBlock ≠ u.ownBlock := by
  cases hv : v.ownBlock with
  | none => exact Or.inl rfl
  | some g => exact Or.inr fun he => h g hv he.symm
end Go.Proofs.YtnblopilgfdjkaaGreat.Sl
/- Kinds of values with memory beneath in the words of the exact laws: slices of one-cell elements, slices of bytes, names; the laws' helpers for them; what keeps a region's loads. No conditions but that lengths fit. -/
namespace Go.Proofs.YtnblopilgfdjkaaGreat.Row
open Go.ChangeShapes Go.WideShapes Go.ChangeAt Go.RowKit Go.Instr
set_option linter.unusedVariables false
set_option maxRecDepth 100000

/-- A slice of scalars. -/
def kS {α : Type} (e : TypeId) (enc : α → Value) (h1 : ∀ x, (enc x).oneCell' = true) : Kd (List α) (Rw α) := Kd.slice e (Kd.scalar enc h1)
theorem kS_strip {α : Type} {enc : α → Value} {h1 : ∀ x, (enc x).oneCell' = true} {e : TypeId} (m : Rw α) : (kS e enc h1).strip m = m.els := by simp [kS, Kd.slice, Kd.scalar]
theorem kS_blocks {α : Type} {enc : α → Value} {h1 : ∀ x, (enc x).oneCell' = true} {e : TypeId} (r : Rw α) : (kS e enc h1).blocks r = r.v.ownBlock.toList := by simp [kS, Kd.slice, Kd.scalar]
section
variable {α : Type} [Inhabited α] {enc : α → Value} {h1 : ∀ x, (enc x).oneCell' = true} {e : TypeId} {w : World} {v : Value} {l : List α} {B E : Nat}
theorem kS_at (h : (kS e enc h1).At w v l) : Holds enc w v l := by
  obtain ⟨m, rfl, rfl, h, -⟩ := h
  rw [kS_strip]
  exact holdsK_single.1 h
theorem kS_of (h : Holds enc w v l) : (kS e enc h1).At w v l := by
  obtain ⟨x, n, cap, rfl, -, -, hh⟩ := h.shapeN
  exact ⟨⟨x, n, cap, l⟩, rfl, kS_strip _, holdsK_single.2 hh, fun _ _ => trivial⟩
theorem kS_mk (h : Own e enc B w v l) (hE : ∀ g, v.ownBlock = some g → g < E) : (kS e enc h1).In B E w v l := by
  obtain ⟨x, n, cap, rfl, -, -, hh⟩ := h.shapeN
  refine ⟨⟨x, n, cap, l⟩, rfl, kS_strip _, ⟨ownK_single.2 hh, fun _ _ => trivial⟩, ?_, ?_⟩
  · rw [kS_blocks]
    cases h2 : (Rw.v ⟨x, n, cap, l⟩).ownBlock <;> simp
  · rw [kS_blocks]
    intro g hg
    exact hE g (by simpa [Rw.v] using hg)
theorem kS_own (h : Own e enc B w v l) : (kS e enc h1).In B w.heap.size w v l := kS_mk h (fun g hg => (h.lt g hg).2)
theorem kS_in (h : (kS e enc h1).In B E w v l) : Own e enc B w v l ∧ ∀ g, v.ownBlock = some g → g < E := by
  obtain ⟨m, rfl, rfl, h, -, h2⟩ := h
  rw [kS_strip]
  rw [kS_blocks] at h2
  exact ⟨ownK_single.1 h.1, fun g hg => h2 g (by rw [show m.v.ownBlock = some g from hg]; simp)⟩
end

/-! ### bytes -/
def kB : Kd (List Int) (Rw Int) := kS 5 (Value.int .u8) (fun _ => rfl)
section
variable {w : World} {v V : Value} {l : List Int} {B E : Nat}
theorem kB_of (h : Sl.Holds .u8 w v l) : kB.At w v l := kS_of h
theorem kB_shapeA (h : kB.At w V l) : ∃ x n c, V = .slice x n c ∧ kB.At w (.slice x n c) l := by
  obtain ⟨x, n, c, rfl, -⟩ := (kS_at h).shapeN
  exact ⟨x, n, c, rfl, h⟩
end
/-! ### names -/
def kN : Kd (List ByteArray) (Rw ByteArray) := (kNm 9).wrap
section
variable {w : World} {v V : Value} {l : List ByteArray} {B E : Nat}
theorem kNm_mk (h : Own 9 Value.string B w v l) (hE : ∀ g, v.ownBlock = some g → g < E) : (kNm 9).In B E w v l := by
  obtain ⟨x, n, cap, rfl, -, -, hh⟩ := h.shapeN
  refine ⟨⟨x, n, cap, l⟩, rfl, by simp [kNm, Kd.slice, kStr, Kd.scalar], ⟨ownK_single.2 hh, fun _ _ => trivial⟩, ?_, ?_⟩
  · rw [kNm_blocks]
    cases h2 : (Rw.v ⟨x, n, cap, l⟩).ownBlock <;> simp
  · rw [kNm_blocks]
    intro g hg
    exact hE g (by simpa [Rw.v] using hg)
theorem kN_at (h : kN.At w V l) : ∃ v, V = .agg #[v] ∧ Holds Value.string w v l := by
  obtain ⟨m, rfl, e, h⟩ := h
  exact ⟨m.v, rfl, kNm_at (e := 9) ⟨m, rfl, e, h⟩⟩
theorem kN_of (h : Holds Value.string w v l) : kN.At w (.agg #[v]) l := by
  obtain ⟨m, rfl, e, h⟩ := kNm_of (e := 9) h
  exact ⟨m, rfl, e, h⟩
theorem kN_shapeA (h : kN.At w V l) : ∃ x n c, V = .agg #[.slice x n c] ∧ kN.At w (.agg #[.slice x n c]) l := by
  obtain ⟨v, rfl, ho⟩ := kN_at h
  obtain ⟨x, n, c, rfl, -⟩ := ho.shapeN
  exact ⟨x, n, c, rfl, h⟩
end
/-! ### what keeps a region's loads, a variable's block -/
theorem kc {w w' : World} {a : Addr} {u : Value} (h : w.cell? a = some u) (hb : Below w.heap.size w w') : w'.cell? a = some u := (hb.cell (cell_lt h)).trans h
end Go.Proofs.YtnblopilgfdjkaaGreat.Row
/- Slices of ints in the words of the exact laws. No conditions but that lengths fit. -/
namespace Go.Proofs.YtnblopilgfdjkaaGreat.Row
open Go.ChangeShapes Go.WideShapes Go.ChangeAt Go.RowKit Go.Instr
set_option linter.unusedVariables false
set_option maxRecDepth 100000

def kI : Kd (List Int) (Rw Int) := kS 3 (Value.int .i64) (fun _ => rfl)
section
variable {w : World} {v V : Value} {l : List Int} {B E : Nat}
theorem kI_own (h : Sl.Own 3 .i64 B w v l) : kI.In B w.heap.size w v l := kS_own h
theorem kI_shape (h : kI.In B E w V l) : ∃ x n c, V = .slice x n c ∧ kI.In B E w (.slice x n c) l := by
  obtain ⟨x, n, c, rfl, -⟩ := (kS_in h).1.shapeN
  exact ⟨x, n, c, rfl, h⟩
end
end Go.Proofs.YtnblopilgfdjkaaGreat.Row
/- Contracts of the helpers by which the laws measure, copy, compare, mark and look at interests (a name and three numbers). No conditions but that lengths fit. -/
namespace Go.Proofs.YtnblopilgfdjkaaGreat.Row
open Go.ChangeShapes Go.WideShapes Go.ChangeAt Go.RowKit Go.Instr
set_option linter.unusedVariables false
set_option maxRecDepth 100000

/-- An interest's cells. -/
abbrev wc (v : Value) (a b c : Int) : Array Value := #[v, .int .i64 a, .int .i64 b, .int .i64 c]
theorem own_set {α : Type} [Inhabited α] {enc : α → Value} {e : TypeId} {B g i : Nat} {w : World} {v u : Value} {l : List α} (h : Own e enc B w v l) (hg : g < B) : Own e enc B (w.setCell ⟨g, i, none⟩ u) v l := h.grown (Ret.grownBy_set w ⟨g, i, none⟩ u) (nb h hg)
end Go.Proofs.YtnblopilgfdjkaaGreat.Row
/- What calls leave that give a slice of the call's own; lists of bytes. No conditions. -/
namespace Go.Proofs.YtnblopilgfdjkaaGreat.Sl
open Go.ChangeShapes Go.WideShapes Go.ChangeAt Go.RowKit Go.Instr
set_option linter.unusedVariables false
set_option maxRecDepth 100000

/-- What a call of a function that returns a slice of the call's own leaves. -/
def GivesB (w : World) (l : List Int) (e : Ending) (w' : World) : Prop := ∃ v, e = .returned v ∧ Own 5 .u8 w.heap.size w' v l ∧ Below w.heap.size w w'
def GivesI (w : World) (l : List Int) (e : Ending) (w' : World) : Prop := ∃ v, e = .returned v ∧ Own 3 .i64 w.heap.size w' v l ∧ Below w.heap.size w w'

/-- Every element is a byte. -/
def Byt (l : List Int) : Prop := ∀ x ∈ l, 0 ≤ x ∧ x ≤ 255
theorem Byt.at {l : List Int} (h : Byt l) {j : Nat} (hj : j < l.length) : 0 ≤ nth l j ∧ nth l j ≤ 255 := by rw [nth_eq hj]; exact h _ (List.getElem_mem hj)
theorem byt_of_wf {l : List Int} (h : ∀ x ∈ l, (Lit.int .u8 x).wf = true) : Byt l := fun x hx => by
  have e1 : IntKind.u8.min = 0 := rfl
  have e2 : IntKind.u8.max = 255 := rfl
  simpa [Lit.wf, e1, e2] using h x hx
end Go.Proofs.YtnblopilgfdjkaaGreat.Sl
/- A string turned into a slice of bytes: where they lie, what they are. No conditions. -/
namespace Go.Proofs.YtnblopilgfdjkaaGreat.Sl
open Go.ChangeShapes Go.WideShapes Go.ChangeAt Go.RowKit Go.Instr
set_option linter.unusedVariables false
set_option maxRecDepth 100000

/-- A string's bytes, as numbers. -/
def bytesOf (t : ByteArray) : List Int := t.data.toList.map fun c => (c.toNat : Int)
theorem bytesOf_length (t : ByteArray) : (bytesOf t).length = t.size := by unfold bytesOf; rw [List.length_map, Array.length_toList]; rfl
theorem bytesOf_byt (t : ByteArray) : Byt (bytesOf t) := fun x hx => by
  unfold bytesOf at hx
  obtain ⟨c, _, rfl⟩ := List.mem_map.1 hx
  have := c.toNat_lt
  omega
theorem bytesOf_nth (t : ByteArray) {j : Nat} (hj : j < t.size) : nth (bytesOf t) j = (t.data.toList.getD j 0).toNat := by
  have h : j < t.data.toList.length := by rw [Array.length_toList]; exact hj
  rw [nth_eq (by rw [bytesOf_length]; exact hj)]
  simp only [bytesOf, List.getElem_map, List.getD, List.getElem?_eq_getElem h, Option.getD_some]

theorem conv_bytes (w : World) (t : ByteArray) :
    ∃ cap w', (convert 9 22 (.string t)).run Tryz.prog w = .ok (.slice (some ⟨w.heap.size, 0, none⟩) t.size cap) w' ∧ Holds .u8 w' (.slice (some ⟨w.heap.size, 0, none⟩) t.size cap) (bytesOf t) ∧ Below w.heap.size w w' := by
  refine ⟨_, _, Lib.run_convert_string_bytes w 9 22 5 t Tryz.underlying9 Tryz.underlying22 Tryz.underlying5, ?_, ?_⟩
  · refine ⟨_, _, by rw [bytesOf_length], by rw [bytesOf_length]; exact grownCap_ge w _ _ _, Or.inr ⟨_, _, rfl, fun j hj => ?_⟩⟩
    rw [bytesOf_length] at hj
    rw [Nat.zero_add, Lib.bytesWorld_cell w _ t j hj, bytesOf_nth t hj]
  · exact ⟨rfl, rfl, rfl, by rw [Lib.bytesWorld_size]; omega, fun k hk => Lib.bytesWorld_at_old w _ t k hk⟩
end Go.Proofs.YtnblopilgfdjkaaGreat.Sl
/- Contracts of the integer functions of chapter 1 (without the texts): each returns the plain integer that its definition below says. The functions that only compute leave the world alone; Min and Max make one new block. No conditions but that the arguments fit their kind where sums are formed. -/
namespace Go.Proofs.YtnblopilgfdjkaaGreat.Num
open Go.ChangeShapes Go.WideShapes Go.ChangeAt Go.RowKit
set_option linter.unusedVariables false
set_option maxRecDepth 100000

def inB (n a b : Int) : Bool := decide (a ≤ n ∧ n ≤ b)

theorem inB_true {n a b : Int} (h1 : a ≤ n) (h2 : n ≤ b) : inB n a b = true := by simp [inB, h1, h2]
theorem inB_false1 {n a b : Int} (h1 : ¬ a ≤ n) : inB n a b = false := by simp [inB, h1]
theorem inB_false2 {n a b : Int} (h2 : ¬ n ≤ b) : inB n a b = false := by simp [inB, h2]

theorem implInRange (n a b : Int) (w : World) :
    Calls Tryz.prog 57 #[.int .i64 n, .int .i64 a, .int .i64 b] w fun e w' => e = .returned (.bool (inB n a b)) ∧ w = w' := by
  by_cases h1 : a ≤ n
  · by_cases h2 : n ≤ b
    · rw [inB_true h1 h2]
      go_enter Tryz.func57, Tryz.ntmps57
      go_wp2
      go_ret
      exact ⟨rfl, rfl⟩
    · rw [inB_false2 h2]
      go_enter Tryz.func57, Tryz.ntmps57
      go_wp2
      go_ret
      exact ⟨rfl, rfl⟩
  · rw [inB_false1 h1]
    go_enter Tryz.func57, Tryz.ntmps57
    go_wp2
    go_ret
    exact ⟨rfl, rfl⟩

theorem specIn (n a b : Int) (w : World) :
    Calls Tryz.prog 68 #[.int .i64 n, .int .i64 a, .int .i64 b] w fun e w' => e = .returned (.bool (inB n a b)) ∧ w = w' := by
  by_cases h1 : a ≤ n
  · by_cases h2 : n ≤ b
    · rw [inB_true h1 h2]
      go_enter Tryz.func68, Tryz.ntmps68
      go_wp2
      go_ret
      exact ⟨rfl, rfl⟩
    · rw [inB_false2 h2]
      go_enter Tryz.func68, Tryz.ntmps68
      go_wp2
      go_ret
      exact ⟨rfl, rfl⟩
  · rw [inB_false1 h1]
    go_enter Tryz.func68, Tryz.ntmps68
    go_wp2
    go_ret
    exact ⟨rfl, rfl⟩

theorem specIn_true {n a b : Int} (h1 : a ≤ n) (h2 : n ≤ b) (w : World) :
    Calls Tryz.prog 68 #[.int .i64 n, .int .i64 a, .int .i64 b] w fun e w' => e = .returned (.bool true) ∧ w = w' := by
  have := specIn n a b w
  rwa [inB_true h1 h2] at this
theorem specIn_false {n a b : Int} (h : ¬ (a ≤ n ∧ n ≤ b)) (w : World) :
    Calls Tryz.prog 68 #[.int .i64 n, .int .i64 a, .int .i64 b] w fun e w' => e = .returned (.bool false) ∧ w = w' := by
  have := specIn n a b w
  have e : inB n a b = false := by simpa [inB] using h
  rwa [e] at this
theorem implIn_true {n a b : Int} (h1 : a ≤ n) (h2 : n ≤ b) (w : World) :
    Calls Tryz.prog 57 #[.int .i64 n, .int .i64 a, .int .i64 b] w fun e w' => e = .returned (.bool true) ∧ w = w' := by
  have := implInRange n a b w
  rwa [inB_true h1 h2] at this
theorem implIn_false {n a b : Int} (h : ¬ (a ≤ n ∧ n ≤ b)) (w : World) :
    Calls Tryz.prog 57 #[.int .i64 n, .int .i64 a, .int .i64 b] w fun e w' => e = .returned (.bool false) ∧ w = w' := by
  have := implInRange n a b w
  have e : inB n a b = false := by simpa [inB] using h
  rwa [e] at this

def minI (a b : Int) : Int := if b < a then b else a
def maxI (a b : Int) : Int := if a < b then b else a

def ceilI (a b : Int) : Int := if 0 ≤ a ∧ a ≤ 1000000000000 ∧ 1 ≤ b ∧ b ≤ 1000000000000 then (a + b - 1) / b else 0
def modI (n m : Int) : Int := if 1 ≤ m ∧ m ≤ 1000000000000 then n % m else 0
theorem modI_out {n m : Int} (h : ¬ (1 ≤ m ∧ m ≤ 1000000000000)) : modI n m = 0 := by
  unfold modI; rw [if_neg h]
theorem tmod_hi (n m : Int) (h : 1 ≤ m) : n.tmod m < m := Int.tmod_lt_of_pos n (by omega)
theorem tmod_lo (n m : Int) (h : 1 ≤ m) : -m < n.tmod m := by
  have := Int.lt_tmod_of_pos n (b := m) (by omega)
  omega
theorem modI_pos {n m : Int} (h1 : 1 ≤ m) (h2 : m ≤ 1000000000000) (h : ¬ n.tmod m < 0) : modI n m = n.tmod m := by
  unfold modI; rw [if_pos ⟨h1, h2⟩]
  have e := Int.tmod_add_mul_tdiv n m
  have hh := tmod_hi n m h1
  have : n.tmod m = n % m := by
    rw [← Int.emod_eq_of_lt (a := n.tmod m) (b := m) (by omega) hh]
    have e2 : n = n.tmod m + m * n.tdiv m := e.symm
    conv => rhs; rw [e2]
    rw [Int.add_mul_emod_self_left]
  omega
theorem modI_neg {n m : Int} (h1 : 1 ≤ m) (h2 : m ≤ 1000000000000) (h : n.tmod m < 0) : modI n m = n.tmod m + m := by
  unfold modI; rw [if_pos ⟨h1, h2⟩]
  have e := Int.tmod_add_mul_tdiv n m
  have hl := tmod_lo n m h1
  have : n.tmod m + m = n % m := by
    rw [← Int.emod_eq_of_lt (a := n.tmod m + m) (b := m) (by omega) (by omega)]
    have e2 : n = n.tmod m + m * n.tdiv m := e.symm
    conv => rhs; rw [e2]
    rw [Int.add_mul_emod_self_left, Int.add_emod_right]
  omega
theorem modI_spec {n m : Int} (h1 : 1 ≤ m) (h2 : m ≤ 1000000000000) : modI n m = (n.tmod m + m) % m := by
  rw [Int.add_emod_right]
  unfold modI; rw [if_pos ⟨h1, h2⟩]
  have e := Int.tmod_add_mul_tdiv n m
  have e2 : n = n.tmod m + m * n.tdiv m := e.symm
  conv => lhs; rw [e2]
  rw [Int.add_mul_emod_self_left]

theorem modI_nonneg (p : Int) {q : Int} (h : 1 ≤ q) : 0 ≤ modI p q := by
  unfold modI; split
  · exact Int.emod_nonneg _ (by omega)
  · omega
theorem modI_lt (p : Int) {q : Int} (h : 1 ≤ q) : modI p q < q := by
  unfold modI; split
  · exact Int.emod_lt_of_pos _ (by omega)
  · omega

theorem implMod (n m : Int) (w : World) :
    Calls Tryz.prog 108 #[.int .i64 n, .int .i64 m] w fun e w' => e = .returned (.int .i64 (modI n m)) ∧ w = w' := by
  by_cases h1 : 1 ≤ m
  · by_cases h2 : m ≤ 1000000000000
    · have hl := tmod_lo n m h1
      have hh := tmod_hi n m h1
      by_cases h3 : n.tmod m < 0
      · rw [modI_neg h1 h2 h3]
        go_enter Tryz.func108, Tryz.ntmps108
        go_wp2
        go_ret
        exact ⟨rfl, rfl⟩
      · rw [modI_pos h1 h2 h3]
        go_enter Tryz.func108, Tryz.ntmps108
        go_wp2
        go_ret
        exact ⟨rfl, rfl⟩
    · rw [modI_out (fun h => h2 h.2)]
      go_enter Tryz.func108, Tryz.ntmps108
      go_wp2
      go_ret
      exact ⟨rfl, rfl⟩
  · rw [modI_out (fun h => h1 h.1)]
    go_enter Tryz.func108, Tryz.ntmps108
    go_wp2
    go_ret
    exact ⟨rfl, rfl⟩

theorem specMod (n m : Int) (w : World) :
    Calls Tryz.prog 97 #[.int .i64 n, .int .i64 m] w fun e w' => e = .returned (.int .i64 (modI n m)) ∧ w = w' := by
  by_cases h1 : 1 ≤ m
  · by_cases h2 : m ≤ 1000000000000
    · have hl := tmod_lo n m h1
      have hh := tmod_hi n m h1
      rw [modI_spec h1 h2]
      go_enter Tryz.func97, Tryz.ntmps97
      go_wp2
      go_ret
      exact ⟨rfl, rfl⟩
    · rw [modI_out (fun h => h2 h.2)]
      go_enter Tryz.func97, Tryz.ntmps97
      go_wp2
      go_ret
      exact ⟨rfl, rfl⟩
  · rw [modI_out (fun h => h1 h.1)]
    go_enter Tryz.func97, Tryz.ntmps97
    go_wp2
    go_ret
    exact ⟨rfl, rfl⟩

end Go.Proofs.YtnblopilgfdjkaaGreat.Num
/- Plain mathematics of the base-128 encoding, no program in sight: the encoding's bytes, how they are read back, how long they are. No conditions. -/
namespace Go.Proofs.YtnblopilgfdjkaaGreat.Var

/-- The bytes of a number: groups of seven bits, the least one first, 128 added to all but the last. -/
def enc (n : Nat) : List Int := if h : n < 128 then [(n : Int)] else (((n % 128 : Nat) : Int) + 128) :: enc (n / 128)
  termination_by n
  decreasing_by omega

theorem enc_small {n : Nat} (h : n < 128) : enc n = [(n : Int)] := by rw [enc, dif_pos h]
theorem enc_big {n : Nat} (h : ¬ n < 128) : enc n = (((n % 128 : Nat) : Int) + 128) :: enc (n / 128) := by rw [enc, dif_neg h]
theorem enc_len : ∀ (k n : Nat), n < 128 ^ (k + 1) → (enc n).length ≤ k + 1
  | 0, n, h => by rw [enc_small (by simpa using h)]; simp
  | k + 1, n, h => by
    by_cases hn : n < 128
    · rw [enc_small hn]; simp
    · rw [enc_big hn]
      have := enc_len k (n / 128) (by rw [Nat.pow_succ] at h; omega)
      simp; omega
theorem enc_len6 {n : Nat} (h : n ≤ 1000000000000) : (enc n).length ≤ 6 :=
  enc_len 5 n (by have e : (128 : Nat) ^ (5 + 1) = 4398046511104 := by decide
                  omega)
theorem enc_ne (n : Nat) : enc n ≠ [] := by
  rw [enc]; split <;> simp
theorem enc_pos (n : Nat) : 1 ≤ (enc n).length := by
  have := enc_ne n
  cases h : enc n with
  | nil => exact absurd h this
  | cons _ _ => simp
theorem enc_byte : ∀ (n : Nat), ∀ x ∈ enc n, 0 ≤ x ∧ x ≤ 255 := by
  intro n
  induction n using Nat.strongRecOn with
  | ind n ih =>
    intro x hx
    by_cases h : n < 128
    · rw [enc_small h] at hx
      simp only [List.mem_singleton] at hx
      omega
    · rw [enc_big h] at hx
      rcases List.mem_cons.1 hx with h1 | h1
      · omega
      · exact ih (n / 128) (by omega) x h1

/-- What AppendVarint appends. -/
def var (n : Int) : List Int := if 0 ≤ n ∧ n ≤ 1000000000000 then enc n.toNat else []
theorem var_in {n : Int} (h0 : 0 ≤ n) (h1 : n ≤ 1000000000000) : var n = enc n.toNat := by simp [var, h0, h1]
theorem var_out {n : Int} (h : ¬ (0 ≤ n ∧ n ≤ 1000000000000)) : var n = [] := by simp [var, h]
theorem var_len (n : Int) : (var n).length ≤ 6 := by
  unfold var
  split
  · exact enc_len6 (by omega)
  · simp

/-- One step of the encoding, in the integers of the walk. -/
theorem enc_step {n : Int} (h : 128 ≤ n) : enc n.toNat = (n % 128 + 128) :: enc (n / 128).toNat := by
  rw [enc_big (by omega)]
  congr 1
  · omega
  · congr 1; omega
theorem enc_last {n : Int} (h0 : 0 ≤ n) (h : n < 128) : enc n.toNat = [n] := by
  rw [enc_small (by omega)]
  congr 1; omega

/-- Reading: the groups that are left, how many have been read, what they make. -/
def dec : Nat → List Int → Nat → Int → Option (Int × Nat)
  | 0, _, _, _ => none
  | _ + 1, [], _, _ => none
  | f + 1, x :: r, k, n =>
    if x < 128 then (if (x = 0 ∧ 0 < k) ∨ 1000000000000 < n + x * 128 ^ k then none else some (n + x * 128 ^ k, k + 1))
    else dec f r (k + 1) (n + x % 128 * 128 ^ k)

def okAt (l : List Int) (i : Int) : Prop := 0 ≤ i ∧ i ≤ l.length
def res (i : Int) : Option (Int × Nat) → Int × Int × Bool
  | none => (0, 0, false)
  | some (n, c) => (n, i + c, true)
/-- What ReadVarint returns. -/
def readV (l : List Int) (i : Int) : Int × Int × Bool := if 0 ≤ i ∧ i ≤ l.length then res i (dec 6 (l.drop i.toNat) 0 0) else (0, 0, false)

end Go.Proofs.YtnblopilgfdjkaaGreat.Var
