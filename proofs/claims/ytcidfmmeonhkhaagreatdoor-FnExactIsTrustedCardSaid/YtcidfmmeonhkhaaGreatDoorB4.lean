/- Contracts and mathematics, joined: Kind, OpenK, NmK, KeyK. No conditions but those that each states. -/
import Derived.Test.YtcidfmmeonhkhaaGreatDoorB3
import Derived.SizedLaws
import Derived.ChangeSlices
import Derived.ChangeSame
import Derived.ChangeArms
import Derived.Deep.Strs
import Derived.Lib.SmallJoins
import Derived.Test.YtcidfmmeonhkhaaGreatDoorB2
/- What the call's own memory beneath a value of a kind is (Kd.Own, by the value as it lies), what keeps it, two parts joined, a row of elements; sizes, marks. For any kind. No conditions. -/
namespace Go.Proofs.YtcidfmmeonhkhaaGreatDoor.Row
open Go.ChangeShapes Go.WideShapes Go.ChangeAt Go.RowKit Go.Instr
set_option linter.unusedVariables false
set_option linter.unusedSectionVars false
set_option maxRecDepth 100000

section
variable {α M β N : Type} {k : Kd α M} {l : Kd β N} {B B' C E E' : Nat} {w w' : World} {v : Value} {a : α} {m : M} {n : N}
def Kd.Own (k : Kd α M) (B E : Nat) (w : World) (m : M) : Prop := k.own B w m ∧ (k.blocks m).Nodup ∧ ∀ g ∈ k.blocks m, g < E
theorem Kd.In.split (h : k.In B E w v a) : ∃ m, v = k.val m ∧ k.strip m = a ∧ k.Own B E w m := h
theorem Kd.Own.in (h : k.Own B E w m) : k.In B E w (k.val m) (k.strip m) := ⟨m, rfl, rfl, h⟩
theorem Kd.Own.holds (h : k.Own B E w m) : k.holds w m := k.own_holds h.1
theorem Kd.Own.lt (h : k.Own B E w m) : ∀ g ∈ k.blocks m, B ≤ g ∧ g < E ∧ g < w.heap.size := fun g hg => ⟨(k.own_lt h.1 g hg).1, h.2.2 g hg, (k.own_lt h.1 g hg).2⟩
theorem Kd.Own.on (h : k.Own B E w m) (hb : Below w.heap.size w w') : k.Own B E w' m := ⟨k.own_keep h.1 (fun g e => hb.block g (k.own_lt h.1 g e).2), h.2⟩
theorem Kd.Own.keep (h : k.Own B E w m) (hg : ∀ g ∈ k.blocks m, w'.heap[g]? = w.heap[g]?) : k.Own B E w' m := ⟨k.own_keep h.1 hg, h.2⟩
theorem Kd.Own.mono (h : k.Own B E w m) (hB : B' ≤ B) (hE : E ≤ E') : k.Own B' E' w m := ⟨k.own_mono h.1 hB, h.2.1, fun g hg => Nat.lt_of_lt_of_le (h.2.2 g hg) hE⟩
theorem Kd.Own.set {g i : Nat} {u : Value} (h : k.Own B E w m) (hg : g < B) : k.Own B E (w.setCell ⟨g, i, none⟩ u) m :=
  h.keep fun q hq => Go.RowKit.Below.heap_setCell w ⟨g, i, none⟩ u q (fun e => by have h1 := (h.lt q hq).1; have e1 : q = g := e; omega)
theorem Kd.Own.grown {row : Option Nat} (h : k.Own B E w m) (hg : w.grownBy w' row) (hr : ∀ g, row = some g → g ∉ k.blocks m) : k.Own B E w' m :=
  h.keep fun q hq => hg.block q (h.lt q hq).2.2 (fun e => hr q e.symm hq)
/-- Two parts, the second in later blocks. -/
theorem Kd.Own.pair (h : k.Own B C w m) (g : l.Own C E w n) (h1 : B ≤ C) (h2 : C ≤ E) : (k.pair l).Own B E w (m, n) := by
  refine ⟨⟨h.1, l.own_mono g.1 h1⟩, ?_, fun q hq => ?_⟩
  · show (k.blocks m ++ l.blocks n).Nodup
    rw [List.nodup_append]
    exact ⟨h.2.1, g.2.1, fun x hx y hy e => by have h3 := (h.lt x hx).2.1; have h4 := (g.lt y hy).1; omega⟩
  · rcases List.mem_append.1 (show q ∈ k.blocks m ++ l.blocks n from hq) with hq | hq
    · exact Nat.lt_of_lt_of_le (h.2.2 q hq) h2
    · exact g.2.2 q hq
theorem Kd.own_scalar {enc : α → Value} {h1 : ∀ x, (enc x).oneCell' = true} (B E : Nat) (w : World) (x : α) : (Kd.scalar enc h1).Own B E w x := ⟨trivial, List.nodup_nil, fun g hg => by cases hg⟩
theorem Kd.at_of (h : k.holds w m) : k.At w (k.val m) (k.strip m) := ⟨m, rfl, rfl, h⟩
/-- What two parts hold, in disjoint blocks. -/
theorem Kd.Own.parts (h : (k.pair l).Own B E w (m, n)) : k.Own B E w m ∧ l.Own B E w n ∧ ∀ g ∈ k.blocks m, g ∉ l.blocks n := by
  have hd : (k.blocks m ++ l.blocks n).Nodup := h.2.1
  have hd2 := List.nodup_append.1 hd
  exact ⟨⟨h.1.1, hd2.1, fun g hg => h.2.2 g (List.mem_append_left _ hg)⟩, ⟨h.1.2, hd2.2.1, fun g hg => h.2.2 g (List.mem_append_right _ hg)⟩, fun g hg hg2 => hd2.2.2 g hg g hg2 rfl⟩
theorem Kd.Own.join (h : k.Own B E w m) (g : l.Own B E w n) (hd : ∀ q ∈ k.blocks m, q ∉ l.blocks n) : (k.pair l).Own B E w (m, n) := by
  refine ⟨⟨h.1, g.1⟩, ?_, fun q hq => ?_⟩
  · show (k.blocks m ++ l.blocks n).Nodup
    rw [List.nodup_append]
    exact ⟨h.2.1, g.2.1, fun x hx y hy e => hd x hx (by rw [e]; exact hy)⟩
  · rcases List.mem_append.1 (show q ∈ k.blocks m ++ l.blocks n from hq) with hq | hq
    · exact h.2.2 q hq
    · exact g.2.2 q hq
/-- Only the blocks of a list are written, and new ones. -/
structure WroteBy (bs : List Nat) (w w' : World) : Prop where
  os : w'.os = w.os
  tape : w'.tape = w.tape
  output : w'.output = w.output
  size : w.heap.size ≤ w'.heap.size
  block : ∀ i, i < w.heap.size → i ∉ bs → w'.heap[i]? = w.heap[i]?
theorem WroteBy.refl (bs : List Nat) (w : World) : WroteBy bs w w := ⟨rfl, rfl, rfl, Nat.le_refl _, fun _ _ _ => rfl⟩
theorem WroteBy.trans {bs : List Nat} {w1 : World} (h : WroteBy bs w w1) (g : WroteBy bs w1 w') : WroteBy bs w w' := ⟨g.os.trans h.os, g.tape.trans h.tape, g.output.trans h.output, Nat.le_trans h.size g.size, fun i hi hn => (g.block i (Nat.lt_of_lt_of_le hi h.size) hn).trans (h.block i hi hn)⟩
theorem WroteBy.of {bs : List Nat} {row : Option Nat} (h : w.grownBy w' row) (hr : ∀ g, row = some g → g ∈ bs) : WroteBy bs w w' := ⟨h.os, h.tape, h.output, h.size, fun i hi hn => h.block i hi (fun e => hn (hr i e.symm))⟩
theorem WroteBy.own {bs : List Nat} (h : WroteBy bs w w') (ho : k.Own B E w m) (hd : ∀ q ∈ k.blocks m, q ∉ bs) : k.Own B E w' m := ho.keep fun q hq => h.block q (ho.lt q hq).2.2 (hd q hq)
theorem WroteBy.blk {bs : List Nat} (h : WroteBy bs w w') {g : Nat} {cs : Array Value} {t : TypeId} (hb : Ret.Blk w g cs t) (hn : g ∉ bs) : Ret.Blk w' g cs t := (h.block g hb.lt hn).trans hb
end
/-! ### names -/
theorem kN_own2 {B : Nat} {w : World} {m : Rw ByteArray} (h : Own 9 Value.string B w m.v m.els) : kN.own B w m := ⟨ownK_single.2 h, fun _ _ => trivial⟩
theorem kN_blocks (m : Rw ByteArray) : kN.blocks m = m.v.ownBlock.toList := kNm_blocks (e := 9) m
theorem kN_strip (m : Rw ByteArray) : kN.strip m = m.els := by simp [kN, Kd.wrap, kNm, Kd.slice, kStr, Kd.scalar]
/-- A name's parts are long enough to be counted, small enough to be held. -/
def okN (l : List ByteArray) : Prop := l.length ≤ 9223372036854775807 ∧ ∀ x ∈ l, x.size ≤ maxLen
/-- What a value's measure leaves. -/
def szW (n : Nat) (left : Int) : Int := if (n : Int) ≤ left then left - n else -1
theorem szW_fit {n : Nat} {left : Int} (h : (n : Int) ≤ left) : szW n left = left - n := if_pos h
theorem szW_not {n : Nat} {left : Int} (h : ¬ (n : Int) ≤ left) : szW n left = -1 := if_neg h

/-! ### lists of elements of a kind -/
section
variable {α M : Type} [Inhabited α] [Inhabited M] {k : Kd α M} {B E : Nat} {w w' : World}
/-- Length and sizes of a list together, up to place j. -/
def bulkKTo (f : α → Nat) (l : List α) (j : Nat) : Nat := l.length + ((l.take j).map f).sum
def bulkK (f : α → Nat) (l : List α) : Nat := bulkKTo f l l.length
theorem bulkKTo_zero (f : α → Nat) (l : List α) : bulkKTo f l 0 = l.length := by simp [bulkKTo]
theorem bulkKTo_succ (f : α → Nat) (l : List α) {j : Nat} (h : j < l.length) : bulkKTo f l (j + 1) = bulkKTo f l j + f (nth l j) := by
  unfold bulkKTo
  rw [List.take_succ_eq_append_getElem h, nth_eq h, List.map_append, List.sum_append]
  simp only [List.map_cons, List.map_nil, List.sum_cons, List.sum_nil]
  omega
theorem bulkKTo_le (f : α → Nat) (l : List α) (j : Nat) : bulkKTo f l j ≤ bulkK f l := by
  unfold bulkK bulkKTo
  have := sum_take_le (l.map f) j
  rw [List.take_length, List.map_take]; omega
theorem bulkK_len (f : α → Nat) (l : List α) : l.length ≤ bulkK f l := by unfold bulkK bulkKTo; omega
theorem bulkK_mem {f : α → Nat} {l : List α} {x : α} (h : x ∈ l) : f x ≤ bulkK f l := by
  obtain ⟨j, hj, rfl⟩ := List.getElem_of_mem h
  have h1 := bulkKTo_succ f l hj
  have h2 := bulkKTo_le f l (j + 1)
  rw [nth_eq hj] at h1
  omega
theorem bulkK_mono {f g : α → Nat} (h : ∀ x, f x ≤ g x) (l : List α) : bulkK f l ≤ bulkK g l := by
  have h1 : ∀ l : List α, (l.map f).sum ≤ (l.map g).sum := fun l => by
    induction l with
    | nil => simp
    | cons a r ih => have := h a; simp only [List.map_cons, List.sum_cons]; omega
  have := h1 l
  unfold bulkK bulkKTo
  rw [List.take_length]
  omega
theorem nth_map {β : Type} [Inhabited β] (f : α → β) {l : List α} {j : Nat} (h : j < l.length) : nth (l.map f) j = f (nth l j) := by
  rw [nth_eq (by simpa using h), nth_eq h]; simp
theorem take_map_succ {β : Type} (f : α → β) {l : List α} {j : Nat} (h : j < l.length) : (l.map f).take (j + 1) = (l.map f).take j ++ [f (nth l j)] := by
  rw [List.take_succ_eq_append_getElem (by simpa using h), nth_eq h]; simp
/-- The list behind j stores of a copy: j elements made, the others empty. -/
def madeK' (L : List M) (n : Nat) : List M := L ++ List.replicate (n - L.length) default
theorem madeK'_length {L : List M} {n : Nat} (h : L.length ≤ n) : (madeK' L n).length = n := by simp [madeK']; omega
theorem madeK'_step {L : List M} {n : Nat} (h : L.length < n) (x : M) : (madeK' L n).set L.length x = madeK' (L ++ [x]) n := by
  unfold madeK'
  rw [List.set_append_right _ _ (Nat.le_refl _), Nat.sub_self, show n - L.length = (n - (L ++ [x]).length) + 1 by simp; omega, List.replicate_succ, List.set_cons_zero, List.append_assoc]
  rfl
theorem madeK'_all {L : List M} {n : Nat} (h : L.length = n) : madeK' L n = L := by simp [madeK', h]
/-- All cells of an element written, one behind the other. -/
def setCells (w : World) (g : Nat) : Nat → List Value → World
  | _, [] => w
  | o, u :: us => setCells (w.setCell ⟨g, o, none⟩ u) g (o + 1) us
theorem setCells_grown (g : Nat) : ∀ (us : List Value) (o : Nat) (w : World), w.grownBy (setCells w g o us) (some g)
  | [], _, w => ⟨rfl, rfl, rfl, Nat.le_refl _, fun _ _ _ => rfl⟩
  | u :: us, o, w => Go.World.grownBy.trans (Ret.grownBy_set w ⟨g, o, none⟩ u) (setCells_grown g us (o + 1) _)
/-- Elements of a fixed number of cells. -/
abbrev Cs (sz : Nat) := { l : List Value // l.length = sz }
instance (sz : Nat) : Inhabited (Cs sz) := ⟨⟨List.replicate sz (.int .i64 0), by simp⟩⟩
theorem szCs (sz : Nat) : Sz (fun x : Cs sz => x.1) sz := fun x => x.2
theorem cs_store {sz : Nat} {e : TypeId} {g n cap : Nat} : ∀ (us : List Value) (i : Nat) (w : World) (l : List (Cs sz)) (j : Nat) (hi : i + us.length = sz) (hn : n = l.length) (hj : j < l.length) (y : Cs sz),
    y.1.drop i = us → (y.1.take i = (nth l j).1.take i) → OwnK e (fun x : Cs sz => x.1) sz B w (.slice (some ⟨g, 0, none⟩) n cap) l →
    OwnK e (fun x : Cs sz => x.1) sz B (setCells w g (j * sz + i) us) (.slice (some ⟨g, 0, none⟩) n cap) (l.set j y)
  | [], i, w, l, j, hi, hn, hj, y, hd, ht, h => by
    have e1 : y = nth l j := by
      apply Subtype.ext
      have h1 := List.take_append_drop i y.1
      have h2 := (nth l j).2
      have h3 : i = sz := by simpa using hi
      rw [ht, hd, List.append_nil, h3, List.take_of_length_le (by omega)] at h1
      exact h1.symm
    have e2 : l.set j y = l := by
      rw [e1, nth_eq hj]
      exact List.set_getElem_self hj
    rw [e2]
    exact h
  | u :: us, i, w, l, j, hi, hn, hj, y, hd, ht, h => by
    have hi2 : i < sz := by simp at hi; omega
    have hy2 : i < y.1.length := by rw [y.2]; exact hi2
    have hm2 : i < (nth l j).1.length := by rw [(nth l j).2]; exact hi2
    let z : Cs sz := ⟨(nth l j).1.set i u, by rw [List.length_set]; exact (nth l j).2⟩
    obtain ⟨a1, -⟩ := ownK_store (szCs sz) h hn hj hi2 (y := z) (u := u) rfl
    have hzn : nth (l.set j z) j = z := nth_set hj z
    have hu : y.1[i]? = some u := by
      have := List.getElem?_drop (xs := y.1) (i := i) (j := 0)
      rw [hd] at this
      simpa using this.symm
    have hd2 : y.1.drop (i + 1) = us := by
      have := List.drop_drop (l := y.1) (i := 1) (j := i)
      rw [hd] at this
      simpa using this.symm
    have ht2 : y.1.take (i + 1) = (nth (l.set j z) j).1.take (i + 1) := by
      rw [hzn]
      show y.1.take (i + 1) = ((nth l j).1.set i u).take (i + 1)
      rw [List.take_succ_eq_append_getElem hy2, List.take_succ_eq_append_getElem (by simpa using hm2), ht, List.take_set_of_le (Nat.le_refl i)]
      have h5 : y.1[i] = u := by rw [List.getElem?_eq_getElem hy2] at hu; exact Option.some.inj hu
      rw [h5]
      simp
    have h6 := cs_store us (i + 1) _ (l.set j z) j (by simp at hi; omega) (by simpa using hn) (by simpa using hj) y hd2 ht2 a1
    rw [List.set_set] at h6
    exact h6
/-- An element's cells are stored. -/
theorem ownK_put {α : Type} [Inhabited α] {enc : α → List Value} {sz : Nat} (hs : Sz enc sz) {e : TypeId} {B : Nat} {w : World} {g n cap : Nat} {l : List α} (h : OwnK e enc sz B w (.slice (some ⟨g, 0, none⟩) n cap) l) (hn : n = l.length) {j : Nat} (hj : j < l.length) (y : α) :
    OwnK e enc sz B (setCells w g (j * sz) (enc y)) (.slice (some ⟨g, 0, none⟩) n cap) (l.set j y) := by
  let f : α → Cs sz := fun x => ⟨enc x, hs x⟩
  have hf : ∀ l : List α, flat (fun x : Cs sz => x.1) (l.map f) = flat enc l := fun l => by simp [flat, List.flatMap_map, f]
  have h' : OwnK e (fun x : Cs sz => x.1) sz B w (.slice (some ⟨g, 0, none⟩) n cap) (l.map f) := by
    unfold OwnK at h ⊢
    rw [hf, List.length_map]
    exact h
  have r := cs_store (B := B) (e := e) (cap := cap) (enc y) 0 w (l.map f) j (by simpa using hs y) (by simpa using hn) (by simpa using hj) (f y) (by simp [f]) (by simp) h'
  rw [← List.map_set] at r
  unfold OwnK at r ⊢
  rw [hf, List.length_map] at r
  exact r
end
/-- Elements of the call's own, each in later blocks than those before. -/
def Kd.EOwn {α M : Type} (k : Kd α M) (B E : Nat) (w : World) (L : List M) : Prop := (∀ x ∈ L, k.own B w x) ∧ (L.flatMap k.blocks).Nodup ∧ ∀ g ∈ L.flatMap k.blocks, B ≤ g ∧ g < E
section
variable {α M : Type} {k : Kd α M} {B E C : Nat} {w w' : World} {L : List M} {x : M}
theorem Kd.EOwn.nil (k : Kd α M) (B E : Nat) (w : World) : k.EOwn B E w [] := ⟨fun x hx => (by cases hx), List.nodup_nil, fun g hg => (by cases hg)⟩
theorem Kd.EOwn.keep (h : k.EOwn B E w L) (hg : ∀ g, B ≤ g → g < E → w'.heap[g]? = w.heap[g]?) : k.EOwn B E w' L :=
  ⟨fun x hx => k.own_keep (h.1 x hx) (fun g e => by have h1 := h.2.2 g (List.mem_flatMap.2 ⟨x, hx, e⟩); exact hg g h1.1 h1.2), h.2⟩
theorem Kd.EOwn.on (h : k.EOwn B E w L) (hb : Below w.heap.size w w') (hE : E ≤ w.heap.size) : k.EOwn B E w' L := h.keep fun g _ h2 => hb.block g (by omega)
theorem Kd.EOwn.grown {g0 : Nat} (h : k.EOwn B E w L) (hg : w.grownBy w' (some g0)) (h0 : g0 < B) (hE : E ≤ w.heap.size) : k.EOwn B E w' L := h.keep fun g h1 h2 => hg.block g (by omega) (fun e => by have := Option.some.inj e; omega)
theorem Kd.EOwn.snoc (h : k.EOwn B C w L) (hx : k.Own C E w x) (h1 : B ≤ C) (h2 : C ≤ E) : k.EOwn B E w (L ++ [x]) := by
  refine ⟨fun y hy => ?_, ?_, fun g hg => ?_⟩
  · rcases List.mem_append.1 hy with hy | hy
    · exact h.1 y hy
    · rw [List.mem_singleton.1 hy]; exact k.own_mono hx.1 h1
  · rw [List.flatMap_append, List.nodup_append]
    refine ⟨h.2.1, by simpa using hx.2.1, fun a ha b hb e => ?_⟩
    have h3 := (h.2.2 a ha).2
    have h4 := (hx.lt b (by simpa using hb)).1
    omega
  · rw [List.flatMap_append] at hg
    rcases List.mem_append.1 hg with hg | hg
    · have h3 := h.2.2 g hg; omega
    · have h4 := hx.lt g (by simpa using hg); omega
/-- A row and its elements, all of the call's own, the row first. -/
theorem Kd.EOwn.slice {e : TypeId} {n cap : Nat} (h : k.EOwn (w.heap.size + 1) E w' L) (hr : OwnK e k.cells k.size w.heap.size w' (.slice (some ⟨w.heap.size, 0, none⟩) n cap) L) (hE : w.heap.size < E) : (k.slice e).Own w.heap.size E w' ⟨some ⟨w.heap.size, 0, none⟩, n, cap, L⟩ := by
  refine ⟨⟨hr, fun x hx => k.own_mono (h.1 x hx) (Nat.le_succ _)⟩, ?_, fun g hg => ?_⟩
  · show ([w.heap.size] ++ L.flatMap k.blocks).Nodup
    rw [List.nodup_append]
    exact ⟨by simp, h.2.1, fun a ha b hb e => by have h3 := (h.2.2 b hb).1; have h4 := List.mem_singleton.1 ha; omega⟩
  · rcases List.mem_append.1 (show g ∈ [w.heap.size] ++ L.flatMap k.blocks from hg) with hg | hg
    · have h4 := List.mem_singleton.1 hg; omega
    · exact (h.2.2 g hg).2
end
end Go.Proofs.YtcidfmmeonhkhaaGreatDoor.Row
/- What comes in as an argument, in the words of kinds: which value of the kind it is, and that its parts fit. By structure: numbers, slices of texts, structs, slices of whatever. For any program. No conditions. -/
namespace Go.Proofs.YtcidfmmeonhkhaaGreatDoor.Row
open Go.ChangeShapes Go.WideShapes Go.ChangeAt Go.RowKit Go.Instr
set_option linter.unusedVariables false
set_option maxRecDepth 100000

/-- Whatever lies in a value of type t as it comes in is a value of the kind, and fits. -/
def OpensK {α M : Type} (P : Program) (k : Kd α M) (t : TypeId) (ok : α → Prop) : Prop :=
  ∀ {H : Type} {enc : TypeId × Value → H} {w : World} {b2 : Nat} {held : Bool} {n : Nat} {cs : List Value} {y : DataW H × List MemPlace},
    DataW.trod enc P w b2 (fun _ => true) held n t cs = some y → ∃ m, k.cells m = cs ∧ k.holds w m ∧ ok (k.strip m)
section
variable {α M β N : Type} {P : Program} {k : Kd α M} {l : Kd β N} {t e s : TypeId} {ok : α → Prop} {ok' : β → Prop}
theorem opens_int (h : P.underlying t = some (.int .i64)) : OpensK P kInt t (fun x => (Lit.int .i64 x).wf = true) := by
  intro H enc w b2 held n cs y hy
  obtain ⟨v, e1, -, w1⟩ := DataW.trod_int h hy
  exact ⟨v, e1.symm, trivial, w1⟩
theorem opens_strs (ht : P.underlying t = some (.slice s)) (hs : P.underlying s = some .string) (hc : P.cellsOf s = 1) : OpensK P (kNm e) t okN := by
  intro H enc w b2 held n cs y hy
  obtain ⟨ad, n, c, l, e1, hh, hz, hl⟩ := open_strs1 ht hs hc hy
  obtain ⟨m, hv, hst, hm⟩ := kNm_of (e := e) hh
  exact ⟨m, by rw [e1]; exact congrArg (fun z => [z]) hv.symm, hm, by rw [hst]; exact ⟨hl, hz⟩⟩
theorem opens_wrap {f0 : Field} (ht : P.underlying t = some (.struct #[f0])) (ho : f0.offset = 0) (hc : P.cellsOf f0.type = P.cellsOf t) (h : OpensK P k f0.type ok) : OpensK P k.wrap t ok := by
  intro H enc w b2 held n cs y hy
  obtain ⟨y0, n2, -, hl, q⟩ := trod_struct1 ht hy
  rw [ho, hc, ← hl, List.drop_zero, List.take_length] at q
  exact h q
/-- .. the fields of a struct from one on, from cell o on. -/
def OpensF {α M : Type} (P : Program) (k : Kd α M) (fs : List Field) (o : Nat) (ok : α → Prop) : Prop :=
  ∀ {H : Type} {enc : TypeId × Value → H} {w : World} {b2 : Nat} {held : Bool} {n : Nat} {cs : List Value},
    (∀ f ∈ fs, ∃ y, DataW.trod enc P w b2 (fun _ => true) held n f.type ((cs.drop f.offset).take (P.cellsOf f.type)) = some y) → ∃ m, k.cells m = (cs.drop o).take k.size ∧ k.holds w m ∧ ok (k.strip m)
theorem opensF_last {f : Field} {o : Nat} (h : OpensK P k f.type ok) (ho : f.offset = o) (hc : P.cellsOf f.type = k.size) : OpensF P k [f] o ok := by
  intro H enc w b2 held n cs hf
  obtain ⟨y, hy⟩ := hf f (by simp)
  rw [ho, hc] at hy
  exact h hy
theorem opensF_cons {f : Field} {fs : List Field} {o : Nat} (h : OpensK P k f.type ok) (ho : f.offset = o) (hc : P.cellsOf f.type = k.size) (g : OpensF P l fs (o + k.size) ok') : OpensF P (k.pair l) (f :: fs) o (fun x => ok x.1 ∧ ok' x.2) := by
  intro H enc w b2 held n cs hf
  obtain ⟨y, hy⟩ := hf f (by simp)
  rw [ho, hc] at hy
  obtain ⟨m, e0, h0, p0⟩ := h hy
  obtain ⟨m2, e1, h1, p1⟩ := g (fun f2 hf2 => hf f2 (List.mem_cons_of_mem _ hf2))
  refine ⟨(m, m2), ?_, ⟨h0, h1⟩, p0, p1⟩
  show k.cells m ++ l.cells m2 = (cs.drop o).take (k.size + l.size)
  rw [e0, e1, List.take_add, List.drop_drop]
theorem opens_struct {fs : Array Field} (ht : P.underlying t = some (.struct fs)) (hc : P.cellsOf t = k.size) (h : OpensF P k fs.toList 0 ok) : OpensK P k t ok := by
  intro H enc w b2 held n cs y hy
  obtain ⟨xs, n2, -, -, hl, hlen, hf⟩ := DataW.trod_struct ht hy
  obtain ⟨m, e, hm, hok⟩ := h (cs := cs) (fun f hfm => by
    obtain ⟨i, hi, e⟩ := List.getElem_of_mem hfm
    have h1 := hf i f (by rw [← e]; simp [Array.getElem?_eq_getElem (show i < fs.size by simpa using hi)])
    rw [h1, List.getElem?_eq_getElem (by rw [hlen]; simpa using hi)]
    exact ⟨_, rfl⟩)
  exact ⟨m, by rw [e, List.drop_zero, ← hc, ← hl, List.take_length], hm, hok⟩
theorem opens_slice [Inhabited M] (ht : P.underlying t = some (.slice e)) (hc : P.cellsOf e = k.size) (hp : 0 < k.size) (h : OpensK P k e ok) {e' : TypeId} : OpensK P (k.slice e') t (fun x => x.length ≤ 9223372036854775807 ∧ ∀ z ∈ x, ok z) := by
  have hmx : maxLen = 9223372036854775807 := rfl
  intro H enc w b2 held n cs y hy
  rcases Deep.open_slice ht hy with ⟨hcs, -⟩ | ⟨a, len', cap', m, n, D, Pl, hcs', hb, hl, hm, hmm, -, hi⟩
  · exact ⟨⟨none, 0, 0, []⟩, hcs.symm, ⟨HoldsK.nil _ _ _, fun x hx => (by cases hx)⟩, by simp [Kd.slice], fun z hz => (by simp [Kd.slice] at hz)⟩
  · simp only [if_true] at hmm
    have key : ∀ i, i < m → ∃ x : M, (∀ j, j < k.size → w.cell? (a.add (i * k.size + j)) = (k.cells x)[j]?) ∧ k.holds w x ∧ ok (k.strip x) := by
      intro i him
      obtain ⟨cs, hcc, htr⟩ := hi i him
      rw [hc] at hcc
      obtain ⟨-, hcl, hat⟩ := World.cells?_some hcc
      obtain ⟨x, ex, hx, px⟩ := h htr
      refine ⟨x, fun j hj => ?_, hx, px⟩
      have := hat j hj
      rw [Deep.add_add] at this
      rw [this, ex]
    obtain ⟨Sx, hS⟩ := Deep.choose_lt key
    have hL : ((List.range len').map Sx).length = len' := by simp
    have hmem : ∀ x ∈ (List.range len').map Sx, ∃ i, i < len' ∧ x = Sx i := by
      intro x hx
      obtain ⟨i, hi2, rfl⟩ := List.mem_map.1 hx
      exact ⟨i, List.mem_range.1 hi2, rfl⟩
    have hsz : Sz k.cells k.size := k.len
    refine ⟨⟨some a, len', cap', (List.range len').map Sx⟩, hcs'.symm, ⟨?_, fun x hx => ?_⟩, ?_, fun z hz => ?_⟩
    · refine ⟨some a, cap', by rw [hL]; rfl, by rw [hL]; exact hl, ?_⟩
      by_cases h00 : len' = 0
      · left; subst h00; rfl
      · right
        obtain ⟨b, off, spot⟩ := a
        have q1 := (hS 0 (by omega)).1 0 hp
        have hu : ∃ u, (k.cells (Sx 0))[0]? = some u := ⟨_, List.getElem?_eq_getElem (by rw [k.len]; exact hp)⟩
        obtain ⟨u, hu⟩ := hu
        rw [hu] at q1
        have hs : spot = none := by simpa [Addr.add] using World.cell?_spot q1
        subst hs
        refine ⟨b, off, rfl, fun j hj => ?_⟩
        have hj : j < len' * k.size := by rwa [hL] at hj
        have hj2 : j / k.size < len' := Nat.div_lt_of_lt_mul (by rw [Nat.mul_comm]; exact hj)
        have hj3 : j % k.size < k.size := Nat.mod_lt _ hp
        have q2 := (hS (j / k.size) (by omega)).1 (j % k.size) hj3
        have hn : nth ((List.range len').map Sx) (j / k.size) = Sx (j / k.size) := by rw [nth_eq (by rw [hL]; exact hj2)]; simp
        have hfl := flat_at hsz ((List.range len').map Sx) (j / k.size) (j % k.size) (by rw [hL]; exact hj2) hj3
        rw [hn, Nat.div_add_mod'] at hfl
        rw [Nat.div_add_mod', Go.WideShapes.add_plain] at q2
        have hu2 : ∃ u, (k.cells (Sx (j / k.size)))[j % k.size]? = some u := ⟨_, List.getElem?_eq_getElem (by rw [k.len]; exact hj3)⟩
        obtain ⟨u2, hu2⟩ := hu2
        exact ⟨u2, by rw [hfl, hu2], by rw [q2, hu2]⟩
    · obtain ⟨i, hi2, rfl⟩ := hmem x hx
      exact (hS i (by omega)).2.1
    · show ((List.map Sx (List.range len')).map k.strip).length ≤ _
      rw [List.length_map, hL, ← hmx]
      exact Nat.le_trans hl hm
    · obtain ⟨x, hx, rfl⟩ := List.mem_map.1 (show z ∈ ((List.range len').map Sx).map k.strip from hz)
      obtain ⟨i, hi2, rfl⟩ := hmem x hx
      exact (hS i (by omega)).2.2
theorem OpensK.imp {ok2 : α → Prop} (h : OpensK P k t ok) (hi : ∀ x, ok x → ok2 x) : OpensK P k t ok2 := by
  intro H enc w b2 held n cs y hy
  obtain ⟨m, a, b, c⟩ := h hy
  exact ⟨m, a, b, hi _ c⟩
/-- A struct as it came in. -/
theorem open_structK {H : Type} {enc : TypeId × Value → H} {w : World} {base b2 : Nat} {held : Bool} {v : Value} {d : DataW H} {p : List MemPlace} {fs : Array Field} (ho : OpensK P k t ok) (hval : ∀ m, k.val m = .agg (k.cells m).toArray) (ht : P.underlying t = some (.struct fs))
    (hv : Value.okWide P w .any base t v) (h : DataW.Trod enc P w b2 (fun _ => true) held t v d p) : ∃ x, k.At w v x ∧ ok x := by
  obtain ⟨cs, rfl, -⟩ := okWide_struct ht hv
  obtain ⟨fuel, hf⟩ := h
  obtain ⟨m, e1, hm, hok⟩ := ho hf
  exact ⟨k.strip m, ⟨m, by rw [hval, e1]; simp [Value.cells], rfl, hm⟩, hok⟩
end
end Go.Proofs.YtcidfmmeonhkhaaGreatDoor.Row
/- Names in the words of kinds: sz, to, eq, mark, held. No conditions but that lengths fit. -/
namespace Go.Proofs.YtcidfmmeonhkhaaGreatDoor.Row
open Go.ChangeShapes Go.WideShapes Go.ChangeAt Go.RowKit Go.Instr
set_option linter.unusedVariables false
set_option maxRecDepth 100000

theorem szNmK (V : Value) (l : List ByteArray) (w : World) (left : Int) (h : kN.At w V l) (hp : okN l) (h0 : 0 ≤ left) (h1 : left ≤ 1048576) :
    Calls Tryz.prog 97 #[V, .int .i64 left] w fun e w' => e = .returned (.int .i64 (szW (bulk l) left)) ∧ Below w.heap.size w w' := by
  obtain ⟨v, rfl, h9⟩ := kN_at h
  exact szName v l w left h9 hp.1 hp.2 h0 h1
theorem toNmK (V : Value) (l : List ByteArray) (w : World) (h : kN.At w V l) (hl : l.length ≤ 100000000) :
    Calls Tryz.prog 103 #[V] w fun e w' => ∃ U, e = .returned U ∧ kN.In w.heap.size w'.heap.size w' U l ∧ Below w.heap.size w w' := by
  obtain ⟨v, rfl, h9⟩ := kN_at h
  exact (toName v l w h9 hl).mono fun e w' ⟨v, a, b, c⟩ => ⟨_, a, kN_own b, c⟩
theorem eqNmK (V U : Value) (l m : List ByteArray) (w : World) (q : Bool) (hq : decide (l = m) = q) (h : kN.At w V l) (g : kN.At w U m) (hl : l.length ≤ 100000000) (hm : m.length ≤ 100000000) :
    Calls Tryz.prog 105 #[V, U] w fun e w' => e = .returned (.bool q) ∧ Below w.heap.size w w' := by
  obtain ⟨v, rfl, h9⟩ := kN_at h
  obtain ⟨u, rfl, g9⟩ := kN_at g
  subst hq
  exact eqName v u l m w h9 g9 (by omega) (by omega)
end Go.Proofs.YtcidfmmeonhkhaaGreatDoor.Row
/- Keys in the words of kinds: the kind; sz, to, eq, mark, held. No conditions but that lengths fit. -/
namespace Go.Proofs.YtcidfmmeonhkhaaGreatDoor.Row
open Go.ChangeShapes Go.WideShapes Go.ChangeAt Go.RowKit Go.Instr
set_option linter.unusedVariables false
set_option maxRecDepth 100000

abbrev Kyt := List ByteArray × Int
abbrev Kym := Rw ByteArray × Int
def kKy : Kd Kyt Kym := (kN.pair kInt)
theorem aggKy : Ret.AggOf Tryz.prog 156 2 := ⟨by kernel_rfl, by kernel_rfl⟩
def wtKy (x : Kyt) : Nat := bulk x.1
def adKy (x : Kyt) : Nat := x.1.length
def okKy (x : Kyt) : Prop := okN x.1
def mkKy (k : Int) (x : Kyt) : Kyt := (marks markT (k) x.1.length, x.2)
section
variable {w : World} {V : Value} {x : Kyt} {B E : Nat}
theorem kKy_at (h : kKy.At w V x) : ∃ (x0_0 : Option Addr) (n0_0 c0_0 : Nat), V = .agg #[.slice x0_0 n0_0 c0_0, .int .i64 x.2] ∧ kN.At w (.agg #[.slice x0_0 n0_0 c0_0]) x.1 := by
  obtain ⟨⟨m0, m1⟩, rfl, rfl, g0, g1⟩ := h
  obtain ⟨x0_0, n0_0, c0_0, e0, a0⟩ := kN_shapeA (Kd.at_of (k := kN) g0)
  have d0 : kN.cells m0 = [.slice x0_0 n0_0 c0_0] := by injection e0 with e; exact congrArg Array.toList e
  refine ⟨x0_0, n0_0, c0_0, ?_, e0 ▸ Kd.at_of (k := kN) g0⟩
  show Value.agg ((kN.cells m0 ++ (kInt.cells m1))).toArray = _
  rw [d0]
  rfl
theorem kKy_shapeA (h : kKy.At w V x) : ∃ (x0_0 : Option Addr) (n0_0 c0_0 : Nat), V = .agg #[.slice x0_0 n0_0 c0_0, .int .i64 x.2] ∧ kKy.At w (.agg #[.slice x0_0 n0_0 c0_0, .int .i64 x.2]) x := by
  obtain ⟨x0_0, n0_0, c0_0, rfl, -⟩ := kKy_at h
  exact ⟨x0_0, n0_0, c0_0, rfl, h⟩
end
set_option maxHeartbeats 4000000 in
theorem szKeyK (V : Value) (x : Kyt) (w : World) (left : Int) (h : kKy.At w V x) (hp : okKy x) (h0 : 0 ≤ left) (hl : left ≤ 1048576) :
    Calls Tryz.prog 163 #[V, .int .i64 left] w fun e w' => e = .returned (.int .i64 (szW (wtKy x) left)) ∧ Below w.heap.size w w' := by
  obtain ⟨x0_0, n0_0, c0_0, rfl, g0⟩ := kKy_at h
  obtain ⟨l0, l1⟩ := x
  have p0 := show okN l0 from hp
  have HB := Lib.hid ((Below.refl w.heap.size w).alloc (Nat.le_refl _) (.cells #[.slice x0_0 n0_0 c0_0, .int .i64 l1] 192))
  have HX := Lib.hid (Ret.Blk.new w #[.slice x0_0 n0_0 c0_0, .int .i64 l1] 192)
  have G0 := Lib.hid g0; have P0 := Lib.hid p0
  dsimp only at G0 P0 ⊢
  clear g0 p0 h
  go_enter Tryz.func163, Tryz.ntmps163
  go_wp2_with fail
  refine (szNmK _ l0 _ (left) (G0.out.on HB.out) P0.out (by omega) (by omega)).mono ?_
  rintro e w1 ⟨rfl, hb⟩
  replace HX := Lib.hid (HX.out.on hb)
  replace HB := Lib.hid (HB.out.trans (hb.mono HB.out.size)); clear hb
  have q0 : w1.cell? ⟨w.heap.size, 0, none⟩ = some (.slice x0_0 n0_0 c0_0) := HX.out.cell 0
  have q1 : w1.cell? ⟨w.heap.size, 1, none⟩ = some (.int .i64 l1) := HX.out.cell 1
  by_cases t0 : ((bulk l0) : Int) ≤ left
  · rw [szW_fit t0]
    have b0 : ¬ left - ((bulk l0) : Int) < 0 := by omega
    have HZ : Hid (szW (((bulk l0))) left = left - ((bulk l0) : Int)) := Lib.hid (by rw [szW_fit (by omega)]; (try omega))
    go_wp2
    go_ret
    exact ⟨ret_int HZ.out.symm, HB.out⟩
  · rw [szW_not t0]
    have HZ : Hid (szW (((bulk l0))) left = -1) := Lib.hid (szW_not (by omega))
    go_wp2
    go_ret
    exact ⟨ret_int HZ.out.symm, HB.out⟩
set_option maxHeartbeats 4000000 in
theorem toKeyK (V : Value) (x : Kyt) (w : World) (h : kKy.At w V x) (hp : adKy x ≤ 100000000) :
    Calls Tryz.prog 166 #[V] w fun e w' => ∃ U, e = .returned U ∧ kKy.In w.heap.size w'.heap.size w' U x ∧ Below w.heap.size w w' := by
  obtain ⟨x0_0, n0_0, c0_0, rfl, g0⟩ := kKy_at h
  obtain ⟨l0, l1⟩ := x
  have hp9 : l0.length ≤ 100000000 := hp
  have hb0 := (Below.refl w.heap.size w).alloc (Nat.le_refl _) (.cells #[.slice x0_0 n0_0 c0_0, .int .i64 l1] 192)
  have hb1 := hb0.alloc (by simp) (.cells #[.slice none 0 0, .int .i64 0] 156)
  have hb2 := hb1.alloc (by simp; omega) (.cells #[.slice none 0 0, .int .i64 0] 156)
  have HB := Lib.hid hb2
  have HX := Lib.hid (((Ret.Blk.new w #[.slice x0_0 n0_0 c0_0, .int .i64 l1] 192).on ((Below.refl _ _).alloc (Nat.le_refl _) (.cells #[.slice none 0 0, .int .i64 0] 156))).on ((Below.refl _ _).alloc (Nat.le_refl _) (.cells #[.slice none 0 0, .int .i64 0] 156)))
  have HR := Lib.hid ((Ret.Blk.new' (w := (w.alloc (.cells #[.slice x0_0 n0_0 c0_0, .int .i64 l1] 192))) (n := w.heap.size + 1) #[.slice none 0 0, .int .i64 0] 156 (by simp)).on ((Below.refl _ _).alloc (Nat.le_refl _) (.cells #[.slice none 0 0, .int .i64 0] 156)))
  have HL := Lib.hid (Ret.Blk.new' (w := (w.alloc (.cells #[.slice x0_0 n0_0 c0_0, .int .i64 l1] 192)).alloc (.cells #[.slice none 0 0, .int .i64 0] 156)) (n := w.heap.size + 1 + 1) #[.slice none 0 0, .int .i64 0] 156 (by simp))
  have hz0 : (((w.alloc (.cells #[.slice x0_0 n0_0 c0_0, .int .i64 l1] 192)).alloc (.cells #[.slice none 0 0, .int .i64 0] 156)).alloc (.cells #[.slice none 0 0, .int .i64 0] 156)).heap.size = w.heap.size + 3 := by simp
  have G0 := Lib.hid g0
  dsimp only at G0 ⊢
  clear h hp hb0 hb1 hb2 g0
  go_enter Tryz.func166, Tryz.ntmps166
  go_wp2_with fail
  refine (toNmK _ l0 _ (G0.out.on HB.out) (by omega)).mono ?_
  rintro e w1 ⟨U0, rfl, ho, hb⟩
  have hs0 := hb.size
  obtain ⟨m0, rfl, r0, ho⟩ := ho.split
  obtain ⟨xy0_0, ny0_0, cy0_0, e0, -⟩ := kN_shapeA (Kd.at_of (k := kN) ho.holds)
  have d0 : kN.cells m0 = [.slice xy0_0 ny0_0 cy0_0] := by injection e0 with e; exact congrArg Array.toList e
  rw [e0]
  rw [hz0] at ho hs0; clear hz0
  replace HX := Lib.hid (HX.out.on hb); replace HR := Lib.hid (HR.out.on hb); replace HL := Lib.hid (HL.out.on hb)
  replace HB := Lib.hid (HB.out.trans (hb.mono HB.out.size)); clear hb
  have O0 := Lib.hid ho; clear ho
  have E0 := Lib.hid e0; have D0 := Lib.hid d0; have R0 := Lib.hid r0; clear e0 d0 r0
  have q0 : w1.cell? ⟨w.heap.size, 0, none⟩ = some (.slice x0_0 n0_0 c0_0) := HX.out.cell 0
  have q1 : w1.cell? ⟨w.heap.size, 1, none⟩ = some (.int .i64 l1) := HX.out.cell 1
  have p0 : w1.cell? ⟨w.heap.size + 1 + 1, 0, none⟩ = some (.slice none 0 0) := HL.out.cell 0
  have p1 : w1.cell? ⟨w.heap.size + 1 + 1, 1, none⟩ = some (.int .i64 0) := HL.out.cell 1
  have t0 := HL.out.frozen 0; have t1 := HL.out.frozen 1
  have r0 : w1.cell? ⟨w.heap.size + 1, 0, none⟩ = some (.slice none 0 0) := HR.out.cell 0
  have r1 : w1.cell? ⟨w.heap.size + 1, 1, none⟩ = some (.int .i64 0) := HR.out.cell 1
  have u0 := HR.out.frozen 0; have u1 := HR.out.frozen 1
  have Z := Lib.hid ((((HR.out.other (a := ⟨w.heap.size + 1 + 1, 0, none⟩) (by show w.heap.size + 1 + 1 ≠ w.heap.size + 1; omega) (.slice xy0_0 ny0_0 cy0_0)).other (a := ⟨w.heap.size + 1 + 1, 1, none⟩) (by show w.heap.size + 1 + 1 ≠ w.heap.size + 1; omega) (.int .i64 l1)).set 0 (.slice xy0_0 ny0_0 cy0_0)).set 1 (.int .i64 l1))
  have ZB := Lib.hid ((((HB.out.setCell (p := ⟨w.heap.size + 1 + 1, 0, none⟩) (by show w.heap.size ≤ w.heap.size + 1 + 1; omega) (.slice xy0_0 ny0_0 cy0_0)).setCell (p := ⟨w.heap.size + 1 + 1, 1, none⟩) (by show w.heap.size ≤ w.heap.size + 1 + 1; omega) (.int .i64 l1)).setCell (p := ⟨w.heap.size + 1, 0, none⟩) (by show w.heap.size ≤ w.heap.size + 1; omega) (.slice xy0_0 ny0_0 cy0_0)).setCell (p := ⟨w.heap.size + 1, 1, none⟩) (by show w.heap.size ≤ w.heap.size + 1; omega) (.int .i64 l1))
  have Z0 := Lib.hid (Kd.Own.set (g := w.heap.size + 1) (i := 1) (u := .int .i64 l1) (Kd.Own.set (g := w.heap.size + 1) (i := 0) (u := .slice xy0_0 ny0_0 cy0_0) (Kd.Own.set (g := w.heap.size + 1 + 1) (i := 1) (u := .int .i64 l1) (Kd.Own.set (g := w.heap.size + 1 + 1) (i := 0) (u := .slice xy0_0 ny0_0 cy0_0) O0.out (by omega)) (by omega)) (by omega)) (by omega))
  go_wp2_with fail
  refine bodyPost_ret (Ret.results_c rfl _ _ (w.heap.size + 1) [.slice xy0_0 ny0_0 cy0_0, .int .i64 l1] rfl aggKy Z.out.cells) rfl ?_
  have hval : kKy.val (m0, l1) = .agg #[.slice xy0_0 ny0_0 cy0_0, .int .i64 l1] := by
    show Value.agg ((kN.cells m0 ++ (kInt.cells l1))).toArray = _
    rw [D0.out]
    rfl
  have hstr : kKy.strip (m0, l1) = (l0, l1) := Prod.ext R0.out (rfl)
  refine ⟨_, rfl, ?_, ZB.out⟩
  rw [← hval, ← hstr]
  refine Kd.Own.in ?_
  exact (Kd.Own.pair (C := w1.heap.size) (Z0.out.mono (by omega) (by omega)) (Kd.own_scalar _ _ _ _) (by omega) (by simp only [World.size_setCell]; omega))
set_option maxHeartbeats 4000000 in
theorem eqKeyK (V U : Value) (x y : Kyt) (w : World) (q : Bool) (hq : decide (x = y) = q) (h : kKy.At w V x) (g : kKy.At w U y) (hp : adKy x ≤ 100000000) (hy : adKy y ≤ 100000000) :
    Calls Tryz.prog 170 #[V, U] w fun e w' => e = .returned (.bool q) ∧ Below w.heap.size w w' := by
  obtain ⟨x0_0, n0_0, c0_0, rfl, g0⟩ := kKy_at h
  obtain ⟨l0, l1⟩ := x
  obtain ⟨xy0_0, ny0_0, cy0_0, rfl, gy0⟩ := kKy_at g
  obtain ⟨ly0, ly1⟩ := y
  have hp9 : l0.length ≤ 100000000 := hp
  have hy9 : ly0.length ≤ 100000000 := hy
  have hb0 := (Below.refl w.heap.size w).alloc (Nat.le_refl _) (.cells #[.slice x0_0 n0_0 c0_0, .int .i64 l1] 156)
  have HB := Lib.hid (hb0.alloc (by simp) (.cells #[.slice xy0_0 ny0_0 cy0_0, .int .i64 ly1] 156))
  have HX := Lib.hid ((Ret.Blk.new w #[.slice x0_0 n0_0 c0_0, .int .i64 l1] 156).on ((Below.refl _ _).alloc (Nat.le_refl _) (.cells #[.slice xy0_0 ny0_0 cy0_0, .int .i64 ly1] 156)))
  have HY := Lib.hid (Ret.Blk.new' (w := w.alloc (.cells #[.slice x0_0 n0_0 c0_0, .int .i64 l1] 156)) (n := w.heap.size + 1) #[.slice xy0_0 ny0_0 cy0_0, .int .i64 ly1] 156 (by simp))
  have HQ := Lib.hid hq
  have G0 := Lib.hid g0; have Gy0 := Lib.hid gy0
  dsimp only at G0 Gy0 ⊢
  clear h g hq hp hy hb0 g0 gy0
  go_enter Tryz.func170, Tryz.ntmps170
  go_wp2_with fail
  by_cases e0 : l0 = ly0
  · refine (eqNmK _ _ l0 ly0 _ true (decide_eq_true e0) (G0.out.on HB.out) (Gy0.out.on HB.out) (by omega) (by omega)).mono ?_
    rintro e w1 ⟨rfl, hb⟩
    replace HX := Lib.hid (HX.out.on hb); replace HY := Lib.hid (HY.out.on hb)
    replace HB := Lib.hid (HB.out.trans (hb.mono HB.out.size)); clear hb
    have q0 : w1.cell? ⟨w.heap.size, 0, none⟩ = some (.slice x0_0 n0_0 c0_0) := HX.out.cell 0
    have q1 : w1.cell? ⟨w.heap.size, 1, none⟩ = some (.int .i64 l1) := HX.out.cell 1
    have p0 : w1.cell? ⟨w.heap.size + 1, 0, none⟩ = some (.slice xy0_0 ny0_0 cy0_0) := HY.out.cell 0
    have p1 : w1.cell? ⟨w.heap.size + 1, 1, none⟩ = some (.int .i64 ly1) := HY.out.cell 1
    by_cases e1 : l1 = ly1
    · have t1 : (l1 != ly1) = false := by simp [e1]
      have HE : Hid (q = true) := Lib.hid (by rw [← HQ.out]; simp [e0, e1])
      clear e0 e1
      go_wp2
      go_ret
      exact ⟨ret_bool HE.out.symm, HB.out⟩
    · have t1 : (l1 != ly1) = true := by simpa using e1
      have HE : Hid (q = false) := Lib.hid (by rw [← HQ.out]; simp [e1])
      clear e1
      go_wp2
      go_ret
      exact ⟨ret_bool HE.out.symm, HB.out⟩
  · refine (eqNmK _ _ l0 ly0 _ false (decide_eq_false e0) (G0.out.on HB.out) (Gy0.out.on HB.out) (by omega) (by omega)).mono ?_
    rintro e w1 ⟨rfl, hb⟩
    replace HX := Lib.hid (HX.out.on hb); replace HY := Lib.hid (HY.out.on hb)
    replace HB := Lib.hid (HB.out.trans (hb.mono HB.out.size)); clear hb
    have q0 : w1.cell? ⟨w.heap.size, 0, none⟩ = some (.slice x0_0 n0_0 c0_0) := HX.out.cell 0
    have q1 : w1.cell? ⟨w.heap.size, 1, none⟩ = some (.int .i64 l1) := HX.out.cell 1
    have p0 : w1.cell? ⟨w.heap.size + 1, 0, none⟩ = some (.slice xy0_0 ny0_0 cy0_0) := HY.out.cell 0
    have p1 : w1.cell? ⟨w.heap.size + 1, 1, none⟩ = some (.int .i64 ly1) := HY.out.cell 1
    have HE : Hid (q = false) := Lib.hid (by rw [← HQ.out]; simp [e0])
    clear e0
    go_wp2
    go_ret
    exact ⟨ret_bool HE.out.symm, HB.out⟩
/-- It fits, and its numbers are numbers. -/
def inKy (x : Kyt) : Prop := okN x.1 ∧ (Lit.int .i64 x.2).wf = true
theorem inKy.ok {x : Kyt} (h : inKy x) : okKy x := h.1
theorem opens_Key : OpensK Tryz.prog kKy 192 inKy := opens_struct Tryz.underlying192 (by kernel_rfl) (opensF_cons (ok := fun (z : List ByteArray) => okN z) (ok' := fun (z : Int) => (Lit.int .i64 z).wf = true) (opens_wrap Tryz.underlying69 rfl (by kernel_rfl) (opens_strs Tryz.underlying30 Tryz.underlying9 (by kernel_rfl))) rfl (by kernel_rfl) (opensF_last (ok := fun (z : Int) => (Lit.int .i64 z).wf = true) (opens_int Tryz.underlying3) rfl (by kernel_rfl)))

/-! ### in the laws' words -/
theorem adKy_le (x : Kyt) : adKy x ≤ wtKy x := by
  obtain ⟨l0, l1⟩ := x
  have e0 := show l0.length ≤ bulk l0 from bulk_len l0
  unfold adKy wtKy
  dsimp only
  omega
end Go.Proofs.YtcidfmmeonhkhaaGreatDoor.Row
