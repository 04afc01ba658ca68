/- What the call's own memory beneath a value of a kind is (Kd.Own, by the value as it lies), what keeps it, two parts joined, a row of elements; sizes, marks. For any kind. No conditions. -/
import Derived.Test.YtkojeajjappchaaKLaw
import Derived.Test.YtkojeajjappchaaMany2
namespace Go.Proofs.Ytkojeajjappchaa.Row
open Go.ChangeShapes Go.WideShapes Go.ChangeAt Go.RowKit Go.Instr
set_option linter.unusedVariables false
set_option linter.unusedSectionVars false
set_option maxRecDepth 100000

section
variable {α M β N : Type} {k : Kd α M} {l : Kd β N} {B B' C E E' : Nat} {w w' : World} {v : Value} {a : α} {m : M} {n : N}
def Kd.Own (k : Kd α M) (B E : Nat) (w : World) (m : M) : Prop := k.own B w m ∧ (k.blocks m).Nodup ∧ ∀ g ∈ k.blocks m, g < E
theorem Kd.In.split (h : k.In B E w v a) : ∃ m, v = k.val m ∧ k.strip m = a ∧ k.Own B E w m := h
theorem Kd.Own.in (h : k.Own B E w m) : k.In B E w (k.val m) (k.strip m) := ⟨m, rfl, rfl, h⟩
theorem Kd.Own.holds (h : k.Own B E w m) : k.holds w m := k.own_holds h.1
theorem Kd.Own.lt (h : k.Own B E w m) : ∀ g ∈ k.blocks m, B ≤ g ∧ g < E ∧ g < w.heap.size := fun g hg => ⟨(k.own_lt h.1 g hg).1, h.2.2 g hg, (k.own_lt h.1 g hg).2⟩
theorem Kd.Own.on (h : k.Own B E w m) (hb : Below w.heap.size w w') : k.Own B E w' m := ⟨k.own_keep h.1 (fun g e => hb.block g (k.own_lt h.1 g e).2), h.2⟩
theorem Kd.Own.keep (h : k.Own B E w m) (hg : ∀ g ∈ k.blocks m, w'.heap[g]? = w.heap[g]?) : k.Own B E w' m := ⟨k.own_keep h.1 hg, h.2⟩
theorem Kd.Own.mono (h : k.Own B E w m) (hB : B' ≤ B) (hE : E ≤ E') : k.Own B' E' w m := ⟨k.own_mono h.1 hB, h.2.1, fun g hg => Nat.lt_of_lt_of_le (h.2.2 g hg) hE⟩
theorem Kd.Own.set {g i : Nat} {u : Value} (h : k.Own B E w m) (hg : g < B) : k.Own B E (w.setCell ⟨g, i, none⟩ u) m :=
  h.keep fun q hq => Go.RowKit.Below.heap_setCell w ⟨g, i, none⟩ u q (fun e => by have h1 := (h.lt q hq).1; have e1 : q = g := e; omega)
theorem Kd.Own.grown {row : Option Nat} (h : k.Own B E w m) (hg : w.grownBy w' row) (hr : ∀ g, row = some g → g ∉ k.blocks m) : k.Own B E w' m :=
  h.keep fun q hq => hg.block q (h.lt q hq).2.2 (fun e => hr q e.symm hq)
theorem Kd.Own.wrote (h : k.Own B E w m) (hw : Wrote B' E' w w') (hn : E ≤ B' ∨ E' ≤ B) : k.Own B E w' m :=
  h.keep fun q hq => hw.block q (h.lt q hq).2.2 (by have := h.lt q hq; omega)
/-- Two parts, the second in later blocks. -/
theorem Kd.Own.pair (h : k.Own B C w m) (g : l.Own C E w n) (h1 : B ≤ C) (h2 : C ≤ E) : (k.pair l).Own B E w (m, n) := by
  refine ⟨⟨h.1, l.own_mono g.1 h1⟩, ?_, fun q hq => ?_⟩
  · show (k.blocks m ++ l.blocks n).Nodup
    rw [List.nodup_append]
    exact ⟨h.2.1, g.2.1, fun x hx y hy e => by have h3 := (h.lt x hx).2.1; have h4 := (g.lt y hy).1; omega⟩
  · rcases List.mem_append.1 (show q ∈ k.blocks m ++ l.blocks n from hq) with hq | hq
    · exact Nat.lt_of_lt_of_le (h.2.2 q hq) h2
    · exact g.2.2 q hq
theorem Kd.own_scalar {enc : α → Value} {h1 : ∀ x, (enc x).oneCell' = true} (B E : Nat) (w : World) (x : α) : (Kd.scalar enc h1).Own B E w x := ⟨trivial, List.nodup_nil, fun g hg => by cases hg⟩
theorem Kd.at_of (h : k.holds w m) : k.At w (k.val m) (k.strip m) := ⟨m, rfl, rfl, h⟩
/-- What two parts hold, in disjoint blocks. -/
theorem Kd.Own.parts (h : (k.pair l).Own B E w (m, n)) : k.Own B E w m ∧ l.Own B E w n ∧ ∀ g ∈ k.blocks m, g ∉ l.blocks n := by
  have hd : (k.blocks m ++ l.blocks n).Nodup := h.2.1
  have hd2 := List.nodup_append.1 hd
  exact ⟨⟨h.1.1, hd2.1, fun g hg => h.2.2 g (List.mem_append_left _ hg)⟩, ⟨h.1.2, hd2.2.1, fun g hg => h.2.2 g (List.mem_append_right _ hg)⟩, fun g hg hg2 => hd2.2.2 g hg g hg2 rfl⟩
theorem Kd.Own.join (h : k.Own B E w m) (g : l.Own B E w n) (hd : ∀ q ∈ k.blocks m, q ∉ l.blocks n) : (k.pair l).Own B E w (m, n) := by
  refine ⟨⟨h.1, g.1⟩, ?_, fun q hq => ?_⟩
  · show (k.blocks m ++ l.blocks n).Nodup
    rw [List.nodup_append]
    exact ⟨h.2.1, g.2.1, fun x hx y hy e => hd x hx (by rw [e]; exact hy)⟩
  · rcases List.mem_append.1 (show q ∈ k.blocks m ++ l.blocks n from hq) with hq | hq
    · exact h.2.2 q hq
    · exact g.2.2 q hq
/-- Only the blocks of a list are written, and new ones. -/
structure WroteBy (bs : List Nat) (w w' : World) : Prop where
  os : w'.os = w.os
  tape : w'.tape = w.tape
  output : w'.output = w.output
  size : w.heap.size ≤ w'.heap.size
  block : ∀ i, i < w.heap.size → i ∉ bs → w'.heap[i]? = w.heap[i]?
theorem WroteBy.refl (bs : List Nat) (w : World) : WroteBy bs w w := ⟨rfl, rfl, rfl, Nat.le_refl _, fun _ _ _ => rfl⟩
theorem WroteBy.trans {bs : List Nat} {w1 : World} (h : WroteBy bs w w1) (g : WroteBy bs w1 w') : WroteBy bs w w' := ⟨g.os.trans h.os, g.tape.trans h.tape, g.output.trans h.output, Nat.le_trans h.size g.size, fun i hi hn => (g.block i (Nat.lt_of_lt_of_le hi h.size) hn).trans (h.block i hi hn)⟩
theorem WroteBy.more {bs cs : List Nat} (h : WroteBy bs w w') (hs : ∀ g ∈ bs, g ∈ cs) : WroteBy cs w w' := ⟨h.os, h.tape, h.output, h.size, fun i hi hn => h.block i hi (fun e => hn (hs i e))⟩
theorem WroteBy.ofBelow {bs : List Nat} (h : Below w.heap.size w w') : WroteBy bs w w' := ⟨h.os, h.tape, h.output, h.size, fun i hi _ => h.block i hi⟩
theorem WroteBy.of {bs : List Nat} {row : Option Nat} (h : w.grownBy w' row) (hr : ∀ g, row = some g → g ∈ bs) : WroteBy bs w w' := ⟨h.os, h.tape, h.output, h.size, fun i hi hn => h.block i hi (fun e => hn (hr i e.symm))⟩
theorem WroteBy.wrote {bs : List Nat} (h : WroteBy bs w w') (hr : ∀ g ∈ bs, B ≤ g ∧ g < E) : Wrote B E w w' := ⟨h.os, h.tape, h.output, h.size, fun i hi hn => h.block i hi (fun e => hn (hr i e))⟩
theorem WroteBy.own {bs : List Nat} (h : WroteBy bs w w') (ho : k.Own B E w m) (hd : ∀ q ∈ k.blocks m, q ∉ bs) : k.Own B E w' m := ho.keep fun q hq => h.block q (ho.lt q hq).2.2 (hd q hq)
theorem WroteBy.blk {bs : List Nat} (h : WroteBy bs w w') {g : Nat} {cs : Array Value} {t : TypeId} (hb : Ret.Blk w g cs t) (hn : g ∉ bs) : Ret.Blk w' g cs t := (h.block g hb.lt hn).trans hb
end
/-! ### names -/
theorem kN_own1 {B : Nat} {w : World} {m : Rw ByteArray} (h : kN.own B w m) : Own 9 Value.string B w m.v m.els := ownK_single.1 h.1
theorem kN_own2 {B : Nat} {w : World} {m : Rw ByteArray} (h : Own 9 Value.string B w m.v m.els) : kN.own B w m := ⟨ownK_single.2 h, fun _ _ => trivial⟩
theorem kN_blocks (m : Rw ByteArray) : kN.blocks m = m.v.ownBlock.toList := kNm_blocks (e := 9) m
theorem kN_strip (m : Rw ByteArray) : kN.strip m = m.els := by simp [kN, Kd.wrap, kNm, Kd.slice, kStr, Kd.scalar]
/-- A name's parts are long enough to be counted, small enough to be held. -/
def okN (l : List ByteArray) : Prop := l.length ≤ 9223372036854775807 ∧ ∀ x ∈ l, x.size ≤ maxLen
/-- What a value's measure leaves. -/
def szW (n : Nat) (left : Int) : Int := if (n : Int) ≤ left then left - n else -1
theorem szW_fit {n : Nat} {left : Int} (h : (n : Int) ≤ left) : szW n left = left - n := if_pos h
theorem szW_not {n : Nat} {left : Int} (h : ¬ (n : Int) ≤ left) : szW n left = -1 := if_neg h

/-! ### lists of elements of a kind -/
section
variable {α M : Type} [Inhabited α] [Inhabited M] {k : Kd α M} {B E : Nat} {w w' : World}
/-- Length and sizes of a list together, up to place j. -/
def bulkKTo (f : α → Nat) (l : List α) (j : Nat) : Nat := l.length + ((l.take j).map f).sum
def bulkK (f : α → Nat) (l : List α) : Nat := bulkKTo f l l.length
theorem bulkKTo_zero (f : α → Nat) (l : List α) : bulkKTo f l 0 = l.length := by simp [bulkKTo]
theorem bulkKTo_succ (f : α → Nat) (l : List α) {j : Nat} (h : j < l.length) : bulkKTo f l (j + 1) = bulkKTo f l j + f (nth l j) := by
  unfold bulkKTo
  rw [List.take_succ_eq_append_getElem h, nth_eq h, List.map_append, List.sum_append]
  simp only [List.map_cons, List.map_nil, List.sum_cons, List.sum_nil]
  omega
theorem bulkKTo_le (f : α → Nat) (l : List α) (j : Nat) : bulkKTo f l j ≤ bulkK f l := by
  unfold bulkK bulkKTo
  have := sum_take_le (l.map f) j
  rw [List.take_length, List.map_take]; omega
theorem bulkK_len (f : α → Nat) (l : List α) : l.length ≤ bulkK f l := by unfold bulkK bulkKTo; omega
theorem bulkK_mem {f : α → Nat} {l : List α} {x : α} (h : x ∈ l) : f x ≤ bulkK f l := by
  obtain ⟨j, hj, rfl⟩ := List.getElem_of_mem h
  have h1 := bulkKTo_succ f l hj
  have h2 := bulkKTo_le f l (j + 1)
  rw [nth_eq hj] at h1
  omega
theorem bulkK_of {f : α → Nat} {l : List α} {n b : Nat} (hl : l.length ≤ n) (h : ∀ x ∈ l, f x ≤ b) : bulkK f l ≤ n + n * b := by
  have h1 : ∀ l : List α, (∀ x ∈ l, f x ≤ b) → (l.map f).sum ≤ l.length * b := fun l => by
    induction l with
    | nil => simp
    | cons a r ih =>
      intro h
      have h2 := ih fun y hy => h y (by simp [hy])
      have h3 := h a (by simp)
      simp only [List.map_cons, List.sum_cons, List.length_cons, Nat.add_mul]
      omega
  have h2 := h1 l h
  have h3 : l.length * b ≤ n * b := Nat.mul_le_mul_right b hl
  unfold bulkK bulkKTo
  rw [List.take_length]
  omega
theorem bulkK_mono {f g : α → Nat} (h : ∀ x, f x ≤ g x) (l : List α) : bulkK f l ≤ bulkK g l := by
  have h1 : ∀ l : List α, (l.map f).sum ≤ (l.map g).sum := fun l => by
    induction l with
    | nil => simp
    | cons a r ih => have := h a; simp only [List.map_cons, List.sum_cons]; omega
  have := h1 l
  unfold bulkK bulkKTo
  rw [List.take_length]
  omega
theorem nth_map {β : Type} [Inhabited β] (f : α → β) {l : List α} {j : Nat} (h : j < l.length) : nth (l.map f) j = f (nth l j) := by
  rw [nth_eq (by simpa using h), nth_eq h]; simp
theorem take_map_succ {β : Type} (f : α → β) {l : List α} {j : Nat} (h : j < l.length) : (l.map f).take (j + 1) = (l.map f).take j ++ [f (nth l j)] := by
  rw [List.take_succ_eq_append_getElem (by simpa using h), nth_eq h]; simp
/-- The list behind j stores of a copy: j elements made, the others empty. -/
def madeK' (L : List M) (n : Nat) : List M := L ++ List.replicate (n - L.length) default
theorem madeK'_length {L : List M} {n : Nat} (h : L.length ≤ n) : (madeK' L n).length = n := by simp [madeK']; omega
theorem madeK'_step {L : List M} {n : Nat} (h : L.length < n) (x : M) : (madeK' L n).set L.length x = madeK' (L ++ [x]) n := by
  unfold madeK'
  rw [List.set_append_right _ _ (Nat.le_refl _), Nat.sub_self, show n - L.length = (n - (L ++ [x]).length) + 1 by simp; omega, List.replicate_succ, List.set_cons_zero, List.append_assoc]
  rfl
theorem madeK'_all {L : List M} {n : Nat} (h : L.length = n) : madeK' L n = L := by simp [madeK', h]
/-- All cells of an element written, one behind the other. -/
def setCells (w : World) (g : Nat) : Nat → List Value → World
  | _, [] => w
  | o, u :: us => setCells (w.setCell ⟨g, o, none⟩ u) g (o + 1) us
theorem setCells_grown (g : Nat) : ∀ (us : List Value) (o : Nat) (w : World), w.grownBy (setCells w g o us) (some g)
  | [], _, w => ⟨rfl, rfl, rfl, Nat.le_refl _, fun _ _ _ => rfl⟩
  | u :: us, o, w => Go.World.grownBy.trans (Ret.grownBy_set w ⟨g, o, none⟩ u) (setCells_grown g us (o + 1) _)
/-- Elements of a fixed number of cells. -/
abbrev Cs (sz : Nat) := { l : List Value // l.length = sz }
instance (sz : Nat) : Inhabited (Cs sz) := ⟨⟨List.replicate sz (.int .i64 0), by simp⟩⟩
theorem szCs (sz : Nat) : Sz (fun x : Cs sz => x.1) sz := fun x => x.2
theorem cs_store {sz : Nat} {e : TypeId} {g n cap : Nat} : ∀ (us : List Value) (i : Nat) (w : World) (l : List (Cs sz)) (j : Nat) (hi : i + us.length = sz) (hn : n = l.length) (hj : j < l.length) (y : Cs sz),
    y.1.drop i = us → (y.1.take i = (nth l j).1.take i) → OwnK e (fun x : Cs sz => x.1) sz B w (.slice (some ⟨g, 0, none⟩) n cap) l →
    OwnK e (fun x : Cs sz => x.1) sz B (setCells w g (j * sz + i) us) (.slice (some ⟨g, 0, none⟩) n cap) (l.set j y)
  | [], i, w, l, j, hi, hn, hj, y, hd, ht, h => by
    have e1 : y = nth l j := by
      apply Subtype.ext
      have h1 := List.take_append_drop i y.1
      have h2 := (nth l j).2
      have h3 : i = sz := by simpa using hi
      rw [ht, hd, List.append_nil, h3, List.take_of_length_le (by omega)] at h1
      exact h1.symm
    have e2 : l.set j y = l := by
      rw [e1, nth_eq hj]
      exact List.set_getElem_self hj
    rw [e2]
    exact h
  | u :: us, i, w, l, j, hi, hn, hj, y, hd, ht, h => by
    have hi2 : i < sz := by simp at hi; omega
    have hy2 : i < y.1.length := by rw [y.2]; exact hi2
    have hm2 : i < (nth l j).1.length := by rw [(nth l j).2]; exact hi2
    let z : Cs sz := ⟨(nth l j).1.set i u, by rw [List.length_set]; exact (nth l j).2⟩
    obtain ⟨a1, -⟩ := ownK_store (szCs sz) h hn hj hi2 (y := z) (u := u) rfl
    have hzn : nth (l.set j z) j = z := nth_set hj z
    have hu : y.1[i]? = some u := by
      have := List.getElem?_drop (xs := y.1) (i := i) (j := 0)
      rw [hd] at this
      simpa using this.symm
    have hd2 : y.1.drop (i + 1) = us := by
      have := List.drop_drop (l := y.1) (i := 1) (j := i)
      rw [hd] at this
      simpa using this.symm
    have ht2 : y.1.take (i + 1) = (nth (l.set j z) j).1.take (i + 1) := by
      rw [hzn]
      show y.1.take (i + 1) = ((nth l j).1.set i u).take (i + 1)
      rw [List.take_succ_eq_append_getElem hy2, List.take_succ_eq_append_getElem (by simpa using hm2), ht, List.take_set_of_le (Nat.le_refl i)]
      have h5 : y.1[i] = u := by rw [List.getElem?_eq_getElem hy2] at hu; exact Option.some.inj hu
      rw [h5]
      simp
    have h6 := cs_store us (i + 1) _ (l.set j z) j (by simp at hi; omega) (by simpa using hn) (by simpa using hj) y hd2 ht2 a1
    rw [List.set_set] at h6
    exact h6
/-- An element's cells are stored. -/
theorem ownK_put {α : Type} [Inhabited α] {enc : α → List Value} {sz : Nat} (hs : Sz enc sz) {e : TypeId} {B : Nat} {w : World} {g n cap : Nat} {l : List α} (h : OwnK e enc sz B w (.slice (some ⟨g, 0, none⟩) n cap) l) (hn : n = l.length) {j : Nat} (hj : j < l.length) (y : α) :
    OwnK e enc sz B (setCells w g (j * sz) (enc y)) (.slice (some ⟨g, 0, none⟩) n cap) (l.set j y) := by
  let f : α → Cs sz := fun x => ⟨enc x, hs x⟩
  have hf : ∀ l : List α, flat (fun x : Cs sz => x.1) (l.map f) = flat enc l := fun l => by simp [flat, List.flatMap_map, f]
  have h' : OwnK e (fun x : Cs sz => x.1) sz B w (.slice (some ⟨g, 0, none⟩) n cap) (l.map f) := by
    unfold OwnK at h ⊢
    rw [hf, List.length_map]
    exact h
  have r := cs_store (B := B) (e := e) (cap := cap) (enc y) 0 w (l.map f) j (by simpa using hs y) (by simpa using hn) (by simpa using hj) (f y) (by simp [f]) (by simp) h'
  rw [← List.map_set] at r
  unfold OwnK at r ⊢
  rw [hf, List.length_map] at r
  exact r
end
/-- Elements of the call's own, each in later blocks than those before. -/
def Kd.EOwn {α M : Type} (k : Kd α M) (B E : Nat) (w : World) (L : List M) : Prop := (∀ x ∈ L, k.own B w x) ∧ (L.flatMap k.blocks).Nodup ∧ ∀ g ∈ L.flatMap k.blocks, B ≤ g ∧ g < E
section
variable {α M : Type} {k : Kd α M} {B E C : Nat} {w w' : World} {L : List M} {x : M}
theorem Kd.EOwn.nil (k : Kd α M) (B E : Nat) (w : World) : k.EOwn B E w [] := ⟨fun x hx => (by cases hx), List.nodup_nil, fun g hg => (by cases hg)⟩
theorem Kd.EOwn.keep (h : k.EOwn B E w L) (hg : ∀ g, B ≤ g → g < E → w'.heap[g]? = w.heap[g]?) : k.EOwn B E w' L :=
  ⟨fun x hx => k.own_keep (h.1 x hx) (fun g e => by have h1 := h.2.2 g (List.mem_flatMap.2 ⟨x, hx, e⟩); exact hg g h1.1 h1.2), h.2⟩
theorem Kd.EOwn.on (h : k.EOwn B E w L) (hb : Below w.heap.size w w') (hE : E ≤ w.heap.size) : k.EOwn B E w' L := h.keep fun g _ h2 => hb.block g (by omega)
theorem Kd.EOwn.grown {g0 : Nat} (h : k.EOwn B E w L) (hg : w.grownBy w' (some g0)) (h0 : g0 < B) (hE : E ≤ w.heap.size) : k.EOwn B E w' L := h.keep fun g h1 h2 => hg.block g (by omega) (fun e => by have := Option.some.inj e; omega)
theorem Kd.EOwn.snoc (h : k.EOwn B C w L) (hx : k.Own C E w x) (h1 : B ≤ C) (h2 : C ≤ E) : k.EOwn B E w (L ++ [x]) := by
  refine ⟨fun y hy => ?_, ?_, fun g hg => ?_⟩
  · rcases List.mem_append.1 hy with hy | hy
    · exact h.1 y hy
    · rw [List.mem_singleton.1 hy]; exact k.own_mono hx.1 h1
  · rw [List.flatMap_append, List.nodup_append]
    refine ⟨h.2.1, by simpa using hx.2.1, fun a ha b hb e => ?_⟩
    have h3 := (h.2.2 a ha).2
    have h4 := (hx.lt b (by simpa using hb)).1
    omega
  · rw [List.flatMap_append] at hg
    rcases List.mem_append.1 hg with hg | hg
    · have h3 := h.2.2 g hg; omega
    · have h4 := hx.lt g (by simpa using hg); omega
/-- A row and its elements, all of the call's own, the row first. -/
theorem Kd.EOwn.slice {e : TypeId} {n cap : Nat} (h : k.EOwn (w.heap.size + 1) E w' L) (hr : OwnK e k.cells k.size w.heap.size w' (.slice (some ⟨w.heap.size, 0, none⟩) n cap) L) (hE : w.heap.size < E) : (k.slice e).Own w.heap.size E w' ⟨some ⟨w.heap.size, 0, none⟩, n, cap, L⟩ := by
  refine ⟨⟨hr, fun x hx => k.own_mono (h.1 x hx) (Nat.le_succ _)⟩, ?_, fun g hg => ?_⟩
  · show ([w.heap.size] ++ L.flatMap k.blocks).Nodup
    rw [List.nodup_append]
    exact ⟨by simp, h.2.1, fun a ha b hb e => by have h3 := (h.2.2 b hb).1; have h4 := List.mem_singleton.1 ha; omega⟩
  · rcases List.mem_append.1 (show g ∈ [w.heap.size] ++ L.flatMap k.blocks from hg) with hg | hg
    · have h4 := List.mem_singleton.1 hg; omega
    · exact (h.2.2 g hg).2
end
end Go.Proofs.Ytkojeajjappchaa.Row
