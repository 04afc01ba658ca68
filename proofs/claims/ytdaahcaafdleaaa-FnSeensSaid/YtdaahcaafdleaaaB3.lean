/- Contracts and mathematics, joined: Kind, PushK, LibS, Cmp, Trunc, Pref, Part, Valid, AppP, DrawName, DrawAny. No conditions but those that each states. -/
import Derived.Test.YtdaahcaafdleaaaB2
import Derived.Test.YtdaahcaafdleaaaB1
import Derived.Lib.AppendZerosOnto
import Derived.Lib.SliceRun
import Derived.Deep.RegionHeld3
import Derived.Laws.RangeAny
import Derived.Deep.RegionLaw
/- What the call's own memory beneath a value of a kind is (Kd.Own, by the value as it lies), what keeps it, two parts joined, a row of elements; sizes, marks. For any kind. No conditions. -/
namespace Go.Proofs.Ytdaahcaafdleaaa.Row
open Go.ChangeShapes Go.WideShapes Go.ChangeAt Go.RowKit Go.Instr
set_option linter.unusedVariables false
set_option linter.unusedSectionVars false
set_option maxRecDepth 100000
section
variable {α M β N : Type} {k : Kd α M} {l : Kd β N} {B B' C E E' : Nat} {w w' : World} {v : Value} {a : α} {m : M} {n : N}
def Kd.Own (k : Kd α M) (B E : Nat) (w : World) (m : M) : Prop := k.own B w m ∧ (k.blocks m).Nodup ∧ ∀ g ∈ k.blocks m, g < E
theorem Kd.In.split (h : k.In B E w v a) : ∃ m, v = k.val m ∧ k.strip m = a ∧ k.Own B E w m := h
theorem Kd.Own.in (h : k.Own B E w m) : k.In B E w (k.val m) (k.strip m) := ⟨m, rfl, rfl, h⟩
theorem Kd.Own.holds (h : k.Own B E w m) : k.holds w m := k.own_holds h.1
theorem Kd.Own.lt (h : k.Own B E w m) : ∀ g ∈ k.blocks m, B ≤ g ∧ g < E ∧ g < w.heap.size := fun g hg => ⟨(k.own_lt h.1 g hg).1, h.2.2 g hg, (k.own_lt h.1 g hg).2⟩
theorem Kd.Own.on (h : k.Own B E w m) (hb : Below w.heap.size w w') : k.Own B E w' m := ⟨k.own_keep h.1 (fun g e => hb.block g (k.own_lt h.1 g e).2), h.2⟩
theorem Kd.Own.keep (h : k.Own B E w m) (hg : ∀ g ∈ k.blocks m, w'.heap[g]? = w.heap[g]?) : k.Own B E w' m := ⟨k.own_keep h.1 hg, h.2⟩
theorem Kd.Own.mono (h : k.Own B E w m) (hB : B' ≤ B) (hE : E ≤ E') : k.Own B' E' w m := ⟨k.own_mono h.1 hB, h.2.1, fun g hg => Nat.lt_of_lt_of_le (h.2.2 g hg) hE⟩
theorem Kd.Own.set {g i : Nat} {u : Value} (h : k.Own B E w m) (hg : g < B) : k.Own B E (w.setCell ⟨g, i, none⟩ u) m :=
  h.keep fun q hq => Go.RowKit.Below.heap_setCell w ⟨g, i, none⟩ u q (fun e => by have h1 := (h.lt q hq).1; have e1 : q = g := e; omega)
theorem Kd.Own.grown {row : Option Nat} (h : k.Own B E w m) (hg : w.grownBy w' row) (hr : ∀ g, row = some g → g ∉ k.blocks m) : k.Own B E w' m :=
  h.keep fun q hq => hg.block q (h.lt q hq).2.2 (fun e => hr q e.symm hq)
theorem Kd.Own.pair (h : k.Own B C w m) (g : l.Own C E w n) (h1 : B ≤ C) (h2 : C ≤ E) : (k.pair l).Own B E w (m, n) := by
  refine ⟨⟨h.1, l.own_mono g.1 h1⟩, ?_, fun q hq => ?_⟩
  · show (k.blocks m ++ l.blocks n).Nodup
    rw [List.nodup_append]
    exact ⟨h.2.1, g.2.1, fun x hx y hy e => by have h3 := (h.lt x hx).2.1; have h4 := (g.lt y hy).1; omega⟩
  · rcases List.mem_append.1 (show q ∈ k.blocks m ++ l.blocks n from hq) with hq | hq
    · exact Nat.lt_of_lt_of_le (h.2.2 q hq) h2
    · exact g.2.2 q hq
theorem Kd.own_scalar {enc : α → Value} {h1 : ∀ x, (enc x).oneCell' = true} (B E : Nat) (w : World) (x : α) : (Kd.scalar enc h1).Own B E w x := ⟨trivial, List.nodup_nil, fun g hg => by cases hg⟩
theorem Kd.at_of (h : k.holds w m) : k.At w (k.val m) (k.strip m) := ⟨m, rfl, rfl, h⟩
theorem Kd.Own.join (h : k.Own B E w m) (g : l.Own B E w n) (hd : ∀ q ∈ k.blocks m, q ∉ l.blocks n) : (k.pair l).Own B E w (m, n) := by
  refine ⟨⟨h.1, g.1⟩, ?_, fun q hq => ?_⟩
  · show (k.blocks m ++ l.blocks n).Nodup
    rw [List.nodup_append]
    exact ⟨h.2.1, g.2.1, fun x hx y hy e => hd x hx (by rw [e]; exact hy)⟩
  · rcases List.mem_append.1 (show q ∈ k.blocks m ++ l.blocks n from hq) with hq | hq
    · exact h.2.2 q hq
    · exact g.2.2 q hq
structure WroteBy (bs : List Nat) (w w' : World) : Prop where
  os : w'.os = w.os
  tape : w'.tape = w.tape
  output : w'.output = w.output
  size : w.heap.size ≤ w'.heap.size
  block : ∀ i, i < w.heap.size → i ∉ bs → w'.heap[i]? = w.heap[i]?
theorem WroteBy.refl (bs : List Nat) (w : World) : WroteBy bs w w := ⟨rfl, rfl, rfl, Nat.le_refl _, fun _ _ _ => rfl⟩
theorem WroteBy.trans {bs : List Nat} {w1 : World} (h : WroteBy bs w w1) (g : WroteBy bs w1 w') : WroteBy bs w w' := ⟨g.os.trans h.os, g.tape.trans h.tape, g.output.trans h.output, Nat.le_trans h.size g.size, fun i hi hn => (g.block i (Nat.lt_of_lt_of_le hi h.size) hn).trans (h.block i hi hn)⟩
theorem WroteBy.of {bs : List Nat} {row : Option Nat} (h : w.grownBy w' row) (hr : ∀ g, row = some g → g ∈ bs) : WroteBy bs w w' := ⟨h.os, h.tape, h.output, h.size, fun i hi hn => h.block i hi (fun e => hn (hr i e.symm))⟩
theorem WroteBy.own {bs : List Nat} (h : WroteBy bs w w') (ho : k.Own B E w m) (hd : ∀ q ∈ k.blocks m, q ∉ bs) : k.Own B E w' m := ho.keep fun q hq => h.block q (ho.lt q hq).2.2 (hd q hq)
end
theorem kN_own2 {B : Nat} {w : World} {m : Rw ByteArray} (h : Own 9 Value.string B w m.v m.els) : kN.own B w m := ⟨ownK_single.2 h, fun _ _ => trivial⟩
theorem kN_strip (m : Rw ByteArray) : kN.strip m = m.els := by simp [kN, Kd.wrap, kNm, Kd.slice, kStr, Kd.scalar]
def okN (l : List ByteArray) : Prop := l.length ≤ 9223372036854775807 ∧ ∀ x ∈ l, x.size ≤ maxLen
def szW (n : Nat) (left : Int) : Int := if (n : Int) ≤ left then left - n else -1
section
variable {α M : Type} [Inhabited α] [Inhabited M] {k : Kd α M} {B E : Nat} {w w' : World}
def bulkKTo (f : α → Nat) (l : List α) (j : Nat) : Nat := l.length + ((l.take j).map f).sum
def bulkK (f : α → Nat) (l : List α) : Nat := bulkKTo f l l.length
theorem bulkKTo_succ (f : α → Nat) (l : List α) {j : Nat} (h : j < l.length) : bulkKTo f l (j + 1) = bulkKTo f l j + f (nth l j) := by
  unfold bulkKTo
  rw [List.take_succ_eq_append_getElem h, nth_eq h, List.map_append, List.sum_append]
  simp only [List.map_cons, List.map_nil, List.sum_cons, List.sum_nil]
  omega
theorem bulkKTo_le (f : α → Nat) (l : List α) (j : Nat) : bulkKTo f l j ≤ bulkK f l := by
  unfold bulkK bulkKTo
  have := sum_take_le (l.map f) j
  rw [List.take_length, List.map_take]; omega
theorem bulkK_len (f : α → Nat) (l : List α) : l.length ≤ bulkK f l := by unfold bulkK bulkKTo; omega
theorem bulkK_mem {f : α → Nat} {l : List α} {x : α} (h : x ∈ l) : f x ≤ bulkK f l := by
  obtain ⟨j, hj, rfl⟩ := List.getElem_of_mem h
  have h1 := bulkKTo_succ f l hj
  have h2 := bulkKTo_le f l (j + 1)
  rw [nth_eq hj] at h1
  omega
theorem bulkK_of {f : α → Nat} {l : List α} {n b : Nat} (hl : l.length ≤ n) (h : ∀ x ∈ l, f x ≤ b) : bulkK f l ≤ n + n * b := by
  have h1 : ∀ l : List α, (∀ x ∈ l, f x ≤ b) → (l.map f).sum ≤ l.length * b := fun l => by
    induction l with
    | nil => simp
    | cons a r ih =>
      intro h
      have h2 := ih fun y hy => h y (by simp [hy])
      have h3 := h a (by simp)
      simp only [List.map_cons, List.sum_cons, List.length_cons, Nat.add_mul]
      omega
  have h2 := h1 l h
  have h3 : l.length * b ≤ n * b := Nat.mul_le_mul_right b hl
  unfold bulkK bulkKTo
  rw [List.take_length]
  omega
theorem nth_map {β : Type} [Inhabited β] (f : α → β) {l : List α} {j : Nat} (h : j < l.length) : nth (l.map f) j = f (nth l j) := by
  rw [nth_eq (by simpa using h), nth_eq h]; simp
def madeK' (L : List M) (n : Nat) : List M := L ++ List.replicate (n - L.length) default
def setCells (w : World) (g : Nat) : Nat → List Value → World
  | _, [] => w
  | o, u :: us => setCells (w.setCell ⟨g, o, none⟩ u) g (o + 1) us
abbrev Cs (sz : Nat) := { l : List Value // l.length = sz }
instance (sz : Nat) : Inhabited (Cs sz) := ⟨⟨List.replicate sz (.int .i64 0), by simp⟩⟩
end
def Kd.EOwn {α M : Type} (k : Kd α M) (B E : Nat) (w : World) (L : List M) : Prop := (∀ x ∈ L, k.own B w x) ∧ (L.flatMap k.blocks).Nodup ∧ ∀ g ∈ L.flatMap k.blocks, B ≤ g ∧ g < E
section
variable {α M : Type} {k : Kd α M} {B E C : Nat} {w w' : World} {L : List M} {x : M}
theorem Kd.EOwn.nil (k : Kd α M) (B E : Nat) (w : World) : k.EOwn B E w [] := ⟨fun x hx => (by cases hx), List.nodup_nil, fun g hg => (by cases hg)⟩
theorem Kd.EOwn.keep (h : k.EOwn B E w L) (hg : ∀ g, B ≤ g → g < E → w'.heap[g]? = w.heap[g]?) : k.EOwn B E w' L :=
  ⟨fun x hx => k.own_keep (h.1 x hx) (fun g e => by have h1 := h.2.2 g (List.mem_flatMap.2 ⟨x, hx, e⟩); exact hg g h1.1 h1.2), h.2⟩
theorem Kd.EOwn.on (h : k.EOwn B E w L) (hb : Below w.heap.size w w') (hE : E ≤ w.heap.size) : k.EOwn B E w' L := h.keep fun g _ h2 => hb.block g (by omega)
theorem Kd.EOwn.grown {g0 : Nat} (h : k.EOwn B E w L) (hg : w.grownBy w' (some g0)) (h0 : g0 < B) (hE : E ≤ w.heap.size) : k.EOwn B E w' L := h.keep fun g h1 h2 => hg.block g (by omega) (fun e => by have := Option.some.inj e; omega)
theorem Kd.EOwn.slice {e : TypeId} {n cap : Nat} (h : k.EOwn (w.heap.size + 1) E w' L) (hr : OwnK e k.cells k.size w.heap.size w' (.slice (some ⟨w.heap.size, 0, none⟩) n cap) L) (hE : w.heap.size < E) : (k.slice e).Own w.heap.size E w' ⟨some ⟨w.heap.size, 0, none⟩, n, cap, L⟩ := by
  refine ⟨⟨hr, fun x hx => k.own_mono (h.1 x hx) (Nat.le_succ _)⟩, ?_, fun g hg => ?_⟩
  · show ([w.heap.size] ++ L.flatMap k.blocks).Nodup
    rw [List.nodup_append]
    exact ⟨by simp, h.2.1, fun a ha b hb e => by have h3 := (h.2.2 b hb).1; have h4 := List.mem_singleton.1 ha; omega⟩
  · rcases List.mem_append.1 (show g ∈ [w.heap.size] ++ L.flatMap k.blocks from hg) with hg | hg
    · have h4 := List.mem_singleton.1 hg; omega
    · exact (h.2.2 g hg).2
end
end Go.Proofs.Ytdaahcaafdleaaa.Row
/- A list of elements of a kind, all of the call's own, grows by an append: the row apart from what is beneath its elements by its type. For any kind. No conditions. -/
namespace Go.Proofs.Ytdaahcaafdleaaa.Row
open Go.ChangeShapes Go.WideShapes Go.ChangeAt Go.RowKit Go.Instr
set_option linter.unusedVariables false
set_option maxRecDepth 100000
section
variable {α M β N : Type} {k : Kd α M} {l : Kd β N} {e e' : TypeId} {B C E : Nat} {w w' : World} {r : Rw M} {x : M}
def Kd.NoRow (k : Kd α M) (e : TypeId) : Prop := ∀ (B : Nat) (w : World) (m : M), k.own B w m → ∀ g ∈ k.blocks m, ∀ cs, w.heap[g]? ≠ some (.cells cs e)
theorem Kd.noRow_scalar {enc : α → Value} {h1 : ∀ x, (enc x).oneCell' = true} : (Kd.scalar enc h1).NoRow e := fun B w m _ g hg => by cases hg
theorem Kd.NoRow.wrap (h : k.NoRow e) : k.wrap.NoRow e := fun B w m hm g hg => h B w m hm g hg
theorem Kd.NoRow.pair (h : k.NoRow e) (g : l.NoRow e) : (k.pair l).NoRow e := fun B w m hm q hq => by
  rcases List.mem_append.1 (show q ∈ k.blocks m.1 ++ l.blocks m.2 from hq) with hq | hq
  · exact h B w m.1 hm.1 q hq
  · exact g B w m.2 hm.2 q hq
theorem OwnK.row {enc : α → List Value} {sz : Nat} {v : Value} {L : List α} (h : OwnK e enc sz B w v L) {g : Nat} (hg : v.ownBlock = some g) : ∃ cs, w.heap[g]? = some (.cells cs e) := by
  rcases h.2 with ⟨rfl, -⟩ | ⟨g2, cap, cur, rfl, -, hh, -⟩
  · cases hg
  · have e2 : g2 = g := by simpa [Value.ownBlock] using hg
    exact ⟨cur, e2 ▸ hh⟩
theorem Kd.NoRow.slice (h : k.NoRow e) (hne : e' ≠ e) : (k.slice e').NoRow e := fun B w m hm q hq => by
  rcases List.mem_append.1 (show q ∈ m.v.ownBlock.toList ++ m.els.flatMap k.blocks from hq) with hq | hq
  · intro cs hc
    obtain ⟨cs2, h2⟩ := hm.1.row (g := q) (by simpa using hq)
    rw [h2] at hc
    injection hc with hc
    injection hc with h3 h4
    exact hne h4
  · obtain ⟨y, hy, hyq⟩ := List.mem_flatMap.1 hq
    exact h B w y (hm.2 y hy) q hyq
theorem Kd.push (hN : k.NoRow e) (h : (k.slice e).Own B C w r) (hx : k.Own B E w x) (hd : ∀ g ∈ k.blocks x, g ∉ (k.slice e).blocks r) {ad : Option Addr} {n cap : Nat}
    (ho : OwnK e k.cells k.size B w' (.slice ad n cap) (r.els ++ [x])) (hg : w.grownBy w' r.v.ownBlock) : (k.slice e).Own B w'.heap.size w' ⟨ad, n, cap, r.els ++ [x]⟩ := by
  have hnd : (r.v.ownBlock.toList ++ r.els.flatMap k.blocks).Nodup := h.2.1
  have hnd2 := List.nodup_append.1 hnd
  have hold : ∀ y ∈ r.els, k.own B w' y := fun y hy => k.own_keep (h.1.2 y hy) (fun g hgy => hg.block g (k.own_lt (h.1.2 y hy) g hgy).2 (fun er => hnd2.2.2 g (by rw [← er]; simp) g (List.mem_flatMap.2 ⟨y, hy, hgy⟩) rfl))
  have hnew : k.own B w' x := k.own_keep hx.1 (fun g hgx => hg.block g (k.own_lt hx.1 g hgx).2 (fun er => hd g hgx (List.mem_append_left _ (by rw [← er]; simp))))
  have hel : ∀ y ∈ r.els ++ [x], k.own B w' y := fun y hy => by
    rcases List.mem_append.1 hy with hy | hy
    · exact hold y hy
    · rw [List.mem_singleton.1 hy]; exact hnew
  refine ⟨⟨ho, hel⟩, ?_, fun g hgm => ?_⟩
  · show ((Rw.v ⟨ad, n, cap, r.els ++ [x]⟩).ownBlock.toList ++ (r.els ++ [x]).flatMap k.blocks).Nodup
    rw [List.nodup_append]
    refine ⟨by cases (Rw.v ⟨ad, n, cap, r.els ++ [x]⟩).ownBlock <;> simp, ?_, fun a ha b hb eab => ?_⟩
    · rw [List.flatMap_append, List.nodup_append]
      refine ⟨hnd2.2.1, by simpa using hx.2.1, fun a ha b hb eab => ?_⟩
      exact hd b (by simpa using hb) (List.mem_append_right _ (eab ▸ ha))
    · obtain ⟨y, hy, hyb⟩ := List.mem_flatMap.1 hb
      obtain ⟨cs, hc⟩ := ho.row (g := a) (show (Value.slice ad n cap).ownBlock = some a from Option.mem_toList.1 ha)
      rw [eab] at hc
      exact hN B w' y (hel y hy) b hyb cs hc
  · rcases List.mem_append.1 (show g ∈ (Rw.v ⟨ad, n, cap, r.els ++ [x]⟩).ownBlock.toList ++ (r.els ++ [x]).flatMap k.blocks from hgm) with hgm | hgm
    · exact (ho.lt g (show (Value.slice ad n cap).ownBlock = some g from Option.mem_toList.1 hgm)).2
    · obtain ⟨y, hy, hyb⟩ := List.mem_flatMap.1 hgm
      exact (k.own_lt (hel y hy) g hyb).2
theorem Kd.push_later (hN : k.NoRow e) (h : (k.slice e).Own B C w r) (hx : k.Own C E w x) (hBC : B ≤ C) {ad : Option Addr} {n cap : Nat}
    (ho : OwnK e k.cells k.size B w' (.slice ad n cap) (r.els ++ [x])) (hg : w.grownBy w' r.v.ownBlock) : (k.slice e).Own B w'.heap.size w' ⟨ad, n, cap, r.els ++ [x]⟩ :=
  Kd.push hN h (hx.mono hBC (Nat.le_refl _)) (fun g hgx hgr => by have h1 := (hx.lt g hgx).1; have h2 := (h.lt g hgr).2.1; omega) ho hg
theorem Kd.own_row (h : OwnK e k.cells k.size B w r.v []) (he : r.els = []) : (k.slice e).Own B w.heap.size w r := by
  refine ⟨⟨by rw [he]; exact h, fun y hy => (by rw [he] at hy; cases hy)⟩, ?_, fun g hg => ?_⟩
  · show (r.v.ownBlock.toList ++ r.els.flatMap k.blocks).Nodup
    rw [he]
    cases r.v.ownBlock <;> simp
  · have hg2 : g ∈ r.v.ownBlock.toList ++ r.els.flatMap k.blocks := hg
    rw [he] at hg2
    exact (h.lt g (by simpa using hg2)).2
end
end Go.Proofs.Ytdaahcaafdleaaa.Row
/- Contracts of the library's slices.Grow at the nil slice, slices.Concat, slices.Equal and slices.Clone at slices of strings. No conditions but that lengths fit. -/
namespace Go.Proofs.Ytdaahcaafdleaaa.Row
open Go.ChangeShapes Go.WideShapes Go.ChangeAt Go.RowKit Go.Instr
set_option linter.unusedVariables false
set_option maxRecDepth 100000
def GivesS (w : World) (l : List ByteArray) (e : Ending) (w' : World) : Prop := ∃ v, e = .returned v ∧ Own 9 Value.string w.heap.size w' v l ∧ Below w.heap.size w w'
theorem own_one {α : Type} [Inhabited α] (enc : α → Value) (e : TypeId) (w : World) (x : α) : Own e enc w.heap.size (w.alloc (.cells #[enc x] e)) (.slice (some ⟨w.heap.size, 0, none⟩) 1 1) [x] :=
  World.ownsRow_lit w #[enc x] 1 (Nat.le_refl _) (by unfold maxLen; omega) rfl
def cat (ls : Nat → List ByteArray) : Nat → List ByteArray
  | 0 => []
  | k + 1 => cat ls k ++ ls k
theorem libEqS_len (x y : Option Addr) (n m cx cy : Nat) (w : World) (h : (((n : Nat) : Int) != ((m : Nat) : Int)) = true) :
    Calls Try.prog 79 #[.slice x n cx, .slice y m cy] w fun e w' => e = .returned (.bool false) ∧ w = w' := by
  go_enter Try.func79, Try.ntmps79
  go_wp2
  go_ret
  exact ⟨rfl, rfl⟩
set_option maxHeartbeats 1000000 in
theorem libEqS (v u : Value) (l m : List ByteArray) (w : World) (h : Holds Value.string w v l) (g : Holds Value.string w u m) (hl : l.length ≤ 140737488351232) (hm : m.length ≤ 140737488351232) :
    Calls Try.prog 79 #[v, u] w fun e w' => e = .returned (.bool (eqB l m)) ∧ Below w.heap.size w w' := by
  obtain ⟨x, cx, rfl, hcx, hh⟩ := h.shape
  obtain ⟨y, cy, rfl, hcy, hg⟩ := g.shape
  by_cases he : l.length = m.length
  · obtain ⟨n, hn⟩ : ∃ n, n = l.length := ⟨_, rfl⟩
    rw [← he] at hg hm hcy ⊢
    rw [← hn] at hcx hh hl hg hm hcy ⊢
    have HE := Lib.hid he
    have HN := Lib.hid hn
    have HH := Lib.hid hh
    have HG := Lib.hid hg
    have htest : (((n : Nat) : Int) != ((n : Nat) : Int)) = false := by simp
    clear hn h hh g hg he
    go_enter Try.func79, Try.ntmps79
    go_wp2
    go_loopw [13] (fun i wr => ∃ k nq : Nat, k ≤ n ∧ i = .int .i64 k ∧ Hid (agree l m k) ∧ wr = w.drewN nq) (fun i _ => n - (intOf i).toNat)
    case atStart => exact ⟨0, 0, Nat.zero_le _, rfl, Lib.hid (agree_zero _ _), rfl⟩
    case round =>
      obtain ⟨k, nq, hk, rfl, ha, rfl⟩ := hrel
      by_cases hlt : k < n
      · have hlen := HN.out
        have hlen2 := HE.out
        obtain ⟨b, off, rfl, hc⟩ := HH.out.at (j := k) (by omega)
        obtain ⟨b', off', rfl, hc'⟩ := HG.out.at (j := k) (by omega)
        clear hlen hlen2
        by_cases hd : nth l k = nth m k
        · have hd2 := tl_eq hd
          have HD := Lib.hid hd; clear hd
          go_wp2_with fail
          go_quiet (fail)
          go_wp2_with fail
          go_roundw
          case rel => exact ⟨k + 1, _, by omega, by go_num, Lib.hid (agree_succ ha.out HD.out), rfl⟩
          case measure => simp [intOf]; omega
        · have hd2 := tl_ne hd
          have HD := Lib.hid (eqB_false (differ_at hd)); clear hd
          go_wp2_with fail
          go_quiet (fail)
          go_wp2_with fail
          go_ret
          exact ⟨ret_bool HD.out.symm, below_drewN (below_drewN (Below.refl _ _) _) _⟩
      · obtain rfl : k = n := by omega
        have HD := Lib.hid (eqB_true (agree_all HE.out (HN.out ▸ ha.out)))
        clear hlt
        go_wp2
        go_ret
        exact ⟨ret_bool HD.out.symm, below_drewN (Below.refl _ _) _⟩
  · have htest : (((l.length : Nat) : Int) != ((m.length : Nat) : Int)) = true := by
      rw [bne_iff_ne]; omega
    rw [eqB_false (fun e => he (by rw [e]))]
    exact (libEqS_len x y _ _ cx cy w htest).mono fun e w' ⟨h1, h2⟩ => ⟨h1, by subst h2; exact Below.refl _ _⟩
set_option maxHeartbeats 1000000 in
theorem cloneS (v : Value) (l : List ByteArray) (w : World) (h : Holds Value.string w v l) (hl : l.length ≤ 10000000) :
    Calls Try.prog 88 #[v] w (GivesS w l) := by
  obtain ⟨x, cx, rfl, hcx, hh⟩ := h.shape
  cases x with
  | none =>
    have hl0 : l = [] := by
      obtain ⟨x', cap', hv, hc', hh'⟩ := hh
      cases hv
      rcases hh' with h1 | ⟨b, off, h1, _⟩
      · exact h1
      · cases h1
    subst hl0
    have hq : ∀ w : World, (binOp .eql 25 (.slice none 0 cx) (.slice none 0 0)).run Try.prog w = .ok (.bool true) w := fun w => by
      exact Lib.run_eql_slice_nil w _ _ _ _ _ _ _ Try.underlying25
    clear hh h
    simp only [List.length_nil]
    go_enter Try.func88, Try.ntmps88
    go_wp2
    go_ret
    exact ⟨_, rfl, Own.nil _ _ _ _, Below.refl _ _⟩
  | some ad =>
    have HB := Lib.hid ((Below.refl w.heap.size w).alloc (Nat.le_refl _) (.cells #[] 9))
    have HH := Lib.hid (hh.on HB.out)
    have HO := Lib.hid (own_empty Value.string 9 w)
    have hq : ∀ w : World, (binOp .eql 25 (.slice (some ad) l.length cx) (.slice none 0 0)).run Try.prog w = .ok (.bool false) w := fun w => by
      exact Lib.run_eql_slice_nil w _ _ _ _ _ _ _ Try.underlying25
    clear hh h
    go_enter Try.func88, Try.ntmps88
    go_wp2_with (at_builtin; refine wpList_app (enc := Value.string) (B := w.heap.size) (l := []) (m := l) rfl _ _ rfl Try.underlying25 elemSTR rfl rfl rfl HO.out HH.out oneStr (by simp; omega) (by unfold maxLen; simp; omega) (by simp) ?_)
    intro v2 w2 ho hg
    have HO2 := Lib.hid ho; have HB2 := Lib.hid (HB.out.grown hg (by simp) (fun g hh => (HO.out.lt g hh).1))
    clear ho hg
    go_wp2_with fail
    go_ret
    exact ⟨_, rfl, HO2.out, HB2.out⟩
end Go.Proofs.Ytdaahcaafdleaaa.Row
/- Contracts of CompareNames and EqualNames, the program's and the reference model's, and of the library's Compare and Equal on slices of strings: parts are compared one by one, byte by byte, then the lengths. No conditions but that lengths fit. -/
namespace Go.Proofs.Ytdaahcaafdleaaa.Row
open Go.ChangeShapes Go.WideShapes Go.ChangeAt Go.RowKit Go.Instr
set_option linter.unusedVariables false
set_option maxRecDepth 100000
def cmpS (a b : ByteArray) : Int := if Op.bytesLess a.toList b.toList = true then -1 else if a.toList = b.toList then 0 else 1
def cmpL : List ByteArray → List ByteArray → Int
  | [], [] => 0
  | [], _ :: _ => -1
  | _ :: _, [] => 1
  | a :: x, b :: y => if cmpS a b = 0 then cmpL x y else cmpS a b
theorem drop_nth {α : Type} [Inhabited α] {l : List α} {k : Nat} (h : k < l.length) : l.drop k = nth l k :: l.drop (k + 1) := by
  rw [nth_eq h]; exact List.drop_eq_getElem_cons h
end Go.Proofs.Ytdaahcaafdleaaa.Row
/- Contracts of Truncate, EqualNames and HasPrefix, the program's and the reference model's. No conditions but that lengths fit. -/
namespace Go.Proofs.Ytdaahcaafdleaaa.Row
open Go.ChangeShapes Go.WideShapes Go.ChangeAt Go.RowKit Go.Instr
set_option linter.unusedVariables false
set_option maxRecDepth 100000
section
variable {α : Type} [Inhabited α] {enc : α → Value} {w : World} {x : Option Addr} {n cap : Nat} {l : List α}
theorem Holds.take (h : Holds enc w (.slice x n cap) l) {j : Nat} (hj : j ≤ l.length) : Holds enc w (.slice x j cap) (l.take j) := by
  obtain ⟨x', cap', hv, hc, hh⟩ := h
  cases hv
  have hl : (l.take j).length = j := by simp; omega
  refine ⟨x, cap, by rw [hl], by omega, ?_⟩
  rcases hh with rfl | ⟨b, off, hx, hh⟩
  · left; simp
  · refine Or.inr ⟨b, off, hx, fun i hi => ?_⟩
    rw [hl] at hi
    rw [hh i (by omega), nth_eq (by omega), nth_eq (by omega)]
    simp
theorem Holds.drop {b off : Nat} (h : Holds enc w (.slice (some ⟨b, off, none⟩) n cap) l) {j : Nat} (hj : j ≤ l.length) : Holds enc w (.slice (some ⟨b, off + j, none⟩) (n - j) (cap - j)) (l.drop j) := by
  obtain ⟨x', cap', hv, hc, hh⟩ := h
  cases hv
  have hl : (l.drop j).length = l.length - j := by simp
  refine ⟨_, cap - j, by rw [hl], by omega, ?_⟩
  rcases hh with rfl | ⟨b', off', hx, hh⟩
  · left; simp
  · cases hx
    refine Or.inr ⟨b, off + j, rfl, fun i hi => ?_⟩
    rw [hl] at hi
    rw [Nat.add_assoc, hh (j + i) (by omega), nth_eq (by omega), nth_eq (by omega)]
    simp
end
def GivesN (w : World) (l : List ByteArray) (e : Ending) (w' : World) : Prop := ∃ v, e = .returned (.agg #[v]) ∧ Own 9 Value.string w.heap.size w' v l ∧ Below w.heap.size w w'
def GivesNB (w : World) (l : List ByteArray) (b : Bool) (e : Ending) (w' : World) : Prop := ∃ v, e = .returned (.tuple #[.agg #[v], .bool b]) ∧ Own 9 Value.string w.heap.size w' v l ∧ Below w.heap.size w w'
def GivesHB (w : World) (l : List ByteArray) (b : Bool) (e : Ending) (w' : World) : Prop := ∃ v, e = .returned (.tuple #[.agg #[v], .bool b]) ∧ Holds Value.string w' v l ∧ Below w.heap.size w w'
def trI (l : List ByteArray) (k : Int) : Nat := (Num.maxI 0 (Num.minI k l.length)).toNat
def trN (l : List ByteArray) (k : Int) : List ByteArray := l.take (trI l k)
theorem aggN : Ret.AggOf Try.prog 27 1 := by unfold Ret.AggOf; exact ⟨by kernel_rfl, by kernel_rfl⟩
theorem endN {w w1 : World} {g B : Nat} {v u : Value} {l : List ByteArray} (hw : w.heap.size ≤ g) (hgB : g < B) (ho : Own 9 Value.string B w1 v l) (hc : w1.cell? ⟨g, 0, none⟩ = some u) (hb : Below w.heap.size w w1) :
    (w1.setCell ⟨g, 0, none⟩ v).cell? ⟨g, 0, none⟩ = some v ∧ Own 9 Value.string w.heap.size (w1.setCell ⟨g, 0, none⟩ v) v l ∧ Below w.heap.size w (w1.setCell ⟨g, 0, none⟩ v) :=
  ⟨Ret.set_same hc, (ho.grown (Ret.grownBy_set w1 ⟨g, 0, none⟩ v) (nb ho hgB)).mono (by omega), hb.setCell hw _⟩
end Go.Proofs.Ytdaahcaafdleaaa.Row
/- Contracts of EqualNames and HasPrefix, the program's and the reference model's. No conditions but that lengths fit. -/
namespace Go.Proofs.Ytdaahcaafdleaaa.Row
open Go.ChangeShapes Go.WideShapes Go.ChangeAt Go.RowKit Go.Instr
set_option linter.unusedVariables false
set_option maxRecDepth 100000
set_option maxHeartbeats 1000000 in
theorem implEqualNames (v u : Value) (l m : List ByteArray) (w : World) (h : Holds Value.string w v l) (g : Holds Value.string w u m) (hl : l.length ≤ 140737488351232) (hm : m.length ≤ 140737488351232) :
    Calls Try.prog 49 #[.agg #[v], .agg #[u]] w fun e w' => e = .returned (.bool (eqB l m)) ∧ Below w.heap.size w w' := by
  obtain ⟨x, cx, rfl, hcx, hh⟩ := h.shape
  obtain ⟨y, cy, rfl, hcy, hg⟩ := g.shape
  have HH := Lib.hid hh; have HG := Lib.hid hg
  clear hh h hg g
  go_enter Try.func49, Try.ntmps49
  go_wp2_with fail
  have HB := Lib.hid (((Below.refl w.heap.size w).alloc (Nat.le_refl _) (.cells #[.slice x l.length cx] 27)).alloc (Nat.le_trans (Nat.le_refl _) (by simp)) (.cells #[.slice y m.length cy] 27))
  have HA := Lib.hid (HH.out.on HB.out); have HC := Lib.hid (HG.out.on HB.out)
  refine (libEqS _ _ l m _ HA.out HC.out hl hm).mono ?_
  rintro e w' ⟨rfl, hb⟩
  have HB2 := Lib.hid (HB.out.trans (hb.mono (by simp; omega))); clear hb
  go_wp2
  go_ret
  exact ⟨rfl, HB2.out⟩
def hpB (l m : List ByteArray) : Bool := decide (m.length ≤ l.length ∧ l.take m.length = m)
end Go.Proofs.Ytdaahcaafdleaaa.Row
/- Contracts of ValidPart and ValidName, the program's and the reference model's: a part is right where its size is 1 to 8 and each byte is a small letter, a digit or a minus; a name where each part is and there are at most 6. No conditions but that lengths fit. -/
namespace Go.Proofs.Ytdaahcaafdleaaa.Row
open Go.ChangeShapes Go.WideShapes Go.ChangeAt Go.RowKit Go.Instr
set_option linter.unusedVariables false
set_option maxRecDepth 100000
def okR (r : Int) : Prop := (97 ≤ r ∧ r ≤ 122) ∨ (48 ≤ r ∧ r ≤ 57) ∨ r = 45
instance (r : Int) : Decidable (okR r) := by unfold okR; infer_instance
def okTo (s : ByteArray) (k : Nat) : Prop := ∀ j (h : j < s.size), j < k → okR ((s[j]'h).toNat : Int)
instance (s : ByteArray) (k : Nat) : Decidable (okTo s k) := by unfold okTo; infer_instance
def validP (s : ByteArray) : Bool := decide (1 ≤ s.size ∧ s.size ≤ 8 ∧ okTo s s.size)
theorem okTo_zero (s : ByteArray) : okTo s 0 := fun j h h2 => absurd h2 (by omega)
theorem okTo_succ {s : ByteArray} {k : Nat} (h : okTo s k) (hk : k < s.size) (hc : okR ((s[k]'hk).toNat : Int)) : okTo s (k + 1) := fun j h1 h2 => by
  by_cases e : j = k
  · subst e; exact hc
  · exact h j h1 (by omega)
theorem validP_true {s : ByteArray} (h1 : 1 ≤ s.size) (h2 : s.size ≤ 8) (h : okTo s s.size) : validP s = true := by simp [validP, h1, h2, h]
theorem validP_size {s : ByteArray} (h : ¬ (1 ≤ s.size ∧ s.size ≤ 8)) : validP s = false := by
  unfold validP; exact decide_eq_false (fun e => h ⟨e.1, e.2.1⟩)
theorem validP_byte {s : ByteArray} {k : Nat} (hk : k < s.size) (hc : ¬ okR ((s[k]'hk).toNat : Int)) : validP s = false := by
  unfold validP; exact decide_eq_false (fun e => hc (e.2.2 k hk hk))
theorem validP_iff {s : ByteArray} : validP s = true ↔ 1 ≤ s.size ∧ s.size ≤ 8 ∧ okTo s s.size := by unfold validP; exact decide_eq_true_iff
set_option maxHeartbeats 1000000 in
theorem specValidPart (s : ByteArray) (w : World) (hl : s.size ≤ 140737488351232) :
    Calls Try.prog 80 #[.string s] w fun e w' => e = .returned (.bool (validP s)) ∧ w = w' := by
  by_cases hsz : 1 ≤ s.size ∧ s.size ≤ 8
  · obtain ⟨hs1, hs8⟩ := hsz
    go_enter Try.func80, Try.ntmps80
    go_wp2_with fail
    refine (Num.specIn_true (by omega) (by omega) _).mono ?_
    rintro e w2 ⟨rfl, rfl⟩
    go_wp2
    go_loop [3] (fun iv => ∃ k : Nat, k ≤ s.size ∧ iv = .int .i64 k ∧ Hid (okTo s k)) (fun iv => s.size - (intOf iv).toNat)
    case atStart => exact ⟨0, by omega, rfl, Lib.hid (okTo_zero s)⟩
    case round =>
      obtain ⟨k, hk, rfl, ho⟩ := hrel
      by_cases hlt : k < s.size
      · have hb := (s[k]'hlt).toNat_lt
        have hb0 : (0 : Int) ≤ ((s[k]'hlt).toNat : Int) := by omega
        have hb1 : ((s[k]'hlt).toNat : Int) ≤ 255 := by omega
        have HOK := Lib.hid (fun hc => okTo_succ ho.out hlt hc)
        have HNO := Lib.hid (fun hc => validP_byte hlt hc)
        clear hb
        go_wp2_with fail
        by_cases h1 : 97 ≤ ((s[k]'hlt).toNat : Int) ∧ ((s[k]'hlt).toNat : Int) ≤ 122
        · refine (Num.specIn_true h1.1 h1.2 _).mono ?_
          rintro e w2 ⟨rfl, rfl⟩
          have HO2 := Lib.hid (HOK.out (by unfold okR; omega))
          clear HOK HNO h1
          go_wp2
          go_round
          case rel => exact ⟨k + 1, by omega, by go_num, HO2⟩
          case measure => simp [intOf]; omega
        · refine (Num.specIn_false h1 _).mono ?_
          rintro e w2 ⟨rfl, rfl⟩
          go_wp2_with fail
          by_cases h2 : 48 ≤ ((s[k]'hlt).toNat : Int) ∧ ((s[k]'hlt).toNat : Int) ≤ 57
          · refine (Num.specIn_true h2.1 h2.2 _).mono ?_
            rintro e w2 ⟨rfl, rfl⟩
            have HO2 := Lib.hid (HOK.out (by unfold okR; omega))
            clear HOK HNO h1 h2
            go_wp2
            go_round
            case rel => exact ⟨k + 1, by omega, by go_num, HO2⟩
            case measure => simp [intOf]; omega
          · refine (Num.specIn_false h2 _).mono ?_
            rintro e w2 ⟨rfl, rfl⟩
            by_cases h3 : (s[k]'hlt).toNat = 45
            · have h3b : (((s[k]'hlt).toNat : Int) != 45) = false := by simp [h3]
              have HO2 := Lib.hid (HOK.out (by unfold okR; omega))
              clear HOK HNO h1 h2
              go_wp2
              go_round
              case rel => exact ⟨k + 1, by omega, by go_num, HO2⟩
              case measure => simp [intOf]; omega
            · have h3b : (((s[k]'hlt).toNat : Int) != 45) = true := by simp; omega
              have HV := Lib.hid (HNO.out (by unfold okR; omega))
              clear HOK HNO h1 h2 h3
              go_wp2
              go_ret
              exact ⟨ret_bool HV.out.symm, rfl⟩
      · obtain rfl : k = s.size := by omega
        have HV := Lib.hid (validP_true hs1 hs8 ho.out)
        go_wp2
        go_ret
        exact ⟨ret_bool HV.out.symm, rfl⟩
  · have HV := Lib.hid (validP_size hsz)
    go_enter Try.func80, Try.ntmps80
    go_wp2_with fail
    refine (Num.specIn_false (by omega) _).mono ?_
    rintro e w2 ⟨rfl, rfl⟩
    go_wp2
    go_ret
    exact ⟨ret_bool HV.out.symm, rfl⟩
end Go.Proofs.Ytdaahcaafdleaaa.Row
/- Contracts of ValidName, the program's and the reference model's: a name is right where each part is and there are at most 6. No conditions but that lengths fit. -/
namespace Go.Proofs.Ytdaahcaafdleaaa.Row
open Go.ChangeShapes Go.WideShapes Go.ChangeAt Go.RowKit Go.Instr
set_option linter.unusedVariables false
set_option maxRecDepth 100000
def validN (l : List ByteArray) : Bool := decide (l.length ≤ 6 ∧ ∀ x ∈ l, validP x = true)
def allV (l : List ByteArray) (k : Nat) : Prop := ∀ j, j < k → validP (nth l j) = true
theorem allV_zero (l : List ByteArray) : allV l 0 := fun j h => absurd h (by omega)
theorem allV_succ {l : List ByteArray} {k : Nat} (h : allV l k) (hc : validP (nth l k) = true) : allV l (k + 1) := fun j h1 => by
  by_cases e : j = k
  · subst e; exact hc
  · exact h j (by omega)
theorem validN_not {l : List ByteArray} {k : Nat} (hk : k < l.length) (hc : validP (nth l k) = false) : validN l = false := by
  unfold validN
  refine decide_eq_false (fun e => ?_)
  have := e.2 (nth l k) (by rw [nth_eq hk]; exact List.getElem_mem _)
  rw [hc] at this; cases this
theorem validN_all {l : List ByteArray} (h : allV l l.length) : validN l = decide (l.length ≤ 6) := by
  have : ∀ x ∈ l, validP x = true := by
    intro x hx
    obtain ⟨j, hj, rfl⟩ := List.getElem_of_mem hx
    have := h j hj
    rwa [nth_eq hj] at this
  unfold validN
  congr 1
  exact propext ⟨fun e => e.1, fun e => ⟨e, this⟩⟩
theorem validN_iff {l : List ByteArray} : validN l = true ↔ l.length ≤ 6 ∧ ∀ x ∈ l, validP x = true := by unfold validN; exact decide_eq_true_iff
theorem size_nth {l : List ByteArray} {m : Nat} (h : bulk l ≤ m) {k : Nat} (hk : k < l.length) : (nth l k).size ≤ m := by
  have h1 := bulkTo_succ l hk
  have h2 := bulkTo_le l (k + 1)
  omega
set_option maxHeartbeats 1000000 in
theorem specValidName (v : Value) (l : List ByteArray) (w : World) (h : Holds Value.string w v l) (hl : bulk l ≤ 100000000) :
    Calls Try.prog 51 #[.agg #[v]] w fun e w' => e = .returned (.bool (validN l)) ∧ Below w.heap.size w w' := by
  obtain ⟨x, cap, rfl, hcap, hh⟩ := h.shape
  have hll := bigLen hl
  have HS := Lib.hid (fun k (hk : k < l.length) => size_nth hl hk)
  obtain ⟨n, hn⟩ : ∃ n, n = l.length := ⟨_, rfl⟩
  rw [← hn] at hcap hh hll ⊢
  have HN := Lib.hid hn
  have HH := Lib.hid hh
  have HB0 := Lib.hid ((Below.refl w.heap.size w).alloc (Nat.le_refl _) (.cells #[.slice x n cap] 27))
  have HC0 := Lib.hid (Ret.cell_at (w := w) (u := .slice x n cap) (t := 27) (n := w.heap.size) rfl)
  clear hn h hh hl
  go_enter Try.func51, Try.ntmps51
  go_wp2_with fail
  go_loopw [3] (fun i wr => ∃ k : Nat, k ≤ n ∧ i = .int .i64 k ∧ Hid (allV l k) ∧ Hid (Below w.heap.size w wr) ∧ Hid (wr.cell? ⟨w.heap.size, 0, none⟩ = some (.slice x n cap))) (fun i _ => n - (intOf i).toNat)
  case atStart => exact ⟨0, Nat.zero_le _, rfl, Lib.hid (allV_zero _), HB0, HC0⟩
  case round =>
    obtain ⟨k, hk, rfl, ha, hb, hc0⟩ := hrel
    by_cases hlt : k < n
    · have hlen := HN.out
      obtain ⟨b, off, rfl, hc⟩ := (HH.out.on hb.out).at (j := k) (by omega)
      have hsz := HS.out k (by omega)
      have hc1 := hc0.out
      clear hlen
      go_wp2_with fail
      refine (specValidPart _ _ (by omega)).mono ?_
      rintro e w2 ⟨rfl, rfl⟩
      clear hc
      by_cases hv : validP (nth l k) = true
      · rw [hv]
        have HA2 := Lib.hid (allV_succ ha.out hv)
        clear hv
        go_wp2
        go_roundw
        case rel => exact ⟨k + 1, by omega, by go_num, HA2, hb, hc0⟩
        case measure => simp [intOf]; omega
      · have hv2 : validP (nth l k) = false := by simpa using hv
        rw [hv2]
        have HV := Lib.hid (validN_not (by have := HN.out; omega) hv2)
        clear hv hv2
        go_wp2
        go_ret
        exact ⟨ret_bool HV.out.symm, hb.out⟩
    · obtain rfl : k = n := by omega
      have HV := Lib.hid (validN_all (HN.out ▸ ha.out))
      have hc0 := hc0.out
      clear hlt
      go_wp2
      go_ret
      refine ⟨ret_bool ?_, hb.out⟩
      rw [HV.out, ← HN.out]
      simp
      omega
end Go.Proofs.Ytdaahcaafdleaaa.Row
/- Contracts of AppendPart, the program's and the reference model's. No conditions but that lengths fit. -/
namespace Go.Proofs.Ytdaahcaafdleaaa.Row
open Go.ChangeShapes Go.WideShapes Go.ChangeAt Go.RowKit Go.Instr
set_option linter.unusedVariables false
set_option maxRecDepth 100000
theorem bulk_append (l m : List ByteArray) : bulk (l ++ m) = bulk l + bulk m := by
  unfold bulk bulkTo
  rw [List.take_length, List.take_length, List.take_length, List.map_append, List.sum_append, List.length_append]
  omega
theorem bulk_one (s : ByteArray) : bulk [s] = 1 + s.size := by simp [bulk, bulkTo]
theorem bulk_cons (x : ByteArray) (l : List ByteArray) : bulk (x :: l) = 1 + x.size + bulk l := by
  have := bulk_append [x] l
  rw [bulk_one] at this
  exact this
theorem bulk_nil : bulk [] = 0 := by simp [bulk, bulkTo]
theorem bulk_valid {l : List ByteArray} (h : validN l = true) : bulk l ≤ 60 := by
  obtain ⟨h1, h2⟩ := validN_iff.1 h
  have key : ∀ l : List ByteArray, (∀ x ∈ l, validP x = true) → bulk l ≤ 9 * l.length := by
    intro l
    induction l with
    | nil => intro _; rw [bulk_nil]; simp
    | cons x r ih =>
      intro hx
      have h3 := ih (fun y hy => hx y (by simp [hy]))
      have h4 := (validP_iff.1 (hx x (by simp))).2.1
      rw [bulk_cons, List.length_cons]; omega
  have := key l h2
  omega
def appN (l : List ByteArray) (s : ByteArray) : List ByteArray := if validN (l ++ [s]) = true then l ++ [s] else l
theorem appN_yes {l : List ByteArray} {s : ByteArray} (h : validN (l ++ [s]) = true) : appN l s = l ++ [s] := if_pos h
theorem appN_no {l : List ByteArray} {s : ByteArray} (h : validN (l ++ [s]) = false) : appN l s = l := if_neg (by simp [h])
theorem ret_nb {v : Value} {a b : Bool} (h : a = b) : Ending.returned (.tuple #[v, .bool a]) = .returned (.tuple #[v, .bool b]) := by rw [h]
def vs2 (a b : Value) (j : Nat) : Value := if j = 0 then a else b
def ls2 (a b : List ByteArray) (j : Nat) : List ByteArray := if j = 0 then a else b
set_option maxHeartbeats 1000000 in
theorem l4Copy (v : Value) (l : List ByteArray) (w : World) (h : Holds Value.string w v l) (hl : l.length ≤ 10000000) :
    Calls Try.prog 45 #[.agg #[v]] w (GivesN w l) := by
  obtain ⟨x, n, cap, rfl, hn, hcap, hh⟩ := h.shapeN
  rw [← hn] at hl
  have HB0 := Lib.hid ((((Below.refl w.heap.size w).alloc (Nat.le_refl _) (.cells #[.slice x n cap] 27)).alloc (by simp) (.cells #[.slice none 0 0] 27)).alloc (by simp; omega) (.cells #[] 9))
  have HN := Lib.hid hn
  have HT2 := Lib.hid (hh.on HB0.out)
  have HO := Lib.hid (own_empty Value.string 9 ((w.alloc (.cells #[.slice x n cap] 27)).alloc (.cells #[.slice none 0 0] 27)))
  simp only [World.size_alloc] at HO
  have HR := Lib.hid ((Ret.NC.new' (.slice none 0 0) 27 (w := w.alloc (.cells #[.slice x n cap] 27)) (n := w.heap.size + 1) (by simp)).alloc (.cells #[] 9))
  clear hh h hn
  go_enter Try.func45, Try.ntmps45
  go_wp2_with (at_builtin; refine wpList_app (enc := Value.string) (B := w.heap.size + 1 + 1) (l := []) (m := l) rfl _ _ rfl Try.underlying25 elemSTR rfl rfl rfl HO.out HT2.out oneStr (by rw [← HN.out]; simp; omega) (by rw [← HN.out]; unfold maxLen; simp; omega) (by simp) ?_)
  intro v3 w3 ho3 hg3
  obtain ⟨x3, n3, c3, rfl, hn3, hc3, ho3⟩ := ho3.shapeN
  clear hn3
  have HB4 := Lib.hid (HB0.out.grown hg3 (by simp; omega) (fun g hh => by have := (HO.out.lt g hh).1; omega))
  obtain ⟨hk2, hf2⟩ := HR.out.grown hg3 (by simp [Value.ownBlock])
  obtain ⟨q1, q2, q3⟩ := endN (w := w) (g := w.heap.size + 1) (by omega) (by omega) ho3 hk2 HB4.out
  have HQ1 := Lib.hid q1; have HQ2 := Lib.hid q2; have HQ3 := Lib.hid q3
  clear q1 q2 q3 ho3 hg3
  go_wp2
  refine bodyPost_ret (Ret.results_c rfl _ _ (w.heap.size + 1) [_] rfl aggN (Ret.one HQ1.out)) rfl ?_
  exact ⟨_, rfl, HQ2.out, HQ3.out⟩
set_option maxHeartbeats 2000000 in
theorem specAppendPart (v : Value) (l : List ByteArray) (s : ByteArray) (w : World) (h : Holds Value.string w v l) (hl : bulk l ≤ 10000000) (hs : s.size ≤ 10000000) :
    Calls Try.prog 73 #[.agg #[v], .string s] w (GivesNB w (appN l s) (validN (l ++ [s]))) := by
  obtain ⟨x, n, cap, rfl, hn, hcap, hh⟩ := h.shapeN
  have hll := bigLen hl
  have HBK := Lib.hid (show bulk (l ++ [s]) ≤ 100000000 by rw [bulk_append, bulk_one]; omega)
  rw [← hn] at hll
  have HB0 := Lib.hid ((((Below.refl w.heap.size w).alloc (Nat.le_refl _) (.cells #[.slice x n cap] 27)).alloc (by simp) (.cells #[.slice none 0 0] 27)).alloc (by simp; omega) (.cells #[] 9))
  have HN := Lib.hid hn
  have HT2 := Lib.hid (hh.on HB0.out)
  have HO := Lib.hid (own_empty Value.string 9 ((w.alloc (.cells #[.slice x n cap] 27)).alloc (.cells #[.slice none 0 0] 27)))
  simp only [World.size_alloc] at HO
  have HX := Lib.hid (((Ret.NC.new' (w := w) (.slice x n cap) 27 rfl).alloc (.cells #[.slice none 0 0] 27)).alloc (.cells #[] 9))
  have HR := Lib.hid ((Ret.NC.new' (.slice none 0 0) 27 (w := w.alloc (.cells #[.slice x n cap] 27)) (n := w.heap.size + 1) (by simp)).alloc (.cells #[] 9))
  have HH := Lib.hid hh
  clear hh h hn hl
  go_enter Try.func73, Try.ntmps73
  go_wp2_with (at_builtin; refine wpList_app (enc := Value.string) (B := w.heap.size + 1 + 1) (l := []) (m := l) rfl _ _ rfl Try.underlying25 elemSTR rfl rfl rfl HO.out HT2.out oneStr (by rw [← HN.out]; simp; omega) (by rw [← HN.out]; unfold maxLen; simp; omega) (by simp) ?_)
  intro v3 w3 ho3 hg3
  obtain ⟨x3, n3, c3, rfl, hn3, hc3, ho3⟩ := ho3.shapeN
  have HN3 := Lib.hid hn3
  have HB3 := Lib.hid (HB0.out.grown hg3 (by simp; omega) (fun g hh => by have := (HO.out.lt g hh).1; omega))
  have HR3 := Lib.hid (HR.out.grown hg3 (by simp [Value.ownBlock]))
  have HX3 := Lib.hid (HX.out.grown hg3 (by simp [Value.ownBlock]; omega))
  have hz3 := hg3.size
  simp only [World.size_alloc] at hz3
  have HO3 := Lib.hid (ho3.on ((Below.refl _ _).alloc (Nat.le_refl _) (.cells #[.string s] 9)))
  clear hn3 ho3 hg3
  go_wp2_with (at_builtin; refine wpList_app (enc := Value.string) (B := w.heap.size + 1 + 1) (l := l) (m := [s]) rfl _ _ rfl Try.underlying25 elemSTR rfl rfl rfl HO3.out (holds_one Value.string 9 w3 s) oneStr (by rw [← HN.out]; simp; omega) (by rw [← HN.out]; unfold maxLen; simp; omega) (by simp; omega) ?_)
  intro v4 w4 ho4 hg4
  obtain ⟨x4, n4, c4, rfl, hn4, hc4, ho4⟩ := ho4.shapeN
  clear hn4
  have HB4 := Lib.hid ((HB3.out.alloc (by omega) (.cells #[.string s] 9)).grown hg4 (by simp; omega) (fun g hh => by have := (HO3.out.lt g hh).1; omega))
  have hne : ∀ g, g ≤ w.heap.size + 1 → some g ≠ (Value.slice x3 n3 c3).ownBlock := fun g hg e => by have := (HO3.out.lt g e.symm).1; omega
  have HR4 := Lib.hid ((HR3.out.alloc (.cells #[.string s] 9)).grown hg4 (hne _ (by omega)))
  have HX4 := Lib.hid ((HX3.out.alloc (.cells #[.string s] 9)).grown hg4 (hne _ (by omega)))
  have hz4 := hg4.size
  simp only [World.size_alloc] at hz4
  have HO4 := Lib.hid (ho4.on ((Below.refl _ _).alloc (Nat.le_refl _) (.cells #[.slice x4 n4 c4] 27)))
  clear ho4 hg4 hne
  go_wp2_with fail
  refine (specValidName _ _ _ HO4.out.holds HBK.out).mono ?_
  rintro e w5 ⟨rfl, hb5⟩
  have HT5 := Lib.hid ((Ret.NC.new' (w := w4) (.slice x4 n4 c4) 27 rfl).on hb5)
  have HR5 := Lib.hid ((HR4.out.alloc (.cells #[.slice x4 n4 c4] 27)).on hb5)
  have HX5 := Lib.hid ((HX4.out.alloc (.cells #[.slice x4 n4 c4] 27)).on hb5)
  have HO5 := Lib.hid (HO4.out.on hb5)
  have HB5 := Lib.hid ((HB4.out.alloc (by omega) (.cells #[.slice x4 n4 c4] 27)).trans (hb5.mono (by simp; omega)))
  have hz5 := hb5.size
  simp only [World.size_alloc] at hz5
  clear hb5
  cases hv : validN (l ++ [s]) with
  | true =>
    have HY := Lib.hid (appN_yes hv)
    have HV := Lib.hid hv
    obtain ⟨hk6, hf6⟩ := HT5.out
    obtain ⟨hk2, hf2⟩ := HR5.out
    obtain ⟨q1, q2, q3⟩ := endN (w := w) (g := w.heap.size + 1) (by omega) (by omega) HO5.out hk2 HB5.out
    have HQ1 := Lib.hid q1; have HQ2 := Lib.hid q2; have HQ3 := Lib.hid q3
    clear q1 q2 q3
    go_wp2
    refine bodyPost_ret (Ret.results_ct rfl _ _ (w.heap.size + 1) [_] rfl aggN (Ret.one HQ1.out)) rfl ?_
    exact ⟨_, ret_nb HV.out.symm, by rw [HY.out]; exact HQ2.out, HQ3.out⟩
  | false =>
    have HY := Lib.hid (appN_no hv)
    have HV := Lib.hid hv
    have hx5 := HX5.out.1
    go_wp2_with fail
    refine (l4Copy _ l _ (HH.out.on HB5.out) (by rw [← HN.out]; exact hll)).mono ?_
    rintro e w6 ⟨v6, rfl, ho6, hb6⟩
    obtain ⟨x6, n6, c6, rfl, hn6, hc6, ho6⟩ := ho6.shapeN
    clear hn6
    have HB6 := Lib.hid (HB5.out.trans (hb6.mono HB5.out.size))
    obtain ⟨hk2, hf2⟩ := HR5.out.on hb6
    obtain ⟨q1, q2, q3⟩ := endN (w := w) (g := w.heap.size + 1) (by omega) (by omega) ho6 hk2 HB6.out
    have HQ1 := Lib.hid q1; have HQ2 := Lib.hid q2; have HQ3 := Lib.hid q3
    clear q1 q2 q3 ho6 hb6
    go_wp2
    refine bodyPost_ret (Ret.results_ct rfl _ _ (w.heap.size + 1) [_] rfl aggN (Ret.one HQ1.out)) rfl ?_
    exact ⟨_, ret_nb HV.out.symm, by rw [HY.out]; exact HQ2.out, HQ3.out⟩
end Go.Proofs.Ytdaahcaafdleaaa.Row
/- Contracts of the reference model's draws of names: what is drawn lies in memory of the call's own; all else but the cursor is as it was. -/
namespace Go.Proofs.Ytdaahcaafdleaaa.Draw
open Go.ChangeShapes Go.WideShapes Go.ChangeAt Go.RowKit Go.Instr
open Go.Proofs.Ytdaahcaafdleaaa.Row (bulk bulk_append bulk_one bulk_nil elemSTR oneStr)
open Go.Proofs.Ytdaahcaafdleaaa.Ret (NC)
set_option linter.unusedVariables false
set_option maxRecDepth 100000
theorem NC.keep {w w' : World} {g p : Nat} {u : Value} (h : NC w g u) (hk : Keep p w w') (hne : g ≠ p) : NC w' g u :=
  ⟨hk.cell h.1 hne, (World.frozen?_of_block (hk.block g h.lt hne)).trans h.2⟩
theorem rown_keep {α : Type} [Inhabited α] {enc : α → Value} {e : TypeId} {B p : Nat} {w w' : World} {x : Value} {m : List α} (h : Row.Own e enc B w x m) (hk : Keep p w w') (hp : p < B) : Row.Own e enc B w' x m := by
  refine ⟨h.1, ?_⟩
  rcases h.2 with h2 | ⟨g, cap, cur, hv, hg, hh, r⟩
  · exact Or.inl h2
  · exact Or.inr ⟨g, cap, cur, hv, hg, by rw [hk.block g (Array.getElem?_eq_some_iff.1 hh).1 (by omega)]; exact hh, r⟩
theorem NC.set_same {w : World} {g : Nat} {u : Value} (h : NC w g u) (v : Value) : NC (w.setCell ⟨g, 0, none⟩ v) g v := ⟨Ret.set_same h.1, by rw [World.frozen?_setCell]; exact h.2⟩
theorem Cur.set {w0 : World} {p : Nat} {v : Value} {l : List UInt8} {w : World} (hc : Cur w0 p v l w) {g : Nat} (hg : w0.heap.size ≤ g) (hp : g ≠ p) (u : Value) : Cur w0 p v l (w.setCell ⟨g, 0, none⟩ u) :=
  hc.grown (Ret.grownBy_set w ⟨g, 0, none⟩ u) (fun q hq => by
    have : g = q := by simpa using hq
    subst this; exact ⟨hg, hp⟩)
theorem Keep.set {p : Nat} {w w1 : World} (hk : Keep p w w1) {g : Nat} (hg : w.heap.size ≤ g) (u : Value) : Keep p w (w1.setCell ⟨g, 0, none⟩ u) :=
  hk.grown (Ret.grownBy_set w1 ⟨g, 0, none⟩ u) (fun q hq => by
    have : g = q := by simpa using hq
    subst this; exact hg)
def NameIn (B K : Nat) (x : Value) (w : World) : Prop := ∃ u m, x = .agg #[u] ∧ Row.Own 9 Value.string B w u m ∧ bulk m ≤ K
theorem bulk_appN (m : List ByteArray) (s : ByteArray) : bulk (Row.appN m s) ≤ bulk m + 1 + s.size := by
  unfold Row.appN; split
  · rw [bulk_append, bulk_one]; omega
  · omega
set_option maxRecDepth 100000 in
set_option maxHeartbeats 2000000 in
theorem l4Name (w0 : World) (p : Nat) (v : Value) (l : List UInt8) (w : World) (hc : Cur w0 p v l w) :
    Calls Try.prog 39 #[.pointer (some ⟨p, 0, none⟩)] w (DrawnW w0 p v l w (NameIn w.heap.size 100)) := by
  have hpl := hc.lt
  have hca := (hc.alloc (.cells #[.slice none 0 0] 27)).alloc (.cells #[.slice none 0 0] 27)
  have HK0 := Lib.hid ((keep_alloc p w (.cells #[.slice none 0 0] 27)).trans (keep_alloc p _ (.cells #[.slice none 0 0] 27)))
  have HR0 := Lib.hid ((NC.new' (w := w) (.slice none 0 0) 27 rfl).alloc (.cells #[.slice none 0 0] 27))
  have HX0 := Lib.hid (NC.new' (w := w.alloc (.cells #[.slice none 0 0] 27)) (.slice none 0 0) 27 (n := w.heap.size + 1) (by simp))
  have HC0 := Lib.hid hc
  have hb := below w0 p v l _ 4 hca
  have HB := Lib.hid hb
  clear hc hca hb
  go_enter Try.func39, Try.ntmps39
  go_wp2_with fail
  refine HB.out.mono ?_
  rintro e w1 ⟨y, rfl, ⟨r, rfl, hr, _⟩, hc1, hk1⟩
  have hr := hr (by omega)
  obtain ⟨r, rfl⟩ := Int.eq_ofNat_of_zero_le hr.1
  have hr4 : r < 4 := by omega
  have HC1 := Lib.hid hc1
  have HK1 := Lib.hid (HK0.out.trans hk1)
  have HR1 := Lib.hid (NC.keep HR0.out hk1 (by omega))
  have HX1 := Lib.hid (NC.keep HX0.out hk1 (by omega))
  clear hc1 hk1 hr HB
  go_wp2_with fail
  go_loopw [4] (fun iv wr => ∃ (k j : Nat) (u : Value) (m : List ByteArray), k + j ≤ 3 ∧ iv = .int .i64 k ∧ bulk m ≤ 20 * j ∧ Hid (NC wr w.heap.size (.slice none 0 0)) ∧ Hid (NC wr (w.heap.size + 1) u) ∧ Hid (Row.Own 9 Value.string (w.heap.size + 2) wr u m) ∧ Hid (Cur w0 p v l wr) ∧ Hid (Keep p w wr)) (fun iv _ => (intOf iv).toNat)
  case atStart => exact ⟨r, 0, _, [], by omega, rfl, by rw [bulk_nil]; omega, HR1, HX1, Lib.hid (Row.Own.nil _ _ _ _), HC1, HK1⟩
  case round =>
    obtain ⟨k, j, u, m, hkj, rfl, hm, hR, hX, hO, hC, hK⟩ := hrel
    obtain ⟨x, n, c, rfl, hn, hcap, ho⟩ := hO.out.shapeN
    clear hn
    have hx1 := hX.out.1
    have hx2 := hX.out.2
    by_cases hk0 : 0 < k
    · have hal : Below wr.heap.size wr (wr.alloc (.cells #[.string { data := #[97] }, .string { data := #[98] }, .string { data := #[110, 101, 119, 115] }, .string { data := #[120, 45, 49] }, .string { data := #[49] }, .string { data := #[107, 101, 121] }] 9)).drew := ((Below.refl _ _).alloc (Nat.le_refl _) _).drew
      have HCA := Lib.hid (hC.out.on hal)
      have HKA := Lib.hid (hK.out.trans (Keep.of_below (p := p) hal))
      have HRA := Lib.hid (hR.out.on hal)
      have HXA := Lib.hid (hX.out.on hal)
      have HOA := Lib.hid (ho.on hal)
      have hxA : (wr.alloc (.cells #[.string { data := #[97] }, .string { data := #[98] }, .string { data := #[110, 101, 119, 115] }, .string { data := #[120, 45, 49] }, .string { data := #[49] }, .string { data := #[107, 101, 121] }] 9)).cell? ⟨w.heap.size + 1, 0, none⟩ = some (.slice x n c) := HXA.out.1
      have hpr := hC.out.lt
      have hwp : w.heap.size ≠ p := by omega
      have hwp1 : w.heap.size + 1 ≠ p := by omega
      have hwp2 : p < w.heap.size + 2 := by omega
      have hbm : bulk m ≤ 10000000 := by omega
      clear ho hal
      go_wp2_with fail
      go_region_with (first | (go_at_call 74; refine (strAt w0 p v l (wr.alloc (.cells #[.string { data := #[97] }, .string { data := #[98] }, .string { data := #[110, 101, 119, 115] }, .string { data := #[120, 45, 49] }, .string { data := #[49] }, .string { data := #[107, 101, 121] }] 9)).drew HCA.out wr.heap.size (by omega) [{ data := #[97] }, { data := #[98] }, { data := #[110, 101, 119, 115] }, { data := #[120, 45, 49] }, { data := #[49] }, { data := #[107, 101, 121] }] 6 rfl (by decide) (by decide) 8 (by decide) (fun j h => lits_at rfl rfl j h)).mono ?_; rintro e w2 ⟨y2, rfl, ⟨t2, rfl, ht2⟩, hc2, hk2⟩; have ht2b : t2.size ≤ 10000000 := Nat.le_trans ht2 (by decide); have HC2 := Lib.hid hc2; have HK2 := Lib.hid (HKA.out.trans hk2); have HR2 := Lib.hid (NC.keep HRA.out hk2 hwp); have HX2 := Lib.hid (NC.keep HXA.out hk2 hwp1); have hxc2 := HX2.out.1; have HO2 := Lib.hid (rown_keep HOA.out hk2 hwp2); clear hc2 hk2) | (go_at_call 73; refine (Row.specAppendPart (.slice x n c) m t2 w2 HO2.out.holds hbm ht2b).mono ?_; rintro e w3 ⟨v3, rfl, ho3, hb3⟩; obtain ⟨x3, n3, c3, rfl, -, -, ho3⟩ := ho3.shapeN; have HC3 := Lib.hid (HC2.out.on hb3); have HK3 := Lib.hid (HK2.out.trans (Keep.of_below hb3)); have HR3 := Lib.hid (HR2.out.on hb3); have HX3 := Lib.hid (HX2.out.on hb3); have HO3 := Lib.hid ho3; have hx3 := HX3.out.1; have hx4 := HX3.out.2; clear ho3 hb3))
      all_goals
        have hlt2 := HX2.out.lt
        have hov := (HO3.out.mono (B' := w.heap.size + 2) (by omega)).grown (Ret.grownBy_set w3 ⟨w.heap.size + 1, 0, none⟩ (.slice x3 n3 c3)) (Row.nb (HO3.out.mono (B' := w.heap.size + 2) (by omega)) (b := w.heap.size + 1) (by omega))
        have HO4 := Lib.hid hov
        have HC4 := Lib.hid (HC3.out.set (g := w.heap.size + 1) (by have := HC0.out.below.size; omega) (by omega) (.slice x3 n3 c3))
        have HK4 := Lib.hid (HK3.out.set (g := w.heap.size + 1) (by omega) (.slice x3 n3 c3))
        have HR4 := Lib.hid (HR3.out.other (a := ⟨w.heap.size + 1, 0, none⟩) (by show w.heap.size + 1 ≠ w.heap.size; omega) (.slice x3 n3 c3))
        have HX4 := Lib.hid (NC.set_same HX3.out (.slice x3 n3 c3))
        have hbk := bulk_appN m t2
        clear hov hlt2
        go_wp2_with fail
        go_roundw
        case rel => exact ⟨k - 1, j + 1, _, _, by omega, by first | go_num | (congr 1; omega), by omega, HR4, HX4, HO4, HC4, HK4⟩
        case measure => simp only [intOf]; omega
    · obtain rfl : k = 0 := by omega
      obtain ⟨hk2, hf2⟩ := hR.out
      obtain ⟨q1, q2, q3⟩ : (wr.setCell ⟨w.heap.size, 0, none⟩ (.slice x n c)).cell? ⟨w.heap.size, 0, none⟩ = some (.slice x n c) ∧ Row.Own 9 Value.string w.heap.size (wr.setCell ⟨w.heap.size, 0, none⟩ (.slice x n c)) (.slice x n c) m ∧ (Cur w0 p v l (wr.setCell ⟨w.heap.size, 0, none⟩ (.slice x n c)) ∧ Keep p w (wr.setCell ⟨w.heap.size, 0, none⟩ (.slice x n c))) :=
        ⟨Ret.set_same hk2, (ho.grown (Ret.grownBy_set wr ⟨w.heap.size, 0, none⟩ (.slice x n c)) (Row.nb ho (b := w.heap.size) (by omega))).mono (by omega), hC.out.set HC0.out.below.size (by omega) _, hK.out.set (Nat.le_refl _) _⟩
      have HQ1 := Lib.hid q1; have HQ2 := Lib.hid q2; have HQ3 := Lib.hid q3
      clear q1 q2 q3 ho
      go_wp2
      refine bodyPost_ret (Ret.results_c rfl _ _ w.heap.size [_] rfl Row.aggN (Ret.one HQ1.out)) rfl ?_
      exact ⟨_, rfl, ⟨_, m, rfl, HQ2.out, by omega⟩, HQ3.out.1, HQ3.out.2⟩
end Go.Proofs.Ytdaahcaafdleaaa.Draw
/- Contracts of the reference model's draws of names that may be wrong: what is drawn lies in memory of the call's own; all else but the cursor is as it was. -/
namespace Go.Proofs.Ytdaahcaafdleaaa.Draw
open Go.ChangeShapes Go.WideShapes Go.ChangeAt Go.RowKit Go.Instr
open Go.Proofs.Ytdaahcaafdleaaa.Row (bulk bulk_append bulk_one bulk_nil elemSTR oneStr)
open Go.Proofs.Ytdaahcaafdleaaa.Ret (NC)
set_option linter.unusedVariables false
set_option maxRecDepth 100000
def lenAt (w : World) (g : Nat) : Nat := match w.cell? ⟨g, 0, none⟩ with
  | some (.slice _ n _) => n
  | _ => 0
theorem box_keep {w w' : World} {g p : Nat} {u : Value} {t : TypeId} (h : Ret.Box w g u t) (hk : Keep p w w') (hne : g ≠ p) : Ret.Box w' g u t := (hk.block g h.lt hne).trans h
end Go.Proofs.Ytdaahcaafdleaaa.Draw
