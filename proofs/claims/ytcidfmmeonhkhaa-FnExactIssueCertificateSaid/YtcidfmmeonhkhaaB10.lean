/- Contracts and mathematics, joined: RingLaw, RingMark, RingOpen, Part. No conditions but those that each states. -/
import Derived.Test.YtcidfmmeonhkhaaB9
import Derived.Test.YtcidfmmeonhkhaaB2
import Derived.Deep.Slices
import Derived.Deep.Strs
import Derived.ChangeSame
import Derived.ChangeArms
import Derived.Test.YtcidfmmeonhkhaaB1
import Derived.Laws.RangeAny
/- Contracts of the helpers by which the laws measure, copy, compare, mark and look at lists of keys. No conditions but that lengths fit. -/
namespace Go.Proofs.Ytcidfmmeonhkhaa.Row.Ring
open Go.ChangeShapes Go.WideShapes Go.ChangeAt Go.RowKit Go.Instr
set_option linter.unusedVariables false
set_option maxRecDepth 100000

/-- Length and sizes of a table together, up to place k. -/
def bulkTTo (l : List (List ByteArray × Int)) (k : Nat) : Nat := l.length + ((l.take k).map (fun x => bulk x.1)).sum
def bulkT (l : List (List ByteArray × Int)) : Nat := bulkTTo l l.length
theorem bulkTTo_zero (l : List (List ByteArray × Int)) : bulkTTo l 0 = l.length := by simp [bulkTTo]
theorem bulkTTo_succ (l : List (List ByteArray × Int)) {k : Nat} (h : k < l.length) : bulkTTo l (k + 1) = bulkTTo l k + bulk (nth l k).1 := by
  unfold bulkTTo
  rw [List.take_succ_eq_append_getElem h, nth_eq h, List.map_append, List.sum_append]
  simp only [List.map_cons, List.map_nil, List.sum_cons, List.sum_nil]
  omega
theorem bulkTTo_le (l : List (List ByteArray × Int)) (k : Nat) : bulkTTo l k ≤ bulkT l := by
  unfold bulkT bulkTTo
  have := sum_take_le (l.map (fun x => bulk x.1)) k
  rw [List.take_length, List.map_take]; omega
theorem bulkT_len (l : List (List ByteArray × Int)) : l.length ≤ bulkT l := by unfold bulkT bulkTTo; omega
theorem bulkT_mem {l : List (List ByteArray × Int)} {x : List ByteArray × Int} (h : x ∈ l) : bulk x.1 ≤ bulkT l := by
  obtain ⟨k, hk, rfl⟩ := List.getElem_of_mem h
  have h1 := bulkTTo_succ l hk
  have h2 := bulkTTo_le l (k + 1)
  rw [nth_eq hk] at h1
  omega
def szLT (l : List (List ByteArray × Int)) (left : Int) : Int := if (bulkT l : Int) ≤ left then left - bulkT l else -1
theorem szLT_fit {l : List (List ByteArray × Int)} {left : Int} (h : (bulkT l : Int) ≤ left) : szLT l left = left - bulkT l := if_pos h
theorem szLT_not {l : List (List ByteArray × Int)} {left : Int} (h : left < (bulkT l : Int)) : szLT l left = -1 := if_neg (by omega)

set_option maxHeartbeats 4000000 in
theorem szKey (v : Value) (l : List ByteArray) (val : Int) (w : World) (left : Int) (h : Holds Value.string w v l) (hl : l.length ≤ 9223372036854775807) (hs : ∀ x ∈ l, x.size ≤ maxLen) (h0 : 0 ≤ left) (h1 : left ≤ 1048576) :
    Calls Try.prog 52 #[.agg #[v, .int .i64 val], .int .i64 left] w fun e w' => e = .returned (.int .i64 (szL l left)) ∧ Below w.heap.size w w' := by
  obtain ⟨x, n, cap, rfl, hn, hcap, hh⟩ := h.shapeN
  have HB := Lib.hid ((Below.refl w.heap.size w).alloc (Nat.le_refl _) (.cells #[.slice x n cap, .int .i64 val] 83))
  have HA := Lib.hid (hh.on HB.out); have HS := Lib.hid hs
  clear hh h hs hn
  go_enter Try.func52, Try.ntmps52
  go_wp2_with fail
  refine (szName _ l _ left HA.out hl HS.out h0 h1).mono ?_
  rintro e w' ⟨rfl, hb⟩
  have HB2 := Lib.hid (HB.out.trans (hb.mono HB.out.size)); clear hb
  by_cases hb : (bulk l : Int) ≤ left
  · rw [szL_fit hb]
    have h2 : ¬ left - (bulk l : Int) < 0 := by omega
    go_wp2
    go_ret
    exact ⟨ret_int (szL_fit hb).symm, HB2.out⟩
  · have hz := szL_not (l := l) (left := left) (by omega)
    rw [hz]
    have HZ := Lib.hid hz; clear hz
    go_wp2
    go_ret
    exact ⟨ret_int HZ.out.symm, HB2.out⟩

set_option maxHeartbeats 4000000 in
theorem szKeyS (v : Value) (T : List (List ByteArray × Int)) (w : World) (left : Int) (h : TabHolds w v T) (hl : T.length ≤ 9223372036854775807) (hs : ∀ t ∈ T, t.1.length ≤ 9223372036854775807 ∧ ∀ x ∈ t.1, x.size ≤ maxLen) (h0 : 0 ≤ left) (h1 : left ≤ 1048576) :
    Calls Try.prog 13 #[v, .int .i64 left] w fun e w' => e = .returned (.int .i64 (szLT T left)) ∧ Below w.heap.size w w' := by
  obtain ⟨L, hT, h⟩ := h
  obtain ⟨x, n, cap, rfl, hn, hcap, hh⟩ := h.shapeN
  have hle := bulkTTo_le T
  have hb0 := bulkTTo_zero T
  have hlen : T.length = n := by rw [← hT, strip_length]; exact hn.symm
  rw [hlen] at hl hb0
  by_cases hbig : left < (n : Int)
  · have hS : szLT T left = -1 := szLT_not (by have := bulkT_len T; omega)
    rw [hS]
    clear hh h hs hle hn hb0 hS hT hlen
    go_enter Try.func13, Try.ntmps13
    go_wp2
    go_ret
    exact ⟨rfl, Below.refl _ _⟩
  have HN := Lib.hid hn
  have HT := Lib.hid hT
  have HH := Lib.hid hh
  have HS := Lib.hid hs
  have HLE := Lib.hid hle
  have HB0 := Lib.hid hb0
  have HLEN := Lib.hid hlen
  clear hn h hh hs hle hb0 hT hlen
  go_enter Try.func13, Try.ntmps13
  go_wp2
  go_loopw [1, 5] (fun lv i wr => ∃ k : Nat, k ≤ n ∧ i = .int .i64 k ∧ ∃ u : Int, lv = .int .i64 u ∧ u = left - bulkTTo T k ∧ 0 ≤ u ∧ Hid (Below w.heap.size w wr)) (fun _ i _ => n - (intOf i).toNat)
  case atStart => exact ⟨0, Nat.zero_le _, rfl, _, rfl, by rw [HB0.out], by omega, Lib.hid (Below.refl _ _)⟩
  case round =>
    obtain ⟨k, hk, rfl, u, rfl, hu, h0u, hb⟩ := hrel
    have hub : u ≤ left := by omega
    have HU := Lib.hid hu
    clear hu
    by_cases hlt : k < n
    · have hlen := HN.out
      obtain ⟨b, off, rfl, hc1, hc2, hnm⟩ := (HH.out.on hb.out).at (k := k) (by omega)
      have hpt : (nth T k).1 = (nth L k).ps := by rw [← HT.out, strip_nth (by omega)]; rfl
      have hsz := HS.out (nth T k) (nth_mem (by have := HLEN.out; omega))
      rw [hpt] at hsz
      have HNM := Lib.hid hnm
      have HSZ := Lib.hid hsz
      have hstep := Lib.hid (bulkTTo_succ T (k := k) (by have := HLEN.out; omega))
      rw [hpt] at hstep
      have hall := HLE.out (k + 1)
      have HALL := Lib.hid hall
      clear hlen hall hsz hpt hnm
      go_wp2_with fail
      refine (szKey _ (nth L k).ps _ wr u HNM.out HSZ.out.1 HSZ.out.2 h0u (by omega)).mono ?_
      rintro e w1 ⟨rfl, hb1⟩
      have HB1 := Lib.hid (hb.out.trans (hb1.mono hb.out.size))
      clear hb1 hc1 hc2
      by_cases c1 : (bulk (nth L k).ps : Int) ≤ u
      · rw [szL_fit c1]
        have h2 : ¬ u - (bulk (nth L k).ps : Int) < 0 := by omega
        go_wp2
        go_roundw
        case rel => exact ⟨k + 1, by omega, by go_num, _, rfl, by rw [hstep.out, HU.out]; omega, by omega, HB1⟩
        case measure => simp [intOf]; omega
      · rw [szL_not (by omega)]
        have HZ : Hid (szLT T left = -1) := by
          have e1 := HALL.out; have e2 := HU.out; have e3 := hstep.out
          exact szLT_not (by omega)
        clear c1
        go_wp2
        go_ret
        exact ⟨ret_int HZ.out.symm, HB1.out⟩
    · obtain rfl : k = n := by omega
      clear hlt
      go_wp2
      go_ret
      refine ⟨ret_int ?_, hb.out⟩
      have := HU.out
      rw [← HLEN.out] at this
      rw [szLT_fit (by unfold bulkT; omega)]
      exact this

set_option maxHeartbeats 4000000 in
theorem toKey (v : Value) (l : List ByteArray) (val : Int) (w : World) (h : Holds Value.string w v l) (hl : l.length ≤ 100000000) :
    Calls Try.prog 57 #[.agg #[v, .int .i64 val]] w fun e w' => ∃ v', e = .returned (.agg #[v', .int .i64 val]) ∧ Own 9 Value.string w.heap.size w' v' l ∧ Below w.heap.size w w' := by
  obtain ⟨x, n, cap, rfl, hn, hcap, hh⟩ := h.shapeN
  have HB := Lib.hid ((((Below.refl w.heap.size w).alloc (Nat.le_refl _) (.cells #[.slice x n cap, .int .i64 val] 83)).alloc (by simp) (.cells #[.slice none 0 0, .int .i64 0] 89)).alloc (by simp; omega) (.cells #[.slice none 0 0, .int .i64 0] 89))
  have HA := Lib.hid (hh.on HB.out)
  clear hh h hn
  go_enter Try.func57, Try.ntmps57
  go_wp2_with fail
  refine (toName _ l _ HA.out hl).mono ?_
  rintro e w1 ⟨v1, rfl, ho, hb⟩
  obtain ⟨x1, n1, c1, rfl, -, hc1, ho1⟩ := ho.shapeN
  have HO := Lib.hid ho1
  have HB1 := Lib.hid hb
  clear ho ho1 hb
  have hq0 : w1.cell? ⟨w.heap.size, 1, none⟩ = some (.int .i64 val) := by rw [HB1.out.cell (by simp <;> omega), World.cell?_alloc_past _ _ _ (by simp <;> omega), World.cell?_alloc_past _ _ _ (by simp <;> omega), World.cell?_alloc_at _ _ _ _ rfl]; rfl
  have hk0 : w1.cell? ⟨w.heap.size + 1, 0, none⟩ = some (.slice none 0 0) := by rw [HB1.out.cell (by simp), World.cell?_alloc_past _ _ _ (by simp), World.cell?_alloc_at _ _ _ _ (by simp)]; rfl
  have hk1 : w1.cell? ⟨w.heap.size + 1, 1, none⟩ = some (.int .i64 0) := by rw [HB1.out.cell (by simp), World.cell?_alloc_past _ _ _ (by simp), World.cell?_alloc_at _ _ _ _ (by simp)]; rfl
  have hm0 : w1.cell? ⟨w.heap.size + 1 + 1, 0, none⟩ = some (.slice none 0 0) := by rw [HB1.out.cell (by simp), World.cell?_alloc_at _ _ _ _ (by simp)]; rfl
  have hm1 : w1.cell? ⟨w.heap.size + 1 + 1, 1, none⟩ = some (.int .i64 0) := by rw [HB1.out.cell (by simp), World.cell?_alloc_at _ _ _ _ (by simp)]; rfl
  have hf0 : w1.frozen? ⟨w.heap.size + 1, 0, none⟩ = false := by rw [HB1.out.frozen (by simp), World.frozen?_alloc_past _ _ _ (by simp), World.frozen?_alloc_at _ _ _ _ (by simp)]
  have hf1 : w1.frozen? ⟨w.heap.size + 1, 1, none⟩ = false := by rw [HB1.out.frozen (by simp), World.frozen?_alloc_past _ _ _ (by simp), World.frozen?_alloc_at _ _ _ _ (by simp)]
  have hg0 : w1.frozen? ⟨w.heap.size + 1 + 1, 0, none⟩ = false := by rw [HB1.out.frozen (by simp), World.frozen?_alloc_at _ _ _ _ (by simp)]
  have hg1 : w1.frozen? ⟨w.heap.size + 1 + 1, 1, none⟩ = false := by rw [HB1.out.frozen (by simp), World.frozen?_alloc_at _ _ _ _ (by simp)]
  go_wp2
  have hk4 := Ret.set_same (v := .int .i64 val) (a := ⟨w.heap.size + 1, 1, none⟩) (w := ((w1.setCell ⟨w.heap.size + 1 + 1, 0, none⟩ (.slice x1 n1 c1)).setCell ⟨w.heap.size + 1 + 1, 1, none⟩ (.int .i64 val)).setCell ⟨w.heap.size + 1, 0, none⟩ (.slice x1 n1 c1)) (u := .int .i64 0) (by rw [World.cell?_setCell_other _ _ _ _ (by simp), World.cell?_setCell_other _ _ _ _ (by simp), World.cell?_setCell_other _ _ _ _ (by simp)]; exact hk1)
  have hk3 := Ret.set_same (v := .slice x1 n1 c1) (a := ⟨w.heap.size + 1, 0, none⟩) (w := (w1.setCell ⟨w.heap.size + 1 + 1, 0, none⟩ (.slice x1 n1 c1)).setCell ⟨w.heap.size + 1 + 1, 1, none⟩ (.int .i64 val)) (u := .slice none 0 0) (by rw [World.cell?_setCell_other _ _ _ _ (by simp), World.cell?_setCell_other _ _ _ _ (by simp)]; exact hk0)
  refine bodyPost_ret (Ret.results_c rfl _ _ (w.heap.size + 1) [.slice x1 n1 c1, .int .i64 val] rfl (by unfold Ret.AggOf; exact ⟨by kernel_rfl, by kernel_rfl⟩) (Ret.two (by rw [World.cell?_setCell_other _ _ _ _ (by simp)]; exact hk3) hk4)) rfl ?_
  have hs := HB1.out.size
  simp at hs
  have hO2 := (((HO.out.grown (Ret.grownBy_set w1 ⟨w.heap.size + 1 + 1, 0, none⟩ (.slice x1 n1 c1)) (nb HO.out (by simp))).grown (Ret.grownBy_set _ ⟨w.heap.size + 1 + 1, 1, none⟩ (.int .i64 val)) (nb HO.out (by simp))).grown (Ret.grownBy_set _ ⟨w.heap.size + 1, 0, none⟩ (.slice x1 n1 c1)) (nb HO.out (by simp))).grown (Ret.grownBy_set _ ⟨w.heap.size + 1, 1, none⟩ (.int .i64 val)) (nb HO.out (by simp))
  exact ⟨_, rfl, hO2.mono (by simp; omega), ((((HB.out.trans (HB1.out.mono (by simp; omega))).setCell (by simp; omega) _).setCell (by simp; omega) _).setCell (by simp) _).setCell (by simp) _⟩

/-! ### a table's copy -/
theorem pairwise_set {α : Type} {R : α → α → Prop} {x : α} : ∀ {L : List α} (k : Nat), L.Pairwise R → (∀ y ∈ L, R y x ∧ R x y) → (L.set k x).Pairwise R
  | [], _, _, _ => by simp
  | a :: r, 0, h, g => by
    rw [List.set_cons_zero, List.pairwise_cons]
    rw [List.pairwise_cons] at h
    exact ⟨fun y hy => (g y (by simp [hy])).2, h.2⟩
  | a :: r, k + 1, h, g => by
    rw [List.set_cons_succ, List.pairwise_cons]
    rw [List.pairwise_cons] at h
    refine ⟨fun y hy => ?_, pairwise_set k h.2 (fun y hy => g y (by simp [hy]))⟩
    rcases List.mem_or_eq_of_mem_set hy with hy | hy
    · exact h.1 y hy
    · rw [hy]; exact (g a (by simp)).1
theorem ent_store {B : Nat} {w : World} {g n cap : Nat} {L : List Ent} (h : OwnK 89 encE 2 B w (.slice (some ⟨g, 0, none⟩) n cap) L) (hn : n = L.length) {k : Nat} (hk : k < L.length) (x : Ent) :
    OwnK 89 encE 2 B ((w.setCell ⟨g, k * 2, none⟩ x.v).setCell ⟨g, k * 2 + 1, none⟩ (.int .i64 x.val)) (.slice (some ⟨g, 0, none⟩) n cap) (L.set k x) ∧ w.grownBy ((w.setCell ⟨g, k * 2, none⟩ x.v).setCell ⟨g, k * 2 + 1, none⟩ (.int .i64 x.val)) (some g) := by
  obtain ⟨a1, a2⟩ := ownK_store szE h hn hk (i := 0) (by decide) (y := ⟨x.ad, x.n, x.cap, x.ps, (nth L k).val⟩) (u := x.v) rfl
  obtain ⟨b1, b2⟩ := ownK_store szE a1 (by simpa using hn) (j := k) (by simpa using hk) (i := 1) (by decide) (y := x) (u := .int .i64 x.val) (by rw [nth_set hk]; rfl)
  rw [List.set_set] at b1
  exact ⟨b1, Go.World.grownBy.trans a2 b2⟩
/-- An entry of its own is stored. -/
theorem TabO.put {B : Nat} {w : World} {g n cap : Nat} {L : List Ent} (h : TabO B w (.slice (some ⟨g, 0, none⟩) n cap) L) (hn : n = L.length) {k : Nat} (hk : k < L.length) {x : Ent} (hx : Own 9 Value.string B w x.v x.ps) (hap : ∀ y ∈ L, Apart y.v x.v) :
    TabO B ((w.setCell ⟨g, k * 2, none⟩ x.v).setCell ⟨g, k * 2 + 1, none⟩ (.int .i64 x.val)) (.slice (some ⟨g, 0, none⟩) n cap) (L.set k x) ∧ w.grownBy ((w.setCell ⟨g, k * 2, none⟩ x.v).setCell ⟨g, k * 2 + 1, none⟩ (.int .i64 x.val)) (some g) := by
  obtain ⟨a1, a2⟩ := ent_store h.1 hn hk x
  refine ⟨⟨a1, fun y hy => ?_, pairwise_set k h.2.2 (fun y hy => ⟨hap y hy, (hap y hy).symm⟩)⟩, a2⟩
  rcases List.mem_or_eq_of_mem_set hy with hy | hy
  · exact h.names a2 y hy
  · rw [hy]; exact hx.grown a2 (apart_or (name_row hx h.1))
/-- The list behind j stores of a copy: j entries made, the others empty. -/
def madeTo (M : List Ent) (n : Nat) : List Ent := M ++ List.replicate (n - M.length) default
theorem madeTo_length {M : List Ent} {n : Nat} (h : M.length ≤ n) : (madeTo M n).length = n := by simp [madeTo]; omega
theorem madeTo_step {M : List Ent} {n : Nat} (h : M.length < n) (x : Ent) : (madeTo M n).set M.length x = madeTo (M ++ [x]) n := by
  unfold madeTo
  rw [List.set_append_right _ _ (Nat.le_refl _), Nat.sub_self, show n - M.length = (n - (M ++ [x]).length) + 1 by simp; omega, List.replicate_succ, List.set_cons_zero, List.append_assoc]
  rfl
theorem madeTo_all {M : List Ent} {n : Nat} (h : M.length = n) : madeTo M n = M := by simp [madeTo, h]

set_option maxHeartbeats 2000000 in
theorem toKeyS (v : Value) (T : List (List ByteArray × Int)) (w : World) (h : TabHolds w v T) (hl : T.length ≤ 100000000) (hs : ∀ t ∈ T, t.1.length ≤ 100000000) :
    Calls Try.prog 16 #[v] w fun e w' => ∃ v', e = .returned v' ∧ TabOwn w.heap.size w' v' T ∧ Below w.heap.size w w' := by
  obtain ⟨L, rfl, h⟩ := h
  obtain ⟨x, n, cap, rfl, hn, hcap, hh⟩ := h.shapeN
  obtain ⟨i0, hi, hz0, hz1, hz2⟩ := info_parts kindE.elem
  rw [strip_length, ← hn] at hl
  have HN := Lib.hid hn
  have HH := Lib.hid hh
  have HS := Lib.hid hs
  have HI := Lib.hid hi; have HZ0 := Lib.hid hz0; have HZ1 := Lib.hid hz1; have HZ2 := Lib.hid hz2
  clear hn h hh hi hz0 hz1 hz2 hs
  go_enter Try.func16, Try.ntmps16
  go_wp2_with (at_make; refine wpList_make_full _ rfl _ _ 30 rfl w.heap.size 89 i0 (.agg #[.slice none 0 0, .int .i64 0]) 2 Try.underlying30 HI.out HZ0.out HZ1.out _ _ _ _ n rfl rfl rfl rfl (by rw [HZ2.out]; omega) (by unfold maxLen; omega) (Nat.le_refl _) ?_)
  intro w1 hown hgrow
  have ho : TabO w.heap.size w1 (.slice (some ⟨w.heap.size, 0, none⟩) n n) (madeTo [] n) := by
    have e1 : madeTo [] n = List.replicate n default := by simp [madeTo]
    rw [e1]
    refine ⟨?_, ?_, ?_⟩
    · unfold OwnK
      rw [List.length_replicate, ← madeK szE (by decide) (z := .agg #[.slice none 0 0, .int .i64 0]) rfl n]
      exact hown
    · intro y hy
      rw [List.eq_of_mem_replicate hy]
      exact Own.nil _ _ _ _
    · rw [List.pairwise_replicate]
      exact Or.inr (fun g h1 => by cases h1)
  have HO := Lib.hid ho
  have HB := Lib.hid ((Below.refl w.heap.size w).grown hgrow (Nat.le_refl _) (fun g hg => by cases hg))
  clear ho hown hgrow
  go_wp2
  go_loopw [4] (fun i wr => ∃ j : Nat, j ≤ n ∧ i = .int .i64 j ∧ ∃ M : List Ent, Hid (M.length = j) ∧ Hid (strip M = (strip L).take j) ∧ Hid (TabO w.heap.size wr (.slice (some ⟨w.heap.size, 0, none⟩) n n) (madeTo M n)) ∧ Hid (Below w.heap.size w wr)) (fun i _ => n - (intOf i).toNat)
  case atStart => exact ⟨0, Nat.zero_le _, rfl, [], Lib.hid rfl, Lib.hid (by simp [strip]), HO, HB⟩
  case round =>
    obtain ⟨j, hj, rfl, M, hM, hst, ho, hb⟩ := hrel
    by_cases hlt : j < n
    · have hlen := HN.out
      obtain ⟨b, off, rfl, hc1, hc2, hnm⟩ := (HH.out.on hb.out).at (k := j) (by omega)
      have HNM := Lib.hid hnm
      have HPS := Lib.hid (HS.out _ (strip_mem (nth_mem (L := L) (k := j) (by omega))))
      have HST := Lib.hid (show (strip L).take (j + 1) = (strip L).take j ++ [(nth L j).t] by rw [List.take_succ_eq_append_getElem (by rw [strip_length]; omega), ← nth_eq, strip_nth (by omega)])
      clear hlen hnm
      go_wp2_with fail
      refine (toKey _ (nth L j).ps _ wr HNM.out HPS.out).mono ?_
      rintro e w1 ⟨v1, rfl, ho1, hb1⟩
      obtain ⟨x1, n1, c1, rfl, -, hc1', ho1⟩ := ho1.shapeN
      have HO1 := Lib.hid (ho.out.on hb1)
      have HA := Lib.hid (ho.out.fresh (fun g hg => (ho1.lt g hg).1))
      have HX := Lib.hid (ho1.mono hb.out.size)
      have HB1 := Lib.hid (hb.out.trans (hb1.mono hb.out.size))
      have hml : n = (madeTo M n).length := (madeTo_length (by have := hM.out; omega)).symm
      have hmj : j < (madeTo M n).length := by omega
      obtain ⟨⟨k1, k2⟩, ⟨k3, k4⟩, -⟩ := HO1.out.cells hml hmj
      obtain ⟨p1, p2⟩ := HO1.out.put hml hmj (x := ⟨x1, n1, c1, (nth L j).ps, (nth L j).val⟩) HX.out HA.out
      have HP1 := Lib.hid p1
      have HP2 := Lib.hid p2
      clear hc1 hc2 ho1 hb1 hml hmj p1 p2
      go_wp2
      go_roundw
      case rel =>
        refine ⟨j + 1, by omega, by go_num, M ++ [⟨x1, n1, c1, (nth L j).ps, (nth L j).val⟩], Lib.hid (by simp [hM.out]), Lib.hid ?_, Lib.hid ?_, Lib.hid (HB1.out.grown HP2.out HB1.out.size (fun g hg => by cases hg; exact Nat.le_refl _))⟩
        · rw [strip_append, hst.out, HST.out]; rfl
        · rw [← madeTo_step (by have := hM.out; omega), hM.out]; exact HP1.out
      case measure => simp [intOf]; omega
    · obtain rfl : j = n := by omega
      clear hlt
      go_wp2
      go_ret
      refine ⟨_, rfl, ⟨M, ?_, ?_⟩, hb.out⟩
      · rw [hst.out, List.take_of_length_le (by rw [strip_length, ← HN.out]; omega)]
      · have := ho.out
        rw [madeTo_all hM.out] at this
        exact this

/-- All names have parts few and small enough for the contracts. -/
def smT (T : List (List ByteArray × Int)) : Prop := ∀ t ∈ T, bulk t.1 ≤ 9000000
theorem smT_of {T : List (List ByteArray × Int)} (h : bulkT T ≤ 9000000) : smT T := fun t ht => Nat.le_trans (bulkT_mem ht) h
theorem smT_ps {L : List Ent} (h : smT (strip L)) {k : Nat} (hk : k < L.length) : bulk (nth L k).ps ≤ 9000000 := h _ (strip_mem (nth_mem hk))
theorem smT_psl {L : List Ent} (h : smT (strip L)) {k : Nat} (hk : k < L.length) : (nth L k).ps.length ≤ 9000000 := Nat.le_trans (bulk_len _) (smT_ps h hk)
def eqT (l m : List (List ByteArray × Int)) : Bool := decide (l = m)
theorem eqT_self (l : List (List ByteArray × Int)) : eqT l l = true := by simp [eqT]
theorem eqT_true {l m : List (List ByteArray × Int)} (h : l = m) : eqT l m = true := by simp [eqT, h]
theorem eqT_false {l m : List (List ByteArray × Int)} (h : l ≠ m) : eqT l m = false := by simp [eqT, h]

theorem eqKey (v u : Value) (x y : List ByteArray × Int) (w : World) (q : Bool) (hq : decide (x = y) = q) (h : Holds Value.string w v x.1) (g : Holds Value.string w u y.1) (hl : x.1.length ≤ 140737488351232) (hm : y.1.length ≤ 140737488351232) :
    Calls Try.prog 62 #[.agg #[v, .int .i64 x.2], .agg #[u, .int .i64 y.2]] w fun e w' => e = .returned (.bool q) ∧ Below w.heap.size w w' := by
  obtain ⟨ps, a⟩ := x
  obtain ⟨qs, b⟩ := y
  simp only at h g hl hm ⊢
  obtain ⟨x, n, cap, rfl, -, hcap, hh⟩ := h.shapeN
  obtain ⟨y, m, cap', rfl, -, hcap', hg⟩ := g.shapeN
  have HB := Lib.hid (((Below.refl w.heap.size w).alloc (Nat.le_refl _) (.cells #[.slice x n cap, .int .i64 a] 89)).alloc (Nat.le_trans (Nat.le_refl _) (by simp)) (.cells #[.slice y m cap', .int .i64 b] 89))
  have HH := Lib.hid (hh.on HB.out); have HG := Lib.hid (hg.on HB.out)
  have HQ := Lib.hid hq
  clear hh hg h g hq
  go_enter Try.func62, Try.ntmps62
  go_wp2_with fail
  refine (eqName _ _ ps qs _ HH.out HG.out hl hm).mono ?_
  rintro e w1 ⟨rfl, hb⟩
  have hq0 : w1.cell? ⟨w.heap.size, 1, none⟩ = some (.int .i64 a) := by rw [hb.cell (by simp <;> omega), World.cell?_alloc_past _ _ _ (by simp <;> omega), World.cell?_alloc_at _ _ _ _ rfl]; rfl
  have hq1 : w1.cell? ⟨w.heap.size + 1, 1, none⟩ = some (.int .i64 b) := by rw [hb.cell (by simp <;> omega), World.cell?_alloc_at _ _ _ _ (by simp)]; rfl
  have HB2 := Lib.hid (HB.out.trans (hb.mono HB.out.size)); clear hb
  by_cases he : ps = qs
  · rw [eqB_true he]
    by_cases hv : a = b
    · have HE : Hid (q = true) := Lib.hid (by rw [← HQ.out]; simp [he, hv])
      have ht : (a != b) = false := by simp [hv]
      clear he hv
      go_wp2
      go_ret
      exact ⟨ret_bool HE.out.symm, HB2.out⟩
    · have HE : Hid (q = false) := Lib.hid (by rw [← HQ.out]; simp [hv])
      have ht : (a != b) = true := by simpa using hv
      clear he hv
      go_wp2
      go_ret
      exact ⟨ret_bool HE.out.symm, HB2.out⟩
  · rw [eqB_false he]
    have HE : Hid (q = false) := Lib.hid (by rw [← HQ.out]; simp [he])
    clear he
    go_wp2
    go_ret
    exact ⟨ret_bool HE.out.symm, HB2.out⟩

theorem eqKeyS_len (x y : Option Addr) (n m cx cy : Nat) (w : World) (h : (((n : Nat) : Int) != ((m : Nat) : Int)) = true) :
    Calls Try.prog 20 #[.slice x n cx, .slice y m cy] w fun e w' => e = .returned (.bool false) ∧ w = w' := by
  go_enter Try.func20, Try.ntmps20
  go_wp2
  go_ret
  exact ⟨rfl, rfl⟩

/-- All names are of lengths for the contracts. -/
def lnT (T : List (List ByteArray × Int)) : Prop := ∀ t ∈ T, t.1.length ≤ 9000000
theorem lnT_psl {L : List Ent} (h : lnT (strip L)) {k : Nat} (hk : k < L.length) : (nth L k).ps.length ≤ 9000000 := h _ (strip_mem (nth_mem hk))

set_option maxHeartbeats 4000000 in
theorem eqKeyS (v u : Value) (T U : List (List ByteArray × Int)) (w : World) (h : TabHolds w v T) (g : TabHolds w u U) (hl : T.length ≤ 140737488351232) (hm : U.length ≤ 140737488351232) (hT : lnT T) (hU : lnT U) :
    Calls Try.prog 20 #[v, u] w fun e w' => e = .returned (.bool (eqT T U)) ∧ Below w.heap.size w w' := by
  obtain ⟨L, rfl, h⟩ := h
  obtain ⟨M, rfl, g⟩ := g
  obtain ⟨x, n, cx, rfl, hn, hcx, hh⟩ := h.shapeN
  obtain ⟨y, m, cy, rfl, hm2, hcy, hg⟩ := g.shapeN
  rw [strip_length, ← hn] at hl
  rw [strip_length, ← hm2] at hm
  by_cases he : n = m
  · subst he
    have HN := Lib.hid hn
    have HM := Lib.hid hm2
    have HH := Lib.hid hh
    have HG := Lib.hid hg
    have HT := Lib.hid hT
    have HU := Lib.hid hU
    have htest : (((n : Nat) : Int) != ((n : Nat) : Int)) = false := by simp
    clear hn h hh g hg hm2 hT hU hm
    go_enter Try.func20, Try.ntmps20
    go_wp2
    go_loopw [5] (fun i wr => ∃ k : Nat, k ≤ n ∧ i = .int .i64 k ∧ Hid (agree (strip L) (strip M) k) ∧ Hid (Below w.heap.size w wr)) (fun i _ => n - (intOf i).toNat)
    case atStart => exact ⟨0, Nat.zero_le _, rfl, Lib.hid (agree_zero _ _), Lib.hid (Below.refl _ _)⟩
    case round =>
      obtain ⟨k, hk, rfl, ha, hb⟩ := hrel
      by_cases hlt : k < n
      · have hlen := HN.out
        have hlen2 := HM.out
        obtain ⟨b, off, rfl, hc, hd, hnm⟩ := (HH.out.on hb.out).at (k := k) (by omega)
        obtain ⟨b', off', rfl, hc', hd', hnm'⟩ := (HG.out.on hb.out).at (k := k) (by omega)
        have HL := Lib.hid (lnT_psl HT.out (k := k) (by omega)); have HL' := Lib.hid (lnT_psl HU.out (k := k) (by omega))
        have e1 := strip_nth (L := L) (k := k) (by omega)
        have e2 := strip_nth (L := M) (k := k) (by omega)
        have HC := Lib.hid hc; have HD := Lib.hid hd; have HC' := Lib.hid hc'; have HD' := Lib.hid hd'
        have HNM := Lib.hid hnm; have HNM' := Lib.hid hnm'
        by_cases hq : (nth L k).t = (nth M k).t
        · have HE1 : Hid (decide ((nth L k).t = (nth M k).t) = true) := Lib.hid (decide_eq_true hq)
          have HA := Lib.hid (agree_succ ha.out (by rw [e1, e2, hq]))
          clear hq hlen hlen2 e1 e2 hc hd hc' hd' hnm hnm'
          go_wp2_with fail
          go_region_held3 (fun w' => w'.cell? ⟨b, off + k * 2, none⟩ = some (.slice (nth L k).ad (nth L k).n (nth L k).cap) ∧ w'.cell? ⟨b, off + k * 2 + 1, none⟩ = some (.int .i64 (nth L k).val) ∧ w'.cell? ⟨b', off' + k * 2, none⟩ = some (.slice (nth M k).ad (nth M k).n (nth M k).cap) ∧ w'.cell? ⟨b', off' + k * 2 + 1, none⟩ = some (.int .i64 (nth M k).val) ∧ Below w.heap.size w w') (first | exact keep4 HC.out HD.out HC'.out HD'.out hb.out (Below.refl _ _).drew | exact keep4 HC.out HD.out HC'.out HD'.out hb.out (hb1.mono (Nat.le_refl _)) | exact keep4 HC.out HD.out HC'.out HD'.out hb.out ((Below.refl _ _).drew.trans (hb1.mono (Nat.le_refl _)))) ((go_at_call 62; refine (eqKey _ _ (nth L k).t (nth M k).t _ _ HE1.out (HNM.out.on (Below.refl _ _).drew) (HNM'.out.on (Below.refl _ _).drew) (Nat.le_trans HL.out (by decide)) (Nat.le_trans HL'.out (by decide))).mono ?_; rintro e w1 ⟨rfl, hb1⟩))
          all_goals
            have HB2 := Lib.hid (hb.out.drew.trans (hb1.mono hb.out.size))
            clear hb1
            go_wp2_with fail
            go_roundw
            case rel => exact ⟨k + 1, by omega, by go_num, HA, HB2⟩
            case measure => simp [intOf]; omega
        · have HE1 : Hid (decide ((nth L k).t = (nth M k).t) = false) := Lib.hid (decide_eq_false hq)
          have HA := Lib.hid (eqT_false (differ_at (k := k) (a := strip L) (b := strip M) (by rw [e1, e2]; exact hq)))
          clear hq hlen hlen2 e1 e2 hc hd hc' hd' hnm hnm'
          go_wp2_with fail
          go_region_held3 (fun w' => w'.cell? ⟨b, off + k * 2, none⟩ = some (.slice (nth L k).ad (nth L k).n (nth L k).cap) ∧ w'.cell? ⟨b, off + k * 2 + 1, none⟩ = some (.int .i64 (nth L k).val) ∧ w'.cell? ⟨b', off' + k * 2, none⟩ = some (.slice (nth M k).ad (nth M k).n (nth M k).cap) ∧ w'.cell? ⟨b', off' + k * 2 + 1, none⟩ = some (.int .i64 (nth M k).val) ∧ Below w.heap.size w w') (first | exact keep4 HC.out HD.out HC'.out HD'.out hb.out (Below.refl _ _).drew | exact keep4 HC.out HD.out HC'.out HD'.out hb.out (hb1.mono (Nat.le_refl _)) | exact keep4 HC.out HD.out HC'.out HD'.out hb.out ((Below.refl _ _).drew.trans (hb1.mono (Nat.le_refl _)))) ((go_at_call 62; refine (eqKey _ _ (nth L k).t (nth M k).t _ _ HE1.out (HNM.out.on (Below.refl _ _).drew) (HNM'.out.on (Below.refl _ _).drew) (Nat.le_trans HL.out (by decide)) (Nat.le_trans HL'.out (by decide))).mono ?_; rintro e w1 ⟨rfl, hb1⟩))
          all_goals
            have HB2 := Lib.hid (hb.out.drew.trans (hb1.mono hb.out.size))
            clear hb1
            go_wp2_with fail
            go_ret
            exact ⟨ret_bool HA.out.symm, HB2.out⟩
      · obtain rfl : k = n := by omega
        have HD := Lib.hid (eqT_true (agree_all (a := strip L) (b := strip M) (by rw [strip_length, strip_length, ← HN.out, ← HM.out]) (by rw [strip_length, ← HN.out]; exact ha.out)))
        clear hlt
        go_wp2
        go_ret
        exact ⟨ret_bool HD.out.symm, hb.out⟩
  · have htest : (((n : Nat) : Int) != ((m : Nat) : Int)) = true := by
      rw [bne_iff_ne]; omega
    rw [eqT_false (fun e => he (by have := congrArg List.length e; rw [strip_length, strip_length] at this; omega))]
    exact (eqKeyS_len x y _ _ cx cy w htest).mono fun e w' ⟨h1, h2⟩ => ⟨h1, by subst h2; exact Below.refl _ _⟩
end Go.Proofs.Ytcidfmmeonhkhaa.Row.Ring
/- Contracts of the helpers by which the laws mark tables and look at the marks. No conditions but that lengths fit. -/
namespace Go.Proofs.Ytcidfmmeonhkhaa.Row.Ring
open Go.ChangeShapes Go.WideShapes Go.ChangeAt Go.RowKit Go.Instr
set_option linter.unusedVariables false
set_option maxRecDepth 100000

/-- How many numbers a marking takes: one a part, one an entry. -/
def adv : List (List ByteArray × Int) → Nat
  | [] => 0
  | x :: r => x.1.length + 1 + adv r
theorem adv_append : ∀ (a b : List (List ByteArray × Int)), adv (a ++ b) = adv a + adv b
  | [], b => by simp [adv]
  | x :: a, b => by simp [adv, adv_append a b]; omega
theorem adv_bulk : ∀ T : List (List ByteArray × Int), adv T ≤ bulkT T
  | [] => by simp [adv]
  | x :: r => by
    have h1 := adv_bulk r
    have h2 := bulk_len x.1
    have e : bulkT (x :: r) = bulk x.1 + 1 + bulkT r := by simp [bulkT, bulkTTo]; omega
    rw [e]
    simp only [adv]
    omega
theorem adv_len : ∀ T : List (List ByteArray × Int), T.length ≤ adv T
  | [] => by simp
  | x :: r => by have := adv_len r; simp [adv]; omega
theorem adv_take {T : List (List ByteArray × Int)} {j : Nat} (h : j < T.length) : adv (T.take (j + 1)) = adv (T.take j) + (nth T j).1.length + 1 := by
  rw [List.take_succ_eq_append_getElem h, adv_append, nth_eq h]; simp [adv]; omega
theorem adv_take_le (T : List (List ByteArray × Int)) (j : Nat) : adv (T.take j) ≤ adv T := by
  have := adv_append (T.take j) (T.drop j)
  rw [List.take_append_drop] at this; omega
/-- A table as a marking from k on leaves it. -/
def markTb (k : Int) : List (List ByteArray × Int) → List (List ByteArray × Int)
  | [] => []
  | x :: r => (marks markT k x.1.length, k + x.1.length) :: markTb (k + x.1.length + 1) r
theorem markTb_append (k : Int) : ∀ (a b : List (List ByteArray × Int)), markTb k (a ++ b) = markTb k a ++ markTb (k + adv a) b
  | [], b => by simp [markTb, adv]
  | x :: a, b => by
    simp only [List.cons_append, markTb, adv, markTb_append _ a b]
    congr 3
    simp; omega
theorem drop_nth' {α : Type} [Inhabited α] {l : List α} {k : Nat} (h : k < l.length) : l.drop k = nth l k :: l.drop (k + 1) := by
  rw [nth_eq h, List.getElem_cons_drop]
def Ent.setPs (x : Ent) (ps : List ByteArray) : Ent := ⟨x.ad, x.n, x.cap, ps, x.val⟩
def Ent.setVal (x : Ent) (a : Int) : Ent := ⟨x.ad, x.n, x.cap, x.ps, a⟩
/-- An entry as it lies, marked. -/
def Ent.marked (x : Ent) (k : Int) : Ent := ⟨x.ad, x.n, x.cap, marks markT k x.ps.length, k + x.ps.length⟩

theorem pairwise_same {L M : List Ent} (h : L.Pairwise (fun a b => Apart a.v b.v)) (e : M.map Ent.v = L.map Ent.v) : M.Pairwise (fun a b => Apart a.v b.v) := by
  have h1 : (L.map Ent.v).Pairwise Apart := by rw [List.pairwise_map]; exact h
  rw [← e, List.pairwise_map] at h1
  exact h1
/-- Writing one name leaves the others and the row. -/
theorem TabO.named {B : Nat} {w w' : World} {v : Value} {L : List Ent} (h : TabO B w v L) {k : Nat} (hk : k < L.length) {ps : List ByteArray} (ho : Own 9 Value.string B w' (nth L k).v ps) (hg : w.grownBy w' (nth L k).v.ownBlock) :
    TabO B w' v (L.set k ((nth L k).setPs ps)) := by
  have hrow : OwnK 89 encE 2 B w' v L := h.1.grown hg (by
    cases hv : v.ownBlock with
    | none => exact Or.inl rfl
    | some g => exact Or.inr fun e => name_row (h.2.1 _ (nth_mem hk)) h.1 g e.symm hv)
  have henc : flat encE (L.set k ((nth L k).setPs ps)) = flat encE L := by
    unfold flat
    rw [List.flatMap_def, List.flatMap_def, List.map_set]
    congr 1
    have : encE ((nth L k).setPs ps) = (L.map encE)[k]'(by simpa using hk) := by simp [encE, Ent.v, Ent.setPs, nth_eq hk]
    rw [this, List.set_getElem_self]
  refine ⟨?_, fun y hy => ?_, ?_⟩
  · unfold OwnK at *
    rw [List.length_set, henc]; exact hrow
  · obtain ⟨i, hi, rfl⟩ := List.getElem_of_mem hy
    rw [List.length_set] at hi
    by_cases e : k = i
    · subst e
      rw [List.getElem_set_self]
      exact ho
    · rw [List.getElem_set_ne e]
      refine (h.2.1 _ (List.getElem_mem _)).grown hg (apart_or ?_)
      have := List.pairwise_iff_getElem.1 h.2.2
      have hkk := nth_eq hk
      generalize nth L k = z at *
      subst hkk
      have hi : i < L.length := by simpa using hi
      show Apart (L[i]'hi).v (L[k]'hk).v
      rcases Nat.lt_or_gt_of_ne e with e | e
      · exact (this k i hk hi e).symm
      · exact this i k hi hk e
  · refine pairwise_same h.2.2 ?_
    rw [List.map_set]
    have : Ent.v ((nth L k).setPs ps) = (L.map Ent.v)[k]'(by simpa using hk) := by simp [Ent.v, Ent.setPs, nth_eq hk]
    rw [this, List.set_getElem_self]
/-- A number is stored. -/
theorem TabO.valued {B : Nat} {w : World} {g n cap : Nat} {L : List Ent} (h : TabO B w (.slice (some ⟨g, 0, none⟩) n cap) L) (hn : n = L.length) {k : Nat} (hk : k < L.length) (a : Int) :
    TabO B (w.setCell ⟨g, k * 2 + 1, none⟩ (.int .i64 a)) (.slice (some ⟨g, 0, none⟩) n cap) (L.set k ((nth L k).setVal a)) ∧ w.grownBy (w.setCell ⟨g, k * 2 + 1, none⟩ (.int .i64 a)) (some g) := by
  obtain ⟨a1, a2⟩ := ownK_store szE h.1 hn hk (i := 1) (by decide) (y := ((nth L k).setVal a)) (u := .int .i64 a) rfl
  refine ⟨h.row a1 a2 (fun y hy => ?_) ?_, a2⟩
  · rcases List.mem_or_eq_of_mem_set hy with hy | hy
    · exact ⟨y, hy, rfl, rfl⟩
    · exact ⟨_, nth_mem hk, by rw [hy]; rfl, by rw [hy]; rfl⟩
  · refine pairwise_same h.2.2 ?_
    rw [List.map_set]
    have : Ent.v ((nth L k).setVal a) = (L.map Ent.v)[k]'(by simpa using hk) := by simp [Ent.v, Ent.setVal, nth_eq hk]
    rw [this, List.set_getElem_self]

set_option maxHeartbeats 4000000 in
/-- Marking: every part and every number of a table of the call's own is written. -/
theorem markKeyS (B E : Nat) (v : Value) (T : List (List ByteArray × Int)) (w : World) (k : Int) (h : TabIn B E w v T) (hl : adv T ≤ 100000000) (h0 : 0 ≤ k) (h1 : k ≤ 10000000000) :
    Calls Try.prog 22 #[v, .int .i64 k] w fun e w' => e = .returned (.int .i64 (k + adv T)) ∧ TabIn B E w' v (markTb k T) ∧ Wrote B E w w' := by
  obtain ⟨L, rfl, h, hE, hE2⟩ := h
  rcases h.1.form with ⟨rfl, rfl⟩ | ⟨g, cap, rfl, g1, g2, g3, g4⟩
  · have H := Lib.hid h; clear h hE hE2
    go_enter Try.func22, Try.ntmps22
    go_wp2
    refine wp_loop_rounds 1 ?_
    rw [rounds_succ]
    go_wp2
    go_ret
    exact ⟨ret_int (by simp [strip, adv]), ⟨[], rfl, H.out, by simp [Value.ownBlock], by simp⟩, Wrote.refl _ _ _⟩
  · obtain ⟨n, hn⟩ : ∃ n, n = L.length := ⟨_, rfl⟩
    have hgE : g < E := hE g rfl
    have hln : n ≤ 100000000 := by have := adv_len (strip L); rw [strip_length] at this; omega
    rw [← hn] at h g3 hE ⊢
    have HN := Lib.hid hn
    have HE2 := Lib.hid hE2
    have HADV := Lib.hid (fun j => adv_take_le (strip L) j)
    have HST := Lib.hid (fun j (h : j < L.length) => adv_take (T := strip L) (j := j) (by rw [strip_length]; exact h))
    have HB : Hid (TabO B w (.slice (some ⟨g, 0, none⟩) n cap) ([] ++ L.drop 0)) := by simpa using Lib.hid h
    clear hn h hE hE2
    go_enter Try.func22, Try.ntmps22
    go_wp2
    go_loopw [1, 5] (fun kv i wr => ∃ j : Nat, j ≤ n ∧ i = .int .i64 j ∧ kv = .int .i64 (k + adv ((strip L).take j)) ∧ ∃ M : List Ent, Hid (M.length = j ∧ strip M = markTb k ((strip L).take j) ∧ M.map Ent.v = (L.take j).map Ent.v) ∧ Hid (TabO B wr (.slice (some ⟨g, 0, none⟩) n cap) (M ++ L.drop j)) ∧ Hid (Wrote B E w wr)) (fun _ i _ => n - (intOf i).toNat)
    case atStart => exact ⟨0, Nat.zero_le _, rfl, by simp [adv], [], Lib.hid ⟨rfl, rfl, rfl⟩, HB, Lib.hid (Wrote.refl _ _ _)⟩
    case round =>
      obtain ⟨j, hj, rfl, rfl, M, hM, ho, hg⟩ := hrel
      by_cases hlt : j < n
      · have hn := HN.out
        have hlen : n = (M ++ L.drop j).length := by rw [List.length_append, hM.out.1, List.length_drop]; omega
        have hlt2 : j < (M ++ L.drop j).length := by omega
        have hnj : nth (M ++ L.drop j) j = nth L j := by
          simp only [nth, List.getD]
          rw [List.getElem?_append_right (by rw [hM.out.1]; exact Nat.le_refl _), hM.out.1]
          simp
        obtain ⟨⟨k1, k2⟩, -, hnm⟩ := ho.out.cells hlen hlt2
        rw [hnj] at k1 hnm
        have hps : nth (strip L) j = (nth L j).t := strip_nth (by omega)
        have hst := HST.out j (by omega)
        rw [hps] at hst
        have hst : adv ((strip L).take (j + 1)) = adv ((strip L).take j) + (nth L j).ps.length + 1 := hst
        have hadv := HADV.out j
        have hadv2 := HADV.out (j + 1)
        have HNM := Lib.hid hnm
        have HSTP := Lib.hid hst; have HLEN := Lib.hid hlen; have HLT2 := Lib.hid hlt2; have HNJ := Lib.hid hnj
        have hpl : (nth L j).ps.length ≤ 100000000 := by omega
        have ha0 : (adv ((strip L).take j) : Int) ≤ 100000000 := by omega
        clear hn hlen hlt2 hnj hps hst hadv hadv2 hnm
        go_wp2_with fail
        refine (markStringS B _ (nth L j).ps wr (k + adv ((strip L).take j)) HNM.out hpl (by omega) (by omega)).mono ?_
        rintro e w1 ⟨rfl, ho1, hg1⟩
        have HO1 := Lib.hid (TabO.named ho.out HLT2.out (ps := marks markT (k + adv ((strip L).take j)) (nth L j).ps.length) (by rw [HNJ.out]; exact ho1) (by rw [HNJ.out]; exact hg1))
        have HG1 := Lib.hid (hg.out.trans (Wrote.of hg1 (fun b hb => ⟨((HNM.out.lt b hb)).1, HE2.out _ (nth_mem (by have := HN.out; omega)) b hb⟩)))
        obtain ⟨-, ⟨k3, k4⟩, -⟩ := HO1.out.cells (by rw [List.length_set]; exact HLEN.out) (k := j) (by rw [List.length_set]; exact HLT2.out)
        obtain ⟨p1, p2⟩ := HO1.out.valued (by rw [List.length_set]; exact HLEN.out) (k := j) (by rw [List.length_set]; exact HLT2.out) (k + adv ((strip L).take j) + (nth L j).ps.length)
        rw [nth_set HLT2.out, List.set_set] at p1
        have HP1 := Lib.hid p1
        have HP2 := Lib.hid p2
        clear k1 k2 ho1 hg1 p1 p2
        go_wp2_with fail
        go_roundw
        case rel =>
          refine ⟨j + 1, by omega, by go_num, ?_, M ++ [(nth L j).marked (k + adv ((strip L).take j))], Lib.hid ⟨?_, ?_, ?_⟩, Lib.hid ?_, Lib.hid (HG1.out.trans (Wrote.of HP2.out (fun b hb => by cases hb; exact ⟨by omega, by omega⟩)))⟩
          · rw [HSTP.out]; go_num
          · simp [hM.out.1]
          · have e1 : (strip L).take (j + 1) = (strip L).take j ++ [(nth L j).t] := by
              have := HN.out
              rw [List.take_succ_eq_append_getElem (by rw [strip_length]; omega), ← nth_eq, strip_nth (by omega)]
            rw [e1, markTb_append, strip_append, hM.out.2.1]
            rfl
          · have e1 : L.take (j + 1) = L.take j ++ [nth L j] := by
              have := HN.out
              rw [List.take_succ_eq_append_getElem (by omega), nth_eq (by omega)]
            rw [e1, List.map_append, List.map_append, hM.out.2.2]
            rfl
          · have := HP1.out
            rw [HNJ.out] at this
            have e2 : (M ++ L.drop j).set j ((nth L j).marked (k + adv ((strip L).take j))) = M ++ [(nth L j).marked (k + adv ((strip L).take j))] ++ L.drop (j + 1) := by
              have := HN.out
              rw [List.set_append_right _ _ (by rw [hM.out.1]; exact Nat.le_refl _), hM.out.1, Nat.sub_self, drop_nth' (by omega), List.set_cons_zero, List.append_assoc]
              rfl
            rw [← e2]
            exact this
        case measure => simp [intOf]; omega
      · obtain rfl : j = n := by omega
        clear hlt
        go_wp2
        go_ret
        have hn := HN.out
        have e1 : (strip L).take j = strip L := List.take_of_length_le (by rw [strip_length]; omega)
        have e2 : L.take j = L := List.take_of_length_le (by omega)
        have e3 : L.drop j = [] := List.drop_eq_nil_of_le (by omega)
        have hh := ho.out
        have hm := hM.out
        rw [e3, List.append_nil] at hh
        rw [e1, e2] at hm
        rw [e1]
        refine ⟨rfl, ⟨M, hm.2.1, hh, fun b hb => by cases hb; exact hgE, fun y hy b hb => ?_⟩, hg.out⟩
        have : y.v ∈ L.map Ent.v := by rw [← hm.2.2]; exact List.mem_map_of_mem hy
        obtain ⟨z, hz, hzv⟩ := List.mem_map.1 this
        exact HE2.out z hz b (by rw [hzv]; exact hb)

end Go.Proofs.Ytcidfmmeonhkhaa.Row.Ring
/- What the exact laws on tables use besides the contracts: a table that came in as an argument; equal ones compared; marks in a range of blocks. No conditions. -/
namespace Go.Proofs.Ytcidfmmeonhkhaa.Row.Ring
open Go.ChangeShapes Go.WideShapes Go.ChangeAt Go.RowKit Go.Instr
set_option linter.unusedVariables false
set_option maxRecDepth 100000

/-- A table as it came in. -/
theorem open_tab {H : Type} {enc : TypeId × Value → H} {P : Program} {w : World} {base b2 : Nat} {held : Bool} {t e ep : TypeId} {v : Value} {d : DataW H} {p : List MemPlace} {f0 f1 g0 : Field}
    (ht : P.underlying t = some (.slice e)) (he : P.underlying e = some (.struct #[f0, f1])) (hN : P.underlying f0.type = some (.struct #[g0])) (hg : P.underlying g0.type = some (.slice ep)) (hs : P.underlying ep = some .string) (hI : P.underlying f1.type = some (.int .i64))
    (ho0 : f0.offset = 0) (ho1 : f1.offset = 1) (hog : g0.offset = 0) (hc0 : P.cellsOf f0.type = 1) (hc1 : P.cellsOf f1.type = 1) (hcg : P.cellsOf g0.type = 1) (hcs : P.cellsOf ep = 1) (hC : P.cellsOf e = 2)
    (hv : Value.okWide P w .any base t v) (h : DataW.Trod enc P w b2 (fun _ => true) held t v d p) :
    ∃ T, TabHolds w v T ∧ (∀ t ∈ T, t.1.length ≤ 9223372036854775807 ∧ (∀ x ∈ t.1, x.size ≤ maxLen) ∧ (Lit.int .i64 t.2).wf = true) ∧ T.length ≤ 9223372036854775807 := by
  have hmx : maxLen = 9223372036854775807 := rfl
  obtain ⟨a0, len, cap, rfl⟩ := okWide_slice ht hv
  obtain ⟨fuel, hf⟩ := h
  rcases Deep.open_slice ht hf with ⟨hcs, -⟩ | ⟨a, len', cap', m, n, D, Pl, hcs', hb, hl, hm, hmm, -, hi⟩
  · have : Value.slice a0 len cap = .slice none 0 0 := by simpa [Value.cells] using hcs
    exact ⟨[], ⟨[], rfl, by rw [this]; exact TabH.nil _⟩, by simp, by simp⟩
  · have hcs' : Value.slice a0 len cap = .slice (some a) len' cap' := by simpa [Value.cells] using hcs'
    simp only [if_true] at hmm
    have key : ∀ i, i < m → ∃ x : Ent, w.cell? (a.add (i * 2)) = some x.v ∧ w.cell? (a.add (i * 2 + 1)) = some (.int .i64 x.val) ∧ Holds Value.string w x.v x.ps ∧ (∀ y ∈ x.ps, y.size ≤ maxLen) ∧ x.ps.length ≤ 9223372036854775807 ∧ (Lit.int .i64 x.val).wf = true := by
      intro i him
      obtain ⟨cs, hc, htr⟩ := hi i him
      rw [hC] at hc
      obtain ⟨-, hcl, hat⟩ := World.cells?_some hc
      obtain ⟨y0, y1, n2, -, -, q0, q1⟩ := trod_struct2 he htr
      rw [ho0, hc0] at q0
      rw [ho1, hc1] at q1
      obtain ⟨z0, n3, -, -, q0⟩ := trod_struct1 hN q0
      rw [hog, hcg] at q0
      obtain ⟨ad, k, c, l, e0, hh, hz, hln⟩ := open_strs1 hg hs hcs q0
      obtain ⟨v1, e1, -, w1⟩ := DataW.trod_int hI q1
      obtain ⟨u0, u1, rfl⟩ : ∃ u0 u1, cs = [u0, u1] := by
        match cs, hcl with
        | [u0, u1], _ => exact ⟨u0, u1, rfl⟩
      simp at e0 e1
      subst e0 e1
      have c0 := hat 0 (by decide)
      have c1 := hat 1 (by decide)
      rw [Deep.add_add] at c0 c1
      exact ⟨⟨ad, k, c, l, v1⟩, by simpa [Ent.v] using c0, by simpa using c1, hh, hz, hln, w1⟩
    obtain ⟨Sx, hS⟩ := Deep.choose_lt key
    have hL : ((List.range len').map Sx).length = len' := by simp
    have hmem : ∀ x ∈ (List.range len').map Sx, ∃ i, i < len' ∧ x = Sx i := by
      intro x hx
      obtain ⟨i, hi2, rfl⟩ := List.mem_map.1 hx
      exact ⟨i, List.mem_range.1 hi2, rfl⟩
    refine ⟨strip ((List.range len').map Sx), ⟨_, rfl, ?_, ?_⟩, ?_, by rw [strip_length, hL, ← hmx]; exact Nat.le_trans hl hm⟩
    · rw [hcs']
      refine ⟨some a, cap', by rw [hL], by rw [hL]; exact hl, ?_⟩
      by_cases h00 : len' = 0
      · left; subst h00; simp
      · right
        obtain ⟨b, off, spot⟩ := a
        have q1 := (hS 0 (by omega)).1
        have hs : spot = none := by simpa [Addr.add] using World.cell?_spot q1
        subst hs
        refine ⟨b, off, rfl, fun j hj => ?_⟩
        rw [hL] at hj
        have hj2 : j / 2 < len' := by omega
        have q2 := hS (j / 2) (by omega)
        have hn : nth ((List.range len').map Sx) (j / 2) = Sx (j / 2) := by rw [nth_eq (by rw [hL]; exact hj2)]; simp
        have hfl := flat_at szE ((List.range len').map Sx) (j / 2) (j % 2) (by rw [hL]; exact hj2) (Nat.mod_lt _ (by decide))
        rw [hn, show j / 2 * 2 + j % 2 = j by omega] at hfl
        rcases Nat.mod_two_eq_zero_or_one j with hm0 | hm0
        · rw [hm0] at hfl
          refine ⟨_, hfl, ?_⟩
          have := q2.1
          rw [Go.WideShapes.add_plain, show j / 2 * 2 = j by omega] at this
          exact this
        · rw [hm0] at hfl
          refine ⟨_, hfl, ?_⟩
          have := q2.2.1
          rw [Go.WideShapes.add_plain, show j / 2 * 2 + 1 = j by omega] at this
          exact this
    · intro x hx
      obtain ⟨i, hi2, rfl⟩ := hmem x hx
      exact (hS i (by omega)).2.2.1
    · intro t ht
      obtain ⟨x, hx, rfl⟩ := List.mem_map.1 ht
      obtain ⟨i, hi2, rfl⟩ := hmem x hx
      have := hS i (by omega)
      exact ⟨this.2.2.2.2.1, this.2.2.2.1, this.2.2.2.2.2⟩
end Go.Proofs.Ytcidfmmeonhkhaa.Row.Ring
/- Contracts of ValidPart and ValidName, the program's and the reference model's: a part is right where its size is 1 to 8 and each byte is a small letter, a digit or a minus; a name where each part is and there are at most 6. No conditions but that lengths fit. -/
namespace Go.Proofs.Ytcidfmmeonhkhaa.Row
open Go.ChangeShapes Go.WideShapes Go.ChangeAt Go.RowKit Go.Instr
set_option linter.unusedVariables false
set_option maxRecDepth 100000

def okR (r : Int) : Prop := (97 ≤ r ∧ r ≤ 122) ∨ (48 ≤ r ∧ r ≤ 57) ∨ r = 45
instance (r : Int) : Decidable (okR r) := by unfold okR; infer_instance
def okTo (s : ByteArray) (k : Nat) : Prop := ∀ j (h : j < s.size), j < k → okR ((s[j]'h).toNat : Int)
instance (s : ByteArray) (k : Nat) : Decidable (okTo s k) := by unfold okTo; infer_instance
def validP (s : ByteArray) : Bool := decide (1 ≤ s.size ∧ s.size ≤ 8 ∧ okTo s s.size)
theorem okTo_zero (s : ByteArray) : okTo s 0 := fun j h h2 => absurd h2 (by omega)
theorem okTo_succ {s : ByteArray} {k : Nat} (h : okTo s k) (hk : k < s.size) (hc : okR ((s[k]'hk).toNat : Int)) : okTo s (k + 1) := fun j h1 h2 => by
  by_cases e : j = k
  · subst e; exact hc
  · exact h j h1 (by omega)
theorem validP_true {s : ByteArray} (h1 : 1 ≤ s.size) (h2 : s.size ≤ 8) (h : okTo s s.size) : validP s = true := by simp [validP, h1, h2, h]
theorem validP_size {s : ByteArray} (h : ¬ (1 ≤ s.size ∧ s.size ≤ 8)) : validP s = false := by
  unfold validP; exact decide_eq_false (fun e => h ⟨e.1, e.2.1⟩)
theorem validP_byte {s : ByteArray} {k : Nat} (hk : k < s.size) (hc : ¬ okR ((s[k]'hk).toNat : Int)) : validP s = false := by
  unfold validP; exact decide_eq_false (fun e => hc (e.2.2 k hk hk))
theorem validP_iff {s : ByteArray} : validP s = true ↔ 1 ≤ s.size ∧ s.size ≤ 8 ∧ okTo s s.size := by unfold validP; exact decide_eq_true_iff

theorem rune_ok {s : ByteArray} {pos : Nat} (h : pos < s.size) (hr : okR ((Utf8.decode s pos).1 : Int)) : okR ((s[pos]'h).toNat : Int) ∧ (Utf8.decode s pos).2 = 1 := by
  by_cases ha : (s[pos]'h).toNat < 128
  · rw [decode_ascii s pos h ha] at hr ⊢
    exact ⟨hr, rfl⟩
  · have := (decode_high s pos h (by omega)).1
    unfold okR at hr; omega
theorem rune_not {s : ByteArray} {pos : Nat} (h : pos < s.size) (hr : ¬ okR ((Utf8.decode s pos).1 : Int)) : ¬ okR ((s[pos]'h).toNat : Int) := by
  by_cases ha : (s[pos]'h).toNat < 128
  · rwa [decode_ascii s pos h ha] at hr
  · unfold okR; omega

set_option maxHeartbeats 1000000 in
theorem isPartRune (r : Int) (w : World) : Calls Try.prog 144 #[.int .i32 r] w fun e w' => e = .returned (.bool (decide (okR r))) ∧ w = w' := by
  have HT := fun (h : okR r) => (decide_eq_true h).symm
  have HF := fun (h : ¬ okR r) => (decide_eq_false h).symm
  have HT := Lib.hid HT; have HF := Lib.hid HF
  by_cases h1 : 97 ≤ r ∧ r ≤ 122
  · obtain ⟨h1a, h1b⟩ := h1
    go_enter Try.func144, Try.ntmps144
    go_wp2
    go_ret
    exact ⟨ret_bool (HT.out (by unfold okR; omega)), rfl⟩
  · by_cases h2 : 48 ≤ r ∧ r ≤ 57
    · obtain ⟨h2a, h2b⟩ := h2
      have h1a : ¬ 97 ≤ r := by omega
      go_enter Try.func144, Try.ntmps144
      go_wp2
      go_ret
      exact ⟨ret_bool (HT.out (by unfold okR; omega)), rfl⟩
    · by_cases h3 : r = 45
      · subst h3
        go_enter Try.func144, Try.ntmps144
        go_wp2
        go_ret
        exact ⟨ret_bool (HT.out (by unfold okR; omega)), rfl⟩
      · have HF2 := Lib.hid (HF.out (by unfold okR; omega))
        have h3b : (r == 45) = false := by simpa using h3
        clear h3 HF HT
        by_cases h1a : 97 ≤ r
        · have h1b : ¬ r ≤ 122 := by omega
          have h2b : ¬ r ≤ 57 := by omega
          clear h1 h2
          go_enter Try.func144, Try.ntmps144
          go_wp2
          go_ret
          exact ⟨ret_bool HF2.out, rfl⟩
        · clear h1
          by_cases h2a : 48 ≤ r
          · have h2b : ¬ r ≤ 57 := by omega
            clear h2
            go_enter Try.func144, Try.ntmps144
            go_wp2
            go_ret
            exact ⟨ret_bool HF2.out, rfl⟩
          · clear h2
            go_enter Try.func144, Try.ntmps144
            go_wp2
            go_ret
            exact ⟨ret_bool HF2.out, rfl⟩

set_option maxHeartbeats 1000000 in
theorem implValidPart (s : ByteArray) (w : World) (hl : s.size ≤ 140737488351232) :
    Calls Try.prog 131 #[.string s] w fun e w' => e = .returned (.bool (validP s)) ∧ Below w.heap.size w w' := by
  go_enter Try.func131, Try.ntmps131
  go_wp2
  go_loopw [] (fun w' => ∃ pos : Nat, pos ≤ s.size ∧ w' = w.iter s pos ∧ Hid (okTo s pos)) (fun w' => s.size - w'.iterPos w.heap.size)
  case atStart => exact ⟨0, by omega, rfl, Lib.hid (okTo_zero s)⟩
  case round =>
    obtain ⟨pos, hpl, rfl, ho⟩ := hrel
    by_cases hp : pos < s.size
    · have hnx : ∀ ty, (Instr.next (.pointer (some ⟨w.heap.size, 0, none⟩)) true ty).run Try.prog (w.iter s pos) = _ := fun ty => run_next_any w s pos ty hp
      by_cases hr : okR ((Utf8.decode s pos).1 : Int)
      · obtain ⟨h1, h2⟩ := rune_ok hp hr
        have HO := Lib.hid (okTo_succ ho.out hp h1)
        have HR := Lib.hid (decide_eq_true hr)
        rw [h2] at hnx
        clear hr h1 h2
        go_wp2_with fail
        refine (isPartRune _ _).mono ?_
        rintro e w2 ⟨rfl, rfl⟩
        rw [HR.out]
        go_wp2
        go_roundw
        case rel => exact ⟨pos + 1, by omega, rfl, HO⟩
        case measure => simp; omega
      · have HV := Lib.hid (validP_byte hp (rune_not hp hr))
        have HR := Lib.hid (decide_eq_false hr)
        clear hr
        go_wp2_with fail
        refine (isPartRune _ _).mono ?_
        rintro e w2 ⟨rfl, rfl⟩
        rw [HR.out]
        go_wp2
        go_ret
        exact ⟨ret_bool HV.out.symm, (Below.refl _ _).alloc (Nat.le_refl _) _⟩
    · obtain rfl : pos = s.size := by omega
      have hnx : ∀ ty, (Instr.next (.pointer (some ⟨w.heap.size, 0, none⟩)) true ty).run Try.prog (w.iter s s.size) = _ := fun ty => run_next_end w s s.size ty hp
      go_wp2_with fail
      refine (Num.implInRange _ _ _ _).mono ?_
      rintro e w2 ⟨rfl, rfl⟩
      go_wp2
      go_ret
      refine ⟨ret_bool ?_, (Below.refl _ _).alloc (Nat.le_refl _) _⟩
      have := ho.out
      simp only [Num.inB, validP, this, and_true]
      congr 1
      apply propext
      omega

set_option maxHeartbeats 1000000 in
theorem specValidPart (s : ByteArray) (w : World) (hl : s.size ≤ 140737488351232) :
    Calls Try.prog 113 #[.string s] w fun e w' => e = .returned (.bool (validP s)) ∧ w = w' := by
  by_cases hsz : 1 ≤ s.size ∧ s.size ≤ 8
  · obtain ⟨hs1, hs8⟩ := hsz
    go_enter Try.func113, Try.ntmps113
    go_wp2_with fail
    refine (Num.specIn_true (by omega) (by omega) _).mono ?_
    rintro e w2 ⟨rfl, rfl⟩
    go_wp2
    go_loop [3] (fun iv => ∃ k : Nat, k ≤ s.size ∧ iv = .int .i64 k ∧ Hid (okTo s k)) (fun iv => s.size - (intOf iv).toNat)
    case atStart => exact ⟨0, by omega, rfl, Lib.hid (okTo_zero s)⟩
    case round =>
      obtain ⟨k, hk, rfl, ho⟩ := hrel
      by_cases hlt : k < s.size
      · have hb := (s[k]'hlt).toNat_lt
        have hb0 : (0 : Int) ≤ ((s[k]'hlt).toNat : Int) := by omega
        have hb1 : ((s[k]'hlt).toNat : Int) ≤ 255 := by omega
        have HOK := Lib.hid (fun hc => okTo_succ ho.out hlt hc)
        have HNO := Lib.hid (fun hc => validP_byte hlt hc)
        clear hb
        go_wp2_with fail
        by_cases h1 : 97 ≤ ((s[k]'hlt).toNat : Int) ∧ ((s[k]'hlt).toNat : Int) ≤ 122
        · refine (Num.specIn_true h1.1 h1.2 _).mono ?_
          rintro e w2 ⟨rfl, rfl⟩
          have HO2 := Lib.hid (HOK.out (by unfold okR; omega))
          clear HOK HNO h1
          go_wp2
          go_round
          case rel => exact ⟨k + 1, by omega, by go_num, HO2⟩
          case measure => simp [intOf]; omega
        · refine (Num.specIn_false h1 _).mono ?_
          rintro e w2 ⟨rfl, rfl⟩
          go_wp2_with fail
          by_cases h2 : 48 ≤ ((s[k]'hlt).toNat : Int) ∧ ((s[k]'hlt).toNat : Int) ≤ 57
          · refine (Num.specIn_true h2.1 h2.2 _).mono ?_
            rintro e w2 ⟨rfl, rfl⟩
            have HO2 := Lib.hid (HOK.out (by unfold okR; omega))
            clear HOK HNO h1 h2
            go_wp2
            go_round
            case rel => exact ⟨k + 1, by omega, by go_num, HO2⟩
            case measure => simp [intOf]; omega
          · refine (Num.specIn_false h2 _).mono ?_
            rintro e w2 ⟨rfl, rfl⟩
            by_cases h3 : (s[k]'hlt).toNat = 45
            · have h3b : (((s[k]'hlt).toNat : Int) != 45) = false := by simp [h3]
              have HO2 := Lib.hid (HOK.out (by unfold okR; omega))
              clear HOK HNO h1 h2
              go_wp2
              go_round
              case rel => exact ⟨k + 1, by omega, by go_num, HO2⟩
              case measure => simp [intOf]; omega
            · have h3b : (((s[k]'hlt).toNat : Int) != 45) = true := by simp; omega
              have HV := Lib.hid (HNO.out (by unfold okR; omega))
              clear HOK HNO h1 h2 h3
              go_wp2
              go_ret
              exact ⟨ret_bool HV.out.symm, rfl⟩
      · obtain rfl : k = s.size := by omega
        have HV := Lib.hid (validP_true hs1 hs8 ho.out)
        go_wp2
        go_ret
        exact ⟨ret_bool HV.out.symm, rfl⟩
  · have HV := Lib.hid (validP_size hsz)
    go_enter Try.func113, Try.ntmps113
    go_wp2_with fail
    refine (Num.specIn_false (by omega) _).mono ?_
    rintro e w2 ⟨rfl, rfl⟩
    go_wp2
    go_ret
    exact ⟨ret_bool HV.out.symm, rfl⟩

end Go.Proofs.Ytcidfmmeonhkhaa.Row
