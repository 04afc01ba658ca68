/- Contracts of the helpers by which the laws measure, copy, compare, mark and look at tables. No conditions but that lengths fit. -/
import Derived.Test.YtihcebjbkifbpaaTab
namespace Go.Proofs.Ytihcebjbkifbpaa.Row
open Go.ChangeShapes Go.WideShapes Go.ChangeAt Go.RowKit Go.Instr
set_option linter.unusedVariables false
set_option maxRecDepth 100000

/-- Length and sizes of a table together, up to place k. -/
def bulkTTo (l : List (List ByteArray × Int)) (k : Nat) : Nat := l.length + ((l.take k).map (fun x => bulk x.1)).sum
def bulkT (l : List (List ByteArray × Int)) : Nat := bulkTTo l l.length
theorem bulkTTo_zero (l : List (List ByteArray × Int)) : bulkTTo l 0 = l.length := by simp [bulkTTo]
theorem bulkTTo_succ (l : List (List ByteArray × Int)) {k : Nat} (h : k < l.length) : bulkTTo l (k + 1) = bulkTTo l k + bulk (nth l k).1 := by
  unfold bulkTTo
  rw [List.take_succ_eq_append_getElem h, nth_eq h, List.map_append, List.sum_append]
  simp only [List.map_cons, List.map_nil, List.sum_cons, List.sum_nil]
  omega
theorem bulkTTo_le (l : List (List ByteArray × Int)) (k : Nat) : bulkTTo l k ≤ bulkT l := by
  unfold bulkT bulkTTo
  have := sum_take_le (l.map (fun x => bulk x.1)) k
  rw [List.take_length, List.map_take]; omega
theorem bulkT_len (l : List (List ByteArray × Int)) : l.length ≤ bulkT l := by unfold bulkT bulkTTo; omega
theorem bigLenT {l : List (List ByteArray × Int)} {n : Nat} (h : bulkT l ≤ n) : l.length ≤ n := Nat.le_trans (bulkT_len l) h
theorem bulkT_mem {l : List (List ByteArray × Int)} {x : List ByteArray × Int} (h : x ∈ l) : bulk x.1 ≤ bulkT l := by
  obtain ⟨k, hk, rfl⟩ := List.getElem_of_mem h
  have h1 := bulkTTo_succ l hk
  have h2 := bulkTTo_le l (k + 1)
  rw [nth_eq hk] at h1
  omega
def szLT (l : List (List ByteArray × Int)) (left : Int) : Int := if (bulkT l : Int) ≤ left then left - bulkT l else -1
theorem szLT_fit {l : List (List ByteArray × Int)} {left : Int} (h : (bulkT l : Int) ≤ left) : szLT l left = left - bulkT l := if_pos h
theorem szLT_not {l : List (List ByteArray × Int)} {left : Int} (h : left < (bulkT l : Int)) : szLT l left = -1 := if_neg (by omega)

set_option maxHeartbeats 4000000 in
theorem szTableEntry (v : Value) (l : List ByteArray) (val : Int) (w : World) (left : Int) (h : Holds Value.string w v l) (hl : l.length ≤ 9223372036854775807) (hs : ∀ x ∈ l, x.size ≤ maxLen) (h0 : 0 ≤ left) (h1 : left ≤ 1048576) :
    Calls Try.prog 71 #[.agg #[v, .int .i64 val], .int .i64 left] w fun e w' => e = .returned (.int .i64 (szL l left)) ∧ Below w.heap.size w w' := by
  obtain ⟨x, n, cap, rfl, hn, hcap, hh⟩ := h.shapeN
  have HB := Lib.hid ((Below.refl w.heap.size w).alloc (Nat.le_refl _) (.cells #[.slice x n cap, .int .i64 val] 75))
  have HA := Lib.hid (hh.on HB.out); have HS := Lib.hid hs
  clear hh h hs hn
  go_enter Try.func71, Try.ntmps71
  go_wp2_with fail
  refine (szName _ l _ left HA.out hl HS.out h0 h1).mono ?_
  rintro e w' ⟨rfl, hb⟩
  have HB2 := Lib.hid (HB.out.trans (hb.mono HB.out.size)); clear hb
  by_cases hb : (bulk l : Int) ≤ left
  · rw [szL_fit hb]
    have h2 : ¬ left - (bulk l : Int) < 0 := by omega
    go_wp2
    go_ret
    exact ⟨ret_int (szL_fit hb).symm, HB2.out⟩
  · have hz := szL_not (l := l) (left := left) (by omega)
    rw [hz]
    have HZ := Lib.hid hz; clear hz
    go_wp2
    go_ret
    exact ⟨ret_int HZ.out.symm, HB2.out⟩

set_option maxHeartbeats 4000000 in
theorem szTableEntryS (v : Value) (T : List (List ByteArray × Int)) (w : World) (left : Int) (h : TabHolds w v T) (hl : T.length ≤ 9223372036854775807) (hs : ∀ t ∈ T, t.1.length ≤ 9223372036854775807 ∧ ∀ x ∈ t.1, x.size ≤ maxLen) (h0 : 0 ≤ left) (h1 : left ≤ 1048576) :
    Calls Try.prog 33 #[v, .int .i64 left] w fun e w' => e = .returned (.int .i64 (szLT T left)) ∧ Below w.heap.size w w' := by
  obtain ⟨L, hT, h⟩ := h
  obtain ⟨x, n, cap, rfl, hn, hcap, hh⟩ := h.shapeN
  have hle := bulkTTo_le T
  have hb0 := bulkTTo_zero T
  have hlen : T.length = n := by rw [← hT, strip_length]; exact hn.symm
  rw [hlen] at hl hb0
  by_cases hbig : left < (n : Int)
  · have hS : szLT T left = -1 := szLT_not (by have := bulkT_len T; omega)
    rw [hS]
    clear hh h hs hle hn hb0 hS hT hlen
    go_enter Try.func33, Try.ntmps33
    go_wp2
    go_ret
    exact ⟨rfl, Below.refl _ _⟩
  have HN := Lib.hid hn
  have HT := Lib.hid hT
  have HH := Lib.hid hh
  have HS := Lib.hid hs
  have HLE := Lib.hid hle
  have HB0 := Lib.hid hb0
  have HLEN := Lib.hid hlen
  clear hn h hh hs hle hb0 hT hlen
  go_enter Try.func33, Try.ntmps33
  go_wp2
  go_loopw [1, 5] (fun lv i wr => ∃ k : Nat, k ≤ n ∧ i = .int .i64 k ∧ ∃ u : Int, lv = .int .i64 u ∧ u = left - bulkTTo T k ∧ 0 ≤ u ∧ Hid (Below w.heap.size w wr)) (fun _ i _ => n - (intOf i).toNat)
  case atStart => exact ⟨0, Nat.zero_le _, rfl, _, rfl, by rw [HB0.out], by omega, Lib.hid (Below.refl _ _)⟩
  case round =>
    obtain ⟨k, hk, rfl, u, rfl, hu, h0u, hb⟩ := hrel
    have hub : u ≤ left := by omega
    have HU := Lib.hid hu
    clear hu
    by_cases hlt : k < n
    · have hlen := HN.out
      obtain ⟨b, off, rfl, hc1, hc2, hnm⟩ := (HH.out.on hb.out).at (k := k) (by omega)
      have hpt : (nth T k).1 = (nth L k).ps := by rw [← HT.out, strip_nth (by omega)]; rfl
      have hsz := HS.out (nth T k) (nth_mem (by have := HLEN.out; omega))
      rw [hpt] at hsz
      have HNM := Lib.hid hnm
      have HSZ := Lib.hid hsz
      have hstep := Lib.hid (bulkTTo_succ T (k := k) (by have := HLEN.out; omega))
      rw [hpt] at hstep
      have hall := HLE.out (k + 1)
      have HALL := Lib.hid hall
      clear hlen hall hsz hpt hnm
      go_wp2_with fail
      refine (szTableEntry _ (nth L k).ps _ wr u HNM.out HSZ.out.1 HSZ.out.2 h0u (by omega)).mono ?_
      rintro e w1 ⟨rfl, hb1⟩
      have HB1 := Lib.hid (hb.out.trans (hb1.mono hb.out.size))
      clear hb1 hc1 hc2
      by_cases c1 : (bulk (nth L k).ps : Int) ≤ u
      · rw [szL_fit c1]
        have h2 : ¬ u - (bulk (nth L k).ps : Int) < 0 := by omega
        go_wp2
        go_roundw
        case rel => exact ⟨k + 1, by omega, by go_num, _, rfl, by rw [hstep.out, HU.out]; omega, by omega, HB1⟩
        case measure => simp [intOf]; omega
      · rw [szL_not (by omega)]
        have HZ : Hid (szLT T left = -1) := by
          have e1 := HALL.out; have e2 := HU.out; have e3 := hstep.out
          exact szLT_not (by omega)
        clear c1
        go_wp2
        go_ret
        exact ⟨ret_int HZ.out.symm, HB1.out⟩
    · obtain rfl : k = n := by omega
      clear hlt
      go_wp2
      go_ret
      refine ⟨ret_int ?_, hb.out⟩
      have := HU.out
      rw [← HLEN.out] at this
      rw [szLT_fit (by unfold bulkT; omega)]
      exact this

set_option maxHeartbeats 4000000 in
theorem toTableEntry (v : Value) (l : List ByteArray) (val : Int) (w : World) (h : Holds Value.string w v l) (hl : l.length ≤ 100000000) :
    Calls Try.prog 72 #[.agg #[v, .int .i64 val]] w fun e w' => ∃ v', e = .returned (.agg #[v', .int .i64 val]) ∧ Own 9 Value.string w.heap.size w' v' l ∧ Below w.heap.size w w' := by
  obtain ⟨x, n, cap, rfl, hn, hcap, hh⟩ := h.shapeN
  have HB := Lib.hid ((((Below.refl w.heap.size w).alloc (Nat.le_refl _) (.cells #[.slice x n cap, .int .i64 val] 75)).alloc (by simp) (.cells #[.slice none 0 0, .int .i64 0] 44)).alloc (by simp; omega) (.cells #[.slice none 0 0, .int .i64 0] 44))
  have HA := Lib.hid (hh.on HB.out)
  clear hh h hn
  go_enter Try.func72, Try.ntmps72
  go_wp2_with fail
  refine (toName _ l _ HA.out hl).mono ?_
  rintro e w1 ⟨v1, rfl, ho, hb⟩
  obtain ⟨x1, n1, c1, rfl, -, hc1, ho1⟩ := ho.shapeN
  have HO := Lib.hid ho1
  have HB1 := Lib.hid hb
  clear ho ho1 hb
  have hq0 : w1.cell? ⟨w.heap.size, 1, none⟩ = some (.int .i64 val) := by rw [HB1.out.cell (by simp <;> omega), World.cell?_alloc_past _ _ _ (by simp <;> omega), World.cell?_alloc_past _ _ _ (by simp <;> omega), World.cell?_alloc_at _ _ _ _ rfl]; rfl
  have hk0 : w1.cell? ⟨w.heap.size + 1, 0, none⟩ = some (.slice none 0 0) := by rw [HB1.out.cell (by simp), World.cell?_alloc_past _ _ _ (by simp), World.cell?_alloc_at _ _ _ _ (by simp)]; rfl
  have hk1 : w1.cell? ⟨w.heap.size + 1, 1, none⟩ = some (.int .i64 0) := by rw [HB1.out.cell (by simp), World.cell?_alloc_past _ _ _ (by simp), World.cell?_alloc_at _ _ _ _ (by simp)]; rfl
  have hm0 : w1.cell? ⟨w.heap.size + 1 + 1, 0, none⟩ = some (.slice none 0 0) := by rw [HB1.out.cell (by simp), World.cell?_alloc_at _ _ _ _ (by simp)]; rfl
  have hm1 : w1.cell? ⟨w.heap.size + 1 + 1, 1, none⟩ = some (.int .i64 0) := by rw [HB1.out.cell (by simp), World.cell?_alloc_at _ _ _ _ (by simp)]; rfl
  have hf0 : w1.frozen? ⟨w.heap.size + 1, 0, none⟩ = false := by rw [HB1.out.frozen (by simp), World.frozen?_alloc_past _ _ _ (by simp), World.frozen?_alloc_at _ _ _ _ (by simp)]
  have hf1 : w1.frozen? ⟨w.heap.size + 1, 1, none⟩ = false := by rw [HB1.out.frozen (by simp), World.frozen?_alloc_past _ _ _ (by simp), World.frozen?_alloc_at _ _ _ _ (by simp)]
  have hg0 : w1.frozen? ⟨w.heap.size + 1 + 1, 0, none⟩ = false := by rw [HB1.out.frozen (by simp), World.frozen?_alloc_at _ _ _ _ (by simp)]
  have hg1 : w1.frozen? ⟨w.heap.size + 1 + 1, 1, none⟩ = false := by rw [HB1.out.frozen (by simp), World.frozen?_alloc_at _ _ _ _ (by simp)]
  go_wp2
  have hk4 := Ret.set_same (v := .int .i64 val) (a := ⟨w.heap.size + 1, 1, none⟩) (w := ((w1.setCell ⟨w.heap.size + 1 + 1, 0, none⟩ (.slice x1 n1 c1)).setCell ⟨w.heap.size + 1 + 1, 1, none⟩ (.int .i64 val)).setCell ⟨w.heap.size + 1, 0, none⟩ (.slice x1 n1 c1)) (u := .int .i64 0) (by rw [World.cell?_setCell_other _ _ _ _ (by simp), World.cell?_setCell_other _ _ _ _ (by simp), World.cell?_setCell_other _ _ _ _ (by simp)]; exact hk1)
  have hk3 := Ret.set_same (v := .slice x1 n1 c1) (a := ⟨w.heap.size + 1, 0, none⟩) (w := (w1.setCell ⟨w.heap.size + 1 + 1, 0, none⟩ (.slice x1 n1 c1)).setCell ⟨w.heap.size + 1 + 1, 1, none⟩ (.int .i64 val)) (u := .slice none 0 0) (by rw [World.cell?_setCell_other _ _ _ _ (by simp), World.cell?_setCell_other _ _ _ _ (by simp)]; exact hk0)
  refine bodyPost_ret (Ret.results_c rfl _ _ (w.heap.size + 1) [.slice x1 n1 c1, .int .i64 val] rfl (by unfold Ret.AggOf; exact ⟨by kernel_rfl, by kernel_rfl⟩) (Ret.two (by rw [World.cell?_setCell_other _ _ _ _ (by simp)]; exact hk3) hk4)) rfl ?_
  have hs := HB1.out.size
  simp at hs
  have hO2 := (((HO.out.grown (Ret.grownBy_set w1 ⟨w.heap.size + 1 + 1, 0, none⟩ (.slice x1 n1 c1)) (nb HO.out (by simp))).grown (Ret.grownBy_set _ ⟨w.heap.size + 1 + 1, 1, none⟩ (.int .i64 val)) (nb HO.out (by simp))).grown (Ret.grownBy_set _ ⟨w.heap.size + 1, 0, none⟩ (.slice x1 n1 c1)) (nb HO.out (by simp))).grown (Ret.grownBy_set _ ⟨w.heap.size + 1, 1, none⟩ (.int .i64 val)) (nb HO.out (by simp))
  exact ⟨_, rfl, hO2.mono (by simp; omega), ((((HB.out.trans (HB1.out.mono (by simp; omega))).setCell (by simp; omega) _).setCell (by simp; omega) _).setCell (by simp) _).setCell (by simp) _⟩

/-! ### a table's copy -/
theorem pairwise_set {α : Type} {R : α → α → Prop} {x : α} : ∀ {L : List α} (k : Nat), L.Pairwise R → (∀ y ∈ L, R y x ∧ R x y) → (L.set k x).Pairwise R
  | [], _, _, _ => by simp
  | a :: r, 0, h, g => by
    rw [List.set_cons_zero, List.pairwise_cons]
    rw [List.pairwise_cons] at h
    exact ⟨fun y hy => (g y (by simp [hy])).2, h.2⟩
  | a :: r, k + 1, h, g => by
    rw [List.set_cons_succ, List.pairwise_cons]
    rw [List.pairwise_cons] at h
    refine ⟨fun y hy => ?_, pairwise_set k h.2 (fun y hy => g y (by simp [hy]))⟩
    rcases List.mem_or_eq_of_mem_set hy with hy | hy
    · exact h.1 y hy
    · rw [hy]; exact (g a (by simp)).1
theorem ent_store {B : Nat} {w : World} {g n cap : Nat} {L : List Ent} (h : OwnK 44 encE 2 B w (.slice (some ⟨g, 0, none⟩) n cap) L) (hn : n = L.length) {k : Nat} (hk : k < L.length) (x : Ent) :
    OwnK 44 encE 2 B ((w.setCell ⟨g, k * 2, none⟩ x.v).setCell ⟨g, k * 2 + 1, none⟩ (.int .i64 x.val)) (.slice (some ⟨g, 0, none⟩) n cap) (L.set k x) ∧ w.grownBy ((w.setCell ⟨g, k * 2, none⟩ x.v).setCell ⟨g, k * 2 + 1, none⟩ (.int .i64 x.val)) (some g) := by
  obtain ⟨a1, a2⟩ := ownK_store szE h hn hk (i := 0) (by decide) (y := ⟨x.ad, x.n, x.cap, x.ps, (nth L k).val⟩) (u := x.v) rfl
  obtain ⟨b1, b2⟩ := ownK_store szE a1 (by simpa using hn) (j := k) (by simpa using hk) (i := 1) (by decide) (y := x) (u := .int .i64 x.val) (by rw [nth_set hk]; rfl)
  rw [List.set_set] at b1
  exact ⟨b1, Go.World.grownBy.trans a2 b2⟩
/-- An entry of its own is stored. -/
theorem TabO.put {B : Nat} {w : World} {g n cap : Nat} {L : List Ent} (h : TabO B w (.slice (some ⟨g, 0, none⟩) n cap) L) (hn : n = L.length) {k : Nat} (hk : k < L.length) {x : Ent} (hx : Own 9 Value.string B w x.v x.ps) (hap : ∀ y ∈ L, Apart y.v x.v) :
    TabO B ((w.setCell ⟨g, k * 2, none⟩ x.v).setCell ⟨g, k * 2 + 1, none⟩ (.int .i64 x.val)) (.slice (some ⟨g, 0, none⟩) n cap) (L.set k x) ∧ w.grownBy ((w.setCell ⟨g, k * 2, none⟩ x.v).setCell ⟨g, k * 2 + 1, none⟩ (.int .i64 x.val)) (some g) := by
  obtain ⟨a1, a2⟩ := ent_store h.1 hn hk x
  refine ⟨⟨a1, fun y hy => ?_, pairwise_set k h.2.2 (fun y hy => ⟨hap y hy, (hap y hy).symm⟩)⟩, a2⟩
  rcases List.mem_or_eq_of_mem_set hy with hy | hy
  · exact h.names a2 y hy
  · rw [hy]; exact hx.grown a2 (apart_or (name_row hx h.1))
/-- The list behind j stores of a copy: j entries made, the others empty. -/
def madeTo (M : List Ent) (n : Nat) : List Ent := M ++ List.replicate (n - M.length) default
theorem madeTo_length {M : List Ent} {n : Nat} (h : M.length ≤ n) : (madeTo M n).length = n := by simp [madeTo]; omega
theorem madeTo_step {M : List Ent} {n : Nat} (h : M.length < n) (x : Ent) : (madeTo M n).set M.length x = madeTo (M ++ [x]) n := by
  unfold madeTo
  rw [List.set_append_right _ _ (Nat.le_refl _), Nat.sub_self, show n - M.length = (n - (M ++ [x]).length) + 1 by simp; omega, List.replicate_succ, List.set_cons_zero, List.append_assoc]
  rfl
theorem madeTo_all {M : List Ent} {n : Nat} (h : M.length = n) : madeTo M n = M := by simp [madeTo, h]

set_option maxHeartbeats 2000000 in
theorem toTableEntryS (v : Value) (T : List (List ByteArray × Int)) (w : World) (h : TabHolds w v T) (hl : T.length ≤ 100000000) (hs : ∀ t ∈ T, t.1.length ≤ 100000000) :
    Calls Try.prog 34 #[v] w fun e w' => ∃ v', e = .returned v' ∧ TabOwn w.heap.size w' v' T ∧ Below w.heap.size w w' := by
  obtain ⟨L, rfl, h⟩ := h
  obtain ⟨x, n, cap, rfl, hn, hcap, hh⟩ := h.shapeN
  obtain ⟨i0, hi, hz0, hz1, hz2⟩ := info_parts kindE.elem
  rw [strip_length, ← hn] at hl
  have HN := Lib.hid hn
  have HH := Lib.hid hh
  have HS := Lib.hid hs
  have HI := Lib.hid hi; have HZ0 := Lib.hid hz0; have HZ1 := Lib.hid hz1; have HZ2 := Lib.hid hz2
  clear hn h hh hi hz0 hz1 hz2 hs
  go_enter Try.func34, Try.ntmps34
  go_wp2_with (at_make; refine wpList_make_full _ rfl _ _ 24 rfl w.heap.size 44 i0 (.agg #[.slice none 0 0, .int .i64 0]) 2 Try.underlying24 HI.out HZ0.out HZ1.out _ _ _ _ n rfl rfl rfl rfl (by rw [HZ2.out]; omega) (by unfold maxLen; omega) (Nat.le_refl _) ?_)
  intro w1 hown hgrow
  have ho : TabO w.heap.size w1 (.slice (some ⟨w.heap.size, 0, none⟩) n n) (madeTo [] n) := by
    have e1 : madeTo [] n = List.replicate n default := by simp [madeTo]
    rw [e1]
    refine ⟨?_, ?_, ?_⟩
    · unfold OwnK
      rw [List.length_replicate, ← madeK szE (by decide) (z := .agg #[.slice none 0 0, .int .i64 0]) rfl n]
      exact hown
    · intro y hy
      rw [List.eq_of_mem_replicate hy]
      exact Own.nil _ _ _ _
    · rw [List.pairwise_replicate]
      exact Or.inr (fun g h1 => by cases h1)
  have HO := Lib.hid ho
  have HB := Lib.hid ((Below.refl w.heap.size w).grown hgrow (Nat.le_refl _) (fun g hg => by cases hg))
  clear ho hown hgrow
  go_wp2
  go_loopw [4] (fun i wr => ∃ j : Nat, j ≤ n ∧ i = .int .i64 j ∧ ∃ M : List Ent, Hid (M.length = j) ∧ Hid (strip M = (strip L).take j) ∧ Hid (TabO w.heap.size wr (.slice (some ⟨w.heap.size, 0, none⟩) n n) (madeTo M n)) ∧ Hid (Below w.heap.size w wr)) (fun i _ => n - (intOf i).toNat)
  case atStart => exact ⟨0, Nat.zero_le _, rfl, [], Lib.hid rfl, Lib.hid (by simp [strip]), HO, HB⟩
  case round =>
    obtain ⟨j, hj, rfl, M, hM, hst, ho, hb⟩ := hrel
    by_cases hlt : j < n
    · have hlen := HN.out
      obtain ⟨b, off, rfl, hc1, hc2, hnm⟩ := (HH.out.on hb.out).at (k := j) (by omega)
      have HNM := Lib.hid hnm
      have HPS := Lib.hid (HS.out _ (strip_mem (nth_mem (L := L) (k := j) (by omega))))
      have HST := Lib.hid (show (strip L).take (j + 1) = (strip L).take j ++ [(nth L j).t] by rw [List.take_succ_eq_append_getElem (by rw [strip_length]; omega), ← nth_eq, strip_nth (by omega)])
      clear hlen hnm
      go_wp2_with fail
      refine (toTableEntry _ (nth L j).ps _ wr HNM.out HPS.out).mono ?_
      rintro e w1 ⟨v1, rfl, ho1, hb1⟩
      obtain ⟨x1, n1, c1, rfl, -, hc1', ho1⟩ := ho1.shapeN
      have HO1 := Lib.hid (ho.out.on hb1)
      have HA := Lib.hid (ho.out.fresh (fun g hg => (ho1.lt g hg).1))
      have HX := Lib.hid (ho1.mono hb.out.size)
      have HB1 := Lib.hid (hb.out.trans (hb1.mono hb.out.size))
      have hml : n = (madeTo M n).length := (madeTo_length (by have := hM.out; omega)).symm
      have hmj : j < (madeTo M n).length := by omega
      obtain ⟨⟨k1, k2⟩, ⟨k3, k4⟩, -⟩ := HO1.out.cells hml hmj
      obtain ⟨p1, p2⟩ := HO1.out.put hml hmj (x := ⟨x1, n1, c1, (nth L j).ps, (nth L j).val⟩) HX.out HA.out
      have HP1 := Lib.hid p1
      have HP2 := Lib.hid p2
      clear hc1 hc2 ho1 hb1 hml hmj p1 p2
      go_wp2
      go_roundw
      case rel =>
        refine ⟨j + 1, by omega, by go_num, M ++ [⟨x1, n1, c1, (nth L j).ps, (nth L j).val⟩], Lib.hid (by simp [hM.out]), Lib.hid ?_, Lib.hid ?_, Lib.hid (HB1.out.grown HP2.out HB1.out.size (fun g hg => by cases hg; exact Nat.le_refl _))⟩
        · rw [strip_append, hst.out, HST.out]; rfl
        · rw [← madeTo_step (by have := hM.out; omega), hM.out]; exact HP1.out
      case measure => simp [intOf]; omega
    · obtain rfl : j = n := by omega
      clear hlt
      go_wp2
      go_ret
      refine ⟨_, rfl, ⟨M, ?_, ?_⟩, hb.out⟩
      · rw [hst.out, List.take_of_length_le (by rw [strip_length, ← HN.out]; omega)]
      · have := ho.out
        rw [madeTo_all hM.out] at this
        exact this
end Go.Proofs.Ytihcebjbkifbpaa.Row
