/- Contracts of the copies of tables, the program's and the model's. No conditions but that lengths fit. -/
import Derived.Test.YtihcebjbkifbpaaTabV
import Derived.Deep.RegionLaw
namespace Go.Proofs.Ytihcebjbkifbpaa.Row
open Go.ChangeShapes Go.WideShapes Go.ChangeAt Go.RowKit Go.Instr
set_option linter.unusedVariables false
set_option maxRecDepth 100000

/-- A result that is a table of the call's own. -/
def GivesT (w : World) (T : List (List ByteArray × Int)) (e : Ending) (w' : World) : Prop := ∃ v, e = .returned v ∧ TabOwn w.heap.size w' v T ∧ Below w.heap.size w w'
/-- A table grows by one entry whose name is new. -/
theorem TabO.grow {B : Nat} {w wd w3 w4 : World} {v v4 : Value} {M : List Ent} {x : Ent} {o : Obj} (hT : TabO B wd v M) (hW : Below B w wd) (hB : B ≤ wd.heap.size) (hb3 : Below wd.heap.size wd w3) (ho3 : Own 9 Value.string wd.heap.size w3 x.v x.ps)
    (ho4 : OwnK 44 encE 2 B w4 v4 (M ++ [x])) (hg4 : (w3.alloc o).grownBy w4 v.ownBlock) : TabO B w4 v4 (M ++ [x]) ∧ Below B w w4 := by
  have ha := (Below.refl w3.heap.size w3).alloc (Nat.le_refl _) o
  refine ⟨((hT.on hb3).on ha).push ((ho3.on ha).mono hB) (hT.fresh fun g hg => (ho3.lt g hg).1) ho4 hg4, ?_⟩
  have h1 := (hW.trans (hb3.mono hB)).alloc (Nat.le_trans hB hb3.size) o
  exact h1.grown hg4 (by have := hb3.size; simp; omega) (fun g hg => (hT.lt.1 g hg).1)
theorem take_next {T : List (List ByteArray × Int)} {k : Nat} (h : k < T.length) : T.take (k + 1) = T.take k ++ [nth T k] := by rw [List.take_succ_eq_append_getElem h, nth_eq h]
theorem strip_next {M L : List Ent} {k : Nat} {x : Ent} (h : k < L.length) (hM : strip M = (strip L).take k) (hx : x.t = (nth L k).t) : strip (M ++ [x]) = (strip L).take (k + 1) := by
  rw [strip_append, hM, take_next (by rw [strip_length]; exact h), strip_nth h, ← hx]; rfl

set_option maxHeartbeats 4000000 in
theorem cloneName (v : Value) (l : List ByteArray) (w : World) (h : Holds Value.string w v l) (hl : l.length ≤ 9000000) :
    Calls Try.prog 50 #[.agg #[v]] w (GivesN w l) := by
  obtain ⟨x, n, cap, rfl, hn, hcap, hh⟩ := h.shapeN
  have HB0 := Lib.hid (((Below.refl w.heap.size w).alloc (Nat.le_refl _) (.cells #[.slice x n cap] 27)).alloc (by simp) (.cells #[.slice none 0 0] 27))
  have HH := Lib.hid (hh.on HB0.out)
  have HR := Lib.hid (Ret.NC.new' (.slice none 0 0) 27 (w := w.alloc (.cells #[.slice x n cap] 27)) (n := w.heap.size + 1) (by simp))
  clear hh h hn
  go_enter Try.func50, Try.ntmps50
  go_wp2_with fail
  refine (cloneS _ l _ HH.out (by omega)).mono ?_
  rintro e w1 ⟨v1, rfl, ho, hb⟩
  obtain ⟨x1, n1, c1, rfl, -, -, ho1⟩ := ho.shapeN
  have HR1 := Lib.hid (HR.out.on hb)
  obtain ⟨hk, hf⟩ := HR1.out
  have HB1 := HB0.out.trans (hb.mono HB0.out.size)
  obtain ⟨q1, q2, q3⟩ := endN (w := w) (g := w.heap.size + 1) (by omega) (by simp) ho1 hk HB1
  have HQ1 := Lib.hid q1; have HQ2 := Lib.hid q2; have HQ3 := Lib.hid q3
  clear q1 q2 q3 ho ho1 hb HB1
  go_wp2
  refine bodyPost_ret (Ret.results_c rfl _ _ (w.heap.size + 1) [_] rfl aggN (Ret.one HQ1.out)) rfl ?_
  exact ⟨_, rfl, HQ2.out, HQ3.out⟩

set_option maxHeartbeats 4000000 in
theorem cloneTable (v : Value) (T : List (List ByteArray × Int)) (w : World) (h : TabHolds w v T) (hl : T.length ≤ 4000000) (hT : smT T) :
    Calls Try.prog 47 #[v] w (GivesT w T) := by
  obtain ⟨L, rfl, h⟩ := h
  obtain ⟨x, n, cx, rfl, hn, hcx, hh⟩ := h.shapeN
  obtain ⟨i0, hi, hz0, hz1, hz2⟩ := info_parts kindE.elem
  rw [strip_length, ← hn] at hl
  have HN := Lib.hid hn
  have HH := Lib.hid hh
  have HT := Lib.hid hT
  have HI := Lib.hid hi; have HZ0 := Lib.hid hz0; have HZ1 := Lib.hid hz1; have HZ2 := Lib.hid hz2
  clear hn h hh hT hi hz0 hz1 hz2
  go_enter Try.func47, Try.ntmps47
  go_wp2_with (at_make; refine wpList_make_own _ rfl _ _ 24 rfl w.heap.size 44 i0 (.agg #[.slice none 0 0, .int .i64 0]) 2 Try.underlying24 HI.out HZ0.out HZ1.out _ _ _ n rfl rfl rfl (by rw [HZ2.out]; omega) (by unfold maxLen; omega) (Nat.le_refl _) ?_)
  intro w1 hown hgrow
  have HO := Lib.hid (show TabO w.heap.size w1 (.slice (some ⟨w.heap.size, 0, none⟩) 0 n) [] from ⟨hown, by simp, by simp⟩)
  have HB := Lib.hid ((Below.refl w.heap.size w).grown hgrow (Nat.le_refl _) (fun g hg => by cases hg))
  clear hown hgrow HI HZ0 HZ1 HZ2
  go_wp2
  go_loopw [3, 11] (fun u i wr => ∃ k : Nat, k ≤ n ∧ i = .int .i64 k ∧ ∃ M : List Ent, Hid (M.length = k) ∧ Hid (strip M = (strip L).take k) ∧ Hid (TabO w.heap.size wr u M) ∧ Hid (Below w.heap.size w wr)) (fun _ i _ => n - (intOf i).toNat)
  case atStart => exact ⟨0, Nat.zero_le _, rfl, [], Lib.hid rfl, Lib.hid (by simp [strip]), HO, HB⟩
  case round =>
    obtain ⟨k, hk, rfl, M, hM, hst, ho, hb⟩ := hrel
    obtain ⟨xu, nu, cu, rfl, -, -, ho⟩ := ho.out.shapeN
    have ho := Lib.hid ho
    by_cases hlt : k < n
    · have hlen := HN.out
      obtain ⟨b, off, rfl, hc, hd, hnm⟩ := (HH.out.on hb.out).at (k := k) (by omega)
      have HL := Lib.hid (smT_psl HT.out (k := k) (by omega))
      have hal := ((Below.refl wr.heap.size wr).alloc (Nat.le_refl _) (.cells #[.slice (nth L k).ad (nth L k).n (nth L k).cap, .int .i64 (nth L k).val] 44)).drew
      have HOd := Lib.hid (ho.out.on hal)
      have HNM := Lib.hid (hnm.on hal)
      have HBd := Lib.hid (hb.out.trans (hal.mono hb.out.size))
      have hq1 : (wr.alloc (.cells #[.slice (nth L k).ad (nth L k).n (nth L k).cap, .int .i64 (nth L k).val] 44)).drew.cell? ⟨wr.heap.size, 1, none⟩ = some (.int .i64 (nth L k).val) := by
        rw [show (wr.alloc (.cells #[.slice (nth L k).ad (nth L k).n (nth L k).cap, .int .i64 (nth L k).val] 44)).drew.cell? ⟨wr.heap.size, 1, none⟩ = (wr.alloc (.cells #[.slice (nth L k).ad (nth L k).n (nth L k).cap, .int .i64 (nth L k).val] 44)).cell? ⟨wr.heap.size, 1, none⟩ from rfl, World.cell?_alloc_at _ _ _ _ rfl]; rfl
      have HLM := Lib.hid (show (M.length + 1) * 32 ≤ 140737488355328 by have := hM.out; omega)
      have HLX := Lib.hid (show M.length + 1 ≤ maxLen by have := hM.out; unfold maxLen; omega)
      have HKL := Lib.hid (show k < L.length by omega)
      clear hlen hnm hal
      go_wp2_with fail
      go_region_law (first | (refine step_appK kindE (B := w.heap.size) (l := M) (m := [⟨x3, n3, c3, (nth L k).ps, (nth L k).val⟩]) rfl _ _ (by rfl) Try.underlying24 (by rfl) (by rfl) HOA.out (holdsK_one szE 44 w3 ⟨x3, n3, c3, (nth L k).ps, (nth L k).val⟩) HLM.out HLX.out hB3 ?_; intro v4 w4 ho4 hg4; obtain ⟨x4, n4, c4, rfl, -, -, ho4⟩ := ho4.shapeN; have HQ := Lib.hid (TabO.grow HOd.out HBd.out HBd.out.size HB3.out HO3.out ho4 hg4); clear ho4 hg4) | (go_simp; go_at_call 50; refine (cloneName _ (nth L k).ps _ HNM.out HL.out).mono ?_; rintro e w3 ⟨v3, rfl, ho3, hb3⟩; obtain ⟨x3, n3, c3, rfl, -, -, ho3⟩ := ho3.shapeN; have HO3 := Lib.hid (show Own 9 Value.string _ w3 (Ent.v ⟨x3, n3, c3, (nth L k).ps, (nth L k).val⟩) (nth L k).ps from ho3); have HB3 := Lib.hid hb3; have hq3 : w3.cell? ⟨wr.heap.size, 1, none⟩ = some (.int .i64 (nth L k).val) := (hb3.cell (cell_lt hq1)).trans hq1; have HOA := Lib.hid ((HOd.out.1.on hb3).on ((Below.refl _ _).alloc (Nat.le_refl _) (.cells #[.slice x3 n3 c3, .int .i64 (nth L k).val] 44))); have hB3 : w.heap.size ≤ (w3.alloc (.cells #[.slice x3 n3 c3, .int .i64 (nth L k).val] 44)).heap.size := (by have := Nat.le_trans HBd.out.size hb3.size; simp; omega); clear ho3 hb3))
      all_goals
        have HST := Lib.hid (strip_next (x := ⟨x3, n3, c3, (nth L k).ps, (nth L k).val⟩) HKL.out hst.out rfl)
        clear hq3 hc hd
        go_wp2_with fail
        go_roundw
        case rel => exact ⟨k + 1, by omega, by go_num, _, Lib.hid (by simp [hM.out]), HST, Lib.hid HQ.out.1, Lib.hid HQ.out.2⟩
        case measure => simp [intOf]; omega
    · obtain rfl : k = n := by omega
      clear hlt
      go_wp2
      go_ret
      refine ⟨_, rfl, ⟨M, ?_, ho.out⟩, hb.out⟩
      rw [hst.out, List.take_of_length_le (by rw [strip_length, ← HN.out]; exact Nat.le_refl _)]
end Go.Proofs.Ytihcebjbkifbpaa.Row
