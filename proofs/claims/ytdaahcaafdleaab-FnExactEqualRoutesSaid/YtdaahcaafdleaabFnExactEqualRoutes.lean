/- EqualRoutes answers as its model for all pairs of lists of routes, and writes into no argument. No conditions. -/
import Derived.Test.YtdaahcaafdleaabRows
import Derived.WalkKit
import Derived.ProofKit
import Derived.OpenShut
import Derived.SizedLaws
import Derived.Test.YtdaahcaafdleaabB1
import Derived.Test.YtdaahcaafdleaabB3
namespace Go.Proofs.Ytdaahcaafdleaab.fnExactEqualRoutes
open Go.ChangeShapes Go.WideShapes Go.ChangeAt Go.RowKit
open Go.ChangeMaps (open_string shut_string)
set_option linter.unusedVariables false

theorem own : ownKnob Try.prog.godebug = none := by kernel_rfl
theorem laidOut : laidOutB Try.prog = true := by kernel_rfl

set_option maxRecDepth 100000 in
set_option maxHeartbeats 4000000 in
theorem walk (w : World) (y0 : Value) (l0 : List Row.Rtt) (q0 : Row.kLRt.At w y0 l0) (n0 : Row.inLRt l0) (m0 : Row.inLRt l0) (y1 : Value) (l1 : List Row.Rtt) (q1 : Row.kLRt.At w y1 l1) (n1 : Row.inLRt l1) (m1 : Row.inLRt l1) :
    Calls Try.prog 4 #[y0, y1] w fun e w' => e = .returned (.bool true) ∧ Below w.heap.size w w' := by
  obtain ⟨x_q0, n_q0, c_q0, rfl, q0⟩ := Row.kLRt_shapeA q0
  obtain ⟨x_q1, n_q1, c_q1, rfl, q1⟩ := Row.kLRt_shapeA q1
  have Q0 := Lib.hid q0; have N0 := Lib.hid n0; clear q0 n0
  have Q1 := Lib.hid q1; have N1 := Lib.hid n1; clear q1 n1
  have BB := Lib.hid (Below.refl w.heap.size w)
  go_enter Try.func4, Try.ntmps4
  go_wp2_with fail
  refine (Row.szLRtK _ l0 _ (1048576) (Q0.out.on BB.out) m0 N0.out (by omega) (by omega)).mono ?_
  rintro e w1 ⟨rfl, hb⟩
  replace BB := Lib.hid (BB.out.trans (hb.mono BB.out.size))
  have S1 := Lib.hid (show w.heap.size ≤ w1.heap.size from (by have h := hb.size; exact h))
  clear hb
  by_cases t0 : (Row.bulkK Row.wtRt l0 : Int) ≤ 1048576
  · -- in
    rw [Row.szW_fit t0]
    have b0 : Row.bulkK Row.wtRt l0 ≤ 1048576 := by omega
    have d0 : Row.adLRt (l0) ≤ 1048576 := Row.adLRt_big b0
    have g0 : ¬ 1048576 - (Row.bulkK Row.wtRt l0 : Int) < 0 := by omega
    go_wp2_with fail
    refine (Row.szLRtK _ l1 _ (1048576 - (Row.bulkK Row.wtRt l0 : Int)) (Q1.out.on BB.out) m1 N1.out (by omega) (by omega)).mono ?_
    rintro e w2 ⟨rfl, hb⟩
    replace BB := Lib.hid (BB.out.trans (hb.mono BB.out.size))
    have S2 := Lib.hid (show w1.heap.size ≤ w2.heap.size from (by have h := hb.size; exact h))
    clear hb
    by_cases t1 : (Row.bulkK Row.wtRt l1 : Int) ≤ 1048576 - (Row.bulkK Row.wtRt l0 : Int)
    · -- in
      rw [Row.szW_fit t1]
      have b1 : Row.bulkK Row.wtRt l1 ≤ 1048576 := by omega
      have d1 : Row.adLRt (l1) ≤ 1048576 := Row.adLRt_big b1
      have g1 : ¬ 1048576 - (Row.bulkK Row.wtRt l0 : Int) - (Row.bulkK Row.wtRt l1 : Int) < 0 := by omega
      go_wp2_with fail
      refine (Row.toLRtK _ l0 _ (Q0.out.on BB.out) (by omega)).mono ?_
      rintro e w3 ⟨v1, rfl, ho, hb⟩
      obtain ⟨x_v1, n_v1, c_v1, rfl, ho⟩ := Row.kLRt_shape ho
      replace BB := Lib.hid (BB.out.trans (hb.mono BB.out.size))
      have S3 := Lib.hid (show w2.heap.size ≤ w3.heap.size from (by have h := hb.size; exact h))
      have O_v1 := Lib.hid (show Row.kLRt.In w2.heap.size w3.heap.size w3 (.slice x_v1 n_v1 c_v1) (l0) from ho); clear ho
      clear hb
      go_wp2_with fail
      refine (Row.toLRtK _ l1 _ (Q1.out.on BB.out) (by omega)).mono ?_
      rintro e w4 ⟨v2, rfl, ho, hb⟩
      obtain ⟨x_v2, n_v2, c_v2, rfl, ho⟩ := Row.kLRt_shape ho
      replace O_v1 := Lib.hid (O_v1.out.on hb)
      replace BB := Lib.hid (BB.out.trans (hb.mono BB.out.size))
      have S4 := Lib.hid (show w3.heap.size ≤ w4.heap.size from (by have h := hb.size; exact h))
      have O_v2 := Lib.hid (show Row.kLRt.In w3.heap.size w4.heap.size w4 (.slice x_v2 n_v2 c_v2) (l1) from ho); clear ho
      clear hb
      go_wp2_with fail
      refine (Row.specEqualRoutes _ _ (l0) (l1) _ _ rfl (O_v1.out.at) (O_v2.out.at) (show Row.bulkK Row.wtRt (l0) ≤ 1100000 by omega) (show Row.bulkK Row.wtRt (l1) ≤ 1100000 by omega)).mono ?_
      rintro e w5 ⟨rfl, hb⟩
      replace O_v1 := Lib.hid (O_v1.out.on hb)
      replace O_v2 := Lib.hid (O_v2.out.on hb)
      replace BB := Lib.hid (BB.out.trans (hb.mono BB.out.size))
      have S5 := Lib.hid (show w4.heap.size ≤ w5.heap.size from (by have h := hb.size; exact h))
      clear hb
      go_wp2_with fail
      clear O_v1
      clear O_v2
      refine (Row.toLRtK _ l0 _ (Q0.out.on BB.out) (by omega)).mono ?_
      rintro e w6 ⟨v3, rfl, ho, hb⟩
      obtain ⟨x_v3, n_v3, c_v3, rfl, ho⟩ := Row.kLRt_shape ho
      replace BB := Lib.hid (BB.out.trans (hb.mono BB.out.size))
      have S6 := Lib.hid (show w5.heap.size ≤ w6.heap.size from (by have h := hb.size; exact h))
      have O_v3 := Lib.hid (show Row.kLRt.In w5.heap.size w6.heap.size w6 (.slice x_v3 n_v3 c_v3) (l0) from ho); clear ho
      clear hb
      go_wp2_with fail
      refine (Row.toLRtK _ l1 _ (Q1.out.on BB.out) (by omega)).mono ?_
      rintro e w7 ⟨v4, rfl, ho, hb⟩
      obtain ⟨x_v4, n_v4, c_v4, rfl, ho⟩ := Row.kLRt_shape ho
      replace O_v3 := Lib.hid (O_v3.out.on hb)
      replace BB := Lib.hid (BB.out.trans (hb.mono BB.out.size))
      have S7 := Lib.hid (show w6.heap.size ≤ w7.heap.size from (by have h := hb.size; exact h))
      have O_v4 := Lib.hid (show Row.kLRt.In w6.heap.size w7.heap.size w7 (.slice x_v4 n_v4 c_v4) (l1) from ho); clear ho
      clear hb
      go_wp2_with fail
      refine (Row.implEqualRoutes _ _ (l0) (l1) _ _ rfl (O_v3.out.at) (O_v4.out.at) (show Row.bulkK Row.wtRt (l0) ≤ 1100000 by omega) (show Row.bulkK Row.wtRt (l1) ≤ 1100000 by omega)).mono ?_
      rintro e w8 ⟨rfl, hb⟩
      replace O_v3 := Lib.hid (O_v3.out.on hb)
      replace O_v4 := Lib.hid (O_v4.out.on hb)
      replace BB := Lib.hid (BB.out.trans (hb.mono BB.out.size))
      have S8 := Lib.hid (show w7.heap.size ≤ w8.heap.size from (by have h := hb.size; exact h))
      clear hb
      go_wp2_with fail
      refine (Row.toLRtK _ l0 _ (Q0.out.on BB.out) (by omega)).mono ?_
      rintro e w9 ⟨v5, rfl, ho, hb⟩
      obtain ⟨x_v5, n_v5, c_v5, rfl, ho⟩ := Row.kLRt_shape ho
      replace O_v3 := Lib.hid (O_v3.out.on hb)
      replace O_v4 := Lib.hid (O_v4.out.on hb)
      replace BB := Lib.hid (BB.out.trans (hb.mono BB.out.size))
      have S9 := Lib.hid (show w8.heap.size ≤ w9.heap.size from (by have h := hb.size; exact h))
      have O_v5 := Lib.hid (show Row.kLRt.In w8.heap.size w9.heap.size w9 (.slice x_v5 n_v5 c_v5) (l0) from ho); clear ho
      clear hb
      go_wp2_with fail
      refine (Row.eqLRtK _ _ (l0) _ (O_v3.out.at) (O_v5.out.at) (by first | omega | (simp; omega) | (simp [Row.marks_length, Sl.marks_length, Row.mkW]; omega))).mono ?_
      rintro e w10 ⟨rfl, hb⟩
      replace O_v3 := Lib.hid (O_v3.out.on hb)
      replace O_v4 := Lib.hid (O_v4.out.on hb)
      replace O_v5 := Lib.hid (O_v5.out.on hb)
      replace BB := Lib.hid (BB.out.trans (hb.mono BB.out.size))
      have S10 := Lib.hid (show w9.heap.size ≤ w10.heap.size from (by have h := hb.size; exact h))
      clear hb
      go_wp2_with fail
      clear O_v5
      refine (Row.toLRtK _ l1 _ (Q1.out.on BB.out) (by omega)).mono ?_
      rintro e w11 ⟨v6, rfl, ho, hb⟩
      obtain ⟨x_v6, n_v6, c_v6, rfl, ho⟩ := Row.kLRt_shape ho
      replace O_v3 := Lib.hid (O_v3.out.on hb)
      replace O_v4 := Lib.hid (O_v4.out.on hb)
      replace BB := Lib.hid (BB.out.trans (hb.mono BB.out.size))
      have S11 := Lib.hid (show w10.heap.size ≤ w11.heap.size from (by have h := hb.size; exact h))
      have O_v6 := Lib.hid (show Row.kLRt.In w10.heap.size w11.heap.size w11 (.slice x_v6 n_v6 c_v6) (l1) from ho); clear ho
      clear hb
      go_wp2_with fail
      refine (Row.eqLRtK _ _ (l1) _ (O_v4.out.at) (O_v6.out.at) (by first | omega | (simp; omega) | (simp [Row.marks_length, Sl.marks_length, Row.mkW]; omega))).mono ?_
      rintro e w12 ⟨rfl, hb⟩
      replace O_v3 := Lib.hid (O_v3.out.on hb)
      replace O_v4 := Lib.hid (O_v4.out.on hb)
      replace O_v6 := Lib.hid (O_v6.out.on hb)
      replace BB := Lib.hid (BB.out.trans (hb.mono BB.out.size))
      have S12 := Lib.hid (show w11.heap.size ≤ w12.heap.size from (by have h := hb.size; exact h))
      clear hb
      go_wp2_with fail
      clear O_v6
      go_ret
      exact ⟨rfl, BB.out⟩
    · -- out
      rw [Row.szW_not (by omega)]
      go_wp2
      go_ret
      exact ⟨rfl, BB.out⟩
  · -- out
    rw [Row.szW_not (by omega)]
    go_wp2
    go_ret
    exact ⟨rfl, BB.out⟩

set_option maxRecDepth 100000 in
theorem lifted (os : Os) (started : os.Started) (H : Type) (enc : TypeId × Value → H) :
    ReturnsInHanded {} Try.checked os 4 .any (Rows.fnExactEqualRoutesSpec.pre6 enc Try.prog Try.f4 Rows.fnExactEqualRoutesRow.domain false) (Rows.fnExactEqualRoutesSpec.post enc Try.prog Try.f4 false true false false) := by
  refine returnsInHanded_of_change_sized (C := Try.checked) own started (by kernel_rfl) Try.func4
    (ChangeSpec.witness6 (enc := enc) (C := Try.checked) false ⟨#[], #[.slice none 0 0, .slice none 0 0], []⟩ 8 (by kernel_rfl) (by kernel_rfl) (by kernel_rfl) (by kernel_rfl)) ?_
  intro W base args ds gs before hval0 hW _ hsz0 _
  have hval : ∀ (j : Nat) t v, Try.f4.params[j]? = some t → args[j]? = some v → Value.okWide Try.prog W .any base t v := hval0
  have hsz : (DataW.weightsEach Try.prog (Try.f4.params.toList ++ Rows.fnExactEqualRoutesSpec.plain.varTypes Try.prog) (ds ++ gs)).all (· ≤ reachBytes) = true := hsz0
  clear hsz0
  have hW' := hW
  obtain ⟨p, q, hA0, hV, rfl, hfz, hnd⟩ := hW
  have hA : DataW.TrodAll enc Try.prog W 0 (fun _ => true) true Try.f4.params.toList args.toList ds p := hA0
  rw [Try.params4] at hA hval hsz
  obtain ⟨v0, vs0, d0, ds0, p0, q0, hargs, rfl, rfl, h0, r0⟩ := trodAll_cons hA
  obtain ⟨v1, vs1, d1, ds1, p1, q1, rfl, rfl, rfl, h1, r1⟩ := trodAll_cons r0
  obtain ⟨rfl, rfl, rfl⟩ := trodAll_nil r1
  obtain rfl : args = #[v0, v1] := by cases args; simp_all
  obtain ⟨rfl, rfl⟩ := trodVars_none hV
  obtain ⟨l0, q0, n0⟩ := Row.open_sliceK Row.opens_RouteS Try.underlying22 (hval 0 22 v0 rfl rfl) h0
  obtain ⟨l1, q1, n1⟩ := Row.open_sliceK Row.opens_RouteS Try.underlying22 (hval 1 22 v1 rfl rfl) h1
  clear hA0 hval0
  refine (walk W _ _ q0 n0 n0 _ _ q1 n1 n1).mono fun e W' ⟨he, hb⟩ => ?_
  subst he
  exact ⟨_, rfl, Frame.law_post laidOut (by kernel_rfl) rfl Try.underlying4 rfl rfl hW' hb⟩

theorem said : Rows.FnExactEqualRoutesSaid :=
  OpenClaim.holds_of_wide 4 Try.f4 rfl rfl rfl rfl rfl rfl rfl ⟨rfl, rfl, rfl, rfl, rfl⟩ rfl rfl rfl rfl rfl (by kernel_rfl) Try.func4 (by kernel_rfl)
    (of_decide_eq_true (by kernel_rfl)) (by unfold Func.isWrapper; first | (rw [if_pos (by decide +kernel)]; kernel_rfl) | (rw [if_neg (by decide +kernel)]; exact ⟨rfl, rfl⟩))
    (fun os started H enc _ => lifted os started H enc)

#print axioms said
end Go.Proofs.Ytdaahcaafdleaab.fnExactEqualRoutes
