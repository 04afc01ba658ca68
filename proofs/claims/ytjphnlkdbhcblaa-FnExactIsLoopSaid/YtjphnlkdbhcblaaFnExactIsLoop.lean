/- IsLoop answers as its model for all lists of pending interests, lists of seen nonces and interests, and writes into no argument. No conditions. -/
import Derived.Test.YtjphnlkdbhcblaaRows
import Derived.WalkKit
import Derived.ProofKit
import Derived.OpenShut
import Derived.SizedLaws
import Derived.Test.YtjphnlkdbhcblaaB1
import Derived.Test.YtjphnlkdbhcblaaB2
namespace Go.Proofs.Ytjphnlkdbhcblaa.fnExactIsLoop
open Go.ChangeShapes Go.WideShapes Go.ChangeAt Go.RowKit
open Go.ChangeMaps (open_string shut_string)
set_option linter.unusedVariables false

theorem own : ownKnob Try.prog.godebug = none := by kernel_rfl
theorem laidOut : laidOutB Try.prog = true := by kernel_rfl

set_option maxRecDepth 100000 in
set_option maxHeartbeats 4000000 in
theorem walk (w : World) (y0 : Value) (l0 : List Row.Pit) (q0 : Row.kLPi.At w y0 l0) (n0 : Row.inLPi l0) (m0 : Row.inLPi l0) (y1 : Value) (l1 : List Row.Snt) (q1 : Row.kLSn.At w y1 l1) (n1 : Row.inLSn l1) (m1 : Row.inLSn l1) (y2 : Value) (l2 : Row.Wt) (q2 : Row.kW.At w y2 l2) (n2 : Row.WfW l2) (m2 : l2.1.length ≤ 9223372036854775807) :
    Calls Try.prog 5 #[y0, y1, y2] w fun e w' => e = .returned (.bool true) ∧ Below w.heap.size w w' := by
  obtain ⟨x_q0, n_q0, c_q0, rfl, q0⟩ := Row.kLPi_shapeA q0
  obtain ⟨x_q1, n_q1, c_q1, rfl, q1⟩ := Row.kLSn_shapeA q1
  obtain ⟨x_q2, n_q2, c_q2, rfl, q2⟩ := Row.kW_shapeA q2
  have Q0 := Lib.hid q0; have N0 := Lib.hid n0; clear q0 n0
  have Q1 := Lib.hid q1; have N1 := Lib.hid n1; clear q1 n1
  have Q2 := Lib.hid q2; have N2 := Lib.hid n2; clear q2 n2
  have hal := (Below.refl w.heap.size w).alloc (Nat.le_refl _) (.cells #[.slice x_q2 n_q2 c_q2, .int .i64 (l2).2.1, .int .i64 (l2).2.2.1, .int .i64 (l2).2.2.2] 48)
  have BB := Lib.hid hal
  have C_aW := Lib.hid (Ret.Blk.new' (w := w) #[.slice x_q2 n_q2 c_q2, .int .i64 (l2).2.1, .int .i64 (l2).2.2.1, .int .i64 (l2).2.2.2] 48 (n := w.heap.size) (by first | rfl | simp)); clear hal
  have S1 := Lib.hid (show (w.alloc (.cells #[.slice x_q2 n_q2 c_q2, .int .i64 (l2).2.1, .int .i64 (l2).2.2.1, .int .i64 (l2).2.2.2] 48)).heap.size = w.heap.size + 1 from World.size_alloc _ _)
  go_enter Try.func5, Try.ntmps5
  have c0_aW : (w.alloc (.cells #[.slice x_q2 n_q2 c_q2, .int .i64 (l2).2.1, .int .i64 (l2).2.2.1, .int .i64 (l2).2.2.2] 48)).cell? ⟨w.heap.size, 0, none⟩ = some (.slice x_q2 n_q2 c_q2) := C_aW.out.cell 0
  have c1_aW : (w.alloc (.cells #[.slice x_q2 n_q2 c_q2, .int .i64 (l2).2.1, .int .i64 (l2).2.2.1, .int .i64 (l2).2.2.2] 48)).cell? ⟨w.heap.size, 1, none⟩ = some (.int .i64 (l2).2.1) := C_aW.out.cell 1
  have c2_aW : (w.alloc (.cells #[.slice x_q2 n_q2 c_q2, .int .i64 (l2).2.1, .int .i64 (l2).2.2.1, .int .i64 (l2).2.2.2] 48)).cell? ⟨w.heap.size, 2, none⟩ = some (.int .i64 (l2).2.2.1) := C_aW.out.cell 2
  have c3_aW : (w.alloc (.cells #[.slice x_q2 n_q2 c_q2, .int .i64 (l2).2.1, .int .i64 (l2).2.2.1, .int .i64 (l2).2.2.2] 48)).cell? ⟨w.heap.size, 3, none⟩ = some (.int .i64 (l2).2.2.2) := C_aW.out.cell 3
  go_wp2_with fail
  clear c0_aW c1_aW c2_aW c3_aW
  refine (Row.szLPiK _ l0 _ (1048576) (Q0.out.on BB.out) m0 N0.out (by omega) (by omega)).mono ?_
  rintro e w1 ⟨rfl, hb⟩
  replace C_aW := Lib.hid (C_aW.out.on hb)
  replace BB := Lib.hid (BB.out.trans (hb.mono BB.out.size))
  have S2 := Lib.hid (show (w.alloc (.cells #[.slice x_q2 n_q2 c_q2, .int .i64 (l2).2.1, .int .i64 (l2).2.2.1, .int .i64 (l2).2.2.2] 48)).heap.size ≤ w1.heap.size from (by have h := hb.size; exact h))
  clear hb
  by_cases t0 : (Row.bulkK Row.wtPi l0 : Int) ≤ 1048576
  · -- in
    rw [Row.szW_fit t0]
    have b0 : Row.bulkK Row.wtPi l0 ≤ 1048576 := by omega
    have d0 : Row.adLPi (l0) ≤ 1048576 := Row.adLPi_big b0
    have g0 : ¬ 1048576 - (Row.bulkK Row.wtPi l0 : Int) < 0 := by omega
    have c0_aW : w1.cell? ⟨w.heap.size, 0, none⟩ = some (.slice x_q2 n_q2 c_q2) := C_aW.out.cell 0
    have c1_aW : w1.cell? ⟨w.heap.size, 1, none⟩ = some (.int .i64 (l2).2.1) := C_aW.out.cell 1
    have c2_aW : w1.cell? ⟨w.heap.size, 2, none⟩ = some (.int .i64 (l2).2.2.1) := C_aW.out.cell 2
    have c3_aW : w1.cell? ⟨w.heap.size, 3, none⟩ = some (.int .i64 (l2).2.2.2) := C_aW.out.cell 3
    go_wp2_with fail
    clear c0_aW c1_aW c2_aW c3_aW
    refine (Row.szLSnK _ l1 _ (1048576 - (Row.bulkK Row.wtPi l0 : Int)) (Q1.out.on BB.out) m1 N1.out (by omega) (by omega)).mono ?_
    rintro e w2 ⟨rfl, hb⟩
    replace C_aW := Lib.hid (C_aW.out.on hb)
    replace BB := Lib.hid (BB.out.trans (hb.mono BB.out.size))
    have S3 := Lib.hid (show w1.heap.size ≤ w2.heap.size from (by have h := hb.size; exact h))
    clear hb
    by_cases t1 : (Row.bulkK Row.wtSn l1 : Int) ≤ 1048576 - (Row.bulkK Row.wtPi l0 : Int)
    · -- in
      rw [Row.szW_fit t1]
      have b1 : Row.bulkK Row.wtSn l1 ≤ 1048576 := by omega
      have d1 : Row.adLSn (l1) ≤ 1048576 := Row.adLSn_big b1
      have g1 : ¬ 1048576 - (Row.bulkK Row.wtPi l0 : Int) - (Row.bulkK Row.wtSn l1 : Int) < 0 := by omega
      have c0_aW : w2.cell? ⟨w.heap.size, 0, none⟩ = some (.slice x_q2 n_q2 c_q2) := C_aW.out.cell 0
      have c1_aW : w2.cell? ⟨w.heap.size, 1, none⟩ = some (.int .i64 (l2).2.1) := C_aW.out.cell 1
      have c2_aW : w2.cell? ⟨w.heap.size, 2, none⟩ = some (.int .i64 (l2).2.2.1) := C_aW.out.cell 2
      have c3_aW : w2.cell? ⟨w.heap.size, 3, none⟩ = some (.int .i64 (l2).2.2.2) := C_aW.out.cell 3
      go_wp2_with fail
      clear c0_aW c1_aW c2_aW c3_aW
      refine (Row.szWK _ l2 _ (1048576 - (Row.bulkK Row.wtPi l0 : Int) - (Row.bulkK Row.wtSn l1 : Int)) (Q2.out.on BB.out) m2 N2.out (by omega) (by omega)).mono ?_
      rintro e w3 ⟨rfl, hb⟩
      replace C_aW := Lib.hid (C_aW.out.on hb)
      replace BB := Lib.hid (BB.out.trans (hb.mono BB.out.size))
      have S4 := Lib.hid (show w2.heap.size ≤ w3.heap.size from (by have h := hb.size; exact h))
      clear hb
      by_cases t2 : (Row.bulk (l2).1 : Int) ≤ 1048576 - (Row.bulkK Row.wtPi l0 : Int) - (Row.bulkK Row.wtSn l1 : Int)
      · -- in
        rw [Row.szL_fit t2]
        have b2 : Row.bulk (l2).1 ≤ 1048576 := by omega
        have d2 : (l2).1.length ≤ 1048576 := Row.bigLen b2
        have g2 : ¬ 1048576 - (Row.bulkK Row.wtPi l0 : Int) - (Row.bulkK Row.wtSn l1 : Int) - (Row.bulk (l2).1 : Int) < 0 := by omega
        have c0_aW : w3.cell? ⟨w.heap.size, 0, none⟩ = some (.slice x_q2 n_q2 c_q2) := C_aW.out.cell 0
        have c1_aW : w3.cell? ⟨w.heap.size, 1, none⟩ = some (.int .i64 (l2).2.1) := C_aW.out.cell 1
        have c2_aW : w3.cell? ⟨w.heap.size, 2, none⟩ = some (.int .i64 (l2).2.2.1) := C_aW.out.cell 2
        have c3_aW : w3.cell? ⟨w.heap.size, 3, none⟩ = some (.int .i64 (l2).2.2.2) := C_aW.out.cell 3
        go_wp2_with fail
        clear c0_aW c1_aW c2_aW c3_aW
        have hdr : Below w3.heap.size w3 w3.drew := (Below.refl _ _).drew
        replace C_aW := Lib.hid (C_aW.out.on hdr)
        replace BB := Lib.hid (BB.out.trans (hdr.mono BB.out.size))
        clear hdr
        have KS0 := Lib.hid (show w3.drew.cell? ⟨w.heap.size, 0, none⟩ = some (.slice x_q2 n_q2 c_q2) ∧ w3.drew.cell? ⟨w.heap.size, 1, none⟩ = some (.int .i64 (l2).2.1) ∧ w3.drew.cell? ⟨w.heap.size, 2, none⟩ = some (.int .i64 (l2).2.2.1) ∧ w3.drew.cell? ⟨w.heap.size, 3, none⟩ = some (.int .i64 (l2).2.2.2) ∧ Below w.heap.size w w3.drew from ⟨C_aW.out.cell 0, C_aW.out.cell 1, C_aW.out.cell 2, C_aW.out.cell 3, BB.out⟩)
        go_region_held3 (fun w' => w'.cell? ⟨w.heap.size, 0, none⟩ = some (.slice x_q2 n_q2 c_q2) ∧ w'.cell? ⟨w.heap.size, 1, none⟩ = some (.int .i64 (l2).2.1) ∧ w'.cell? ⟨w.heap.size, 2, none⟩ = some (.int .i64 (l2).2.2.1) ∧ w'.cell? ⟨w.heap.size, 3, none⟩ = some (.int .i64 (l2).2.2.2) ∧ Below w.heap.size w w') (first | exact KS0.out | exact KS1.out | exact KS2.out | exact KS3.out | exact KS4.out) ((first | (go_at_call 28; refine (Row.specIsLoop _ _ _ (l0) (l1) (l2) _ _ rfl ((ho0.at.on hb1).on hb2) (ho1.at.on hb2) ho2.at (show Row.bulkK Row.wtPi (l0) ≤ 1100000 by omega) (show Row.bulkK Row.wtSn (l1) ≤ 1100000 by omega) (by omega)).mono ?_; rintro e w7 ⟨rfl, hbr⟩; have KS4 := Lib.hid (show (fun w' => w'.cell? ⟨w.heap.size, 0, none⟩ = some (.slice x_q2 n_q2 c_q2) ∧ w'.cell? ⟨w.heap.size, 1, none⟩ = some (.int .i64 (l2).2.1) ∧ w'.cell? ⟨w.heap.size, 2, none⟩ = some (.int .i64 (l2).2.2.1) ∧ w'.cell? ⟨w.heap.size, 3, none⟩ = some (.int .i64 (l2).2.2.2) ∧ Below w.heap.size w w') _ from ⟨Row.kc KS3.out.1 hbr, Row.kc KS3.out.2.1 hbr, Row.kc KS3.out.2.2.1 hbr, Row.kc KS3.out.2.2.2.1 hbr, KS3.out.2.2.2.2.trans (hbr.mono KS3.out.2.2.2.2.size)⟩)) | (go_at_call 30; refine (Row.toWK _ l2 _ (((Q2.out.on BB.out).on hb0).on hb1) (by omega)).mono ?_; rintro e w6 ⟨v3, rfl, ho2, hb2⟩; obtain ⟨x_v3, n_v3, c_v3, rfl, ho2⟩ := Row.kW_shape ho2; have KS3 := Lib.hid (show (fun w' => w'.cell? ⟨w.heap.size, 0, none⟩ = some (.slice x_q2 n_q2 c_q2) ∧ w'.cell? ⟨w.heap.size, 1, none⟩ = some (.int .i64 (l2).2.1) ∧ w'.cell? ⟨w.heap.size, 2, none⟩ = some (.int .i64 (l2).2.2.1) ∧ w'.cell? ⟨w.heap.size, 3, none⟩ = some (.int .i64 (l2).2.2.2) ∧ Below w.heap.size w w') _ from ⟨Row.kc KS2.out.1 hb2, Row.kc KS2.out.2.1 hb2, Row.kc KS2.out.2.2.1 hb2, Row.kc KS2.out.2.2.2.1 hb2, KS2.out.2.2.2.2.trans (hb2.mono KS2.out.2.2.2.2.size)⟩)) | (go_at_call 29; refine (Row.toLSnK _ l1 _ ((Q1.out.on BB.out).on hb0) (by omega)).mono ?_; rintro e w5 ⟨v2, rfl, ho1, hb1⟩; obtain ⟨x_v2, n_v2, c_v2, rfl, ho1⟩ := Row.kLSn_shape ho1; have KS2 := Lib.hid (show (fun w' => w'.cell? ⟨w.heap.size, 0, none⟩ = some (.slice x_q2 n_q2 c_q2) ∧ w'.cell? ⟨w.heap.size, 1, none⟩ = some (.int .i64 (l2).2.1) ∧ w'.cell? ⟨w.heap.size, 2, none⟩ = some (.int .i64 (l2).2.2.1) ∧ w'.cell? ⟨w.heap.size, 3, none⟩ = some (.int .i64 (l2).2.2.2) ∧ Below w.heap.size w w') _ from ⟨Row.kc KS1.out.1 hb1, Row.kc KS1.out.2.1 hb1, Row.kc KS1.out.2.2.1 hb1, Row.kc KS1.out.2.2.2.1 hb1, KS1.out.2.2.2.2.trans (hb1.mono KS1.out.2.2.2.2.size)⟩)) | (go_at_call 23; refine (Row.toLPiK _ l0 _ (Q0.out.on BB.out) (by omega)).mono ?_; rintro e w4 ⟨v1, rfl, ho0, hb0⟩; obtain ⟨x_v1, n_v1, c_v1, rfl, ho0⟩ := Row.kLPi_shape ho0; have KS1 := Lib.hid (show (fun w' => w'.cell? ⟨w.heap.size, 0, none⟩ = some (.slice x_q2 n_q2 c_q2) ∧ w'.cell? ⟨w.heap.size, 1, none⟩ = some (.int .i64 (l2).2.1) ∧ w'.cell? ⟨w.heap.size, 2, none⟩ = some (.int .i64 (l2).2.2.1) ∧ w'.cell? ⟨w.heap.size, 3, none⟩ = some (.int .i64 (l2).2.2.2) ∧ Below w.heap.size w w') _ from ⟨Row.kc KS0.out.1 hb0, Row.kc KS0.out.2.1 hb0, Row.kc KS0.out.2.2.1 hb0, Row.kc KS0.out.2.2.2.1 hb0, KS0.out.2.2.2.2.trans (hb0.mono KS0.out.2.2.2.2.size)⟩))))
        clear KS0 KS1 KS2 KS3 KS4 ho0 ho1 ho2
        replace C_aW := Lib.hid (C_aW.out.on hb0)
        replace BB := Lib.hid (BB.out.trans (hb0.mono BB.out.size))
        have S5 := Lib.hid (show w3.heap.size ≤ w4.heap.size from (by have h := hb0.size; exact h))
        replace C_aW := Lib.hid (C_aW.out.on hb1)
        replace BB := Lib.hid (BB.out.trans (hb1.mono BB.out.size))
        have S6 := Lib.hid (show w4.heap.size ≤ w5.heap.size from (by have h := hb1.size; exact h))
        replace C_aW := Lib.hid (C_aW.out.on hb2)
        replace BB := Lib.hid (BB.out.trans (hb2.mono BB.out.size))
        have S7 := Lib.hid (show w5.heap.size ≤ w6.heap.size from (by have h := hb2.size; exact h))
        clear hb0 hb1 hb2
        replace C_aW := Lib.hid (C_aW.out.on hbr)
        replace BB := Lib.hid (BB.out.trans (hbr.mono BB.out.size))
        have S8 := Lib.hid (show w6.heap.size ≤ w7.heap.size from (by have h := hbr.size; exact h))
        clear hbr
        have c0_aW : w7.cell? ⟨w.heap.size, 0, none⟩ = some (.slice x_q2 n_q2 c_q2) := C_aW.out.cell 0
        have c1_aW : w7.cell? ⟨w.heap.size, 1, none⟩ = some (.int .i64 (l2).2.1) := C_aW.out.cell 1
        have c2_aW : w7.cell? ⟨w.heap.size, 2, none⟩ = some (.int .i64 (l2).2.2.1) := C_aW.out.cell 2
        have c3_aW : w7.cell? ⟨w.heap.size, 3, none⟩ = some (.int .i64 (l2).2.2.2) := C_aW.out.cell 3
        go_wp2_with fail
        clear c0_aW c1_aW c2_aW c3_aW
        refine (Row.toLPiK _ l0 _ (Q0.out.on BB.out) (by omega)).mono ?_
        rintro e w8 ⟨v4, rfl, ho, hb⟩
        obtain ⟨x_v4, n_v4, c_v4, rfl, ho⟩ := Row.kLPi_shape ho
        replace C_aW := Lib.hid (C_aW.out.on hb)
        replace BB := Lib.hid (BB.out.trans (hb.mono BB.out.size))
        have S9 := Lib.hid (show w7.heap.size ≤ w8.heap.size from (by have h := hb.size; exact h))
        have O_v4 := Lib.hid (show Row.kLPi.In w7.heap.size w8.heap.size w8 (.slice x_v4 n_v4 c_v4) (l0) from ho); clear ho
        clear hb
        have c0_aW : w8.cell? ⟨w.heap.size, 0, none⟩ = some (.slice x_q2 n_q2 c_q2) := C_aW.out.cell 0
        have c1_aW : w8.cell? ⟨w.heap.size, 1, none⟩ = some (.int .i64 (l2).2.1) := C_aW.out.cell 1
        have c2_aW : w8.cell? ⟨w.heap.size, 2, none⟩ = some (.int .i64 (l2).2.2.1) := C_aW.out.cell 2
        have c3_aW : w8.cell? ⟨w.heap.size, 3, none⟩ = some (.int .i64 (l2).2.2.2) := C_aW.out.cell 3
        go_wp2_with fail
        clear c0_aW c1_aW c2_aW c3_aW
        refine (Row.toLSnK _ l1 _ (Q1.out.on BB.out) (by omega)).mono ?_
        rintro e w9 ⟨v5, rfl, ho, hb⟩
        obtain ⟨x_v5, n_v5, c_v5, rfl, ho⟩ := Row.kLSn_shape ho
        replace C_aW := Lib.hid (C_aW.out.on hb)
        replace O_v4 := Lib.hid (O_v4.out.on hb)
        replace BB := Lib.hid (BB.out.trans (hb.mono BB.out.size))
        have S10 := Lib.hid (show w8.heap.size ≤ w9.heap.size from (by have h := hb.size; exact h))
        have O_v5 := Lib.hid (show Row.kLSn.In w8.heap.size w9.heap.size w9 (.slice x_v5 n_v5 c_v5) (l1) from ho); clear ho
        clear hb
        have c0_aW : w9.cell? ⟨w.heap.size, 0, none⟩ = some (.slice x_q2 n_q2 c_q2) := C_aW.out.cell 0
        have c1_aW : w9.cell? ⟨w.heap.size, 1, none⟩ = some (.int .i64 (l2).2.1) := C_aW.out.cell 1
        have c2_aW : w9.cell? ⟨w.heap.size, 2, none⟩ = some (.int .i64 (l2).2.2.1) := C_aW.out.cell 2
        have c3_aW : w9.cell? ⟨w.heap.size, 3, none⟩ = some (.int .i64 (l2).2.2.2) := C_aW.out.cell 3
        go_wp2_with fail
        clear c0_aW c1_aW c2_aW c3_aW
        refine (Row.toWK _ l2 _ (Q2.out.on BB.out) (by omega)).mono ?_
        rintro e w10 ⟨v6, rfl, ho, hb⟩
        obtain ⟨x_v6, n_v6, c_v6, rfl, ho⟩ := Row.kW_shape ho
        replace C_aW := Lib.hid (C_aW.out.on hb)
        replace O_v4 := Lib.hid (O_v4.out.on hb)
        replace O_v5 := Lib.hid (O_v5.out.on hb)
        replace BB := Lib.hid (BB.out.trans (hb.mono BB.out.size))
        have S11 := Lib.hid (show w9.heap.size ≤ w10.heap.size from (by have h := hb.size; exact h))
        have O_v6 := Lib.hid (show Row.kW.In w9.heap.size w10.heap.size w10 (.agg #[.slice x_v6 n_v6 c_v6, .int .i64 (l2).2.1, .int .i64 (l2).2.2.1, .int .i64 (l2).2.2.2]) (l2) from ho); clear ho
        clear hb
        have hal := (Below.refl w10.heap.size w10).alloc (Nat.le_refl _) (.cells #[.slice x_v6 n_v6 c_v6, .int .i64 (l2).2.1, .int .i64 (l2).2.2.1, .int .i64 (l2).2.2.2] 33)
        replace C_aW := Lib.hid (C_aW.out.on hal)
        replace O_v4 := Lib.hid (O_v4.out.on hal)
        replace O_v5 := Lib.hid (O_v5.out.on hal)
        replace O_v6 := Lib.hid (O_v6.out.on hal)
        replace BB := Lib.hid (BB.out.trans (hal.mono BB.out.size))
        have S12 := Lib.hid (show (w10.alloc (.cells #[.slice x_v6 n_v6 c_v6, .int .i64 (l2).2.1, .int .i64 (l2).2.2.1, .int .i64 (l2).2.2.2] 33)).heap.size = w10.heap.size + 1 from World.size_alloc _ _)
        have C_x2 := Lib.hid (Ret.Blk.new w10 #[.slice x_v6 n_v6 c_v6, .int .i64 (l2).2.1, .int .i64 (l2).2.2.1, .int .i64 (l2).2.2.2] 33); clear hal
        have c0_aW : (w10.alloc (.cells #[.slice x_v6 n_v6 c_v6, .int .i64 (l2).2.1, .int .i64 (l2).2.2.1, .int .i64 (l2).2.2.2] 33)).cell? ⟨w.heap.size, 0, none⟩ = some (.slice x_q2 n_q2 c_q2) := C_aW.out.cell 0
        have c1_aW : (w10.alloc (.cells #[.slice x_v6 n_v6 c_v6, .int .i64 (l2).2.1, .int .i64 (l2).2.2.1, .int .i64 (l2).2.2.2] 33)).cell? ⟨w.heap.size, 1, none⟩ = some (.int .i64 (l2).2.1) := C_aW.out.cell 1
        have c2_aW : (w10.alloc (.cells #[.slice x_v6 n_v6 c_v6, .int .i64 (l2).2.1, .int .i64 (l2).2.2.1, .int .i64 (l2).2.2.2] 33)).cell? ⟨w.heap.size, 2, none⟩ = some (.int .i64 (l2).2.2.1) := C_aW.out.cell 2
        have c3_aW : (w10.alloc (.cells #[.slice x_v6 n_v6 c_v6, .int .i64 (l2).2.1, .int .i64 (l2).2.2.1, .int .i64 (l2).2.2.2] 33)).cell? ⟨w.heap.size, 3, none⟩ = some (.int .i64 (l2).2.2.2) := C_aW.out.cell 3
        have c0_x2 : (w10.alloc (.cells #[.slice x_v6 n_v6 c_v6, .int .i64 (l2).2.1, .int .i64 (l2).2.2.1, .int .i64 (l2).2.2.2] 33)).cell? ⟨w10.heap.size, 0, none⟩ = some (.slice x_v6 n_v6 c_v6) := C_x2.out.cell 0
        have c1_x2 : (w10.alloc (.cells #[.slice x_v6 n_v6 c_v6, .int .i64 (l2).2.1, .int .i64 (l2).2.2.1, .int .i64 (l2).2.2.2] 33)).cell? ⟨w10.heap.size, 1, none⟩ = some (.int .i64 (l2).2.1) := C_x2.out.cell 1
        have c2_x2 : (w10.alloc (.cells #[.slice x_v6 n_v6 c_v6, .int .i64 (l2).2.1, .int .i64 (l2).2.2.1, .int .i64 (l2).2.2.2] 33)).cell? ⟨w10.heap.size, 2, none⟩ = some (.int .i64 (l2).2.2.1) := C_x2.out.cell 2
        have c3_x2 : (w10.alloc (.cells #[.slice x_v6 n_v6 c_v6, .int .i64 (l2).2.1, .int .i64 (l2).2.2.1, .int .i64 (l2).2.2.2] 33)).cell? ⟨w10.heap.size, 3, none⟩ = some (.int .i64 (l2).2.2.2) := C_x2.out.cell 3
        go_wp2_with fail
        clear c0_aW c1_aW c2_aW c3_aW c0_x2 c1_x2 c2_x2 c3_x2
        refine (Row.implIsLoop _ _ _ (l0) (l1) (l2) _ _ rfl (O_v4.out.at) (O_v5.out.at) (O_v6.out.at) (show Row.bulkK Row.wtPi (l0) ≤ 1100000 by omega) (show Row.bulkK Row.wtSn (l1) ≤ 1100000 by omega) (by omega)).mono ?_
        rintro e w11 ⟨rfl, hb⟩
        replace C_aW := Lib.hid (C_aW.out.on hb)
        replace C_x2 := Lib.hid (C_x2.out.on hb)
        replace O_v4 := Lib.hid (O_v4.out.on hb)
        replace O_v5 := Lib.hid (O_v5.out.on hb)
        replace O_v6 := Lib.hid (O_v6.out.on hb)
        replace BB := Lib.hid (BB.out.trans (hb.mono BB.out.size))
        have S13 := Lib.hid (show (w10.alloc (.cells #[.slice x_v6 n_v6 c_v6, .int .i64 (l2).2.1, .int .i64 (l2).2.2.1, .int .i64 (l2).2.2.2] 33)).heap.size ≤ w11.heap.size from (by have h := hb.size; exact h))
        clear hb
        have c0_aW : w11.cell? ⟨w.heap.size, 0, none⟩ = some (.slice x_q2 n_q2 c_q2) := C_aW.out.cell 0
        have c1_aW : w11.cell? ⟨w.heap.size, 1, none⟩ = some (.int .i64 (l2).2.1) := C_aW.out.cell 1
        have c2_aW : w11.cell? ⟨w.heap.size, 2, none⟩ = some (.int .i64 (l2).2.2.1) := C_aW.out.cell 2
        have c3_aW : w11.cell? ⟨w.heap.size, 3, none⟩ = some (.int .i64 (l2).2.2.2) := C_aW.out.cell 3
        have c0_x2 : w11.cell? ⟨w10.heap.size, 0, none⟩ = some (.slice x_v6 n_v6 c_v6) := C_x2.out.cell 0
        have c1_x2 : w11.cell? ⟨w10.heap.size, 1, none⟩ = some (.int .i64 (l2).2.1) := C_x2.out.cell 1
        have c2_x2 : w11.cell? ⟨w10.heap.size, 2, none⟩ = some (.int .i64 (l2).2.2.1) := C_x2.out.cell 2
        have c3_x2 : w11.cell? ⟨w10.heap.size, 3, none⟩ = some (.int .i64 (l2).2.2.2) := C_x2.out.cell 3
        go_wp2_with fail
        clear c0_aW c1_aW c2_aW c3_aW c0_x2 c1_x2 c2_x2 c3_x2
        refine (Row.toLPiK _ l0 _ (Q0.out.on BB.out) (by omega)).mono ?_
        rintro e w12 ⟨v7, rfl, ho, hb⟩
        obtain ⟨x_v7, n_v7, c_v7, rfl, ho⟩ := Row.kLPi_shape ho
        replace C_aW := Lib.hid (C_aW.out.on hb)
        replace C_x2 := Lib.hid (C_x2.out.on hb)
        replace O_v4 := Lib.hid (O_v4.out.on hb)
        replace O_v5 := Lib.hid (O_v5.out.on hb)
        replace O_v6 := Lib.hid (O_v6.out.on hb)
        replace BB := Lib.hid (BB.out.trans (hb.mono BB.out.size))
        have S14 := Lib.hid (show w11.heap.size ≤ w12.heap.size from (by have h := hb.size; exact h))
        have O_v7 := Lib.hid (show Row.kLPi.In w11.heap.size w12.heap.size w12 (.slice x_v7 n_v7 c_v7) (l0) from ho); clear ho
        clear hb
        have c0_aW : w12.cell? ⟨w.heap.size, 0, none⟩ = some (.slice x_q2 n_q2 c_q2) := C_aW.out.cell 0
        have c1_aW : w12.cell? ⟨w.heap.size, 1, none⟩ = some (.int .i64 (l2).2.1) := C_aW.out.cell 1
        have c2_aW : w12.cell? ⟨w.heap.size, 2, none⟩ = some (.int .i64 (l2).2.2.1) := C_aW.out.cell 2
        have c3_aW : w12.cell? ⟨w.heap.size, 3, none⟩ = some (.int .i64 (l2).2.2.2) := C_aW.out.cell 3
        have c0_x2 : w12.cell? ⟨w10.heap.size, 0, none⟩ = some (.slice x_v6 n_v6 c_v6) := C_x2.out.cell 0
        have c1_x2 : w12.cell? ⟨w10.heap.size, 1, none⟩ = some (.int .i64 (l2).2.1) := C_x2.out.cell 1
        have c2_x2 : w12.cell? ⟨w10.heap.size, 2, none⟩ = some (.int .i64 (l2).2.2.1) := C_x2.out.cell 2
        have c3_x2 : w12.cell? ⟨w10.heap.size, 3, none⟩ = some (.int .i64 (l2).2.2.2) := C_x2.out.cell 3
        go_wp2_with fail
        clear c0_aW c1_aW c2_aW c3_aW c0_x2 c1_x2 c2_x2 c3_x2
        refine (Row.eqLPiK _ _ (l0) _ (O_v4.out.at) (O_v7.out.at) (by first | omega | (simp; omega) | (simp [Row.marks_length, Sl.marks_length, Row.mkW]; omega))).mono ?_
        rintro e w13 ⟨rfl, hb⟩
        replace C_aW := Lib.hid (C_aW.out.on hb)
        replace C_x2 := Lib.hid (C_x2.out.on hb)
        replace O_v4 := Lib.hid (O_v4.out.on hb)
        replace O_v5 := Lib.hid (O_v5.out.on hb)
        replace O_v6 := Lib.hid (O_v6.out.on hb)
        replace O_v7 := Lib.hid (O_v7.out.on hb)
        replace BB := Lib.hid (BB.out.trans (hb.mono BB.out.size))
        have S15 := Lib.hid (show w12.heap.size ≤ w13.heap.size from (by have h := hb.size; exact h))
        clear hb
        have c0_aW : w13.cell? ⟨w.heap.size, 0, none⟩ = some (.slice x_q2 n_q2 c_q2) := C_aW.out.cell 0
        have c1_aW : w13.cell? ⟨w.heap.size, 1, none⟩ = some (.int .i64 (l2).2.1) := C_aW.out.cell 1
        have c2_aW : w13.cell? ⟨w.heap.size, 2, none⟩ = some (.int .i64 (l2).2.2.1) := C_aW.out.cell 2
        have c3_aW : w13.cell? ⟨w.heap.size, 3, none⟩ = some (.int .i64 (l2).2.2.2) := C_aW.out.cell 3
        have c0_x2 : w13.cell? ⟨w10.heap.size, 0, none⟩ = some (.slice x_v6 n_v6 c_v6) := C_x2.out.cell 0
        have c1_x2 : w13.cell? ⟨w10.heap.size, 1, none⟩ = some (.int .i64 (l2).2.1) := C_x2.out.cell 1
        have c2_x2 : w13.cell? ⟨w10.heap.size, 2, none⟩ = some (.int .i64 (l2).2.2.1) := C_x2.out.cell 2
        have c3_x2 : w13.cell? ⟨w10.heap.size, 3, none⟩ = some (.int .i64 (l2).2.2.2) := C_x2.out.cell 3
        go_wp2_with fail
        clear c0_aW c1_aW c2_aW c3_aW c0_x2 c1_x2 c2_x2 c3_x2
        clear O_v7
        refine (Row.toLSnK _ l1 _ (Q1.out.on BB.out) (by omega)).mono ?_
        rintro e w14 ⟨v8, rfl, ho, hb⟩
        obtain ⟨x_v8, n_v8, c_v8, rfl, ho⟩ := Row.kLSn_shape ho
        replace C_aW := Lib.hid (C_aW.out.on hb)
        replace C_x2 := Lib.hid (C_x2.out.on hb)
        replace O_v4 := Lib.hid (O_v4.out.on hb)
        replace O_v5 := Lib.hid (O_v5.out.on hb)
        replace O_v6 := Lib.hid (O_v6.out.on hb)
        replace BB := Lib.hid (BB.out.trans (hb.mono BB.out.size))
        have S16 := Lib.hid (show w13.heap.size ≤ w14.heap.size from (by have h := hb.size; exact h))
        have O_v8 := Lib.hid (show Row.kLSn.In w13.heap.size w14.heap.size w14 (.slice x_v8 n_v8 c_v8) (l1) from ho); clear ho
        clear hb
        have c0_aW : w14.cell? ⟨w.heap.size, 0, none⟩ = some (.slice x_q2 n_q2 c_q2) := C_aW.out.cell 0
        have c1_aW : w14.cell? ⟨w.heap.size, 1, none⟩ = some (.int .i64 (l2).2.1) := C_aW.out.cell 1
        have c2_aW : w14.cell? ⟨w.heap.size, 2, none⟩ = some (.int .i64 (l2).2.2.1) := C_aW.out.cell 2
        have c3_aW : w14.cell? ⟨w.heap.size, 3, none⟩ = some (.int .i64 (l2).2.2.2) := C_aW.out.cell 3
        have c0_x2 : w14.cell? ⟨w10.heap.size, 0, none⟩ = some (.slice x_v6 n_v6 c_v6) := C_x2.out.cell 0
        have c1_x2 : w14.cell? ⟨w10.heap.size, 1, none⟩ = some (.int .i64 (l2).2.1) := C_x2.out.cell 1
        have c2_x2 : w14.cell? ⟨w10.heap.size, 2, none⟩ = some (.int .i64 (l2).2.2.1) := C_x2.out.cell 2
        have c3_x2 : w14.cell? ⟨w10.heap.size, 3, none⟩ = some (.int .i64 (l2).2.2.2) := C_x2.out.cell 3
        go_wp2_with fail
        clear c0_aW c1_aW c2_aW c3_aW c0_x2 c1_x2 c2_x2 c3_x2
        refine (Row.eqLSnK _ _ (l1) _ (O_v5.out.at) (O_v8.out.at) (by first | omega | (simp; omega) | (simp [Row.marks_length, Sl.marks_length, Row.mkW]; omega))).mono ?_
        rintro e w15 ⟨rfl, hb⟩
        replace C_aW := Lib.hid (C_aW.out.on hb)
        replace C_x2 := Lib.hid (C_x2.out.on hb)
        replace O_v4 := Lib.hid (O_v4.out.on hb)
        replace O_v5 := Lib.hid (O_v5.out.on hb)
        replace O_v6 := Lib.hid (O_v6.out.on hb)
        replace O_v8 := Lib.hid (O_v8.out.on hb)
        replace BB := Lib.hid (BB.out.trans (hb.mono BB.out.size))
        have S17 := Lib.hid (show w14.heap.size ≤ w15.heap.size from (by have h := hb.size; exact h))
        clear hb
        have c0_aW : w15.cell? ⟨w.heap.size, 0, none⟩ = some (.slice x_q2 n_q2 c_q2) := C_aW.out.cell 0
        have c1_aW : w15.cell? ⟨w.heap.size, 1, none⟩ = some (.int .i64 (l2).2.1) := C_aW.out.cell 1
        have c2_aW : w15.cell? ⟨w.heap.size, 2, none⟩ = some (.int .i64 (l2).2.2.1) := C_aW.out.cell 2
        have c3_aW : w15.cell? ⟨w.heap.size, 3, none⟩ = some (.int .i64 (l2).2.2.2) := C_aW.out.cell 3
        have c0_x2 : w15.cell? ⟨w10.heap.size, 0, none⟩ = some (.slice x_v6 n_v6 c_v6) := C_x2.out.cell 0
        have c1_x2 : w15.cell? ⟨w10.heap.size, 1, none⟩ = some (.int .i64 (l2).2.1) := C_x2.out.cell 1
        have c2_x2 : w15.cell? ⟨w10.heap.size, 2, none⟩ = some (.int .i64 (l2).2.2.1) := C_x2.out.cell 2
        have c3_x2 : w15.cell? ⟨w10.heap.size, 3, none⟩ = some (.int .i64 (l2).2.2.2) := C_x2.out.cell 3
        go_wp2_with fail
        clear c0_aW c1_aW c2_aW c3_aW c0_x2 c1_x2 c2_x2 c3_x2
        clear O_v8
        have hdr : Below w15.heap.size w15 w15.drew := (Below.refl _ _).drew
        replace C_aW := Lib.hid (C_aW.out.on hdr)
        replace C_x2 := Lib.hid (C_x2.out.on hdr)
        replace O_v4 := Lib.hid (O_v4.out.on hdr)
        replace O_v5 := Lib.hid (O_v5.out.on hdr)
        replace O_v6 := Lib.hid (O_v6.out.on hdr)
        replace BB := Lib.hid (BB.out.trans (hdr.mono BB.out.size))
        clear hdr
        have KS0 := Lib.hid (show w15.drew.cell? ⟨w10.heap.size, 0, none⟩ = some (.slice x_v6 n_v6 c_v6) ∧ w15.drew.cell? ⟨w10.heap.size, 1, none⟩ = some (.int .i64 (l2).2.1) ∧ w15.drew.cell? ⟨w10.heap.size, 2, none⟩ = some (.int .i64 (l2).2.2.1) ∧ w15.drew.cell? ⟨w10.heap.size, 3, none⟩ = some (.int .i64 (l2).2.2.2) ∧ w15.drew.cell? ⟨w.heap.size, 0, none⟩ = some (.slice x_q2 n_q2 c_q2) ∧ w15.drew.cell? ⟨w.heap.size, 1, none⟩ = some (.int .i64 (l2).2.1) ∧ w15.drew.cell? ⟨w.heap.size, 2, none⟩ = some (.int .i64 (l2).2.2.1) ∧ w15.drew.cell? ⟨w.heap.size, 3, none⟩ = some (.int .i64 (l2).2.2.2) ∧ Below w.heap.size w w15.drew from ⟨C_x2.out.cell 0, C_x2.out.cell 1, C_x2.out.cell 2, C_x2.out.cell 3, C_aW.out.cell 0, C_aW.out.cell 1, C_aW.out.cell 2, C_aW.out.cell 3, BB.out⟩)
        go_region_held3 (fun w' => w'.cell? ⟨w10.heap.size, 0, none⟩ = some (.slice x_v6 n_v6 c_v6) ∧ w'.cell? ⟨w10.heap.size, 1, none⟩ = some (.int .i64 (l2).2.1) ∧ w'.cell? ⟨w10.heap.size, 2, none⟩ = some (.int .i64 (l2).2.2.1) ∧ w'.cell? ⟨w10.heap.size, 3, none⟩ = some (.int .i64 (l2).2.2.2) ∧ w'.cell? ⟨w.heap.size, 0, none⟩ = some (.slice x_q2 n_q2 c_q2) ∧ w'.cell? ⟨w.heap.size, 1, none⟩ = some (.int .i64 (l2).2.1) ∧ w'.cell? ⟨w.heap.size, 2, none⟩ = some (.int .i64 (l2).2.2.1) ∧ w'.cell? ⟨w.heap.size, 3, none⟩ = some (.int .i64 (l2).2.2.2) ∧ Below w.heap.size w w') (first | exact KS0.out | exact KS1.out | exact KS2.out) ((first | (go_at_call 32; refine (Row.sameWK _ _ (l2) _ ((O_v6.out.at).on hba) hoa.at (by first | omega | (simp; omega) | (simp [Row.marks_length, Sl.marks_length, Row.mkW]; omega))).mono ?_; rintro e w17 ⟨rfl, hbb⟩; have KS2 := Lib.hid (show (fun w' => w'.cell? ⟨w10.heap.size, 0, none⟩ = some (.slice x_v6 n_v6 c_v6) ∧ w'.cell? ⟨w10.heap.size, 1, none⟩ = some (.int .i64 (l2).2.1) ∧ w'.cell? ⟨w10.heap.size, 2, none⟩ = some (.int .i64 (l2).2.2.1) ∧ w'.cell? ⟨w10.heap.size, 3, none⟩ = some (.int .i64 (l2).2.2.2) ∧ w'.cell? ⟨w.heap.size, 0, none⟩ = some (.slice x_q2 n_q2 c_q2) ∧ w'.cell? ⟨w.heap.size, 1, none⟩ = some (.int .i64 (l2).2.1) ∧ w'.cell? ⟨w.heap.size, 2, none⟩ = some (.int .i64 (l2).2.2.1) ∧ w'.cell? ⟨w.heap.size, 3, none⟩ = some (.int .i64 (l2).2.2.2) ∧ Below w.heap.size w w') _ from ⟨Row.kc KS1.out.1 hbb, Row.kc KS1.out.2.1 hbb, Row.kc KS1.out.2.2.1 hbb, Row.kc KS1.out.2.2.2.1 hbb, Row.kc KS1.out.2.2.2.2.1 hbb, Row.kc KS1.out.2.2.2.2.2.1 hbb, Row.kc KS1.out.2.2.2.2.2.2.1 hbb, Row.kc KS1.out.2.2.2.2.2.2.2.1 hbb, KS1.out.2.2.2.2.2.2.2.2.trans (hbb.mono KS1.out.2.2.2.2.2.2.2.2.size)⟩)) | (go_at_call 30; refine (Row.toWK _ l2 _ (Q2.out.on BB.out) (by omega)).mono ?_; rintro e w16 ⟨v9, rfl, hoa, hba⟩; obtain ⟨x_v9, n_v9, c_v9, rfl, hoa⟩ := Row.kW_shape hoa; have KS1 := Lib.hid (show (fun w' => w'.cell? ⟨w10.heap.size, 0, none⟩ = some (.slice x_v6 n_v6 c_v6) ∧ w'.cell? ⟨w10.heap.size, 1, none⟩ = some (.int .i64 (l2).2.1) ∧ w'.cell? ⟨w10.heap.size, 2, none⟩ = some (.int .i64 (l2).2.2.1) ∧ w'.cell? ⟨w10.heap.size, 3, none⟩ = some (.int .i64 (l2).2.2.2) ∧ w'.cell? ⟨w.heap.size, 0, none⟩ = some (.slice x_q2 n_q2 c_q2) ∧ w'.cell? ⟨w.heap.size, 1, none⟩ = some (.int .i64 (l2).2.1) ∧ w'.cell? ⟨w.heap.size, 2, none⟩ = some (.int .i64 (l2).2.2.1) ∧ w'.cell? ⟨w.heap.size, 3, none⟩ = some (.int .i64 (l2).2.2.2) ∧ Below w.heap.size w w') _ from ⟨Row.kc KS0.out.1 hba, Row.kc KS0.out.2.1 hba, Row.kc KS0.out.2.2.1 hba, Row.kc KS0.out.2.2.2.1 hba, Row.kc KS0.out.2.2.2.2.1 hba, Row.kc KS0.out.2.2.2.2.2.1 hba, Row.kc KS0.out.2.2.2.2.2.2.1 hba, Row.kc KS0.out.2.2.2.2.2.2.2.1 hba, KS0.out.2.2.2.2.2.2.2.2.trans (hba.mono KS0.out.2.2.2.2.2.2.2.2.size)⟩))))
        clear KS0 KS1 KS2 hoa
        replace C_aW := Lib.hid (C_aW.out.on hba)
        replace C_x2 := Lib.hid (C_x2.out.on hba)
        replace O_v4 := Lib.hid (O_v4.out.on hba)
        replace O_v5 := Lib.hid (O_v5.out.on hba)
        replace O_v6 := Lib.hid (O_v6.out.on hba)
        replace BB := Lib.hid (BB.out.trans (hba.mono BB.out.size))
        have S18 := Lib.hid (show w15.heap.size ≤ w16.heap.size from (by have h := hba.size; exact h))
        replace C_aW := Lib.hid (C_aW.out.on hbb)
        replace C_x2 := Lib.hid (C_x2.out.on hbb)
        replace O_v4 := Lib.hid (O_v4.out.on hbb)
        replace O_v5 := Lib.hid (O_v5.out.on hbb)
        replace O_v6 := Lib.hid (O_v6.out.on hbb)
        replace BB := Lib.hid (BB.out.trans (hbb.mono BB.out.size))
        have S19 := Lib.hid (show w16.heap.size ≤ w17.heap.size from (by have h := hbb.size; exact h))
        clear hba hbb
        have c0_aW : w17.cell? ⟨w.heap.size, 0, none⟩ = some (.slice x_q2 n_q2 c_q2) := C_aW.out.cell 0
        have c1_aW : w17.cell? ⟨w.heap.size, 1, none⟩ = some (.int .i64 (l2).2.1) := C_aW.out.cell 1
        have c2_aW : w17.cell? ⟨w.heap.size, 2, none⟩ = some (.int .i64 (l2).2.2.1) := C_aW.out.cell 2
        have c3_aW : w17.cell? ⟨w.heap.size, 3, none⟩ = some (.int .i64 (l2).2.2.2) := C_aW.out.cell 3
        have c0_x2 : w17.cell? ⟨w10.heap.size, 0, none⟩ = some (.slice x_v6 n_v6 c_v6) := C_x2.out.cell 0
        have c1_x2 : w17.cell? ⟨w10.heap.size, 1, none⟩ = some (.int .i64 (l2).2.1) := C_x2.out.cell 1
        have c2_x2 : w17.cell? ⟨w10.heap.size, 2, none⟩ = some (.int .i64 (l2).2.2.1) := C_x2.out.cell 2
        have c3_x2 : w17.cell? ⟨w10.heap.size, 3, none⟩ = some (.int .i64 (l2).2.2.2) := C_x2.out.cell 3
        go_wp2_with fail
        clear c0_aW c1_aW c2_aW c3_aW c0_x2 c1_x2 c2_x2 c3_x2
        go_ret
        exact ⟨rfl, BB.out⟩
      · -- out
        rw [Row.szL_not (by omega)]
        go_wp2
        go_ret
        exact ⟨rfl, BB.out⟩
    · -- out
      rw [Row.szW_not (by omega)]
      go_wp2
      go_ret
      exact ⟨rfl, BB.out⟩
  · -- out
    rw [Row.szW_not (by omega)]
    go_wp2
    go_ret
    exact ⟨rfl, BB.out⟩

set_option maxRecDepth 100000 in
theorem lifted (os : Os) (started : os.Started) (H : Type) (enc : TypeId × Value → H) :
    ReturnsInHanded {} Try.checked os 5 .any (Rows.fnExactIsLoopSpec.pre6 enc Try.prog Try.f5 Rows.fnExactIsLoopRow.domain false) (Rows.fnExactIsLoopSpec.post enc Try.prog Try.f5 false true false false) := by
  refine returnsInHanded_of_change_sized (C := Try.checked) own started (by kernel_rfl) Try.func5
    (ChangeSpec.witness6 (enc := enc) (C := Try.checked) false ⟨#[], #[.slice none 0 0, .slice none 0 0, .agg #[.slice none 0 0, .int .i64 0, .int .i64 0, .int .i64 0]], []⟩ 8 (by kernel_rfl) (by kernel_rfl) (by kernel_rfl) (by kernel_rfl)) ?_
  intro W base args ds gs before hval0 hW _ hsz0 _
  have hval : ∀ (j : Nat) t v, Try.f5.params[j]? = some t → args[j]? = some v → Value.okWide Try.prog W .any base t v := hval0
  have hsz : (DataW.weightsEach Try.prog (Try.f5.params.toList ++ Rows.fnExactIsLoopSpec.plain.varTypes Try.prog) (ds ++ gs)).all (· ≤ reachBytes) = true := hsz0
  clear hsz0
  have hW' := hW
  obtain ⟨p, q, hA0, hV, rfl, hfz, hnd⟩ := hW
  have hA : DataW.TrodAll enc Try.prog W 0 (fun _ => true) true Try.f5.params.toList args.toList ds p := hA0
  rw [Try.params5] at hA hval hsz
  obtain ⟨v0, vs0, d0, ds0, p0, q0, hargs, rfl, rfl, h0, r0⟩ := trodAll_cons hA
  obtain ⟨v1, vs1, d1, ds1, p1, q1, rfl, rfl, rfl, h1, r1⟩ := trodAll_cons r0
  obtain ⟨v2, vs2, d2, ds2, p2, q2, rfl, rfl, rfl, h2, r2⟩ := trodAll_cons r1
  obtain ⟨rfl, rfl, rfl⟩ := trodAll_nil r2
  obtain rfl : args = #[v0, v1, v2] := by cases args; simp_all
  obtain ⟨rfl, rfl⟩ := trodVars_none hV
  obtain ⟨l0, q0, n0⟩ := Row.open_sliceK Row.opens_PendingInterestS Try.underlying39 (hval 0 39 v0 rfl rfl) h0
  obtain ⟨l1, q1, n1⟩ := Row.open_sliceK Row.opens_SeenNonceS Try.underlying45 (hval 1 45 v1 rfl rfl) h1
  obtain ⟨l2, q2, n2, m2⟩ := Row.open_want (t := 48) Try.underlying48 Try.underlying46 Try.underlying25 Try.underlying9 Try.underlying3 Try.underlying3 Try.underlying3 rfl rfl rfl rfl rfl (by kernel_rfl) (by kernel_rfl) (by kernel_rfl) (by kernel_rfl) (by kernel_rfl) (by kernel_rfl) (by kernel_rfl) (hval 2 48 v2 rfl rfl) h2
  clear hA0 hval0
  refine (walk W _ _ q0 n0 n0 _ _ q1 n1 n1 _ _ q2 n2 m2).mono fun e W' ⟨he, hb⟩ => ?_
  subst he
  exact ⟨_, rfl, Frame.law_post laidOut (by kernel_rfl) rfl Try.underlying4 rfl rfl hW' hb⟩

theorem said : Rows.FnExactIsLoopSaid :=
  OpenClaim.holds_of_wide 5 Try.f5 rfl rfl rfl rfl rfl rfl rfl ⟨rfl, rfl, rfl, rfl, rfl⟩ rfl rfl rfl rfl rfl (by kernel_rfl) Try.func5 (by kernel_rfl)
    (of_decide_eq_true (by kernel_rfl)) (by unfold Func.isWrapper; first | (rw [if_pos (by decide +kernel)]; kernel_rfl) | (rw [if_neg (by decide +kernel)]; exact ⟨rfl, rfl⟩))
    (fun os started H enc _ => lifted os started H enc)

#print axioms said
end Go.Proofs.Ytjphnlkdbhcblaa.fnExactIsLoop
