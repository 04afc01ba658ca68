/- IsTrusted answers as its model for all policies of trust, data packets and times, and writes into no argument. No conditions. -/
import Derived.Test.YtcidfmmeonhkhaaGreatDoorCards
import Derived.Test.YtcidfmmeonhkhaaGreatDoorTie
import Derived.WalkKit
import Derived.ProofKit
import Derived.OpenShut
import Derived.SizedLaws
import Derived.LaidMore
import Derived.Stop.Joined
import Derived.Stop.LaidErr
import Derived.Lib.LaidTab
import Derived.SevenTiedAt
import Derived.LaidHandle
import Derived.LaidLaws
import Derived.Test.YtcidfmmeonhkhaaGreatDoorB1
import Derived.Test.YtcidfmmeonhkhaaGreatDoorB26
namespace Go.Proofs.YtcidfmmeonhkhaaGreatDoor.fnExactIsTrusted
open Go.ChangeShapes Go.WideShapes Go.ChangeAt Go.RowKit
open Go.ChangeMaps (open_string shut_string)
set_option linter.unusedVariables false

theorem own : ownKnob Tryz.prog.godebug = none := by kernel_rfl
theorem laidOut : laidOutB Tryz.prog = true := by kernel_rfl

set_option maxRecDepth 100000 in
set_option maxHeartbeats 4000000 in
theorem walk (a2 : Int) (w2 : (Lit.int .i64 a2).wf = true) (w : World) (y0 : Value) (l0 : Row.Tpt) (q0 : Row.kTp.At w y0 l0) (n0 : Row.inTp l0) (m0 : Row.inTp l0) (y1 : Value) (l1 : Row.Dt) (q1 : Row.kD.At w y1 l1) (n1 : Row.WfD l1) (m1 : l1.1.length ≤ 9223372036854775807 ∧ l1.2.1.length ≤ 9223372036854775807 ∧ l1.2.2.1.length ≤ 9223372036854775807) (ht : Row.ErrT w) :
    Calls Tryz.prog 7 #[y0, y1, .int .i64 a2] w fun e w' => e = .returned (.bool true) ∧ Below w.heap.size w w' := by
  have HT := Lib.hid ht; clear ht
  obtain ⟨x_q00, n_q00, c_q00, x_q01, n_q01, c_q01, x_q02, n_q02, c_q02, x_q03, n_q03, c_q03, rfl, q0⟩ := Row.kTp_shapeA q0
  obtain ⟨x_q1a, n_q1a, c_q1a, x_q1b, n_q1b, c_q1b, x_q1c, n_q1c, c_q1c, rfl, q1⟩ := Row.kD_shapeA q1
  have Q0 := Lib.hid q0; have N0 := Lib.hid n0; clear q0 n0
  have Q1 := Lib.hid q1; have N1 := Lib.hid n1; clear q1 n1
  have hal := (Below.refl w.heap.size w).alloc (Nat.le_refl _) (.cells #[.slice x_q00 n_q00 c_q00, .slice x_q01 n_q01 c_q01, .slice x_q02 n_q02 c_q02, .slice x_q03 n_q03 c_q03] 68)
  have BB := Lib.hid hal
  have C_aT := Lib.hid (Ret.Blk.new' (w := w) #[.slice x_q00 n_q00 c_q00, .slice x_q01 n_q01 c_q01, .slice x_q02 n_q02 c_q02, .slice x_q03 n_q03 c_q03] 68 (n := w.heap.size) (by first | rfl | simp)); clear hal
  have S1 := Lib.hid (show (w.alloc (.cells #[.slice x_q00 n_q00 c_q00, .slice x_q01 n_q01 c_q01, .slice x_q02 n_q02 c_q02, .slice x_q03 n_q03 c_q03] 68)).heap.size = w.heap.size + 1 from World.size_alloc _ _)
  have hal := (Below.refl (w.alloc (.cells #[.slice x_q00 n_q00 c_q00, .slice x_q01 n_q01 c_q01, .slice x_q02 n_q02 c_q02, .slice x_q03 n_q03 c_q03] 68)).heap.size (w.alloc (.cells #[.slice x_q00 n_q00 c_q00, .slice x_q01 n_q01 c_q01, .slice x_q02 n_q02 c_q02, .slice x_q03 n_q03 c_q03] 68))).alloc (Nat.le_refl _) (.cells #[.slice x_q1a n_q1a c_q1a, .slice x_q1b n_q1b c_q1b, .slice x_q1c n_q1c c_q1c, .int .i64 (l1).2.2.2.1, .int .i64 (l1).2.2.2.2] 71)
  replace C_aT := Lib.hid (C_aT.out.on hal)
  replace BB := Lib.hid (BB.out.trans (hal.mono BB.out.size))
  have C_aX := Lib.hid (Ret.Blk.new' (w := (w.alloc (.cells #[.slice x_q00 n_q00 c_q00, .slice x_q01 n_q01 c_q01, .slice x_q02 n_q02 c_q02, .slice x_q03 n_q03 c_q03] 68))) #[.slice x_q1a n_q1a c_q1a, .slice x_q1b n_q1b c_q1b, .slice x_q1c n_q1c c_q1c, .int .i64 (l1).2.2.2.1, .int .i64 (l1).2.2.2.2] 71 (n := w.heap.size + 1) (by first | rfl | simp)); clear hal
  have S2 := Lib.hid (show ((w.alloc (.cells #[.slice x_q00 n_q00 c_q00, .slice x_q01 n_q01 c_q01, .slice x_q02 n_q02 c_q02, .slice x_q03 n_q03 c_q03] 68)).alloc (.cells #[.slice x_q1a n_q1a c_q1a, .slice x_q1b n_q1b c_q1b, .slice x_q1c n_q1c c_q1c, .int .i64 (l1).2.2.2.1, .int .i64 (l1).2.2.2.2] 71)).heap.size = (w.alloc (.cells #[.slice x_q00 n_q00 c_q00, .slice x_q01 n_q01 c_q01, .slice x_q02 n_q02 c_q02, .slice x_q03 n_q03 c_q03] 68)).heap.size + 1 from World.size_alloc _ _)
  go_enter Tryz.func7, Tryz.ntmps7
  obtain ⟨c0_aT, c1_aT, c2_aT, c3_aT⟩ := Row.cellsOf4 C_aT.out
  obtain ⟨c0_aX, c1_aX, c2_aX, c3_aX, c4_aX⟩ := Row.cellsOf5 C_aX.out
  go_wp2_with fail
  clear c0_aT c1_aT c2_aT c3_aT c0_aX c1_aX c2_aX c3_aX c4_aX
  refine (Row.szTpK _ l0 _ (1048576) (Q0.out.on BB.out) m0 N0.out (by omega) (by omega)).mono ?_
  rintro e w1 ⟨rfl, hb⟩
  replace C_aT := Lib.hid (C_aT.out.on hb)
  replace C_aX := Lib.hid (C_aX.out.on hb)
  replace BB := Lib.hid (BB.out.trans (hb.mono BB.out.size))
  have S3 := Lib.hid (show ((w.alloc (.cells #[.slice x_q00 n_q00 c_q00, .slice x_q01 n_q01 c_q01, .slice x_q02 n_q02 c_q02, .slice x_q03 n_q03 c_q03] 68)).alloc (.cells #[.slice x_q1a n_q1a c_q1a, .slice x_q1b n_q1b c_q1b, .slice x_q1c n_q1c c_q1c, .int .i64 (l1).2.2.2.1, .int .i64 (l1).2.2.2.2] 71)).heap.size ≤ w1.heap.size from (by have h := hb.size; exact h))
  clear hb
  by_cases t0 : (Row.wtTp l0 : Int) ≤ 1048576
  · -- in
    rw [Row.szW_fit t0]
    have b0 : Row.wtTp l0 ≤ 1048576 := by omega
    have d0 : Row.adTp (l0) ≤ 1048576 := Row.adTp_big b0
    have g0 : ¬ 1048576 - (Row.wtTp l0 : Int) < 0 := by omega
    obtain ⟨c0_aT, c1_aT, c2_aT, c3_aT⟩ := Row.cellsOf4 C_aT.out
    obtain ⟨c0_aX, c1_aX, c2_aX, c3_aX, c4_aX⟩ := Row.cellsOf5 C_aX.out
    go_wp2_with fail
    clear c0_aT c1_aT c2_aT c3_aT c0_aX c1_aX c2_aX c3_aX c4_aX
    refine (Row.szDK _ l1 _ (1048576 - (Row.wtTp l0 : Int)) (Q1.out.on BB.out) m1 N1.out (by omega) (by omega)).mono ?_
    rintro e w2 ⟨rfl, hb⟩
    replace C_aT := Lib.hid (C_aT.out.on hb)
    replace C_aX := Lib.hid (C_aX.out.on hb)
    replace BB := Lib.hid (BB.out.trans (hb.mono BB.out.size))
    have S4 := Lib.hid (show w1.heap.size ≤ w2.heap.size from (by have h := hb.size; exact h))
    clear hb
    by_cases t1 : (Row.bulkD l1 : Int) ≤ 1048576 - (Row.wtTp l0 : Int)
    · -- in
      rw [Row.szD_fit t1]
      have b1 : Row.bulkD l1 ≤ 1048576 := by omega
      have d1 : Row.advD l1 ≤ 1048576 := Row.advD_big b1
      have g1 : ¬ 1048576 - (Row.wtTp l0 : Int) - (Row.bulkD l1 : Int) < 0 := by omega
      obtain ⟨c0_aT, c1_aT, c2_aT, c3_aT⟩ := Row.cellsOf4 C_aT.out
      obtain ⟨c0_aX, c1_aX, c2_aX, c3_aX, c4_aX⟩ := Row.cellsOf5 C_aX.out
      go_wp2_with fail
      clear c0_aT c1_aT c2_aT c3_aT c0_aX c1_aX c2_aX c3_aX c4_aX
      have hdr : Below w2.heap.size w2 w2.drew := (Below.refl _ _).drew
      replace C_aT := Lib.hid (C_aT.out.on hdr)
      replace C_aX := Lib.hid (C_aX.out.on hdr)
      replace BB := Lib.hid (BB.out.trans (hdr.mono BB.out.size))
      clear hdr
      have KS0 := Lib.hid (show w2.drew.cell? ⟨w.heap.size, 0, none⟩ = some (.slice x_q00 n_q00 c_q00) ∧ w2.drew.cell? ⟨w.heap.size, 1, none⟩ = some (.slice x_q01 n_q01 c_q01) ∧ w2.drew.cell? ⟨w.heap.size, 2, none⟩ = some (.slice x_q02 n_q02 c_q02) ∧ w2.drew.cell? ⟨w.heap.size, 3, none⟩ = some (.slice x_q03 n_q03 c_q03) ∧ w2.drew.cell? ⟨w.heap.size + 1, 0, none⟩ = some (.slice x_q1a n_q1a c_q1a) ∧ w2.drew.cell? ⟨w.heap.size + 1, 1, none⟩ = some (.slice x_q1b n_q1b c_q1b) ∧ w2.drew.cell? ⟨w.heap.size + 1, 2, none⟩ = some (.slice x_q1c n_q1c c_q1c) ∧ w2.drew.cell? ⟨w.heap.size + 1, 3, none⟩ = some (.int .i64 (l1).2.2.2.1) ∧ w2.drew.cell? ⟨w.heap.size + 1, 4, none⟩ = some (.int .i64 (l1).2.2.2.2) ∧ Below w.heap.size w w2.drew from ⟨C_aT.out.cell 0, C_aT.out.cell 1, C_aT.out.cell 2, C_aT.out.cell 3, C_aX.out.cell 0, C_aX.out.cell 1, C_aX.out.cell 2, C_aX.out.cell 3, C_aX.out.cell 4, BB.out⟩)
      go_region_held3 (fun w' => w'.cell? ⟨w.heap.size, 0, none⟩ = some (.slice x_q00 n_q00 c_q00) ∧ w'.cell? ⟨w.heap.size, 1, none⟩ = some (.slice x_q01 n_q01 c_q01) ∧ w'.cell? ⟨w.heap.size, 2, none⟩ = some (.slice x_q02 n_q02 c_q02) ∧ w'.cell? ⟨w.heap.size, 3, none⟩ = some (.slice x_q03 n_q03 c_q03) ∧ w'.cell? ⟨w.heap.size + 1, 0, none⟩ = some (.slice x_q1a n_q1a c_q1a) ∧ w'.cell? ⟨w.heap.size + 1, 1, none⟩ = some (.slice x_q1b n_q1b c_q1b) ∧ w'.cell? ⟨w.heap.size + 1, 2, none⟩ = some (.slice x_q1c n_q1c c_q1c) ∧ w'.cell? ⟨w.heap.size + 1, 3, none⟩ = some (.int .i64 (l1).2.2.2.1) ∧ w'.cell? ⟨w.heap.size + 1, 4, none⟩ = some (.int .i64 (l1).2.2.2.2) ∧ Below w.heap.size w w') (first | exact KS0.out | exact KS1.out | exact KS2.out | exact KS3.out) ((first | (go_at_call 20; refine (Row.specIsTrusted _ _ (l0) (l1) a2 _ _ rfl (ho0.at.on hb1) ho1.at ⟨by omega, N0.out⟩ (Row.fitD_of (by omega) N1.out)).mono ?_; rintro e w5 ⟨rfl, hbr⟩; have KS3 := Lib.hid (show (fun w' => w'.cell? ⟨w.heap.size, 0, none⟩ = some (.slice x_q00 n_q00 c_q00) ∧ w'.cell? ⟨w.heap.size, 1, none⟩ = some (.slice x_q01 n_q01 c_q01) ∧ w'.cell? ⟨w.heap.size, 2, none⟩ = some (.slice x_q02 n_q02 c_q02) ∧ w'.cell? ⟨w.heap.size, 3, none⟩ = some (.slice x_q03 n_q03 c_q03) ∧ w'.cell? ⟨w.heap.size + 1, 0, none⟩ = some (.slice x_q1a n_q1a c_q1a) ∧ w'.cell? ⟨w.heap.size + 1, 1, none⟩ = some (.slice x_q1b n_q1b c_q1b) ∧ w'.cell? ⟨w.heap.size + 1, 2, none⟩ = some (.slice x_q1c n_q1c c_q1c) ∧ w'.cell? ⟨w.heap.size + 1, 3, none⟩ = some (.int .i64 (l1).2.2.2.1) ∧ w'.cell? ⟨w.heap.size + 1, 4, none⟩ = some (.int .i64 (l1).2.2.2.2) ∧ Below w.heap.size w w') _ from ⟨Row.kc KS2.out.1 hbr, Row.kc KS2.out.2.1 hbr, Row.kc KS2.out.2.2.1 hbr, Row.kc KS2.out.2.2.2.1 hbr, Row.kc KS2.out.2.2.2.2.1 hbr, Row.kc KS2.out.2.2.2.2.2.1 hbr, Row.kc KS2.out.2.2.2.2.2.2.1 hbr, Row.kc KS2.out.2.2.2.2.2.2.2.1 hbr, Row.kc KS2.out.2.2.2.2.2.2.2.2.1 hbr, KS2.out.2.2.2.2.2.2.2.2.2.trans (hbr.mono KS2.out.2.2.2.2.2.2.2.2.2.size)⟩)) | (go_at_call 40; refine (Row.toDK _ l1 _ ((Q1.out.on BB.out).on hb0) (by omega)).mono ?_; rintro e w4 ⟨v2, rfl, ho1, hb1⟩; obtain ⟨x_v2a, n_v2a, c_v2a, x_v2b, n_v2b, c_v2b, x_v2c, n_v2c, c_v2c, rfl, ho1⟩ := Row.kD_shape ho1; have KS2 := Lib.hid (show (fun w' => w'.cell? ⟨w.heap.size, 0, none⟩ = some (.slice x_q00 n_q00 c_q00) ∧ w'.cell? ⟨w.heap.size, 1, none⟩ = some (.slice x_q01 n_q01 c_q01) ∧ w'.cell? ⟨w.heap.size, 2, none⟩ = some (.slice x_q02 n_q02 c_q02) ∧ w'.cell? ⟨w.heap.size, 3, none⟩ = some (.slice x_q03 n_q03 c_q03) ∧ w'.cell? ⟨w.heap.size + 1, 0, none⟩ = some (.slice x_q1a n_q1a c_q1a) ∧ w'.cell? ⟨w.heap.size + 1, 1, none⟩ = some (.slice x_q1b n_q1b c_q1b) ∧ w'.cell? ⟨w.heap.size + 1, 2, none⟩ = some (.slice x_q1c n_q1c c_q1c) ∧ w'.cell? ⟨w.heap.size + 1, 3, none⟩ = some (.int .i64 (l1).2.2.2.1) ∧ w'.cell? ⟨w.heap.size + 1, 4, none⟩ = some (.int .i64 (l1).2.2.2.2) ∧ Below w.heap.size w w') _ from ⟨Row.kc KS1.out.1 hb1, Row.kc KS1.out.2.1 hb1, Row.kc KS1.out.2.2.1 hb1, Row.kc KS1.out.2.2.2.1 hb1, Row.kc KS1.out.2.2.2.2.1 hb1, Row.kc KS1.out.2.2.2.2.2.1 hb1, Row.kc KS1.out.2.2.2.2.2.2.1 hb1, Row.kc KS1.out.2.2.2.2.2.2.2.1 hb1, Row.kc KS1.out.2.2.2.2.2.2.2.2.1 hb1, KS1.out.2.2.2.2.2.2.2.2.2.trans (hb1.mono KS1.out.2.2.2.2.2.2.2.2.2.size)⟩)) | (go_at_call 39; refine (Row.toTrustPolicyK _ l0 _ (Q0.out.on BB.out) (by omega)).mono ?_; rintro e w3 ⟨v1, rfl, ho0, hb0⟩; obtain ⟨x_v10, n_v10, c_v10, x_v11, n_v11, c_v11, x_v12, n_v12, c_v12, x_v13, n_v13, c_v13, rfl, ho0⟩ := Row.kTp_shape ho0; have KS1 := Lib.hid (show (fun w' => w'.cell? ⟨w.heap.size, 0, none⟩ = some (.slice x_q00 n_q00 c_q00) ∧ w'.cell? ⟨w.heap.size, 1, none⟩ = some (.slice x_q01 n_q01 c_q01) ∧ w'.cell? ⟨w.heap.size, 2, none⟩ = some (.slice x_q02 n_q02 c_q02) ∧ w'.cell? ⟨w.heap.size, 3, none⟩ = some (.slice x_q03 n_q03 c_q03) ∧ w'.cell? ⟨w.heap.size + 1, 0, none⟩ = some (.slice x_q1a n_q1a c_q1a) ∧ w'.cell? ⟨w.heap.size + 1, 1, none⟩ = some (.slice x_q1b n_q1b c_q1b) ∧ w'.cell? ⟨w.heap.size + 1, 2, none⟩ = some (.slice x_q1c n_q1c c_q1c) ∧ w'.cell? ⟨w.heap.size + 1, 3, none⟩ = some (.int .i64 (l1).2.2.2.1) ∧ w'.cell? ⟨w.heap.size + 1, 4, none⟩ = some (.int .i64 (l1).2.2.2.2) ∧ Below w.heap.size w w') _ from ⟨Row.kc KS0.out.1 hb0, Row.kc KS0.out.2.1 hb0, Row.kc KS0.out.2.2.1 hb0, Row.kc KS0.out.2.2.2.1 hb0, Row.kc KS0.out.2.2.2.2.1 hb0, Row.kc KS0.out.2.2.2.2.2.1 hb0, Row.kc KS0.out.2.2.2.2.2.2.1 hb0, Row.kc KS0.out.2.2.2.2.2.2.2.1 hb0, Row.kc KS0.out.2.2.2.2.2.2.2.2.1 hb0, KS0.out.2.2.2.2.2.2.2.2.2.trans (hb0.mono KS0.out.2.2.2.2.2.2.2.2.2.size)⟩))))
      clear KS0 KS1 KS2 KS3 ho0 ho1
      replace C_aT := Lib.hid (C_aT.out.on hb0)
      replace C_aX := Lib.hid (C_aX.out.on hb0)
      replace BB := Lib.hid (BB.out.trans (hb0.mono BB.out.size))
      have S5 := Lib.hid (show w2.heap.size ≤ w3.heap.size from (by have h := hb0.size; exact h))
      replace C_aT := Lib.hid (C_aT.out.on hb1)
      replace C_aX := Lib.hid (C_aX.out.on hb1)
      replace BB := Lib.hid (BB.out.trans (hb1.mono BB.out.size))
      have S6 := Lib.hid (show w3.heap.size ≤ w4.heap.size from (by have h := hb1.size; exact h))
      clear hb0 hb1
      replace C_aT := Lib.hid (C_aT.out.on hbr)
      replace C_aX := Lib.hid (C_aX.out.on hbr)
      replace BB := Lib.hid (BB.out.trans (hbr.mono BB.out.size))
      have S7 := Lib.hid (show w4.heap.size ≤ w5.heap.size from (by have h := hbr.size; exact h))
      clear hbr
      obtain ⟨c0_aT, c1_aT, c2_aT, c3_aT⟩ := Row.cellsOf4 C_aT.out
      obtain ⟨c0_aX, c1_aX, c2_aX, c3_aX, c4_aX⟩ := Row.cellsOf5 C_aX.out
      go_wp2_with fail
      clear c0_aT c1_aT c2_aT c3_aT c0_aX c1_aX c2_aX c3_aX c4_aX
      refine (Row.toTrustPolicyK _ l0 _ (Q0.out.on BB.out) (by omega)).mono ?_
      rintro e w6 ⟨v3, rfl, ho, hb⟩
      obtain ⟨x_v30, n_v30, c_v30, x_v31, n_v31, c_v31, x_v32, n_v32, c_v32, x_v33, n_v33, c_v33, rfl, ho⟩ := Row.kTp_shape ho
      replace C_aT := Lib.hid (C_aT.out.on hb)
      replace C_aX := Lib.hid (C_aX.out.on hb)
      replace BB := Lib.hid (BB.out.trans (hb.mono BB.out.size))
      have S8 := Lib.hid (show w5.heap.size ≤ w6.heap.size from (by have h := hb.size; exact h))
      have O_v3 := Lib.hid (show Row.kTp.In w5.heap.size w6.heap.size w6 (.agg #[.slice x_v30 n_v30 c_v30, .slice x_v31 n_v31 c_v31, .slice x_v32 n_v32 c_v32, .slice x_v33 n_v33 c_v33]) (l0) from ho); clear ho
      clear hb
      have hal := (Below.refl w6.heap.size w6).alloc (Nat.le_refl _) (.cells #[.slice x_v30 n_v30 c_v30, .slice x_v31 n_v31 c_v31, .slice x_v32 n_v32 c_v32, .slice x_v33 n_v33 c_v33] 29)
      replace C_aT := Lib.hid (C_aT.out.on hal)
      replace C_aX := Lib.hid (C_aX.out.on hal)
      replace O_v3 := Lib.hid (O_v3.out.on hal)
      replace BB := Lib.hid (BB.out.trans (hal.mono BB.out.size))
      have S9 := Lib.hid (show (w6.alloc (.cells #[.slice x_v30 n_v30 c_v30, .slice x_v31 n_v31 c_v31, .slice x_v32 n_v32 c_v32, .slice x_v33 n_v33 c_v33] 29)).heap.size = w6.heap.size + 1 from World.size_alloc _ _)
      have C_x0 := Lib.hid (Ret.Blk.new w6 #[.slice x_v30 n_v30 c_v30, .slice x_v31 n_v31 c_v31, .slice x_v32 n_v32 c_v32, .slice x_v33 n_v33 c_v33] 29); clear hal
      obtain ⟨c0_aT, c1_aT, c2_aT, c3_aT⟩ := Row.cellsOf4 C_aT.out
      obtain ⟨c0_aX, c1_aX, c2_aX, c3_aX, c4_aX⟩ := Row.cellsOf5 C_aX.out
      obtain ⟨c0_x0, c1_x0, c2_x0, c3_x0⟩ := Row.cellsOf4 C_x0.out
      go_wp2_with fail
      clear c0_aT c1_aT c2_aT c3_aT c0_aX c1_aX c2_aX c3_aX c4_aX c0_x0 c1_x0 c2_x0 c3_x0
      refine (Row.toDK _ l1 _ (Q1.out.on BB.out) (by omega)).mono ?_
      rintro e w7 ⟨v4, rfl, ho, hb⟩
      obtain ⟨x_v4a, n_v4a, c_v4a, x_v4b, n_v4b, c_v4b, x_v4c, n_v4c, c_v4c, rfl, ho⟩ := Row.kD_shape ho
      replace C_aT := Lib.hid (C_aT.out.on hb)
      replace C_aX := Lib.hid (C_aX.out.on hb)
      replace C_x0 := Lib.hid (C_x0.out.on hb)
      replace O_v3 := Lib.hid (O_v3.out.on hb)
      replace BB := Lib.hid (BB.out.trans (hb.mono BB.out.size))
      have S10 := Lib.hid (show (w6.alloc (.cells #[.slice x_v30 n_v30 c_v30, .slice x_v31 n_v31 c_v31, .slice x_v32 n_v32 c_v32, .slice x_v33 n_v33 c_v33] 29)).heap.size ≤ w7.heap.size from (by have h := hb.size; exact h))
      have O_v4 := Lib.hid (show Row.kD.In (w6.alloc (.cells #[.slice x_v30 n_v30 c_v30, .slice x_v31 n_v31 c_v31, .slice x_v32 n_v32 c_v32, .slice x_v33 n_v33 c_v33] 29)).heap.size w7.heap.size w7 (.agg #[.slice x_v4a n_v4a c_v4a, .slice x_v4b n_v4b c_v4b, .slice x_v4c n_v4c c_v4c, .int .i64 (l1).2.2.2.1, .int .i64 (l1).2.2.2.2]) (l1) from ho); clear ho
      clear hb
      have hal := (Below.refl w7.heap.size w7).alloc (Nat.le_refl _) (.cells #[.slice x_v4a n_v4a c_v4a, .slice x_v4b n_v4b c_v4b, .slice x_v4c n_v4c c_v4c, .int .i64 (l1).2.2.2.1, .int .i64 (l1).2.2.2.2] 34)
      replace C_aT := Lib.hid (C_aT.out.on hal)
      replace C_aX := Lib.hid (C_aX.out.on hal)
      replace C_x0 := Lib.hid (C_x0.out.on hal)
      replace O_v3 := Lib.hid (O_v3.out.on hal)
      replace O_v4 := Lib.hid (O_v4.out.on hal)
      replace BB := Lib.hid (BB.out.trans (hal.mono BB.out.size))
      have S11 := Lib.hid (show (w7.alloc (.cells #[.slice x_v4a n_v4a c_v4a, .slice x_v4b n_v4b c_v4b, .slice x_v4c n_v4c c_v4c, .int .i64 (l1).2.2.2.1, .int .i64 (l1).2.2.2.2] 34)).heap.size = w7.heap.size + 1 from World.size_alloc _ _)
      have C_x1 := Lib.hid (Ret.Blk.new w7 #[.slice x_v4a n_v4a c_v4a, .slice x_v4b n_v4b c_v4b, .slice x_v4c n_v4c c_v4c, .int .i64 (l1).2.2.2.1, .int .i64 (l1).2.2.2.2] 34); clear hal
      obtain ⟨c0_aT, c1_aT, c2_aT, c3_aT⟩ := Row.cellsOf4 C_aT.out
      obtain ⟨c0_aX, c1_aX, c2_aX, c3_aX, c4_aX⟩ := Row.cellsOf5 C_aX.out
      obtain ⟨c0_x0, c1_x0, c2_x0, c3_x0⟩ := Row.cellsOf4 C_x0.out
      obtain ⟨c0_x1, c1_x1, c2_x1, c3_x1, c4_x1⟩ := Row.cellsOf5 C_x1.out
      go_wp2_with fail
      clear c0_aT c1_aT c2_aT c3_aT c0_aX c1_aX c2_aX c3_aX c4_aX c0_x0 c1_x0 c2_x0 c3_x0 c0_x1 c1_x1 c2_x1 c3_x1 c4_x1
      refine (Row.implIsTrusted _ _ (l0) (l1) a2 _ _ rfl (O_v3.out.at) (O_v4.out.at) ⟨by omega, N0.out⟩ (Row.fitD_of (by omega) N1.out) (HT.out.on BB.out)).mono ?_
      rintro e w8 ⟨rfl, hb⟩
      replace C_aT := Lib.hid (C_aT.out.on hb)
      replace C_aX := Lib.hid (C_aX.out.on hb)
      replace C_x0 := Lib.hid (C_x0.out.on hb)
      replace C_x1 := Lib.hid (C_x1.out.on hb)
      replace O_v3 := Lib.hid (O_v3.out.on hb)
      replace O_v4 := Lib.hid (O_v4.out.on hb)
      replace BB := Lib.hid (BB.out.trans (hb.mono BB.out.size))
      have S12 := Lib.hid (show (w7.alloc (.cells #[.slice x_v4a n_v4a c_v4a, .slice x_v4b n_v4b c_v4b, .slice x_v4c n_v4c c_v4c, .int .i64 (l1).2.2.2.1, .int .i64 (l1).2.2.2.2] 34)).heap.size ≤ w8.heap.size from (by have h := hb.size; exact h))
      clear hb
      obtain ⟨c0_aT, c1_aT, c2_aT, c3_aT⟩ := Row.cellsOf4 C_aT.out
      obtain ⟨c0_aX, c1_aX, c2_aX, c3_aX, c4_aX⟩ := Row.cellsOf5 C_aX.out
      obtain ⟨c0_x0, c1_x0, c2_x0, c3_x0⟩ := Row.cellsOf4 C_x0.out
      obtain ⟨c0_x1, c1_x1, c2_x1, c3_x1, c4_x1⟩ := Row.cellsOf5 C_x1.out
      go_wp2_with fail
      clear c0_aT c1_aT c2_aT c3_aT c0_aX c1_aX c2_aX c3_aX c4_aX c0_x0 c1_x0 c2_x0 c3_x0 c0_x1 c1_x1 c2_x1 c3_x1 c4_x1
      have hdr : Below w8.heap.size w8 w8.drew := (Below.refl _ _).drew
      replace C_aT := Lib.hid (C_aT.out.on hdr)
      replace C_aX := Lib.hid (C_aX.out.on hdr)
      replace C_x0 := Lib.hid (C_x0.out.on hdr)
      replace C_x1 := Lib.hid (C_x1.out.on hdr)
      replace O_v3 := Lib.hid (O_v3.out.on hdr)
      replace O_v4 := Lib.hid (O_v4.out.on hdr)
      replace BB := Lib.hid (BB.out.trans (hdr.mono BB.out.size))
      clear hdr
      have KS0 := Lib.hid (show w8.drew.cell? ⟨w6.heap.size, 0, none⟩ = some (.slice x_v30 n_v30 c_v30) ∧ w8.drew.cell? ⟨w6.heap.size, 1, none⟩ = some (.slice x_v31 n_v31 c_v31) ∧ w8.drew.cell? ⟨w6.heap.size, 2, none⟩ = some (.slice x_v32 n_v32 c_v32) ∧ w8.drew.cell? ⟨w6.heap.size, 3, none⟩ = some (.slice x_v33 n_v33 c_v33) ∧ w8.drew.cell? ⟨w.heap.size, 0, none⟩ = some (.slice x_q00 n_q00 c_q00) ∧ w8.drew.cell? ⟨w.heap.size, 1, none⟩ = some (.slice x_q01 n_q01 c_q01) ∧ w8.drew.cell? ⟨w.heap.size, 2, none⟩ = some (.slice x_q02 n_q02 c_q02) ∧ w8.drew.cell? ⟨w.heap.size, 3, none⟩ = some (.slice x_q03 n_q03 c_q03) ∧ Below w.heap.size w w8.drew from ⟨C_x0.out.cell 0, C_x0.out.cell 1, C_x0.out.cell 2, C_x0.out.cell 3, C_aT.out.cell 0, C_aT.out.cell 1, C_aT.out.cell 2, C_aT.out.cell 3, BB.out⟩)
      go_region_held3 (fun w' => w'.cell? ⟨w6.heap.size, 0, none⟩ = some (.slice x_v30 n_v30 c_v30) ∧ w'.cell? ⟨w6.heap.size, 1, none⟩ = some (.slice x_v31 n_v31 c_v31) ∧ w'.cell? ⟨w6.heap.size, 2, none⟩ = some (.slice x_v32 n_v32 c_v32) ∧ w'.cell? ⟨w6.heap.size, 3, none⟩ = some (.slice x_v33 n_v33 c_v33) ∧ w'.cell? ⟨w.heap.size, 0, none⟩ = some (.slice x_q00 n_q00 c_q00) ∧ w'.cell? ⟨w.heap.size, 1, none⟩ = some (.slice x_q01 n_q01 c_q01) ∧ w'.cell? ⟨w.heap.size, 2, none⟩ = some (.slice x_q02 n_q02 c_q02) ∧ w'.cell? ⟨w.heap.size, 3, none⟩ = some (.slice x_q03 n_q03 c_q03) ∧ Below w.heap.size w w') (first | exact KS0.out | exact KS1.out | exact KS2.out) ((first | (go_at_call 42; refine (Row.sameTpK _ _ (l0) _ ((O_v3.out.at).on hba) hoa.at (by first | omega | (simp; omega) | (simp [Row.marks_length, Sl.marks_length, Row.mkW]; omega))).mono ?_; rintro e w10 ⟨rfl, hbb⟩; have KS2 := Lib.hid (show (fun w' => w'.cell? ⟨w6.heap.size, 0, none⟩ = some (.slice x_v30 n_v30 c_v30) ∧ w'.cell? ⟨w6.heap.size, 1, none⟩ = some (.slice x_v31 n_v31 c_v31) ∧ w'.cell? ⟨w6.heap.size, 2, none⟩ = some (.slice x_v32 n_v32 c_v32) ∧ w'.cell? ⟨w6.heap.size, 3, none⟩ = some (.slice x_v33 n_v33 c_v33) ∧ w'.cell? ⟨w.heap.size, 0, none⟩ = some (.slice x_q00 n_q00 c_q00) ∧ w'.cell? ⟨w.heap.size, 1, none⟩ = some (.slice x_q01 n_q01 c_q01) ∧ w'.cell? ⟨w.heap.size, 2, none⟩ = some (.slice x_q02 n_q02 c_q02) ∧ w'.cell? ⟨w.heap.size, 3, none⟩ = some (.slice x_q03 n_q03 c_q03) ∧ Below w.heap.size w w') _ from ⟨Row.kc KS1.out.1 hbb, Row.kc KS1.out.2.1 hbb, Row.kc KS1.out.2.2.1 hbb, Row.kc KS1.out.2.2.2.1 hbb, Row.kc KS1.out.2.2.2.2.1 hbb, Row.kc KS1.out.2.2.2.2.2.1 hbb, Row.kc KS1.out.2.2.2.2.2.2.1 hbb, Row.kc KS1.out.2.2.2.2.2.2.2.1 hbb, KS1.out.2.2.2.2.2.2.2.2.trans (hbb.mono KS1.out.2.2.2.2.2.2.2.2.size)⟩)) | (go_at_call 39; refine (Row.toTrustPolicyK _ l0 _ (Q0.out.on BB.out) (by omega)).mono ?_; rintro e w9 ⟨v5, rfl, hoa, hba⟩; obtain ⟨x_v50, n_v50, c_v50, x_v51, n_v51, c_v51, x_v52, n_v52, c_v52, x_v53, n_v53, c_v53, rfl, hoa⟩ := Row.kTp_shape hoa; have KS1 := Lib.hid (show (fun w' => w'.cell? ⟨w6.heap.size, 0, none⟩ = some (.slice x_v30 n_v30 c_v30) ∧ w'.cell? ⟨w6.heap.size, 1, none⟩ = some (.slice x_v31 n_v31 c_v31) ∧ w'.cell? ⟨w6.heap.size, 2, none⟩ = some (.slice x_v32 n_v32 c_v32) ∧ w'.cell? ⟨w6.heap.size, 3, none⟩ = some (.slice x_v33 n_v33 c_v33) ∧ w'.cell? ⟨w.heap.size, 0, none⟩ = some (.slice x_q00 n_q00 c_q00) ∧ w'.cell? ⟨w.heap.size, 1, none⟩ = some (.slice x_q01 n_q01 c_q01) ∧ w'.cell? ⟨w.heap.size, 2, none⟩ = some (.slice x_q02 n_q02 c_q02) ∧ w'.cell? ⟨w.heap.size, 3, none⟩ = some (.slice x_q03 n_q03 c_q03) ∧ Below w.heap.size w w') _ from ⟨Row.kc KS0.out.1 hba, Row.kc KS0.out.2.1 hba, Row.kc KS0.out.2.2.1 hba, Row.kc KS0.out.2.2.2.1 hba, Row.kc KS0.out.2.2.2.2.1 hba, Row.kc KS0.out.2.2.2.2.2.1 hba, Row.kc KS0.out.2.2.2.2.2.2.1 hba, Row.kc KS0.out.2.2.2.2.2.2.2.1 hba, KS0.out.2.2.2.2.2.2.2.2.trans (hba.mono KS0.out.2.2.2.2.2.2.2.2.size)⟩))))
      clear KS0 KS1 KS2 hoa
      replace C_aT := Lib.hid (C_aT.out.on hba)
      replace C_aX := Lib.hid (C_aX.out.on hba)
      replace C_x0 := Lib.hid (C_x0.out.on hba)
      replace C_x1 := Lib.hid (C_x1.out.on hba)
      replace O_v3 := Lib.hid (O_v3.out.on hba)
      replace O_v4 := Lib.hid (O_v4.out.on hba)
      replace BB := Lib.hid (BB.out.trans (hba.mono BB.out.size))
      have S13 := Lib.hid (show w8.heap.size ≤ w9.heap.size from (by have h := hba.size; exact h))
      replace C_aT := Lib.hid (C_aT.out.on hbb)
      replace C_aX := Lib.hid (C_aX.out.on hbb)
      replace C_x0 := Lib.hid (C_x0.out.on hbb)
      replace C_x1 := Lib.hid (C_x1.out.on hbb)
      replace O_v3 := Lib.hid (O_v3.out.on hbb)
      replace O_v4 := Lib.hid (O_v4.out.on hbb)
      replace BB := Lib.hid (BB.out.trans (hbb.mono BB.out.size))
      have S14 := Lib.hid (show w9.heap.size ≤ w10.heap.size from (by have h := hbb.size; exact h))
      clear hba hbb
      obtain ⟨c0_aT, c1_aT, c2_aT, c3_aT⟩ := Row.cellsOf4 C_aT.out
      obtain ⟨c0_aX, c1_aX, c2_aX, c3_aX, c4_aX⟩ := Row.cellsOf5 C_aX.out
      obtain ⟨c0_x0, c1_x0, c2_x0, c3_x0⟩ := Row.cellsOf4 C_x0.out
      obtain ⟨c0_x1, c1_x1, c2_x1, c3_x1, c4_x1⟩ := Row.cellsOf5 C_x1.out
      go_wp2_with fail
      clear c0_aT c1_aT c2_aT c3_aT c0_aX c1_aX c2_aX c3_aX c4_aX c0_x0 c1_x0 c2_x0 c3_x0 c0_x1 c1_x1 c2_x1 c3_x1 c4_x1
      have hdr : Below w10.heap.size w10 w10.drew := (Below.refl _ _).drew
      replace C_aT := Lib.hid (C_aT.out.on hdr)
      replace C_aX := Lib.hid (C_aX.out.on hdr)
      replace C_x0 := Lib.hid (C_x0.out.on hdr)
      replace C_x1 := Lib.hid (C_x1.out.on hdr)
      replace O_v3 := Lib.hid (O_v3.out.on hdr)
      replace O_v4 := Lib.hid (O_v4.out.on hdr)
      replace BB := Lib.hid (BB.out.trans (hdr.mono BB.out.size))
      clear hdr
      have KS0 := Lib.hid (show w10.drew.cell? ⟨w7.heap.size, 0, none⟩ = some (.slice x_v4a n_v4a c_v4a) ∧ w10.drew.cell? ⟨w7.heap.size, 1, none⟩ = some (.slice x_v4b n_v4b c_v4b) ∧ w10.drew.cell? ⟨w7.heap.size, 2, none⟩ = some (.slice x_v4c n_v4c c_v4c) ∧ w10.drew.cell? ⟨w7.heap.size, 3, none⟩ = some (.int .i64 (l1).2.2.2.1) ∧ w10.drew.cell? ⟨w7.heap.size, 4, none⟩ = some (.int .i64 (l1).2.2.2.2) ∧ w10.drew.cell? ⟨w.heap.size + 1, 0, none⟩ = some (.slice x_q1a n_q1a c_q1a) ∧ w10.drew.cell? ⟨w.heap.size + 1, 1, none⟩ = some (.slice x_q1b n_q1b c_q1b) ∧ w10.drew.cell? ⟨w.heap.size + 1, 2, none⟩ = some (.slice x_q1c n_q1c c_q1c) ∧ w10.drew.cell? ⟨w.heap.size + 1, 3, none⟩ = some (.int .i64 (l1).2.2.2.1) ∧ w10.drew.cell? ⟨w.heap.size + 1, 4, none⟩ = some (.int .i64 (l1).2.2.2.2) ∧ Below w.heap.size w w10.drew from ⟨C_x1.out.cell 0, C_x1.out.cell 1, C_x1.out.cell 2, C_x1.out.cell 3, C_x1.out.cell 4, C_aX.out.cell 0, C_aX.out.cell 1, C_aX.out.cell 2, C_aX.out.cell 3, C_aX.out.cell 4, BB.out⟩)
      go_region_held3 (fun w' => w'.cell? ⟨w7.heap.size, 0, none⟩ = some (.slice x_v4a n_v4a c_v4a) ∧ w'.cell? ⟨w7.heap.size, 1, none⟩ = some (.slice x_v4b n_v4b c_v4b) ∧ w'.cell? ⟨w7.heap.size, 2, none⟩ = some (.slice x_v4c n_v4c c_v4c) ∧ w'.cell? ⟨w7.heap.size, 3, none⟩ = some (.int .i64 (l1).2.2.2.1) ∧ w'.cell? ⟨w7.heap.size, 4, none⟩ = some (.int .i64 (l1).2.2.2.2) ∧ w'.cell? ⟨w.heap.size + 1, 0, none⟩ = some (.slice x_q1a n_q1a c_q1a) ∧ w'.cell? ⟨w.heap.size + 1, 1, none⟩ = some (.slice x_q1b n_q1b c_q1b) ∧ w'.cell? ⟨w.heap.size + 1, 2, none⟩ = some (.slice x_q1c n_q1c c_q1c) ∧ w'.cell? ⟨w.heap.size + 1, 3, none⟩ = some (.int .i64 (l1).2.2.2.1) ∧ w'.cell? ⟨w.heap.size + 1, 4, none⟩ = some (.int .i64 (l1).2.2.2.2) ∧ Below w.heap.size w w') (first | exact KS0.out | exact KS1.out | exact KS2.out) ((first | (go_at_call 43; refine (Row.sameDK _ _ (l1) _ ((O_v4.out.at).on hba) hoa.at (by first | omega | (simp; omega) | (simp [Row.marks_length, Sl.marks_length, Row.mkW]; omega))).mono ?_; rintro e w12 ⟨rfl, hbb⟩; have KS2 := Lib.hid (show (fun w' => w'.cell? ⟨w7.heap.size, 0, none⟩ = some (.slice x_v4a n_v4a c_v4a) ∧ w'.cell? ⟨w7.heap.size, 1, none⟩ = some (.slice x_v4b n_v4b c_v4b) ∧ w'.cell? ⟨w7.heap.size, 2, none⟩ = some (.slice x_v4c n_v4c c_v4c) ∧ w'.cell? ⟨w7.heap.size, 3, none⟩ = some (.int .i64 (l1).2.2.2.1) ∧ w'.cell? ⟨w7.heap.size, 4, none⟩ = some (.int .i64 (l1).2.2.2.2) ∧ w'.cell? ⟨w.heap.size + 1, 0, none⟩ = some (.slice x_q1a n_q1a c_q1a) ∧ w'.cell? ⟨w.heap.size + 1, 1, none⟩ = some (.slice x_q1b n_q1b c_q1b) ∧ w'.cell? ⟨w.heap.size + 1, 2, none⟩ = some (.slice x_q1c n_q1c c_q1c) ∧ w'.cell? ⟨w.heap.size + 1, 3, none⟩ = some (.int .i64 (l1).2.2.2.1) ∧ w'.cell? ⟨w.heap.size + 1, 4, none⟩ = some (.int .i64 (l1).2.2.2.2) ∧ Below w.heap.size w w') _ from ⟨Row.kc KS1.out.1 hbb, Row.kc KS1.out.2.1 hbb, Row.kc KS1.out.2.2.1 hbb, Row.kc KS1.out.2.2.2.1 hbb, Row.kc KS1.out.2.2.2.2.1 hbb, Row.kc KS1.out.2.2.2.2.2.1 hbb, Row.kc KS1.out.2.2.2.2.2.2.1 hbb, Row.kc KS1.out.2.2.2.2.2.2.2.1 hbb, Row.kc KS1.out.2.2.2.2.2.2.2.2.1 hbb, Row.kc KS1.out.2.2.2.2.2.2.2.2.2.1 hbb, KS1.out.2.2.2.2.2.2.2.2.2.2.trans (hbb.mono KS1.out.2.2.2.2.2.2.2.2.2.2.size)⟩)) | (go_at_call 40; refine (Row.toDK _ l1 _ (Q1.out.on BB.out) (by omega)).mono ?_; rintro e w11 ⟨v6, rfl, hoa, hba⟩; obtain ⟨x_v6a, n_v6a, c_v6a, x_v6b, n_v6b, c_v6b, x_v6c, n_v6c, c_v6c, rfl, hoa⟩ := Row.kD_shape hoa; have KS1 := Lib.hid (show (fun w' => w'.cell? ⟨w7.heap.size, 0, none⟩ = some (.slice x_v4a n_v4a c_v4a) ∧ w'.cell? ⟨w7.heap.size, 1, none⟩ = some (.slice x_v4b n_v4b c_v4b) ∧ w'.cell? ⟨w7.heap.size, 2, none⟩ = some (.slice x_v4c n_v4c c_v4c) ∧ w'.cell? ⟨w7.heap.size, 3, none⟩ = some (.int .i64 (l1).2.2.2.1) ∧ w'.cell? ⟨w7.heap.size, 4, none⟩ = some (.int .i64 (l1).2.2.2.2) ∧ w'.cell? ⟨w.heap.size + 1, 0, none⟩ = some (.slice x_q1a n_q1a c_q1a) ∧ w'.cell? ⟨w.heap.size + 1, 1, none⟩ = some (.slice x_q1b n_q1b c_q1b) ∧ w'.cell? ⟨w.heap.size + 1, 2, none⟩ = some (.slice x_q1c n_q1c c_q1c) ∧ w'.cell? ⟨w.heap.size + 1, 3, none⟩ = some (.int .i64 (l1).2.2.2.1) ∧ w'.cell? ⟨w.heap.size + 1, 4, none⟩ = some (.int .i64 (l1).2.2.2.2) ∧ Below w.heap.size w w') _ from ⟨Row.kc KS0.out.1 hba, Row.kc KS0.out.2.1 hba, Row.kc KS0.out.2.2.1 hba, Row.kc KS0.out.2.2.2.1 hba, Row.kc KS0.out.2.2.2.2.1 hba, Row.kc KS0.out.2.2.2.2.2.1 hba, Row.kc KS0.out.2.2.2.2.2.2.1 hba, Row.kc KS0.out.2.2.2.2.2.2.2.1 hba, Row.kc KS0.out.2.2.2.2.2.2.2.2.1 hba, Row.kc KS0.out.2.2.2.2.2.2.2.2.2.1 hba, KS0.out.2.2.2.2.2.2.2.2.2.2.trans (hba.mono KS0.out.2.2.2.2.2.2.2.2.2.2.size)⟩))))
      clear KS0 KS1 KS2 hoa
      replace C_aT := Lib.hid (C_aT.out.on hba)
      replace C_aX := Lib.hid (C_aX.out.on hba)
      replace C_x0 := Lib.hid (C_x0.out.on hba)
      replace C_x1 := Lib.hid (C_x1.out.on hba)
      replace O_v3 := Lib.hid (O_v3.out.on hba)
      replace O_v4 := Lib.hid (O_v4.out.on hba)
      replace BB := Lib.hid (BB.out.trans (hba.mono BB.out.size))
      have S15 := Lib.hid (show w10.heap.size ≤ w11.heap.size from (by have h := hba.size; exact h))
      replace C_aT := Lib.hid (C_aT.out.on hbb)
      replace C_aX := Lib.hid (C_aX.out.on hbb)
      replace C_x0 := Lib.hid (C_x0.out.on hbb)
      replace C_x1 := Lib.hid (C_x1.out.on hbb)
      replace O_v3 := Lib.hid (O_v3.out.on hbb)
      replace O_v4 := Lib.hid (O_v4.out.on hbb)
      replace BB := Lib.hid (BB.out.trans (hbb.mono BB.out.size))
      have S16 := Lib.hid (show w11.heap.size ≤ w12.heap.size from (by have h := hbb.size; exact h))
      clear hba hbb
      obtain ⟨c0_aT, c1_aT, c2_aT, c3_aT⟩ := Row.cellsOf4 C_aT.out
      obtain ⟨c0_aX, c1_aX, c2_aX, c3_aX, c4_aX⟩ := Row.cellsOf5 C_aX.out
      obtain ⟨c0_x0, c1_x0, c2_x0, c3_x0⟩ := Row.cellsOf4 C_x0.out
      obtain ⟨c0_x1, c1_x1, c2_x1, c3_x1, c4_x1⟩ := Row.cellsOf5 C_x1.out
      go_wp2_with fail
      clear c0_aT c1_aT c2_aT c3_aT c0_aX c1_aX c2_aX c3_aX c4_aX c0_x0 c1_x0 c2_x0 c3_x0 c0_x1 c1_x1 c2_x1 c3_x1 c4_x1
      go_ret
      exact ⟨rfl, BB.out⟩
    · -- out
      rw [Row.szD_not (by omega)]
      go_wp2
      go_ret
      exact ⟨rfl, BB.out⟩
  · -- out
    rw [Row.szW_not (by omega)]
    go_wp2
    go_ret
    exact ⟨rfl, BB.out⟩

/-- The heap that the initialisers' own run leaves meets the list. -/
theorem door_met (os : Os) (args : Array Value) : laidMetH Tryz.prog Rows.fnExactIsTrustedRow.laid ((World.doorLaid Tryz.prog 16 os).forCall (fun _ _ => 0) ⟨#[], args, []⟩).memory :=
  laidMetH_of_parts (laidMet_nil _ _) (by kernel_rfl)

theorem eG : Tryz.prog.globalNamed "errors.errorType" = some 0 := by kernel_rfl
theorem eR : (Tryz.prog.cutTypes.find? (·.1 == "internal/reflectlite.rtype")).map (·.2) = some 204 := by kernel_rfl
theorem eO : ((List.range Tryz.prog.types.size).filter fun t => Tryz.prog.rowNamed t [101, 114, 114, 111, 114]) = [82] := by kernel_rfl
theorem of_laid {W : World} (h : laidMetH Tryz.prog Rows.fnExactIsTrustedRow.laid W) : Row.ErrT W := by
  have h2 : laidMet Tryz.prog [] W ∧ handlesMet Tryz.prog Rows.fnExactIsTrustedRow.laid W := h
  obtain ⟨name, u, ty, e1, e2, e3, e4, e5⟩ := h2.2 _ (List.mem_singleton.2 rfl)
  have en : name = [101, 114, 114, 111, 114] := (Option.some.inj e1).symm
  subst en
  obtain rfl := Option.some.inj (eR.symm.trans e2)
  have hm : ty ∈ (List.range Tryz.prog.types.size).filter fun t => Tryz.prog.rowNamed t [101, 114, 114, 111, 114] := List.mem_filter.2 ⟨List.mem_range.2 e3, e4⟩
  rw [eO] at hm
  obtain rfl := List.mem_singleton.1 hm
  have hh : typeHandle Tryz.prog 82 = .pointer (some ⟨1, 82, none⟩) := by kernel_rfl
  rw [hh] at e5
  unfold Row.ErrT
  simpa using World.var?_cell eG e5 0

set_option maxRecDepth 100000 in
theorem lifted (os : Os) (started : os.Started) (H : Type) (enc : TypeId × Value → H) :
    ReturnsInHanded {} Tryz.checked os 7 .any (fun w args => (Rows.fnExactIsTrustedSpec.pre enc Tryz.prog Tryz.f7 [] false w args ∧ laidMetH Tryz.prog Rows.fnExactIsTrustedRow.laid w) ∧ sizedMet enc Tryz.prog Tryz.f7 (OpenSpec.ofChange Rows.fnExactIsTrustedSpec) false w args)
      (Rows.fnExactIsTrustedSpec.post enc Tryz.prog Tryz.f7 false true false false) := by
  refine returnsInHanded_of_change_and (C := Tryz.checked) (X := fun w _ => laidMetH Tryz.prog Rows.fnExactIsTrustedRow.laid w) (fun _ _ _ hh h => h.of_heap hh) own started (by kernel_rfl) Tryz.func7
    (ChangeSpec.witness_shaped (enc := enc) (C := Tryz.checked) (os := os) (X := fun w _ => laidMetH Tryz.prog Rows.fnExactIsTrustedRow.laid w) false (World.doorLaid Tryz.prog 16 os) #[.agg #[.slice none 0 0, .slice none 0 0, .slice none 0 0, .slice none 0 0], .agg #[.slice none 0 0, .slice none 0 0, .slice none 0 0, .int .i64 0, .int .i64 0], .int .i64 0] 8 rfl (World.shaped_of_RefB (by kernel_rfl) (by kernel_rfl)) (by kernel_rfl) (by kernel_rfl) (by kernel_rfl) (door_met os _)) ?_
  intro W base args ds gs before hval0 hW _ hsz0 hL _
  have hval : ∀ (j : Nat) t v, Tryz.f7.params[j]? = some t → args[j]? = some v → Value.okWide Tryz.prog W .any base t v := hval0
  have hsz : (DataW.weightsEach Tryz.prog (Tryz.f7.params.toList ++ Rows.fnExactIsTrustedSpec.plain.varTypes Tryz.prog) (ds ++ gs)).all (· ≤ reachBytes) = true := hsz0
  clear hsz0
  have hW' := hW
  obtain ⟨p, q, hA0, hV, rfl, hfz, hnd⟩ := hW
  have hA : DataW.TrodAll enc Tryz.prog W 0 (fun _ => true) true Tryz.f7.params.toList args.toList ds p := hA0
  rw [Tryz.params7] at hA hval hsz
  obtain ⟨v0, vs0, d0, ds0, p0, q0, hargs, rfl, rfl, h0, r0⟩ := trodAll_cons hA
  obtain ⟨v1, vs1, d1, ds1, p1, q1, rfl, rfl, rfl, h1, r1⟩ := trodAll_cons r0
  obtain ⟨v2, vs2, d2, ds2, p2, q2, rfl, rfl, rfl, h2, r2⟩ := trodAll_cons r1
  obtain ⟨rfl, rfl, rfl⟩ := trodAll_nil r2
  obtain rfl : args = #[v0, v1, v2] := by cases args; simp_all
  obtain ⟨rfl, rfl⟩ := trodVars_none hV
  obtain ⟨l0, q0, n0⟩ := Row.open_structK Row.opens_TrustPolicy (fun m => rfl) Tryz.underlying68 (hval 0 68 v0 rfl rfl) h0
  obtain ⟨l1, q1, n1, m1⟩ := Row.open_data (t := 71) Tryz.underlying71 Tryz.underlying69 Tryz.underlying69 Tryz.underlying30 Tryz.underlying9 Tryz.underlying22 Tryz.underlying5 Tryz.underlying3 Tryz.underlying3 rfl rfl rfl rfl rfl rfl (by kernel_rfl) (by kernel_rfl) (by kernel_rfl) (by kernel_rfl) (by kernel_rfl) (by kernel_rfl) (by kernel_rfl) (by kernel_rfl) (by kernel_rfl) (hval 1 71 v1 rfl rfl) h1
  obtain ⟨a2, rfl, rfl, rfl, w2⟩ := open_int Tryz.underlying3 (hval 2 3 v2 rfl rfl) h2
  clear hA0 hval0
  refine (walk a2 w2 W _ _ q0 n0 n0 _ _ q1 n1 m1 (of_laid hL)).mono fun e W' ⟨he, hb⟩ => ?_
  subst he
  exact ⟨_, rfl, Frame.law_post laidOut (by kernel_rfl) rfl Tryz.underlying4 rfl rfl hW' hb⟩

theorem said : Rows.FnExactIsTrustedSaid :=
  OpenClaim.holds_of_wide 7 Tryz.f7 rfl rfl rfl rfl rfl rfl rfl ⟨rfl, rfl, rfl, rfl, rfl⟩ rfl rfl rfl rfl rfl (by kernel_rfl) Tryz.func7 (by kernel_rfl)
    (of_decide_eq_true (by kernel_rfl)) (by unfold Func.isWrapper; first | (rw [if_pos (by decide +kernel)]; kernel_rfl) | (rw [if_neg (by decide +kernel)]; exact ⟨rfl, rfl⟩))
    (fun os started H enc _ => lifted os started H enc)

theorem plain (f : FuncId) (fn : Func) (hf : Tryz.pinned.checked.prog.funcNamed "loop.example/g00507/laws.FnExactIsTrusted" = some f) (hfn : Tryz.pinned.checked.prog.funcs[f]? = some fn) :
    true = Tryz.pinned.checked.prog.looks [] ∧ ∀ (j : Nat) t, fn.params[j]? = some t → Tryz.pinned.checked.prog.wantsStandIn t = false := by
  obtain rfl : f = 7 := Option.some.inj ((show Tryz.prog.funcNamed "loop.example/g00507/laws.FnExactIsTrusted" = some 7 by kernel_rfl).symm.trans hf) |>.symm
  obtain rfl : fn = Tryz.f7 := (Option.some.inj (Tryz.func7.symm.trans hfn)).symm
  refine ⟨by kernel_rfl, fun j t ht => ?_⟩
  rw [Tryz.params7] at ht
  have hm : t ∈ [68, 71, 3] := by simpa using Array.mem_of_getElem? ht
  have hall : ([68, 71, 3].all fun u => !Tryz.prog.wantsStandIn u) = true := by kernel_rfl
  exact (show Tryz.prog.wantsStandIn t = false by simpa using List.all_eq_true.1 hall t hm)

/-- THE CARD. -/
theorem card : Rows.FnExactIsTrustedCardSaid :=
  Claim7.holds_tied_plain_at .later [] _ _ _ _ said (fun _ h => by cases h) (by kernel_rfl) (fun _ h => by cases h) fnExactIsTrusted_row_tie rfl ⟨rfl, rfl⟩ (by kernel_rfl) rfl plain (by kernel_rfl)
#print axioms card
end Go.Proofs.YtcidfmmeonhkhaaGreatDoor.fnExactIsTrusted
