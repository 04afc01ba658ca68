/- ValidTrust answers as its model for all policies of trust, and writes into no argument. No conditions. -/
import Derived.Test.YtcidfmmeonhkhaaRows
import Derived.WalkKit
import Derived.ProofKit
import Derived.OpenShut
import Derived.SizedLaws
import Derived.Test.YtcidfmmeonhkhaaB1
import Derived.Test.YtcidfmmeonhkhaaB11
namespace Go.Proofs.Ytcidfmmeonhkhaa.fnExactValidTrust
open Go.ChangeShapes Go.WideShapes Go.ChangeAt Go.RowKit
open Go.ChangeMaps (open_string shut_string)
set_option linter.unusedVariables false

theorem own : ownKnob Try.prog.godebug = none := by kernel_rfl
theorem laidOut : laidOutB Try.prog = true := by kernel_rfl

set_option maxRecDepth 100000 in
set_option maxHeartbeats 4000000 in
theorem walk (w : World) (y0 : Value) (l0 : Row.Tpt) (q0 : Row.kTp.At w y0 l0) (n0 : Row.inTp l0) (m0 : Row.inTp l0) :
    Calls Try.prog 3 #[y0] w fun e w' => e = .returned (.bool true) ∧ Below w.heap.size w w' := by
  obtain ⟨x_q00, n_q00, c_q00, x_q01, n_q01, c_q01, x_q02, n_q02, c_q02, x_q03, n_q03, c_q03, rfl, q0⟩ := Row.kTp_shapeA q0
  have Q0 := Lib.hid q0; have N0 := Lib.hid n0; clear q0 n0
  have hal := (Below.refl w.heap.size w).alloc (Nat.le_refl _) (.cells #[.slice x_q00 n_q00 c_q00, .slice x_q01 n_q01 c_q01, .slice x_q02 n_q02 c_q02, .slice x_q03 n_q03 c_q03] 27)
  have BB := Lib.hid hal
  have C_aT := Lib.hid (Ret.Blk.new' (w := w) #[.slice x_q00 n_q00 c_q00, .slice x_q01 n_q01 c_q01, .slice x_q02 n_q02 c_q02, .slice x_q03 n_q03 c_q03] 27 (n := w.heap.size) (by first | rfl | simp)); clear hal
  have S1 := Lib.hid (show (w.alloc (.cells #[.slice x_q00 n_q00 c_q00, .slice x_q01 n_q01 c_q01, .slice x_q02 n_q02 c_q02, .slice x_q03 n_q03 c_q03] 27)).heap.size = w.heap.size + 1 from World.size_alloc _ _)
  go_enter Try.func3, Try.ntmps3
  have c0_aT : (w.alloc (.cells #[.slice x_q00 n_q00 c_q00, .slice x_q01 n_q01 c_q01, .slice x_q02 n_q02 c_q02, .slice x_q03 n_q03 c_q03] 27)).cell? ⟨w.heap.size, 0, none⟩ = some (.slice x_q00 n_q00 c_q00) := C_aT.out.cell 0
  have c1_aT : (w.alloc (.cells #[.slice x_q00 n_q00 c_q00, .slice x_q01 n_q01 c_q01, .slice x_q02 n_q02 c_q02, .slice x_q03 n_q03 c_q03] 27)).cell? ⟨w.heap.size, 1, none⟩ = some (.slice x_q01 n_q01 c_q01) := C_aT.out.cell 1
  have c2_aT : (w.alloc (.cells #[.slice x_q00 n_q00 c_q00, .slice x_q01 n_q01 c_q01, .slice x_q02 n_q02 c_q02, .slice x_q03 n_q03 c_q03] 27)).cell? ⟨w.heap.size, 2, none⟩ = some (.slice x_q02 n_q02 c_q02) := C_aT.out.cell 2
  have c3_aT : (w.alloc (.cells #[.slice x_q00 n_q00 c_q00, .slice x_q01 n_q01 c_q01, .slice x_q02 n_q02 c_q02, .slice x_q03 n_q03 c_q03] 27)).cell? ⟨w.heap.size, 3, none⟩ = some (.slice x_q03 n_q03 c_q03) := C_aT.out.cell 3
  go_wp2_with fail
  clear c0_aT c1_aT c2_aT c3_aT
  refine (Row.szTpK _ l0 _ (1048576) (Q0.out.on BB.out) m0 N0.out (by omega) (by omega)).mono ?_
  rintro e w1 ⟨rfl, hb⟩
  replace C_aT := Lib.hid (C_aT.out.on hb)
  replace BB := Lib.hid (BB.out.trans (hb.mono BB.out.size))
  have S2 := Lib.hid (show (w.alloc (.cells #[.slice x_q00 n_q00 c_q00, .slice x_q01 n_q01 c_q01, .slice x_q02 n_q02 c_q02, .slice x_q03 n_q03 c_q03] 27)).heap.size ≤ w1.heap.size from (by have h := hb.size; exact h))
  clear hb
  by_cases t0 : (Row.wtTp l0 : Int) ≤ 1048576
  · -- in
    rw [Row.szW_fit t0]
    have b0 : Row.wtTp l0 ≤ 1048576 := by omega
    have d0 : Row.adTp (l0) ≤ 1048576 := Row.adTp_big b0
    have g0 : ¬ 1048576 - (Row.wtTp l0 : Int) < 0 := by omega
    have c0_aT : w1.cell? ⟨w.heap.size, 0, none⟩ = some (.slice x_q00 n_q00 c_q00) := C_aT.out.cell 0
    have c1_aT : w1.cell? ⟨w.heap.size, 1, none⟩ = some (.slice x_q01 n_q01 c_q01) := C_aT.out.cell 1
    have c2_aT : w1.cell? ⟨w.heap.size, 2, none⟩ = some (.slice x_q02 n_q02 c_q02) := C_aT.out.cell 2
    have c3_aT : w1.cell? ⟨w.heap.size, 3, none⟩ = some (.slice x_q03 n_q03 c_q03) := C_aT.out.cell 3
    go_wp2_with fail
    clear c0_aT c1_aT c2_aT c3_aT
    refine (Row.toTrustPolicyK _ l0 _ (Q0.out.on BB.out) (by omega)).mono ?_
    rintro e w2 ⟨v1, rfl, ho, hb⟩
    obtain ⟨x_v10, n_v10, c_v10, x_v11, n_v11, c_v11, x_v12, n_v12, c_v12, x_v13, n_v13, c_v13, rfl, ho⟩ := Row.kTp_shape ho
    replace C_aT := Lib.hid (C_aT.out.on hb)
    replace BB := Lib.hid (BB.out.trans (hb.mono BB.out.size))
    have S3 := Lib.hid (show w1.heap.size ≤ w2.heap.size from (by have h := hb.size; exact h))
    have O_v1 := Lib.hid (show Row.kTp.In w1.heap.size w2.heap.size w2 (.agg #[.slice x_v10 n_v10 c_v10, .slice x_v11 n_v11 c_v11, .slice x_v12 n_v12 c_v12, .slice x_v13 n_v13 c_v13]) (l0) from ho); clear ho
    clear hb
    have c0_aT : w2.cell? ⟨w.heap.size, 0, none⟩ = some (.slice x_q00 n_q00 c_q00) := C_aT.out.cell 0
    have c1_aT : w2.cell? ⟨w.heap.size, 1, none⟩ = some (.slice x_q01 n_q01 c_q01) := C_aT.out.cell 1
    have c2_aT : w2.cell? ⟨w.heap.size, 2, none⟩ = some (.slice x_q02 n_q02 c_q02) := C_aT.out.cell 2
    have c3_aT : w2.cell? ⟨w.heap.size, 3, none⟩ = some (.slice x_q03 n_q03 c_q03) := C_aT.out.cell 3
    go_wp2_with fail
    clear c0_aT c1_aT c2_aT c3_aT
    refine (Row.specValidTrust _ (l0) _ _ rfl (O_v1.out.at) ⟨by omega, N0.out⟩).mono ?_
    rintro e w3 ⟨rfl, hb⟩
    replace C_aT := Lib.hid (C_aT.out.on hb)
    replace O_v1 := Lib.hid (O_v1.out.on hb)
    replace BB := Lib.hid (BB.out.trans (hb.mono BB.out.size))
    have S4 := Lib.hid (show w2.heap.size ≤ w3.heap.size from (by have h := hb.size; exact h))
    clear hb
    have c0_aT : w3.cell? ⟨w.heap.size, 0, none⟩ = some (.slice x_q00 n_q00 c_q00) := C_aT.out.cell 0
    have c1_aT : w3.cell? ⟨w.heap.size, 1, none⟩ = some (.slice x_q01 n_q01 c_q01) := C_aT.out.cell 1
    have c2_aT : w3.cell? ⟨w.heap.size, 2, none⟩ = some (.slice x_q02 n_q02 c_q02) := C_aT.out.cell 2
    have c3_aT : w3.cell? ⟨w.heap.size, 3, none⟩ = some (.slice x_q03 n_q03 c_q03) := C_aT.out.cell 3
    go_wp2_with fail
    clear c0_aT c1_aT c2_aT c3_aT
    clear O_v1
    refine (Row.toTrustPolicyK _ l0 _ (Q0.out.on BB.out) (by omega)).mono ?_
    rintro e w4 ⟨v2, rfl, ho, hb⟩
    obtain ⟨x_v20, n_v20, c_v20, x_v21, n_v21, c_v21, x_v22, n_v22, c_v22, x_v23, n_v23, c_v23, rfl, ho⟩ := Row.kTp_shape ho
    replace C_aT := Lib.hid (C_aT.out.on hb)
    replace BB := Lib.hid (BB.out.trans (hb.mono BB.out.size))
    have S5 := Lib.hid (show w3.heap.size ≤ w4.heap.size from (by have h := hb.size; exact h))
    have O_v2 := Lib.hid (show Row.kTp.In w3.heap.size w4.heap.size w4 (.agg #[.slice x_v20 n_v20 c_v20, .slice x_v21 n_v21 c_v21, .slice x_v22 n_v22 c_v22, .slice x_v23 n_v23 c_v23]) (l0) from ho); clear ho
    clear hb
    have hal := (Below.refl w4.heap.size w4).alloc (Nat.le_refl _) (.cells #[.slice x_v20 n_v20 c_v20, .slice x_v21 n_v21 c_v21, .slice x_v22 n_v22 c_v22, .slice x_v23 n_v23 c_v23] 35)
    replace C_aT := Lib.hid (C_aT.out.on hal)
    replace O_v2 := Lib.hid (O_v2.out.on hal)
    replace BB := Lib.hid (BB.out.trans (hal.mono BB.out.size))
    have S6 := Lib.hid (show (w4.alloc (.cells #[.slice x_v20 n_v20 c_v20, .slice x_v21 n_v21 c_v21, .slice x_v22 n_v22 c_v22, .slice x_v23 n_v23 c_v23] 35)).heap.size = w4.heap.size + 1 from World.size_alloc _ _)
    have C_x0 := Lib.hid (Ret.Blk.new w4 #[.slice x_v20 n_v20 c_v20, .slice x_v21 n_v21 c_v21, .slice x_v22 n_v22 c_v22, .slice x_v23 n_v23 c_v23] 35); clear hal
    have c0_aT : (w4.alloc (.cells #[.slice x_v20 n_v20 c_v20, .slice x_v21 n_v21 c_v21, .slice x_v22 n_v22 c_v22, .slice x_v23 n_v23 c_v23] 35)).cell? ⟨w.heap.size, 0, none⟩ = some (.slice x_q00 n_q00 c_q00) := C_aT.out.cell 0
    have c1_aT : (w4.alloc (.cells #[.slice x_v20 n_v20 c_v20, .slice x_v21 n_v21 c_v21, .slice x_v22 n_v22 c_v22, .slice x_v23 n_v23 c_v23] 35)).cell? ⟨w.heap.size, 1, none⟩ = some (.slice x_q01 n_q01 c_q01) := C_aT.out.cell 1
    have c2_aT : (w4.alloc (.cells #[.slice x_v20 n_v20 c_v20, .slice x_v21 n_v21 c_v21, .slice x_v22 n_v22 c_v22, .slice x_v23 n_v23 c_v23] 35)).cell? ⟨w.heap.size, 2, none⟩ = some (.slice x_q02 n_q02 c_q02) := C_aT.out.cell 2
    have c3_aT : (w4.alloc (.cells #[.slice x_v20 n_v20 c_v20, .slice x_v21 n_v21 c_v21, .slice x_v22 n_v22 c_v22, .slice x_v23 n_v23 c_v23] 35)).cell? ⟨w.heap.size, 3, none⟩ = some (.slice x_q03 n_q03 c_q03) := C_aT.out.cell 3
    have c0_x0 : (w4.alloc (.cells #[.slice x_v20 n_v20 c_v20, .slice x_v21 n_v21 c_v21, .slice x_v22 n_v22 c_v22, .slice x_v23 n_v23 c_v23] 35)).cell? ⟨w4.heap.size, 0, none⟩ = some (.slice x_v20 n_v20 c_v20) := C_x0.out.cell 0
    have c1_x0 : (w4.alloc (.cells #[.slice x_v20 n_v20 c_v20, .slice x_v21 n_v21 c_v21, .slice x_v22 n_v22 c_v22, .slice x_v23 n_v23 c_v23] 35)).cell? ⟨w4.heap.size, 1, none⟩ = some (.slice x_v21 n_v21 c_v21) := C_x0.out.cell 1
    have c2_x0 : (w4.alloc (.cells #[.slice x_v20 n_v20 c_v20, .slice x_v21 n_v21 c_v21, .slice x_v22 n_v22 c_v22, .slice x_v23 n_v23 c_v23] 35)).cell? ⟨w4.heap.size, 2, none⟩ = some (.slice x_v22 n_v22 c_v22) := C_x0.out.cell 2
    have c3_x0 : (w4.alloc (.cells #[.slice x_v20 n_v20 c_v20, .slice x_v21 n_v21 c_v21, .slice x_v22 n_v22 c_v22, .slice x_v23 n_v23 c_v23] 35)).cell? ⟨w4.heap.size, 3, none⟩ = some (.slice x_v23 n_v23 c_v23) := C_x0.out.cell 3
    go_wp2_with fail
    clear c0_aT c1_aT c2_aT c3_aT c0_x0 c1_x0 c2_x0 c3_x0
    refine (Row.implValidTrust _ (l0) _ _ rfl (O_v2.out.at) ⟨by omega, N0.out⟩).mono ?_
    rintro e w5 ⟨rfl, hb⟩
    replace C_aT := Lib.hid (C_aT.out.on hb)
    replace C_x0 := Lib.hid (C_x0.out.on hb)
    replace O_v2 := Lib.hid (O_v2.out.on hb)
    replace BB := Lib.hid (BB.out.trans (hb.mono BB.out.size))
    have S7 := Lib.hid (show (w4.alloc (.cells #[.slice x_v20 n_v20 c_v20, .slice x_v21 n_v21 c_v21, .slice x_v22 n_v22 c_v22, .slice x_v23 n_v23 c_v23] 35)).heap.size ≤ w5.heap.size from (by have h := hb.size; exact h))
    clear hb
    have c0_aT : w5.cell? ⟨w.heap.size, 0, none⟩ = some (.slice x_q00 n_q00 c_q00) := C_aT.out.cell 0
    have c1_aT : w5.cell? ⟨w.heap.size, 1, none⟩ = some (.slice x_q01 n_q01 c_q01) := C_aT.out.cell 1
    have c2_aT : w5.cell? ⟨w.heap.size, 2, none⟩ = some (.slice x_q02 n_q02 c_q02) := C_aT.out.cell 2
    have c3_aT : w5.cell? ⟨w.heap.size, 3, none⟩ = some (.slice x_q03 n_q03 c_q03) := C_aT.out.cell 3
    have c0_x0 : w5.cell? ⟨w4.heap.size, 0, none⟩ = some (.slice x_v20 n_v20 c_v20) := C_x0.out.cell 0
    have c1_x0 : w5.cell? ⟨w4.heap.size, 1, none⟩ = some (.slice x_v21 n_v21 c_v21) := C_x0.out.cell 1
    have c2_x0 : w5.cell? ⟨w4.heap.size, 2, none⟩ = some (.slice x_v22 n_v22 c_v22) := C_x0.out.cell 2
    have c3_x0 : w5.cell? ⟨w4.heap.size, 3, none⟩ = some (.slice x_v23 n_v23 c_v23) := C_x0.out.cell 3
    go_wp2_with fail
    clear c0_aT c1_aT c2_aT c3_aT c0_x0 c1_x0 c2_x0 c3_x0
    have hdr : Below w5.heap.size w5 w5.drew := (Below.refl _ _).drew
    replace C_aT := Lib.hid (C_aT.out.on hdr)
    replace C_x0 := Lib.hid (C_x0.out.on hdr)
    replace O_v2 := Lib.hid (O_v2.out.on hdr)
    replace BB := Lib.hid (BB.out.trans (hdr.mono BB.out.size))
    clear hdr
    have KS0 := Lib.hid (show w5.drew.cell? ⟨w4.heap.size, 0, none⟩ = some (.slice x_v20 n_v20 c_v20) ∧ w5.drew.cell? ⟨w4.heap.size, 1, none⟩ = some (.slice x_v21 n_v21 c_v21) ∧ w5.drew.cell? ⟨w4.heap.size, 2, none⟩ = some (.slice x_v22 n_v22 c_v22) ∧ w5.drew.cell? ⟨w4.heap.size, 3, none⟩ = some (.slice x_v23 n_v23 c_v23) ∧ w5.drew.cell? ⟨w.heap.size, 0, none⟩ = some (.slice x_q00 n_q00 c_q00) ∧ w5.drew.cell? ⟨w.heap.size, 1, none⟩ = some (.slice x_q01 n_q01 c_q01) ∧ w5.drew.cell? ⟨w.heap.size, 2, none⟩ = some (.slice x_q02 n_q02 c_q02) ∧ w5.drew.cell? ⟨w.heap.size, 3, none⟩ = some (.slice x_q03 n_q03 c_q03) ∧ Below w.heap.size w w5.drew from ⟨C_x0.out.cell 0, C_x0.out.cell 1, C_x0.out.cell 2, C_x0.out.cell 3, C_aT.out.cell 0, C_aT.out.cell 1, C_aT.out.cell 2, C_aT.out.cell 3, BB.out⟩)
    go_region_held3 (fun w' => w'.cell? ⟨w4.heap.size, 0, none⟩ = some (.slice x_v20 n_v20 c_v20) ∧ w'.cell? ⟨w4.heap.size, 1, none⟩ = some (.slice x_v21 n_v21 c_v21) ∧ w'.cell? ⟨w4.heap.size, 2, none⟩ = some (.slice x_v22 n_v22 c_v22) ∧ w'.cell? ⟨w4.heap.size, 3, none⟩ = some (.slice x_v23 n_v23 c_v23) ∧ w'.cell? ⟨w.heap.size, 0, none⟩ = some (.slice x_q00 n_q00 c_q00) ∧ w'.cell? ⟨w.heap.size, 1, none⟩ = some (.slice x_q01 n_q01 c_q01) ∧ w'.cell? ⟨w.heap.size, 2, none⟩ = some (.slice x_q02 n_q02 c_q02) ∧ w'.cell? ⟨w.heap.size, 3, none⟩ = some (.slice x_q03 n_q03 c_q03) ∧ Below w.heap.size w w') (first | exact KS0.out | exact KS1.out | exact KS2.out) ((first | (go_at_call 12; refine (Row.sameTpK _ _ (l0) _ ((O_v2.out.at).on hba) hoa.at (by first | omega | (simp; omega) | (simp [Row.marks_length, Sl.marks_length, Row.mkW]; omega))).mono ?_; rintro e w7 ⟨rfl, hbb⟩; have KS2 := Lib.hid (show (fun w' => w'.cell? ⟨w4.heap.size, 0, none⟩ = some (.slice x_v20 n_v20 c_v20) ∧ w'.cell? ⟨w4.heap.size, 1, none⟩ = some (.slice x_v21 n_v21 c_v21) ∧ w'.cell? ⟨w4.heap.size, 2, none⟩ = some (.slice x_v22 n_v22 c_v22) ∧ w'.cell? ⟨w4.heap.size, 3, none⟩ = some (.slice x_v23 n_v23 c_v23) ∧ w'.cell? ⟨w.heap.size, 0, none⟩ = some (.slice x_q00 n_q00 c_q00) ∧ w'.cell? ⟨w.heap.size, 1, none⟩ = some (.slice x_q01 n_q01 c_q01) ∧ w'.cell? ⟨w.heap.size, 2, none⟩ = some (.slice x_q02 n_q02 c_q02) ∧ w'.cell? ⟨w.heap.size, 3, none⟩ = some (.slice x_q03 n_q03 c_q03) ∧ Below w.heap.size w w') _ from ⟨Row.kc KS1.out.1 hbb, Row.kc KS1.out.2.1 hbb, Row.kc KS1.out.2.2.1 hbb, Row.kc KS1.out.2.2.2.1 hbb, Row.kc KS1.out.2.2.2.2.1 hbb, Row.kc KS1.out.2.2.2.2.2.1 hbb, Row.kc KS1.out.2.2.2.2.2.2.1 hbb, Row.kc KS1.out.2.2.2.2.2.2.2.1 hbb, KS1.out.2.2.2.2.2.2.2.2.trans (hbb.mono KS1.out.2.2.2.2.2.2.2.2.size)⟩)) | (go_at_call 10; refine (Row.toTrustPolicyK _ l0 _ (Q0.out.on BB.out) (by omega)).mono ?_; rintro e w6 ⟨v3, rfl, hoa, hba⟩; obtain ⟨x_v30, n_v30, c_v30, x_v31, n_v31, c_v31, x_v32, n_v32, c_v32, x_v33, n_v33, c_v33, rfl, hoa⟩ := Row.kTp_shape hoa; have KS1 := Lib.hid (show (fun w' => w'.cell? ⟨w4.heap.size, 0, none⟩ = some (.slice x_v20 n_v20 c_v20) ∧ w'.cell? ⟨w4.heap.size, 1, none⟩ = some (.slice x_v21 n_v21 c_v21) ∧ w'.cell? ⟨w4.heap.size, 2, none⟩ = some (.slice x_v22 n_v22 c_v22) ∧ w'.cell? ⟨w4.heap.size, 3, none⟩ = some (.slice x_v23 n_v23 c_v23) ∧ w'.cell? ⟨w.heap.size, 0, none⟩ = some (.slice x_q00 n_q00 c_q00) ∧ w'.cell? ⟨w.heap.size, 1, none⟩ = some (.slice x_q01 n_q01 c_q01) ∧ w'.cell? ⟨w.heap.size, 2, none⟩ = some (.slice x_q02 n_q02 c_q02) ∧ w'.cell? ⟨w.heap.size, 3, none⟩ = some (.slice x_q03 n_q03 c_q03) ∧ Below w.heap.size w w') _ from ⟨Row.kc KS0.out.1 hba, Row.kc KS0.out.2.1 hba, Row.kc KS0.out.2.2.1 hba, Row.kc KS0.out.2.2.2.1 hba, Row.kc KS0.out.2.2.2.2.1 hba, Row.kc KS0.out.2.2.2.2.2.1 hba, Row.kc KS0.out.2.2.2.2.2.2.1 hba, Row.kc KS0.out.2.2.2.2.2.2.2.1 hba, KS0.out.2.2.2.2.2.2.2.2.trans (hba.mono KS0.out.2.2.2.2.2.2.2.2.size)⟩))))
    clear KS0 KS1 KS2 hoa
    replace C_aT := Lib.hid (C_aT.out.on hba)
    replace C_x0 := Lib.hid (C_x0.out.on hba)
    replace O_v2 := Lib.hid (O_v2.out.on hba)
    replace BB := Lib.hid (BB.out.trans (hba.mono BB.out.size))
    have S8 := Lib.hid (show w5.heap.size ≤ w6.heap.size from (by have h := hba.size; exact h))
    replace C_aT := Lib.hid (C_aT.out.on hbb)
    replace C_x0 := Lib.hid (C_x0.out.on hbb)
    replace O_v2 := Lib.hid (O_v2.out.on hbb)
    replace BB := Lib.hid (BB.out.trans (hbb.mono BB.out.size))
    have S9 := Lib.hid (show w6.heap.size ≤ w7.heap.size from (by have h := hbb.size; exact h))
    clear hba hbb
    have c0_aT : w7.cell? ⟨w.heap.size, 0, none⟩ = some (.slice x_q00 n_q00 c_q00) := C_aT.out.cell 0
    have c1_aT : w7.cell? ⟨w.heap.size, 1, none⟩ = some (.slice x_q01 n_q01 c_q01) := C_aT.out.cell 1
    have c2_aT : w7.cell? ⟨w.heap.size, 2, none⟩ = some (.slice x_q02 n_q02 c_q02) := C_aT.out.cell 2
    have c3_aT : w7.cell? ⟨w.heap.size, 3, none⟩ = some (.slice x_q03 n_q03 c_q03) := C_aT.out.cell 3
    have c0_x0 : w7.cell? ⟨w4.heap.size, 0, none⟩ = some (.slice x_v20 n_v20 c_v20) := C_x0.out.cell 0
    have c1_x0 : w7.cell? ⟨w4.heap.size, 1, none⟩ = some (.slice x_v21 n_v21 c_v21) := C_x0.out.cell 1
    have c2_x0 : w7.cell? ⟨w4.heap.size, 2, none⟩ = some (.slice x_v22 n_v22 c_v22) := C_x0.out.cell 2
    have c3_x0 : w7.cell? ⟨w4.heap.size, 3, none⟩ = some (.slice x_v23 n_v23 c_v23) := C_x0.out.cell 3
    go_wp2_with fail
    clear c0_aT c1_aT c2_aT c3_aT c0_x0 c1_x0 c2_x0 c3_x0
    go_ret
    exact ⟨rfl, BB.out⟩
  · -- out
    rw [Row.szW_not (by omega)]
    go_wp2
    go_ret
    exact ⟨rfl, BB.out⟩

set_option maxRecDepth 100000 in
theorem lifted (os : Os) (started : os.Started) (H : Type) (enc : TypeId × Value → H) :
    ReturnsInHanded {} Try.checked os 3 .any (Rows.fnExactValidTrustSpec.pre6 enc Try.prog Try.f3 Rows.fnExactValidTrustRow.domain false) (Rows.fnExactValidTrustSpec.post enc Try.prog Try.f3 false true false false) := by
  refine returnsInHanded_of_change_sized (C := Try.checked) own started (by kernel_rfl) Try.func3
    (ChangeSpec.witness6 (enc := enc) (C := Try.checked) false ⟨#[], #[.agg #[.slice none 0 0, .slice none 0 0, .slice none 0 0, .slice none 0 0]], []⟩ 8 (by kernel_rfl) (by kernel_rfl) (by kernel_rfl) (by kernel_rfl)) ?_
  intro W base args ds gs before hval0 hW _ hsz0 _
  have hval : ∀ (j : Nat) t v, Try.f3.params[j]? = some t → args[j]? = some v → Value.okWide Try.prog W .any base t v := hval0
  have hsz : (DataW.weightsEach Try.prog (Try.f3.params.toList ++ Rows.fnExactValidTrustSpec.plain.varTypes Try.prog) (ds ++ gs)).all (· ≤ reachBytes) = true := hsz0
  clear hsz0
  have hW' := hW
  obtain ⟨p, q, hA0, hV, rfl, hfz, hnd⟩ := hW
  have hA : DataW.TrodAll enc Try.prog W 0 (fun _ => true) true Try.f3.params.toList args.toList ds p := hA0
  rw [Try.params3] at hA hval hsz
  obtain ⟨v0, vs0, d0, ds0, p0, q0, hargs, rfl, rfl, h0, r0⟩ := trodAll_cons hA
  obtain ⟨rfl, rfl, rfl⟩ := trodAll_nil r0
  obtain rfl : args = #[v0] := by cases args; simp_all
  obtain ⟨rfl, rfl⟩ := trodVars_none hV
  obtain ⟨l0, q0, n0⟩ := Row.open_structK Row.opens_TrustPolicy (fun m => rfl) Try.underlying27 (hval 0 27 v0 rfl rfl) h0
  clear hA0 hval0
  refine (walk W _ _ q0 n0 n0).mono fun e W' ⟨he, hb⟩ => ?_
  subst he
  exact ⟨_, rfl, Frame.law_post laidOut (by kernel_rfl) rfl Try.underlying4 rfl rfl hW' hb⟩

theorem said : Rows.FnExactValidTrustSaid :=
  OpenClaim.holds_of_wide 3 Try.f3 rfl rfl rfl rfl rfl rfl rfl ⟨rfl, rfl, rfl, rfl, rfl⟩ rfl rfl rfl rfl rfl (by kernel_rfl) Try.func3 (by kernel_rfl)
    (of_decide_eq_true (by kernel_rfl)) (by unfold Func.isWrapper; first | (rw [if_pos (by decide +kernel)]; kernel_rfl) | (rw [if_neg (by decide +kernel)]; exact ⟨rfl, rfl⟩))
    (fun os started H enc _ => lifted os started H enc)

#print axioms said
end Go.Proofs.Ytcidfmmeonhkhaa.fnExactValidTrust
