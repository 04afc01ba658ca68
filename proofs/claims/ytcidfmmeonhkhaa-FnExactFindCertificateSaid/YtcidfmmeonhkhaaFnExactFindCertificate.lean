/- FindCertificate answers as its model for all policies of trust, names and times, and writes into no argument. No conditions. -/
import Derived.Test.YtcidfmmeonhkhaaRows
import Derived.WalkKit
import Derived.ProofKit
import Derived.OpenShut
import Derived.SizedLaws
import Derived.Test.YtcidfmmeonhkhaaB1
import Derived.Test.YtcidfmmeonhkhaaB22
namespace Go.Proofs.Ytcidfmmeonhkhaa.fnExactFindCertificate
open Go.ChangeShapes Go.WideShapes Go.ChangeAt Go.RowKit
open Go.ChangeMaps (open_string shut_string)
set_option linter.unusedVariables false

theorem own : ownKnob Try.prog.godebug = none := by kernel_rfl
theorem laidOut : laidOutB Try.prog = true := by kernel_rfl

set_option maxRecDepth 100000 in
set_option maxHeartbeats 4000000 in
theorem walk (a2 : Int) (w2 : (Lit.int .i64 a2).wf = true) (w : World) (y0 : Value) (l0 : Row.Tpt) (q0 : Row.kTp.At w y0 l0) (n0 : Row.inTp l0) (m0 : Row.inTp l0) (y1 : Value) (l1 : List ByteArray) (q1 : Row.Holds Value.string w y1 l1) (n1 : ∀ x ∈ l1, x.size ≤ maxLen) (m1 : l1.length ≤ 9223372036854775807) :
    Calls Try.prog 5 #[y0, .agg #[y1], .int .i64 a2] w fun e w' => e = .returned (.bool true) ∧ Below w.heap.size w w' := by
  obtain ⟨x_q00, n_q00, c_q00, x_q01, n_q01, c_q01, x_q02, n_q02, c_q02, x_q03, n_q03, c_q03, rfl, q0⟩ := Row.kTp_shapeA q0
  obtain ⟨x_q1, n_q1, c_q1, rfl, -, -, q1⟩ := q1.shapeN; replace q1 := Row.kN_of q1
  have Q0 := Lib.hid q0; have N0 := Lib.hid n0; clear q0 n0
  have Q1 := Lib.hid q1; have N1 := Lib.hid n1; clear q1 n1
  have hal := (Below.refl w.heap.size w).alloc (Nat.le_refl _) (.cells #[.slice x_q00 n_q00 c_q00, .slice x_q01 n_q01 c_q01, .slice x_q02 n_q02 c_q02, .slice x_q03 n_q03 c_q03] 27)
  have BB := Lib.hid hal
  have C_aT := Lib.hid (Ret.Blk.new' (w := w) #[.slice x_q00 n_q00 c_q00, .slice x_q01 n_q01 c_q01, .slice x_q02 n_q02 c_q02, .slice x_q03 n_q03 c_q03] 27 (n := w.heap.size) (by first | rfl | simp)); clear hal
  have S1 := Lib.hid (show (w.alloc (.cells #[.slice x_q00 n_q00 c_q00, .slice x_q01 n_q01 c_q01, .slice x_q02 n_q02 c_q02, .slice x_q03 n_q03 c_q03] 27)).heap.size = w.heap.size + 1 from World.size_alloc _ _)
  have hal := (Below.refl (w.alloc (.cells #[.slice x_q00 n_q00 c_q00, .slice x_q01 n_q01 c_q01, .slice x_q02 n_q02 c_q02, .slice x_q03 n_q03 c_q03] 27)).heap.size (w.alloc (.cells #[.slice x_q00 n_q00 c_q00, .slice x_q01 n_q01 c_q01, .slice x_q02 n_q02 c_q02, .slice x_q03 n_q03 c_q03] 27))).alloc (Nat.le_refl _) (.cells #[.slice x_q1 n_q1 c_q1] 41)
  replace C_aT := Lib.hid (C_aT.out.on hal)
  replace BB := Lib.hid (BB.out.trans (hal.mono BB.out.size))
  have C_aN := Lib.hid (Ret.Blk.new' (w := (w.alloc (.cells #[.slice x_q00 n_q00 c_q00, .slice x_q01 n_q01 c_q01, .slice x_q02 n_q02 c_q02, .slice x_q03 n_q03 c_q03] 27))) #[.slice x_q1 n_q1 c_q1] 41 (n := w.heap.size + 1) (by first | rfl | simp)); clear hal
  have S2 := Lib.hid (show ((w.alloc (.cells #[.slice x_q00 n_q00 c_q00, .slice x_q01 n_q01 c_q01, .slice x_q02 n_q02 c_q02, .slice x_q03 n_q03 c_q03] 27)).alloc (.cells #[.slice x_q1 n_q1 c_q1] 41)).heap.size = (w.alloc (.cells #[.slice x_q00 n_q00 c_q00, .slice x_q01 n_q01 c_q01, .slice x_q02 n_q02 c_q02, .slice x_q03 n_q03 c_q03] 27)).heap.size + 1 from World.size_alloc _ _)
  go_enter Try.func5, Try.ntmps5
  have c0_aT : ((w.alloc (.cells #[.slice x_q00 n_q00 c_q00, .slice x_q01 n_q01 c_q01, .slice x_q02 n_q02 c_q02, .slice x_q03 n_q03 c_q03] 27)).alloc (.cells #[.slice x_q1 n_q1 c_q1] 41)).cell? ⟨w.heap.size, 0, none⟩ = some (.slice x_q00 n_q00 c_q00) := C_aT.out.cell 0
  have c1_aT : ((w.alloc (.cells #[.slice x_q00 n_q00 c_q00, .slice x_q01 n_q01 c_q01, .slice x_q02 n_q02 c_q02, .slice x_q03 n_q03 c_q03] 27)).alloc (.cells #[.slice x_q1 n_q1 c_q1] 41)).cell? ⟨w.heap.size, 1, none⟩ = some (.slice x_q01 n_q01 c_q01) := C_aT.out.cell 1
  have c2_aT : ((w.alloc (.cells #[.slice x_q00 n_q00 c_q00, .slice x_q01 n_q01 c_q01, .slice x_q02 n_q02 c_q02, .slice x_q03 n_q03 c_q03] 27)).alloc (.cells #[.slice x_q1 n_q1 c_q1] 41)).cell? ⟨w.heap.size, 2, none⟩ = some (.slice x_q02 n_q02 c_q02) := C_aT.out.cell 2
  have c3_aT : ((w.alloc (.cells #[.slice x_q00 n_q00 c_q00, .slice x_q01 n_q01 c_q01, .slice x_q02 n_q02 c_q02, .slice x_q03 n_q03 c_q03] 27)).alloc (.cells #[.slice x_q1 n_q1 c_q1] 41)).cell? ⟨w.heap.size, 3, none⟩ = some (.slice x_q03 n_q03 c_q03) := C_aT.out.cell 3
  have c0_aN : ((w.alloc (.cells #[.slice x_q00 n_q00 c_q00, .slice x_q01 n_q01 c_q01, .slice x_q02 n_q02 c_q02, .slice x_q03 n_q03 c_q03] 27)).alloc (.cells #[.slice x_q1 n_q1 c_q1] 41)).cell? ⟨w.heap.size + 1, 0, none⟩ = some (.slice x_q1 n_q1 c_q1) := C_aN.out.cell 0
  go_wp2_with fail
  clear c0_aT c1_aT c2_aT c3_aT c0_aN
  refine (Row.szTpK _ l0 _ (1048576) (Q0.out.on BB.out) m0 N0.out (by omega) (by omega)).mono ?_
  rintro e w1 ⟨rfl, hb⟩
  replace C_aT := Lib.hid (C_aT.out.on hb)
  replace C_aN := Lib.hid (C_aN.out.on hb)
  replace BB := Lib.hid (BB.out.trans (hb.mono BB.out.size))
  have S3 := Lib.hid (show ((w.alloc (.cells #[.slice x_q00 n_q00 c_q00, .slice x_q01 n_q01 c_q01, .slice x_q02 n_q02 c_q02, .slice x_q03 n_q03 c_q03] 27)).alloc (.cells #[.slice x_q1 n_q1 c_q1] 41)).heap.size ≤ w1.heap.size from (by have h := hb.size; exact h))
  clear hb
  by_cases t0 : (Row.wtTp l0 : Int) ≤ 1048576
  · -- in
    rw [Row.szW_fit t0]
    have b0 : Row.wtTp l0 ≤ 1048576 := by omega
    have d0 : Row.adTp (l0) ≤ 1048576 := Row.adTp_big b0
    have g0 : ¬ 1048576 - (Row.wtTp l0 : Int) < 0 := by omega
    have c0_aT : w1.cell? ⟨w.heap.size, 0, none⟩ = some (.slice x_q00 n_q00 c_q00) := C_aT.out.cell 0
    have c1_aT : w1.cell? ⟨w.heap.size, 1, none⟩ = some (.slice x_q01 n_q01 c_q01) := C_aT.out.cell 1
    have c2_aT : w1.cell? ⟨w.heap.size, 2, none⟩ = some (.slice x_q02 n_q02 c_q02) := C_aT.out.cell 2
    have c3_aT : w1.cell? ⟨w.heap.size, 3, none⟩ = some (.slice x_q03 n_q03 c_q03) := C_aT.out.cell 3
    have c0_aN : w1.cell? ⟨w.heap.size + 1, 0, none⟩ = some (.slice x_q1 n_q1 c_q1) := C_aN.out.cell 0
    go_wp2_with fail
    clear c0_aT c1_aT c2_aT c3_aT c0_aN
    refine (Row.szNK _ l1 _ (1048576 - (Row.wtTp l0 : Int)) (Q1.out.on BB.out) m1 N1.out (by omega) (by omega)).mono ?_
    rintro e w2 ⟨rfl, hb⟩
    replace C_aT := Lib.hid (C_aT.out.on hb)
    replace C_aN := Lib.hid (C_aN.out.on hb)
    replace BB := Lib.hid (BB.out.trans (hb.mono BB.out.size))
    have S4 := Lib.hid (show w1.heap.size ≤ w2.heap.size from (by have h := hb.size; exact h))
    clear hb
    by_cases t1 : (Row.bulk l1 : Int) ≤ 1048576 - (Row.wtTp l0 : Int)
    · -- in
      rw [Row.szL_fit t1]
      have b1 : Row.bulk l1 ≤ 1048576 := by omega
      have d1 : (l1).length ≤ 1048576 := Row.bigLen b1
      have g1 : ¬ 1048576 - (Row.wtTp l0 : Int) - (Row.bulk l1 : Int) < 0 := by omega
      have c0_aT : w2.cell? ⟨w.heap.size, 0, none⟩ = some (.slice x_q00 n_q00 c_q00) := C_aT.out.cell 0
      have c1_aT : w2.cell? ⟨w.heap.size, 1, none⟩ = some (.slice x_q01 n_q01 c_q01) := C_aT.out.cell 1
      have c2_aT : w2.cell? ⟨w.heap.size, 2, none⟩ = some (.slice x_q02 n_q02 c_q02) := C_aT.out.cell 2
      have c3_aT : w2.cell? ⟨w.heap.size, 3, none⟩ = some (.slice x_q03 n_q03 c_q03) := C_aT.out.cell 3
      have c0_aN : w2.cell? ⟨w.heap.size + 1, 0, none⟩ = some (.slice x_q1 n_q1 c_q1) := C_aN.out.cell 0
      go_wp2_with fail
      clear c0_aT c1_aT c2_aT c3_aT c0_aN
      have hdr : Below w2.heap.size w2 w2.drew := (Below.refl _ _).drew
      replace C_aT := Lib.hid (C_aT.out.on hdr)
      replace C_aN := Lib.hid (C_aN.out.on hdr)
      replace BB := Lib.hid (BB.out.trans (hdr.mono BB.out.size))
      clear hdr
      have KS0 := Lib.hid (show w2.drew.cell? ⟨w.heap.size, 0, none⟩ = some (.slice x_q00 n_q00 c_q00) ∧ w2.drew.cell? ⟨w.heap.size, 1, none⟩ = some (.slice x_q01 n_q01 c_q01) ∧ w2.drew.cell? ⟨w.heap.size, 2, none⟩ = some (.slice x_q02 n_q02 c_q02) ∧ w2.drew.cell? ⟨w.heap.size, 3, none⟩ = some (.slice x_q03 n_q03 c_q03) ∧ w2.drew.cell? ⟨w.heap.size + 1, 0, none⟩ = some (.slice x_q1 n_q1 c_q1) ∧ Below w.heap.size w w2.drew from ⟨C_aT.out.cell 0, C_aT.out.cell 1, C_aT.out.cell 2, C_aT.out.cell 3, C_aN.out.cell 0, BB.out⟩)
      go_region_held3 (fun w' => w'.cell? ⟨w.heap.size, 0, none⟩ = some (.slice x_q00 n_q00 c_q00) ∧ w'.cell? ⟨w.heap.size, 1, none⟩ = some (.slice x_q01 n_q01 c_q01) ∧ w'.cell? ⟨w.heap.size, 2, none⟩ = some (.slice x_q02 n_q02 c_q02) ∧ w'.cell? ⟨w.heap.size, 3, none⟩ = some (.slice x_q03 n_q03 c_q03) ∧ w'.cell? ⟨w.heap.size + 1, 0, none⟩ = some (.slice x_q1 n_q1 c_q1) ∧ Below w.heap.size w w') (first | exact KS0.out | exact KS1.out | exact KS2.out | exact KS3.out) ((first | (go_at_call 26; refine (Row.specFindCertificate _ _ (l0) (l1) a2 _ _ rfl (ho0.at.on hb1) ho1.at ⟨by omega, N0.out⟩ (by omega)).mono ?_; rintro e w5 ⟨rfl, hbr⟩; have KS3 := Lib.hid (show (fun w' => w'.cell? ⟨w.heap.size, 0, none⟩ = some (.slice x_q00 n_q00 c_q00) ∧ w'.cell? ⟨w.heap.size, 1, none⟩ = some (.slice x_q01 n_q01 c_q01) ∧ w'.cell? ⟨w.heap.size, 2, none⟩ = some (.slice x_q02 n_q02 c_q02) ∧ w'.cell? ⟨w.heap.size, 3, none⟩ = some (.slice x_q03 n_q03 c_q03) ∧ w'.cell? ⟨w.heap.size + 1, 0, none⟩ = some (.slice x_q1 n_q1 c_q1) ∧ Below w.heap.size w w') _ from ⟨Row.kc KS2.out.1 hbr, Row.kc KS2.out.2.1 hbr, Row.kc KS2.out.2.2.1 hbr, Row.kc KS2.out.2.2.2.1 hbr, Row.kc KS2.out.2.2.2.2.1 hbr, KS2.out.2.2.2.2.2.trans (hbr.mono KS2.out.2.2.2.2.2.size)⟩)) | (go_at_call 17; refine (Row.toNK _ l1 _ ((Q1.out.on BB.out).on hb0) (by omega)).mono ?_; rintro e w4 ⟨v2, rfl, ho1, hb1⟩; obtain ⟨x_v2, n_v2, c_v2, rfl, ho1⟩ := Row.kN_shape ho1; have KS2 := Lib.hid (show (fun w' => w'.cell? ⟨w.heap.size, 0, none⟩ = some (.slice x_q00 n_q00 c_q00) ∧ w'.cell? ⟨w.heap.size, 1, none⟩ = some (.slice x_q01 n_q01 c_q01) ∧ w'.cell? ⟨w.heap.size, 2, none⟩ = some (.slice x_q02 n_q02 c_q02) ∧ w'.cell? ⟨w.heap.size, 3, none⟩ = some (.slice x_q03 n_q03 c_q03) ∧ w'.cell? ⟨w.heap.size + 1, 0, none⟩ = some (.slice x_q1 n_q1 c_q1) ∧ Below w.heap.size w w') _ from ⟨Row.kc KS1.out.1 hb1, Row.kc KS1.out.2.1 hb1, Row.kc KS1.out.2.2.1 hb1, Row.kc KS1.out.2.2.2.1 hb1, Row.kc KS1.out.2.2.2.2.1 hb1, KS1.out.2.2.2.2.2.trans (hb1.mono KS1.out.2.2.2.2.2.size)⟩)) | (go_at_call 10; refine (Row.toTrustPolicyK _ l0 _ (Q0.out.on BB.out) (by omega)).mono ?_; rintro e w3 ⟨v1, rfl, ho0, hb0⟩; obtain ⟨x_v10, n_v10, c_v10, x_v11, n_v11, c_v11, x_v12, n_v12, c_v12, x_v13, n_v13, c_v13, rfl, ho0⟩ := Row.kTp_shape ho0; have KS1 := Lib.hid (show (fun w' => w'.cell? ⟨w.heap.size, 0, none⟩ = some (.slice x_q00 n_q00 c_q00) ∧ w'.cell? ⟨w.heap.size, 1, none⟩ = some (.slice x_q01 n_q01 c_q01) ∧ w'.cell? ⟨w.heap.size, 2, none⟩ = some (.slice x_q02 n_q02 c_q02) ∧ w'.cell? ⟨w.heap.size, 3, none⟩ = some (.slice x_q03 n_q03 c_q03) ∧ w'.cell? ⟨w.heap.size + 1, 0, none⟩ = some (.slice x_q1 n_q1 c_q1) ∧ Below w.heap.size w w') _ from ⟨Row.kc KS0.out.1 hb0, Row.kc KS0.out.2.1 hb0, Row.kc KS0.out.2.2.1 hb0, Row.kc KS0.out.2.2.2.1 hb0, Row.kc KS0.out.2.2.2.2.1 hb0, KS0.out.2.2.2.2.2.trans (hb0.mono KS0.out.2.2.2.2.2.size)⟩))))
      clear KS0 KS1 KS2 KS3 ho0 ho1
      replace C_aT := Lib.hid (C_aT.out.on hb0)
      replace C_aN := Lib.hid (C_aN.out.on hb0)
      replace BB := Lib.hid (BB.out.trans (hb0.mono BB.out.size))
      have S5 := Lib.hid (show w2.heap.size ≤ w3.heap.size from (by have h := hb0.size; exact h))
      replace C_aT := Lib.hid (C_aT.out.on hb1)
      replace C_aN := Lib.hid (C_aN.out.on hb1)
      replace BB := Lib.hid (BB.out.trans (hb1.mono BB.out.size))
      have S6 := Lib.hid (show w3.heap.size ≤ w4.heap.size from (by have h := hb1.size; exact h))
      clear hb0 hb1
      replace C_aT := Lib.hid (C_aT.out.on hbr)
      replace C_aN := Lib.hid (C_aN.out.on hbr)
      replace BB := Lib.hid (BB.out.trans (hbr.mono BB.out.size))
      have S7 := Lib.hid (show w4.heap.size ≤ w5.heap.size from (by have h := hbr.size; exact h))
      clear hbr
      have c0_aT : w5.cell? ⟨w.heap.size, 0, none⟩ = some (.slice x_q00 n_q00 c_q00) := C_aT.out.cell 0
      have c1_aT : w5.cell? ⟨w.heap.size, 1, none⟩ = some (.slice x_q01 n_q01 c_q01) := C_aT.out.cell 1
      have c2_aT : w5.cell? ⟨w.heap.size, 2, none⟩ = some (.slice x_q02 n_q02 c_q02) := C_aT.out.cell 2
      have c3_aT : w5.cell? ⟨w.heap.size, 3, none⟩ = some (.slice x_q03 n_q03 c_q03) := C_aT.out.cell 3
      have c0_aN : w5.cell? ⟨w.heap.size + 1, 0, none⟩ = some (.slice x_q1 n_q1 c_q1) := C_aN.out.cell 0
      go_wp2_with fail
      clear c0_aT c1_aT c2_aT c3_aT c0_aN
      refine (Row.toTrustPolicyK _ l0 _ (Q0.out.on BB.out) (by omega)).mono ?_
      rintro e w6 ⟨v3, rfl, ho, hb⟩
      obtain ⟨x_v30, n_v30, c_v30, x_v31, n_v31, c_v31, x_v32, n_v32, c_v32, x_v33, n_v33, c_v33, rfl, ho⟩ := Row.kTp_shape ho
      replace C_aT := Lib.hid (C_aT.out.on hb)
      replace C_aN := Lib.hid (C_aN.out.on hb)
      replace BB := Lib.hid (BB.out.trans (hb.mono BB.out.size))
      have S8 := Lib.hid (show w5.heap.size ≤ w6.heap.size from (by have h := hb.size; exact h))
      have O_v3 := Lib.hid (show Row.kTp.In w5.heap.size w6.heap.size w6 (.agg #[.slice x_v30 n_v30 c_v30, .slice x_v31 n_v31 c_v31, .slice x_v32 n_v32 c_v32, .slice x_v33 n_v33 c_v33]) (l0) from ho); clear ho
      clear hb
      have hal := (Below.refl w6.heap.size w6).alloc (Nat.le_refl _) (.cells #[.slice x_v30 n_v30 c_v30, .slice x_v31 n_v31 c_v31, .slice x_v32 n_v32 c_v32, .slice x_v33 n_v33 c_v33] 35)
      replace C_aT := Lib.hid (C_aT.out.on hal)
      replace C_aN := Lib.hid (C_aN.out.on hal)
      replace O_v3 := Lib.hid (O_v3.out.on hal)
      replace BB := Lib.hid (BB.out.trans (hal.mono BB.out.size))
      have S9 := Lib.hid (show (w6.alloc (.cells #[.slice x_v30 n_v30 c_v30, .slice x_v31 n_v31 c_v31, .slice x_v32 n_v32 c_v32, .slice x_v33 n_v33 c_v33] 35)).heap.size = w6.heap.size + 1 from World.size_alloc _ _)
      have C_x0 := Lib.hid (Ret.Blk.new w6 #[.slice x_v30 n_v30 c_v30, .slice x_v31 n_v31 c_v31, .slice x_v32 n_v32 c_v32, .slice x_v33 n_v33 c_v33] 35); clear hal
      have c0_aT : (w6.alloc (.cells #[.slice x_v30 n_v30 c_v30, .slice x_v31 n_v31 c_v31, .slice x_v32 n_v32 c_v32, .slice x_v33 n_v33 c_v33] 35)).cell? ⟨w.heap.size, 0, none⟩ = some (.slice x_q00 n_q00 c_q00) := C_aT.out.cell 0
      have c1_aT : (w6.alloc (.cells #[.slice x_v30 n_v30 c_v30, .slice x_v31 n_v31 c_v31, .slice x_v32 n_v32 c_v32, .slice x_v33 n_v33 c_v33] 35)).cell? ⟨w.heap.size, 1, none⟩ = some (.slice x_q01 n_q01 c_q01) := C_aT.out.cell 1
      have c2_aT : (w6.alloc (.cells #[.slice x_v30 n_v30 c_v30, .slice x_v31 n_v31 c_v31, .slice x_v32 n_v32 c_v32, .slice x_v33 n_v33 c_v33] 35)).cell? ⟨w.heap.size, 2, none⟩ = some (.slice x_q02 n_q02 c_q02) := C_aT.out.cell 2
      have c3_aT : (w6.alloc (.cells #[.slice x_v30 n_v30 c_v30, .slice x_v31 n_v31 c_v31, .slice x_v32 n_v32 c_v32, .slice x_v33 n_v33 c_v33] 35)).cell? ⟨w.heap.size, 3, none⟩ = some (.slice x_q03 n_q03 c_q03) := C_aT.out.cell 3
      have c0_aN : (w6.alloc (.cells #[.slice x_v30 n_v30 c_v30, .slice x_v31 n_v31 c_v31, .slice x_v32 n_v32 c_v32, .slice x_v33 n_v33 c_v33] 35)).cell? ⟨w.heap.size + 1, 0, none⟩ = some (.slice x_q1 n_q1 c_q1) := C_aN.out.cell 0
      have c0_x0 : (w6.alloc (.cells #[.slice x_v30 n_v30 c_v30, .slice x_v31 n_v31 c_v31, .slice x_v32 n_v32 c_v32, .slice x_v33 n_v33 c_v33] 35)).cell? ⟨w6.heap.size, 0, none⟩ = some (.slice x_v30 n_v30 c_v30) := C_x0.out.cell 0
      have c1_x0 : (w6.alloc (.cells #[.slice x_v30 n_v30 c_v30, .slice x_v31 n_v31 c_v31, .slice x_v32 n_v32 c_v32, .slice x_v33 n_v33 c_v33] 35)).cell? ⟨w6.heap.size, 1, none⟩ = some (.slice x_v31 n_v31 c_v31) := C_x0.out.cell 1
      have c2_x0 : (w6.alloc (.cells #[.slice x_v30 n_v30 c_v30, .slice x_v31 n_v31 c_v31, .slice x_v32 n_v32 c_v32, .slice x_v33 n_v33 c_v33] 35)).cell? ⟨w6.heap.size, 2, none⟩ = some (.slice x_v32 n_v32 c_v32) := C_x0.out.cell 2
      have c3_x0 : (w6.alloc (.cells #[.slice x_v30 n_v30 c_v30, .slice x_v31 n_v31 c_v31, .slice x_v32 n_v32 c_v32, .slice x_v33 n_v33 c_v33] 35)).cell? ⟨w6.heap.size, 3, none⟩ = some (.slice x_v33 n_v33 c_v33) := C_x0.out.cell 3
      go_wp2_with fail
      clear c0_aT c1_aT c2_aT c3_aT c0_aN c0_x0 c1_x0 c2_x0 c3_x0
      refine (Row.toNK _ l1 _ (Q1.out.on BB.out) (by omega)).mono ?_
      rintro e w7 ⟨v4, rfl, ho, hb⟩
      obtain ⟨x_v4, n_v4, c_v4, rfl, ho⟩ := Row.kN_shape ho
      replace C_aT := Lib.hid (C_aT.out.on hb)
      replace C_aN := Lib.hid (C_aN.out.on hb)
      replace C_x0 := Lib.hid (C_x0.out.on hb)
      replace O_v3 := Lib.hid (O_v3.out.on hb)
      replace BB := Lib.hid (BB.out.trans (hb.mono BB.out.size))
      have S10 := Lib.hid (show (w6.alloc (.cells #[.slice x_v30 n_v30 c_v30, .slice x_v31 n_v31 c_v31, .slice x_v32 n_v32 c_v32, .slice x_v33 n_v33 c_v33] 35)).heap.size ≤ w7.heap.size from (by have h := hb.size; exact h))
      have O_v4 := Lib.hid (show Row.kN.In (w6.alloc (.cells #[.slice x_v30 n_v30 c_v30, .slice x_v31 n_v31 c_v31, .slice x_v32 n_v32 c_v32, .slice x_v33 n_v33 c_v33] 35)).heap.size w7.heap.size w7 (.agg #[.slice x_v4 n_v4 c_v4]) (l1) from ho); clear ho
      clear hb
      have hal := (Below.refl w7.heap.size w7).alloc (Nat.le_refl _) (.cells #[.slice x_v4 n_v4 c_v4] 47)
      replace C_aT := Lib.hid (C_aT.out.on hal)
      replace C_aN := Lib.hid (C_aN.out.on hal)
      replace C_x0 := Lib.hid (C_x0.out.on hal)
      replace O_v3 := Lib.hid (O_v3.out.on hal)
      replace O_v4 := Lib.hid (O_v4.out.on hal)
      replace BB := Lib.hid (BB.out.trans (hal.mono BB.out.size))
      have S11 := Lib.hid (show (w7.alloc (.cells #[.slice x_v4 n_v4 c_v4] 47)).heap.size = w7.heap.size + 1 from World.size_alloc _ _)
      have C_x1 := Lib.hid (Ret.Blk.new w7 #[.slice x_v4 n_v4 c_v4] 47); clear hal
      have c0_aT : (w7.alloc (.cells #[.slice x_v4 n_v4 c_v4] 47)).cell? ⟨w.heap.size, 0, none⟩ = some (.slice x_q00 n_q00 c_q00) := C_aT.out.cell 0
      have c1_aT : (w7.alloc (.cells #[.slice x_v4 n_v4 c_v4] 47)).cell? ⟨w.heap.size, 1, none⟩ = some (.slice x_q01 n_q01 c_q01) := C_aT.out.cell 1
      have c2_aT : (w7.alloc (.cells #[.slice x_v4 n_v4 c_v4] 47)).cell? ⟨w.heap.size, 2, none⟩ = some (.slice x_q02 n_q02 c_q02) := C_aT.out.cell 2
      have c3_aT : (w7.alloc (.cells #[.slice x_v4 n_v4 c_v4] 47)).cell? ⟨w.heap.size, 3, none⟩ = some (.slice x_q03 n_q03 c_q03) := C_aT.out.cell 3
      have c0_aN : (w7.alloc (.cells #[.slice x_v4 n_v4 c_v4] 47)).cell? ⟨w.heap.size + 1, 0, none⟩ = some (.slice x_q1 n_q1 c_q1) := C_aN.out.cell 0
      have c0_x0 : (w7.alloc (.cells #[.slice x_v4 n_v4 c_v4] 47)).cell? ⟨w6.heap.size, 0, none⟩ = some (.slice x_v30 n_v30 c_v30) := C_x0.out.cell 0
      have c1_x0 : (w7.alloc (.cells #[.slice x_v4 n_v4 c_v4] 47)).cell? ⟨w6.heap.size, 1, none⟩ = some (.slice x_v31 n_v31 c_v31) := C_x0.out.cell 1
      have c2_x0 : (w7.alloc (.cells #[.slice x_v4 n_v4 c_v4] 47)).cell? ⟨w6.heap.size, 2, none⟩ = some (.slice x_v32 n_v32 c_v32) := C_x0.out.cell 2
      have c3_x0 : (w7.alloc (.cells #[.slice x_v4 n_v4 c_v4] 47)).cell? ⟨w6.heap.size, 3, none⟩ = some (.slice x_v33 n_v33 c_v33) := C_x0.out.cell 3
      have c0_x1 : (w7.alloc (.cells #[.slice x_v4 n_v4 c_v4] 47)).cell? ⟨w7.heap.size, 0, none⟩ = some (.slice x_v4 n_v4 c_v4) := C_x1.out.cell 0
      go_wp2_with fail
      clear c0_aT c1_aT c2_aT c3_aT c0_aN c0_x0 c1_x0 c2_x0 c3_x0 c0_x1
      refine (Row.implFindCertificate _ _ (l0) (l1) a2 _ _ rfl (O_v3.out.at) (O_v4.out.at) ⟨by omega, N0.out⟩ (by omega)).mono ?_
      rintro e w8 ⟨rfl, hb⟩
      replace C_aT := Lib.hid (C_aT.out.on hb)
      replace C_aN := Lib.hid (C_aN.out.on hb)
      replace C_x0 := Lib.hid (C_x0.out.on hb)
      replace C_x1 := Lib.hid (C_x1.out.on hb)
      replace O_v3 := Lib.hid (O_v3.out.on hb)
      replace O_v4 := Lib.hid (O_v4.out.on hb)
      replace BB := Lib.hid (BB.out.trans (hb.mono BB.out.size))
      have S12 := Lib.hid (show (w7.alloc (.cells #[.slice x_v4 n_v4 c_v4] 47)).heap.size ≤ w8.heap.size from (by have h := hb.size; exact h))
      clear hb
      have c0_aT : w8.cell? ⟨w.heap.size, 0, none⟩ = some (.slice x_q00 n_q00 c_q00) := C_aT.out.cell 0
      have c1_aT : w8.cell? ⟨w.heap.size, 1, none⟩ = some (.slice x_q01 n_q01 c_q01) := C_aT.out.cell 1
      have c2_aT : w8.cell? ⟨w.heap.size, 2, none⟩ = some (.slice x_q02 n_q02 c_q02) := C_aT.out.cell 2
      have c3_aT : w8.cell? ⟨w.heap.size, 3, none⟩ = some (.slice x_q03 n_q03 c_q03) := C_aT.out.cell 3
      have c0_aN : w8.cell? ⟨w.heap.size + 1, 0, none⟩ = some (.slice x_q1 n_q1 c_q1) := C_aN.out.cell 0
      have c0_x0 : w8.cell? ⟨w6.heap.size, 0, none⟩ = some (.slice x_v30 n_v30 c_v30) := C_x0.out.cell 0
      have c1_x0 : w8.cell? ⟨w6.heap.size, 1, none⟩ = some (.slice x_v31 n_v31 c_v31) := C_x0.out.cell 1
      have c2_x0 : w8.cell? ⟨w6.heap.size, 2, none⟩ = some (.slice x_v32 n_v32 c_v32) := C_x0.out.cell 2
      have c3_x0 : w8.cell? ⟨w6.heap.size, 3, none⟩ = some (.slice x_v33 n_v33 c_v33) := C_x0.out.cell 3
      have c0_x1 : w8.cell? ⟨w7.heap.size, 0, none⟩ = some (.slice x_v4 n_v4 c_v4) := C_x1.out.cell 0
      go_wp2_with fail
      clear c0_aT c1_aT c2_aT c3_aT c0_aN c0_x0 c1_x0 c2_x0 c3_x0 c0_x1
      have hdr : Below w8.heap.size w8 w8.drew := (Below.refl _ _).drew
      replace C_aT := Lib.hid (C_aT.out.on hdr)
      replace C_aN := Lib.hid (C_aN.out.on hdr)
      replace C_x0 := Lib.hid (C_x0.out.on hdr)
      replace C_x1 := Lib.hid (C_x1.out.on hdr)
      replace O_v3 := Lib.hid (O_v3.out.on hdr)
      replace O_v4 := Lib.hid (O_v4.out.on hdr)
      replace BB := Lib.hid (BB.out.trans (hdr.mono BB.out.size))
      clear hdr
      have KS0 := Lib.hid (show w8.drew.cell? ⟨w6.heap.size, 0, none⟩ = some (.slice x_v30 n_v30 c_v30) ∧ w8.drew.cell? ⟨w6.heap.size, 1, none⟩ = some (.slice x_v31 n_v31 c_v31) ∧ w8.drew.cell? ⟨w6.heap.size, 2, none⟩ = some (.slice x_v32 n_v32 c_v32) ∧ w8.drew.cell? ⟨w6.heap.size, 3, none⟩ = some (.slice x_v33 n_v33 c_v33) ∧ w8.drew.cell? ⟨w.heap.size, 0, none⟩ = some (.slice x_q00 n_q00 c_q00) ∧ w8.drew.cell? ⟨w.heap.size, 1, none⟩ = some (.slice x_q01 n_q01 c_q01) ∧ w8.drew.cell? ⟨w.heap.size, 2, none⟩ = some (.slice x_q02 n_q02 c_q02) ∧ w8.drew.cell? ⟨w.heap.size, 3, none⟩ = some (.slice x_q03 n_q03 c_q03) ∧ Below w.heap.size w w8.drew from ⟨C_x0.out.cell 0, C_x0.out.cell 1, C_x0.out.cell 2, C_x0.out.cell 3, C_aT.out.cell 0, C_aT.out.cell 1, C_aT.out.cell 2, C_aT.out.cell 3, BB.out⟩)
      go_region_held3 (fun w' => w'.cell? ⟨w6.heap.size, 0, none⟩ = some (.slice x_v30 n_v30 c_v30) ∧ w'.cell? ⟨w6.heap.size, 1, none⟩ = some (.slice x_v31 n_v31 c_v31) ∧ w'.cell? ⟨w6.heap.size, 2, none⟩ = some (.slice x_v32 n_v32 c_v32) ∧ w'.cell? ⟨w6.heap.size, 3, none⟩ = some (.slice x_v33 n_v33 c_v33) ∧ w'.cell? ⟨w.heap.size, 0, none⟩ = some (.slice x_q00 n_q00 c_q00) ∧ w'.cell? ⟨w.heap.size, 1, none⟩ = some (.slice x_q01 n_q01 c_q01) ∧ w'.cell? ⟨w.heap.size, 2, none⟩ = some (.slice x_q02 n_q02 c_q02) ∧ w'.cell? ⟨w.heap.size, 3, none⟩ = some (.slice x_q03 n_q03 c_q03) ∧ Below w.heap.size w w') (first | exact KS0.out | exact KS1.out | exact KS2.out) ((first | (go_at_call 12; refine (Row.sameTpK _ _ (l0) _ ((O_v3.out.at).on hba) hoa.at (by first | omega | (simp; omega) | (simp [Row.marks_length, Sl.marks_length, Row.mkW]; omega))).mono ?_; rintro e w10 ⟨rfl, hbb⟩; have KS2 := Lib.hid (show (fun w' => w'.cell? ⟨w6.heap.size, 0, none⟩ = some (.slice x_v30 n_v30 c_v30) ∧ w'.cell? ⟨w6.heap.size, 1, none⟩ = some (.slice x_v31 n_v31 c_v31) ∧ w'.cell? ⟨w6.heap.size, 2, none⟩ = some (.slice x_v32 n_v32 c_v32) ∧ w'.cell? ⟨w6.heap.size, 3, none⟩ = some (.slice x_v33 n_v33 c_v33) ∧ w'.cell? ⟨w.heap.size, 0, none⟩ = some (.slice x_q00 n_q00 c_q00) ∧ w'.cell? ⟨w.heap.size, 1, none⟩ = some (.slice x_q01 n_q01 c_q01) ∧ w'.cell? ⟨w.heap.size, 2, none⟩ = some (.slice x_q02 n_q02 c_q02) ∧ w'.cell? ⟨w.heap.size, 3, none⟩ = some (.slice x_q03 n_q03 c_q03) ∧ Below w.heap.size w w') _ from ⟨Row.kc KS1.out.1 hbb, Row.kc KS1.out.2.1 hbb, Row.kc KS1.out.2.2.1 hbb, Row.kc KS1.out.2.2.2.1 hbb, Row.kc KS1.out.2.2.2.2.1 hbb, Row.kc KS1.out.2.2.2.2.2.1 hbb, Row.kc KS1.out.2.2.2.2.2.2.1 hbb, Row.kc KS1.out.2.2.2.2.2.2.2.1 hbb, KS1.out.2.2.2.2.2.2.2.2.trans (hbb.mono KS1.out.2.2.2.2.2.2.2.2.size)⟩)) | (go_at_call 10; refine (Row.toTrustPolicyK _ l0 _ (Q0.out.on BB.out) (by omega)).mono ?_; rintro e w9 ⟨v5, rfl, hoa, hba⟩; obtain ⟨x_v50, n_v50, c_v50, x_v51, n_v51, c_v51, x_v52, n_v52, c_v52, x_v53, n_v53, c_v53, rfl, hoa⟩ := Row.kTp_shape hoa; have KS1 := Lib.hid (show (fun w' => w'.cell? ⟨w6.heap.size, 0, none⟩ = some (.slice x_v30 n_v30 c_v30) ∧ w'.cell? ⟨w6.heap.size, 1, none⟩ = some (.slice x_v31 n_v31 c_v31) ∧ w'.cell? ⟨w6.heap.size, 2, none⟩ = some (.slice x_v32 n_v32 c_v32) ∧ w'.cell? ⟨w6.heap.size, 3, none⟩ = some (.slice x_v33 n_v33 c_v33) ∧ w'.cell? ⟨w.heap.size, 0, none⟩ = some (.slice x_q00 n_q00 c_q00) ∧ w'.cell? ⟨w.heap.size, 1, none⟩ = some (.slice x_q01 n_q01 c_q01) ∧ w'.cell? ⟨w.heap.size, 2, none⟩ = some (.slice x_q02 n_q02 c_q02) ∧ w'.cell? ⟨w.heap.size, 3, none⟩ = some (.slice x_q03 n_q03 c_q03) ∧ Below w.heap.size w w') _ from ⟨Row.kc KS0.out.1 hba, Row.kc KS0.out.2.1 hba, Row.kc KS0.out.2.2.1 hba, Row.kc KS0.out.2.2.2.1 hba, Row.kc KS0.out.2.2.2.2.1 hba, Row.kc KS0.out.2.2.2.2.2.1 hba, Row.kc KS0.out.2.2.2.2.2.2.1 hba, Row.kc KS0.out.2.2.2.2.2.2.2.1 hba, KS0.out.2.2.2.2.2.2.2.2.trans (hba.mono KS0.out.2.2.2.2.2.2.2.2.size)⟩))))
      clear KS0 KS1 KS2 hoa
      replace C_aT := Lib.hid (C_aT.out.on hba)
      replace C_aN := Lib.hid (C_aN.out.on hba)
      replace C_x0 := Lib.hid (C_x0.out.on hba)
      replace C_x1 := Lib.hid (C_x1.out.on hba)
      replace O_v3 := Lib.hid (O_v3.out.on hba)
      replace O_v4 := Lib.hid (O_v4.out.on hba)
      replace BB := Lib.hid (BB.out.trans (hba.mono BB.out.size))
      have S13 := Lib.hid (show w8.heap.size ≤ w9.heap.size from (by have h := hba.size; exact h))
      replace C_aT := Lib.hid (C_aT.out.on hbb)
      replace C_aN := Lib.hid (C_aN.out.on hbb)
      replace C_x0 := Lib.hid (C_x0.out.on hbb)
      replace C_x1 := Lib.hid (C_x1.out.on hbb)
      replace O_v3 := Lib.hid (O_v3.out.on hbb)
      replace O_v4 := Lib.hid (O_v4.out.on hbb)
      replace BB := Lib.hid (BB.out.trans (hbb.mono BB.out.size))
      have S14 := Lib.hid (show w9.heap.size ≤ w10.heap.size from (by have h := hbb.size; exact h))
      clear hba hbb
      have c0_aT : w10.cell? ⟨w.heap.size, 0, none⟩ = some (.slice x_q00 n_q00 c_q00) := C_aT.out.cell 0
      have c1_aT : w10.cell? ⟨w.heap.size, 1, none⟩ = some (.slice x_q01 n_q01 c_q01) := C_aT.out.cell 1
      have c2_aT : w10.cell? ⟨w.heap.size, 2, none⟩ = some (.slice x_q02 n_q02 c_q02) := C_aT.out.cell 2
      have c3_aT : w10.cell? ⟨w.heap.size, 3, none⟩ = some (.slice x_q03 n_q03 c_q03) := C_aT.out.cell 3
      have c0_aN : w10.cell? ⟨w.heap.size + 1, 0, none⟩ = some (.slice x_q1 n_q1 c_q1) := C_aN.out.cell 0
      have c0_x0 : w10.cell? ⟨w6.heap.size, 0, none⟩ = some (.slice x_v30 n_v30 c_v30) := C_x0.out.cell 0
      have c1_x0 : w10.cell? ⟨w6.heap.size, 1, none⟩ = some (.slice x_v31 n_v31 c_v31) := C_x0.out.cell 1
      have c2_x0 : w10.cell? ⟨w6.heap.size, 2, none⟩ = some (.slice x_v32 n_v32 c_v32) := C_x0.out.cell 2
      have c3_x0 : w10.cell? ⟨w6.heap.size, 3, none⟩ = some (.slice x_v33 n_v33 c_v33) := C_x0.out.cell 3
      have c0_x1 : w10.cell? ⟨w7.heap.size, 0, none⟩ = some (.slice x_v4 n_v4 c_v4) := C_x1.out.cell 0
      go_wp2_with fail
      clear c0_aT c1_aT c2_aT c3_aT c0_aN c0_x0 c1_x0 c2_x0 c3_x0 c0_x1
      have hdr : Below w10.heap.size w10 w10.drew := (Below.refl _ _).drew
      replace C_aT := Lib.hid (C_aT.out.on hdr)
      replace C_aN := Lib.hid (C_aN.out.on hdr)
      replace C_x0 := Lib.hid (C_x0.out.on hdr)
      replace C_x1 := Lib.hid (C_x1.out.on hdr)
      replace O_v3 := Lib.hid (O_v3.out.on hdr)
      replace O_v4 := Lib.hid (O_v4.out.on hdr)
      replace BB := Lib.hid (BB.out.trans (hdr.mono BB.out.size))
      clear hdr
      have KS0 := Lib.hid (show w10.drew.cell? ⟨w7.heap.size, 0, none⟩ = some (.slice x_v4 n_v4 c_v4) ∧ w10.drew.cell? ⟨w.heap.size + 1, 0, none⟩ = some (.slice x_q1 n_q1 c_q1) ∧ Below w.heap.size w w10.drew from ⟨C_x1.out.cell 0, C_aN.out.cell 0, BB.out⟩)
      go_region_held3 (fun w' => w'.cell? ⟨w7.heap.size, 0, none⟩ = some (.slice x_v4 n_v4 c_v4) ∧ w'.cell? ⟨w.heap.size + 1, 0, none⟩ = some (.slice x_q1 n_q1 c_q1) ∧ Below w.heap.size w w') (first | exact KS0.out | exact KS1.out | exact KS2.out) ((first | (go_at_call 21; refine (Row.sameNK _ _ (l1) _ ((O_v4.out.at).on hba) hoa.at (by first | omega | (simp; omega) | (simp [Row.marks_length, Sl.marks_length, Row.mkW]; omega))).mono ?_; rintro e w12 ⟨rfl, hbb⟩; have KS2 := Lib.hid (show (fun w' => w'.cell? ⟨w7.heap.size, 0, none⟩ = some (.slice x_v4 n_v4 c_v4) ∧ w'.cell? ⟨w.heap.size + 1, 0, none⟩ = some (.slice x_q1 n_q1 c_q1) ∧ Below w.heap.size w w') _ from ⟨Row.kc KS1.out.1 hbb, Row.kc KS1.out.2.1 hbb, KS1.out.2.2.trans (hbb.mono KS1.out.2.2.size)⟩)) | (go_at_call 17; refine (Row.toNK _ l1 _ (Q1.out.on BB.out) (by omega)).mono ?_; rintro e w11 ⟨v6, rfl, hoa, hba⟩; obtain ⟨x_v6, n_v6, c_v6, rfl, hoa⟩ := Row.kN_shape hoa; have KS1 := Lib.hid (show (fun w' => w'.cell? ⟨w7.heap.size, 0, none⟩ = some (.slice x_v4 n_v4 c_v4) ∧ w'.cell? ⟨w.heap.size + 1, 0, none⟩ = some (.slice x_q1 n_q1 c_q1) ∧ Below w.heap.size w w') _ from ⟨Row.kc KS0.out.1 hba, Row.kc KS0.out.2.1 hba, KS0.out.2.2.trans (hba.mono KS0.out.2.2.size)⟩))))
      clear KS0 KS1 KS2 hoa
      replace C_aT := Lib.hid (C_aT.out.on hba)
      replace C_aN := Lib.hid (C_aN.out.on hba)
      replace C_x0 := Lib.hid (C_x0.out.on hba)
      replace C_x1 := Lib.hid (C_x1.out.on hba)
      replace O_v3 := Lib.hid (O_v3.out.on hba)
      replace O_v4 := Lib.hid (O_v4.out.on hba)
      replace BB := Lib.hid (BB.out.trans (hba.mono BB.out.size))
      have S15 := Lib.hid (show w10.heap.size ≤ w11.heap.size from (by have h := hba.size; exact h))
      replace C_aT := Lib.hid (C_aT.out.on hbb)
      replace C_aN := Lib.hid (C_aN.out.on hbb)
      replace C_x0 := Lib.hid (C_x0.out.on hbb)
      replace C_x1 := Lib.hid (C_x1.out.on hbb)
      replace O_v3 := Lib.hid (O_v3.out.on hbb)
      replace O_v4 := Lib.hid (O_v4.out.on hbb)
      replace BB := Lib.hid (BB.out.trans (hbb.mono BB.out.size))
      have S16 := Lib.hid (show w11.heap.size ≤ w12.heap.size from (by have h := hbb.size; exact h))
      clear hba hbb
      have c0_aT : w12.cell? ⟨w.heap.size, 0, none⟩ = some (.slice x_q00 n_q00 c_q00) := C_aT.out.cell 0
      have c1_aT : w12.cell? ⟨w.heap.size, 1, none⟩ = some (.slice x_q01 n_q01 c_q01) := C_aT.out.cell 1
      have c2_aT : w12.cell? ⟨w.heap.size, 2, none⟩ = some (.slice x_q02 n_q02 c_q02) := C_aT.out.cell 2
      have c3_aT : w12.cell? ⟨w.heap.size, 3, none⟩ = some (.slice x_q03 n_q03 c_q03) := C_aT.out.cell 3
      have c0_aN : w12.cell? ⟨w.heap.size + 1, 0, none⟩ = some (.slice x_q1 n_q1 c_q1) := C_aN.out.cell 0
      have c0_x0 : w12.cell? ⟨w6.heap.size, 0, none⟩ = some (.slice x_v30 n_v30 c_v30) := C_x0.out.cell 0
      have c1_x0 : w12.cell? ⟨w6.heap.size, 1, none⟩ = some (.slice x_v31 n_v31 c_v31) := C_x0.out.cell 1
      have c2_x0 : w12.cell? ⟨w6.heap.size, 2, none⟩ = some (.slice x_v32 n_v32 c_v32) := C_x0.out.cell 2
      have c3_x0 : w12.cell? ⟨w6.heap.size, 3, none⟩ = some (.slice x_v33 n_v33 c_v33) := C_x0.out.cell 3
      have c0_x1 : w12.cell? ⟨w7.heap.size, 0, none⟩ = some (.slice x_v4 n_v4 c_v4) := C_x1.out.cell 0
      go_wp2_with fail
      clear c0_aT c1_aT c2_aT c3_aT c0_aN c0_x0 c1_x0 c2_x0 c3_x0 c0_x1
      go_ret
      exact ⟨rfl, BB.out⟩
    · -- out
      rw [Row.szL_not (by omega)]
      go_wp2
      go_ret
      exact ⟨rfl, BB.out⟩
  · -- out
    rw [Row.szW_not (by omega)]
    go_wp2
    go_ret
    exact ⟨rfl, BB.out⟩

set_option maxRecDepth 100000 in
theorem lifted (os : Os) (started : os.Started) (H : Type) (enc : TypeId × Value → H) :
    ReturnsInHanded {} Try.checked os 5 .any (Rows.fnExactFindCertificateSpec.pre6 enc Try.prog Try.f5 Rows.fnExactFindCertificateRow.domain false) (Rows.fnExactFindCertificateSpec.post enc Try.prog Try.f5 false true false false) := by
  refine returnsInHanded_of_change_sized (C := Try.checked) own started (by kernel_rfl) Try.func5
    (ChangeSpec.witness6 (enc := enc) (C := Try.checked) false ⟨#[], #[.agg #[.slice none 0 0, .slice none 0 0, .slice none 0 0, .slice none 0 0], .agg #[.slice none 0 0], .int .i64 0], []⟩ 8 (by kernel_rfl) (by kernel_rfl) (by kernel_rfl) (by kernel_rfl)) ?_
  intro W base args ds gs before hval0 hW _ hsz0 _
  have hval : ∀ (j : Nat) t v, Try.f5.params[j]? = some t → args[j]? = some v → Value.okWide Try.prog W .any base t v := hval0
  have hsz : (DataW.weightsEach Try.prog (Try.f5.params.toList ++ Rows.fnExactFindCertificateSpec.plain.varTypes Try.prog) (ds ++ gs)).all (· ≤ reachBytes) = true := hsz0
  clear hsz0
  have hW' := hW
  obtain ⟨p, q, hA0, hV, rfl, hfz, hnd⟩ := hW
  have hA : DataW.TrodAll enc Try.prog W 0 (fun _ => true) true Try.f5.params.toList args.toList ds p := hA0
  rw [Try.params5] at hA hval hsz
  obtain ⟨v0, vs0, d0, ds0, p0, q0, hargs, rfl, rfl, h0, r0⟩ := trodAll_cons hA
  obtain ⟨v1, vs1, d1, ds1, p1, q1, rfl, rfl, rfl, h1, r1⟩ := trodAll_cons r0
  obtain ⟨v2, vs2, d2, ds2, p2, q2, rfl, rfl, rfl, h2, r2⟩ := trodAll_cons r1
  obtain ⟨rfl, rfl, rfl⟩ := trodAll_nil r2
  obtain rfl : args = #[v0, v1, v2] := by cases args; simp_all
  obtain ⟨rfl, rfl⟩ := trodVars_none hV
  obtain ⟨l0, q0, n0⟩ := Row.open_structK Row.opens_TrustPolicy (fun m => rfl) Try.underlying27 (hval 0 27 v0 rfl rfl) h0
  obtain ⟨y1, l1, rfl, q1, n1, m1⟩ := Row.open_name (t := 41) (e := 39) (s := 9) Try.underlying41 rfl rfl (by kernel_rfl) (by kernel_rfl) Try.underlying39 Try.underlying9 (by kernel_rfl) (hval 1 41 v1 rfl rfl) h1
  obtain ⟨a2, rfl, rfl, rfl, w2⟩ := open_int Try.underlying3 (hval 2 3 v2 rfl rfl) h2
  clear hA0 hval0
  refine (walk a2 w2 W _ _ q0 n0 n0 _ _ q1 n1 m1).mono fun e W' ⟨he, hb⟩ => ?_
  subst he
  exact ⟨_, rfl, Frame.law_post laidOut (by kernel_rfl) rfl Try.underlying4 rfl rfl hW' hb⟩

theorem said : Rows.FnExactFindCertificateSaid :=
  OpenClaim.holds_of_wide 5 Try.f5 rfl rfl rfl rfl rfl rfl rfl ⟨rfl, rfl, rfl, rfl, rfl⟩ rfl rfl rfl rfl rfl (by kernel_rfl) Try.func5 (by kernel_rfl)
    (of_decide_eq_true (by kernel_rfl)) (by unfold Func.isWrapper; first | (rw [if_pos (by decide +kernel)]; kernel_rfl) | (rw [if_neg (by decide +kernel)]; exact ⟨rfl, rfl⟩))
    (fun os started H enc _ => lifted os started H enc)

#print axioms said
end Go.Proofs.Ytcidfmmeonhkhaa.fnExactFindCertificate
