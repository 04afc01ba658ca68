/- NextHops answers as its model for all lists of routes and all names, writes into no argument, and its answer owns its memory. No conditions. -/
import Derived.Test.YtdaahcaafdleaabRows
import Derived.WalkKit
import Derived.ProofKit
import Derived.OpenShut
import Derived.SizedLaws
import Derived.Test.YtdaahcaafdleaabB1
import Derived.Test.YtdaahcaafdleaabB3
namespace Go.Proofs.Ytdaahcaafdleaab.fnExactNextHops
open Go.ChangeShapes Go.WideShapes Go.ChangeAt Go.RowKit
open Go.ChangeMaps (open_string shut_string)
set_option linter.unusedVariables false

theorem own : ownKnob Try.prog.godebug = none := by kernel_rfl
theorem laidOut : laidOutB Try.prog = true := by kernel_rfl

set_option maxRecDepth 100000 in
set_option maxHeartbeats 4000000 in
theorem walk (w : World) (y0 : Value) (l0 : List Row.Rtt) (q0 : Row.kLRt.At w y0 l0) (n0 : Row.inLRt l0) (m0 : Row.inLRt l0) (y1 : Value) (l1 : List ByteArray) (q1 : Row.Holds Value.string w y1 l1) (n1 : ∀ x ∈ l1, x.size ≤ maxLen) (m1 : l1.length ≤ 9223372036854775807) :
    Calls Try.prog 3 #[y0, .agg #[y1]] w fun e w' => e = .returned (.bool true) ∧ Below w.heap.size w w' := by
  obtain ⟨x_q0, n_q0, c_q0, rfl, q0⟩ := Row.kLRt_shapeA q0
  obtain ⟨x_q1, n_q1, c_q1, rfl, -, -, q1⟩ := q1.shapeN; replace q1 := Row.kN_of q1
  have Q0 := Lib.hid q0; have N0 := Lib.hid n0; clear q0 n0
  have Q1 := Lib.hid q1; have N1 := Lib.hid n1; clear q1 n1
  have hal := (Below.refl w.heap.size w).alloc (Nat.le_refl _) (.cells #[.slice x_q1 n_q1 c_q1] 25)
  have BB := Lib.hid hal
  have C_aN := Lib.hid (Ret.Blk.new' (w := w) #[.slice x_q1 n_q1 c_q1] 25 (n := w.heap.size) (by first | rfl | simp)); clear hal
  have S1 := Lib.hid (show (w.alloc (.cells #[.slice x_q1 n_q1 c_q1] 25)).heap.size = w.heap.size + 1 from World.size_alloc _ _)
  go_enter Try.func3, Try.ntmps3
  have c0_aN : (w.alloc (.cells #[.slice x_q1 n_q1 c_q1] 25)).cell? ⟨w.heap.size, 0, none⟩ = some (.slice x_q1 n_q1 c_q1) := C_aN.out.cell 0
  go_wp2_with fail
  clear c0_aN
  refine (Row.szLRtK _ l0 _ (1048576) (Q0.out.on BB.out) m0 N0.out (by omega) (by omega)).mono ?_
  rintro e w1 ⟨rfl, hb⟩
  replace C_aN := Lib.hid (C_aN.out.on hb)
  replace BB := Lib.hid (BB.out.trans (hb.mono BB.out.size))
  have S2 := Lib.hid (show (w.alloc (.cells #[.slice x_q1 n_q1 c_q1] 25)).heap.size ≤ w1.heap.size from (by have h := hb.size; exact h))
  clear hb
  by_cases t0 : (Row.bulkK Row.wtRt l0 : Int) ≤ 1048576
  · -- in
    rw [Row.szW_fit t0]
    have b0 : Row.bulkK Row.wtRt l0 ≤ 1048576 := by omega
    have d0 : Row.adLRt (l0) ≤ 1048576 := Row.adLRt_big b0
    have a0 := Row.avRt_big (l := l0) b0
    have g0 : ¬ 1048576 - (Row.bulkK Row.wtRt l0 : Int) < 0 := by omega
    have c0_aN : w1.cell? ⟨w.heap.size, 0, none⟩ = some (.slice x_q1 n_q1 c_q1) := C_aN.out.cell 0
    go_wp2_with fail
    clear c0_aN
    refine (Row.szNK _ l1 _ (1048576 - (Row.bulkK Row.wtRt l0 : Int)) (Q1.out.on BB.out) m1 N1.out (by omega) (by omega)).mono ?_
    rintro e w2 ⟨rfl, hb⟩
    replace C_aN := Lib.hid (C_aN.out.on hb)
    replace BB := Lib.hid (BB.out.trans (hb.mono BB.out.size))
    have S3 := Lib.hid (show w1.heap.size ≤ w2.heap.size from (by have h := hb.size; exact h))
    clear hb
    by_cases t1 : (Row.bulk l1 : Int) ≤ 1048576 - (Row.bulkK Row.wtRt l0 : Int)
    · -- in
      rw [Row.szL_fit t1]
      have b1 : Row.bulk l1 ≤ 1048576 := by omega
      have d1 : (l1).length ≤ 1048576 := Row.bigLen b1
      have g1 : ¬ 1048576 - (Row.bulkK Row.wtRt l0 : Int) - (Row.bulk l1 : Int) < 0 := by omega
      have c0_aN : w2.cell? ⟨w.heap.size, 0, none⟩ = some (.slice x_q1 n_q1 c_q1) := C_aN.out.cell 0
      go_wp2_with fail
      clear c0_aN
      have hdr : Below w2.heap.size w2 w2.drew := (Below.refl _ _).drew
      replace C_aN := Lib.hid (C_aN.out.on hdr)
      replace BB := Lib.hid (BB.out.trans (hdr.mono BB.out.size))
      clear hdr
      have KS0 := Lib.hid (show w2.drew.cell? ⟨w.heap.size, 0, none⟩ = some (.slice x_q1 n_q1 c_q1) ∧ Below w.heap.size w w2.drew from ⟨C_aN.out.cell 0, BB.out⟩)
      have f1 := Row.hopsRt_sz (l0) (l1)
      go_region_held3 (fun w' => w'.cell? ⟨w.heap.size, 0, none⟩ = some (.slice x_q1 n_q1 c_q1) ∧ Below w.heap.size w w') (first | exact KS0.out | exact KS1.out | exact KS2.out | exact KS3.out) ((first | (go_at_call 7; refine (Row.specNextHops _ _ (l0) (l1) _ (ho0.at.on hb1) ho1.at (show Row.bulkK Row.wtRt (l0) ≤ 1100000 by omega) (by omega)).mono ?_; rintro e w5 ⟨v3, rfl, hor, hbr⟩; have KS3 := Lib.hid (show (fun w' => w'.cell? ⟨w.heap.size, 0, none⟩ = some (.slice x_q1 n_q1 c_q1) ∧ Below w.heap.size w w') _ from ⟨Row.kc KS2.out.1 hbr, KS2.out.2.trans (hbr.mono KS2.out.2.size)⟩)) | (go_at_call 9; refine (Row.toNK _ l1 _ ((Q1.out.on BB.out).on hb0) (by omega)).mono ?_; rintro e w4 ⟨v2, rfl, ho1, hb1⟩; obtain ⟨x_v2, n_v2, c_v2, rfl, ho1⟩ := Row.kN_shape ho1; have KS2 := Lib.hid (show (fun w' => w'.cell? ⟨w.heap.size, 0, none⟩ = some (.slice x_q1 n_q1 c_q1) ∧ Below w.heap.size w w') _ from ⟨Row.kc KS1.out.1 hb1, KS1.out.2.trans (hb1.mono KS1.out.2.size)⟩)) | (go_at_call 8; refine (Row.toLRtK _ l0 _ (Q0.out.on BB.out) (by omega)).mono ?_; rintro e w3 ⟨v1, rfl, ho0, hb0⟩; obtain ⟨x_v1, n_v1, c_v1, rfl, ho0⟩ := Row.kLRt_shape ho0; have KS1 := Lib.hid (show (fun w' => w'.cell? ⟨w.heap.size, 0, none⟩ = some (.slice x_q1 n_q1 c_q1) ∧ Below w.heap.size w w') _ from ⟨Row.kc KS0.out.1 hb0, KS0.out.2.trans (hb0.mono KS0.out.2.size)⟩))))
      clear KS0 KS1 KS2 KS3 ho0 ho1
      replace C_aN := Lib.hid (C_aN.out.on hb0)
      replace BB := Lib.hid (BB.out.trans (hb0.mono BB.out.size))
      have S4 := Lib.hid (show w2.heap.size ≤ w3.heap.size from (by have h := hb0.size; exact h))
      replace C_aN := Lib.hid (C_aN.out.on hb1)
      replace BB := Lib.hid (BB.out.trans (hb1.mono BB.out.size))
      have S5 := Lib.hid (show w3.heap.size ≤ w4.heap.size from (by have h := hb1.size; exact h))
      clear hb0 hb1
      have hb := hbr; have ho := hor; clear hbr hor
      obtain ⟨x_v3, n_v3, c_v3, rfl, ho⟩ := Row.kI_shape ho
      replace C_aN := Lib.hid (C_aN.out.on hb)
      replace BB := Lib.hid (BB.out.trans (hb.mono BB.out.size))
      have S6 := Lib.hid (show w4.heap.size ≤ w5.heap.size from (by have h := hb.size; exact h))
      have O_v3 := Lib.hid (show Row.kI.In w4.heap.size w5.heap.size w5 (.slice x_v3 n_v3 c_v3) (Row.hopsRt (l0) (l1)) from ho); clear ho
      clear hb
      have c0_aN : w5.cell? ⟨w.heap.size, 0, none⟩ = some (.slice x_q1 n_q1 c_q1) := C_aN.out.cell 0
      go_wp2_with fail
      clear c0_aN
      refine (Row.toLRtK _ l0 _ (Q0.out.on BB.out) (by omega)).mono ?_
      rintro e w6 ⟨v4, rfl, ho, hb⟩
      obtain ⟨x_v4, n_v4, c_v4, rfl, ho⟩ := Row.kLRt_shape ho
      replace C_aN := Lib.hid (C_aN.out.on hb)
      replace O_v3 := Lib.hid (O_v3.out.on hb)
      replace BB := Lib.hid (BB.out.trans (hb.mono BB.out.size))
      have S7 := Lib.hid (show w5.heap.size ≤ w6.heap.size from (by have h := hb.size; exact h))
      have O_v4 := Lib.hid (show Row.kLRt.In w5.heap.size w6.heap.size w6 (.slice x_v4 n_v4 c_v4) (l0) from ho); clear ho
      clear hb
      have c0_aN : w6.cell? ⟨w.heap.size, 0, none⟩ = some (.slice x_q1 n_q1 c_q1) := C_aN.out.cell 0
      go_wp2_with fail
      clear c0_aN
      refine (Row.toNK _ l1 _ (Q1.out.on BB.out) (by omega)).mono ?_
      rintro e w7 ⟨v5, rfl, ho, hb⟩
      obtain ⟨x_v5, n_v5, c_v5, rfl, ho⟩ := Row.kN_shape ho
      replace C_aN := Lib.hid (C_aN.out.on hb)
      replace O_v3 := Lib.hid (O_v3.out.on hb)
      replace O_v4 := Lib.hid (O_v4.out.on hb)
      replace BB := Lib.hid (BB.out.trans (hb.mono BB.out.size))
      have S8 := Lib.hid (show w6.heap.size ≤ w7.heap.size from (by have h := hb.size; exact h))
      have O_v5 := Lib.hid (show Row.kN.In w6.heap.size w7.heap.size w7 (.agg #[.slice x_v5 n_v5 c_v5]) (l1) from ho); clear ho
      clear hb
      have hal := (Below.refl w7.heap.size w7).alloc (Nat.le_refl _) (.cells #[.slice x_v5 n_v5 c_v5] 32)
      replace C_aN := Lib.hid (C_aN.out.on hal)
      replace O_v3 := Lib.hid (O_v3.out.on hal)
      replace O_v4 := Lib.hid (O_v4.out.on hal)
      replace O_v5 := Lib.hid (O_v5.out.on hal)
      replace BB := Lib.hid (BB.out.trans (hal.mono BB.out.size))
      have S9 := Lib.hid (show (w7.alloc (.cells #[.slice x_v5 n_v5 c_v5] 32)).heap.size = w7.heap.size + 1 from World.size_alloc _ _)
      have C_x1 := Lib.hid (Ret.Blk.new w7 #[.slice x_v5 n_v5 c_v5] 32); clear hal
      have c0_aN : (w7.alloc (.cells #[.slice x_v5 n_v5 c_v5] 32)).cell? ⟨w.heap.size, 0, none⟩ = some (.slice x_q1 n_q1 c_q1) := C_aN.out.cell 0
      have c0_x1 : (w7.alloc (.cells #[.slice x_v5 n_v5 c_v5] 32)).cell? ⟨w7.heap.size, 0, none⟩ = some (.slice x_v5 n_v5 c_v5) := C_x1.out.cell 0
      go_wp2_with fail
      clear c0_aN c0_x1
      have f2 := Row.hopsRt_sz (l0) (l1)
      refine (Row.implNextHops _ _ (l0) (l1) _ (O_v4.out.at) (O_v5.out.at) (show Row.bulkK Row.wtRt (l0) ≤ 1100000 by omega) (by omega)).mono ?_
      rintro e w8 ⟨v6, rfl, ho, hb⟩
      obtain ⟨x_v6, n_v6, c_v6, rfl, ho⟩ := Row.kI_shape ho
      replace C_aN := Lib.hid (C_aN.out.on hb)
      replace C_x1 := Lib.hid (C_x1.out.on hb)
      replace O_v3 := Lib.hid (O_v3.out.on hb)
      replace O_v4 := Lib.hid (O_v4.out.on hb)
      replace O_v5 := Lib.hid (O_v5.out.on hb)
      replace BB := Lib.hid (BB.out.trans (hb.mono BB.out.size))
      have S10 := Lib.hid (show (w7.alloc (.cells #[.slice x_v5 n_v5 c_v5] 32)).heap.size ≤ w8.heap.size from (by have h := hb.size; exact h))
      have O_v6 := Lib.hid (show Row.kI.In (w7.alloc (.cells #[.slice x_v5 n_v5 c_v5] 32)).heap.size w8.heap.size w8 (.slice x_v6 n_v6 c_v6) (Row.hopsRt (l0) (l1)) from ho); clear ho
      clear hb
      have c0_aN : w8.cell? ⟨w.heap.size, 0, none⟩ = some (.slice x_q1 n_q1 c_q1) := C_aN.out.cell 0
      have c0_x1 : w8.cell? ⟨w7.heap.size, 0, none⟩ = some (.slice x_v5 n_v5 c_v5) := C_x1.out.cell 0
      go_wp2_with fail
      clear c0_aN c0_x1
      refine (Row.sameI' _ _ (Row.hopsRt (l0) (l1)) _ (O_v6.out.at) (O_v3.out.at) (by first | omega | (simp; omega) | (simp [Row.marks_length, Sl.marks_length, Row.mkW]; omega))).mono ?_
      rintro e w9 ⟨rfl, hb⟩
      replace C_aN := Lib.hid (C_aN.out.on hb)
      replace C_x1 := Lib.hid (C_x1.out.on hb)
      replace O_v3 := Lib.hid (O_v3.out.on hb)
      replace O_v4 := Lib.hid (O_v4.out.on hb)
      replace O_v5 := Lib.hid (O_v5.out.on hb)
      replace O_v6 := Lib.hid (O_v6.out.on hb)
      replace BB := Lib.hid (BB.out.trans (hb.mono BB.out.size))
      have S11 := Lib.hid (show w8.heap.size ≤ w9.heap.size from (by have h := hb.size; exact h))
      clear hb
      have c0_aN : w9.cell? ⟨w.heap.size, 0, none⟩ = some (.slice x_q1 n_q1 c_q1) := C_aN.out.cell 0
      have c0_x1 : w9.cell? ⟨w7.heap.size, 0, none⟩ = some (.slice x_v5 n_v5 c_v5) := C_x1.out.cell 0
      go_wp2_with fail
      clear c0_aN c0_x1
      refine (Row.toLRtK _ l0 _ (Q0.out.on BB.out) (by omega)).mono ?_
      rintro e w10 ⟨v7, rfl, ho, hb⟩
      obtain ⟨x_v7, n_v7, c_v7, rfl, ho⟩ := Row.kLRt_shape ho
      replace C_aN := Lib.hid (C_aN.out.on hb)
      replace C_x1 := Lib.hid (C_x1.out.on hb)
      replace O_v3 := Lib.hid (O_v3.out.on hb)
      replace O_v4 := Lib.hid (O_v4.out.on hb)
      replace O_v5 := Lib.hid (O_v5.out.on hb)
      replace O_v6 := Lib.hid (O_v6.out.on hb)
      replace BB := Lib.hid (BB.out.trans (hb.mono BB.out.size))
      have S12 := Lib.hid (show w9.heap.size ≤ w10.heap.size from (by have h := hb.size; exact h))
      have O_v7 := Lib.hid (show Row.kLRt.In w9.heap.size w10.heap.size w10 (.slice x_v7 n_v7 c_v7) (l0) from ho); clear ho
      clear hb
      have c0_aN : w10.cell? ⟨w.heap.size, 0, none⟩ = some (.slice x_q1 n_q1 c_q1) := C_aN.out.cell 0
      have c0_x1 : w10.cell? ⟨w7.heap.size, 0, none⟩ = some (.slice x_v5 n_v5 c_v5) := C_x1.out.cell 0
      go_wp2_with fail
      clear c0_aN c0_x1
      refine (Row.eqLRtK _ _ (l0) _ (O_v4.out.at) (O_v7.out.at) (by first | omega | (simp; omega) | (simp [Row.marks_length, Sl.marks_length, Row.mkW]; omega))).mono ?_
      rintro e w11 ⟨rfl, hb⟩
      replace C_aN := Lib.hid (C_aN.out.on hb)
      replace C_x1 := Lib.hid (C_x1.out.on hb)
      replace O_v3 := Lib.hid (O_v3.out.on hb)
      replace O_v4 := Lib.hid (O_v4.out.on hb)
      replace O_v5 := Lib.hid (O_v5.out.on hb)
      replace O_v6 := Lib.hid (O_v6.out.on hb)
      replace O_v7 := Lib.hid (O_v7.out.on hb)
      replace BB := Lib.hid (BB.out.trans (hb.mono BB.out.size))
      have S13 := Lib.hid (show w10.heap.size ≤ w11.heap.size from (by have h := hb.size; exact h))
      clear hb
      have c0_aN : w11.cell? ⟨w.heap.size, 0, none⟩ = some (.slice x_q1 n_q1 c_q1) := C_aN.out.cell 0
      have c0_x1 : w11.cell? ⟨w7.heap.size, 0, none⟩ = some (.slice x_v5 n_v5 c_v5) := C_x1.out.cell 0
      go_wp2_with fail
      clear c0_aN c0_x1
      clear O_v7
      have hdr : Below w11.heap.size w11 w11.drew := (Below.refl _ _).drew
      replace C_aN := Lib.hid (C_aN.out.on hdr)
      replace C_x1 := Lib.hid (C_x1.out.on hdr)
      replace O_v3 := Lib.hid (O_v3.out.on hdr)
      replace O_v4 := Lib.hid (O_v4.out.on hdr)
      replace O_v5 := Lib.hid (O_v5.out.on hdr)
      replace O_v6 := Lib.hid (O_v6.out.on hdr)
      replace BB := Lib.hid (BB.out.trans (hdr.mono BB.out.size))
      clear hdr
      have KS0 := Lib.hid (show w11.drew.cell? ⟨w7.heap.size, 0, none⟩ = some (.slice x_v5 n_v5 c_v5) ∧ w11.drew.cell? ⟨w.heap.size, 0, none⟩ = some (.slice x_q1 n_q1 c_q1) ∧ Below w.heap.size w w11.drew from ⟨C_x1.out.cell 0, C_aN.out.cell 0, BB.out⟩)
      go_region_held3 (fun w' => w'.cell? ⟨w7.heap.size, 0, none⟩ = some (.slice x_v5 n_v5 c_v5) ∧ w'.cell? ⟨w.heap.size, 0, none⟩ = some (.slice x_q1 n_q1 c_q1) ∧ Below w.heap.size w w') (first | exact KS0.out | exact KS1.out | exact KS2.out) ((first | (go_at_call 13; refine (Row.sameNK _ _ (l1) _ ((O_v5.out.at).on hba) hoa.at (by first | omega | (simp; omega) | (simp [Row.marks_length, Sl.marks_length, Row.mkW]; omega))).mono ?_; rintro e w13 ⟨rfl, hbb⟩; have KS2 := Lib.hid (show (fun w' => w'.cell? ⟨w7.heap.size, 0, none⟩ = some (.slice x_v5 n_v5 c_v5) ∧ w'.cell? ⟨w.heap.size, 0, none⟩ = some (.slice x_q1 n_q1 c_q1) ∧ Below w.heap.size w w') _ from ⟨Row.kc KS1.out.1 hbb, Row.kc KS1.out.2.1 hbb, KS1.out.2.2.trans (hbb.mono KS1.out.2.2.size)⟩)) | (go_at_call 9; refine (Row.toNK _ l1 _ (Q1.out.on BB.out) (by omega)).mono ?_; rintro e w12 ⟨v8, rfl, hoa, hba⟩; obtain ⟨x_v8, n_v8, c_v8, rfl, hoa⟩ := Row.kN_shape hoa; have KS1 := Lib.hid (show (fun w' => w'.cell? ⟨w7.heap.size, 0, none⟩ = some (.slice x_v5 n_v5 c_v5) ∧ w'.cell? ⟨w.heap.size, 0, none⟩ = some (.slice x_q1 n_q1 c_q1) ∧ Below w.heap.size w w') _ from ⟨Row.kc KS0.out.1 hba, Row.kc KS0.out.2.1 hba, KS0.out.2.2.trans (hba.mono KS0.out.2.2.size)⟩))))
      clear KS0 KS1 KS2 hoa
      replace C_aN := Lib.hid (C_aN.out.on hba)
      replace C_x1 := Lib.hid (C_x1.out.on hba)
      replace O_v3 := Lib.hid (O_v3.out.on hba)
      replace O_v4 := Lib.hid (O_v4.out.on hba)
      replace O_v5 := Lib.hid (O_v5.out.on hba)
      replace O_v6 := Lib.hid (O_v6.out.on hba)
      replace BB := Lib.hid (BB.out.trans (hba.mono BB.out.size))
      have S14 := Lib.hid (show w11.heap.size ≤ w12.heap.size from (by have h := hba.size; exact h))
      replace C_aN := Lib.hid (C_aN.out.on hbb)
      replace C_x1 := Lib.hid (C_x1.out.on hbb)
      replace O_v3 := Lib.hid (O_v3.out.on hbb)
      replace O_v4 := Lib.hid (O_v4.out.on hbb)
      replace O_v5 := Lib.hid (O_v5.out.on hbb)
      replace O_v6 := Lib.hid (O_v6.out.on hbb)
      replace BB := Lib.hid (BB.out.trans (hbb.mono BB.out.size))
      have S15 := Lib.hid (show w12.heap.size ≤ w13.heap.size from (by have h := hbb.size; exact h))
      clear hba hbb
      have c0_aN : w13.cell? ⟨w.heap.size, 0, none⟩ = some (.slice x_q1 n_q1 c_q1) := C_aN.out.cell 0
      have c0_x1 : w13.cell? ⟨w7.heap.size, 0, none⟩ = some (.slice x_v5 n_v5 c_v5) := C_x1.out.cell 0
      go_wp2_with fail
      clear c0_aN c0_x1
      refine (Row.markLRtK _ _ _ (l0) _ (1) O_v4.out (by first | omega | (simp; omega) | (simp [Row.marks_length, Sl.marks_length, Row.mkW]; omega)) (by first | omega | (simp; omega) | (simp [Row.marks_length, Sl.marks_length, Row.mkW]; omega)) (by first | omega | (simp; omega) | (simp [Row.marks_length, Sl.marks_length, Row.mkW]; omega))).mono ?_
      rintro e w14 ⟨rfl, ho, hg⟩
      replace C_aN := Lib.hid (hg.blk C_aN.out (by have := S1.out; have := S2.out; have := S3.out; have := S4.out; have := S5.out; have := S6.out; have := S7.out; have := S8.out; have := S9.out; have := S10.out; have := S11.out; have := S12.out; have := S13.out; have := S14.out; have := S15.out; omega))
      replace C_x1 := Lib.hid (hg.blk C_x1.out (by have := S1.out; have := S2.out; have := S3.out; have := S4.out; have := S5.out; have := S6.out; have := S7.out; have := S8.out; have := S9.out; have := S10.out; have := S11.out; have := S12.out; have := S13.out; have := S14.out; have := S15.out; omega))
      replace O_v3 := Lib.hid (O_v3.out.wrote hg (by have := S1.out; have := S2.out; have := S3.out; have := S4.out; have := S5.out; have := S6.out; have := S7.out; have := S8.out; have := S9.out; have := S10.out; have := S11.out; have := S12.out; have := S13.out; have := S14.out; have := S15.out; omega))
      replace O_v5 := Lib.hid (O_v5.out.wrote hg (by have := S1.out; have := S2.out; have := S3.out; have := S4.out; have := S5.out; have := S6.out; have := S7.out; have := S8.out; have := S9.out; have := S10.out; have := S11.out; have := S12.out; have := S13.out; have := S14.out; have := S15.out; omega))
      replace O_v6 := Lib.hid (O_v6.out.wrote hg (by have := S1.out; have := S2.out; have := S3.out; have := S4.out; have := S5.out; have := S6.out; have := S7.out; have := S8.out; have := S9.out; have := S10.out; have := S11.out; have := S12.out; have := S13.out; have := S14.out; have := S15.out; omega))
      replace BB := Lib.hid (hg.below BB.out BB.out.size (by have := S1.out; have := S2.out; have := S3.out; have := S4.out; have := S5.out; have := S6.out; have := S7.out; have := S8.out; have := S9.out; have := S10.out; have := S11.out; have := S12.out; have := S13.out; have := S14.out; have := S15.out; omega))
      have S16 := Lib.hid (show w13.heap.size ≤ w14.heap.size from hg.size)
      replace O_v4 := Lib.hid ho; clear ho hg
      have c0_aN : w14.cell? ⟨w.heap.size, 0, none⟩ = some (.slice x_q1 n_q1 c_q1) := C_aN.out.cell 0
      have c0_x1 : w14.cell? ⟨w7.heap.size, 0, none⟩ = some (.slice x_v5 n_v5 c_v5) := C_x1.out.cell 0
      go_wp2_with fail
      clear c0_aN c0_x1
      refine (Row.markNK _ _ _ (l1) _ (1 + (Row.advK Row.mvRt (l0) : Int)) O_v5.out (by first | omega | (simp; omega) | (simp [Row.marks_length, Sl.marks_length, Row.mkW]; omega)) (by first | omega | (simp; omega) | (simp [Row.marks_length, Sl.marks_length, Row.mkW]; omega)) (by first | omega | (simp; omega) | (simp [Row.marks_length, Sl.marks_length, Row.mkW]; omega))).mono ?_
      rintro e w15 ⟨rfl, ho, hg⟩
      replace C_aN := Lib.hid (hg.blk C_aN.out (by have := S1.out; have := S2.out; have := S3.out; have := S4.out; have := S5.out; have := S6.out; have := S7.out; have := S8.out; have := S9.out; have := S10.out; have := S11.out; have := S12.out; have := S13.out; have := S14.out; have := S15.out; have := S16.out; omega))
      replace C_x1 := Lib.hid (hg.blk C_x1.out (by have := S1.out; have := S2.out; have := S3.out; have := S4.out; have := S5.out; have := S6.out; have := S7.out; have := S8.out; have := S9.out; have := S10.out; have := S11.out; have := S12.out; have := S13.out; have := S14.out; have := S15.out; have := S16.out; omega))
      replace O_v3 := Lib.hid (O_v3.out.wrote hg (by have := S1.out; have := S2.out; have := S3.out; have := S4.out; have := S5.out; have := S6.out; have := S7.out; have := S8.out; have := S9.out; have := S10.out; have := S11.out; have := S12.out; have := S13.out; have := S14.out; have := S15.out; have := S16.out; omega))
      replace O_v4 := Lib.hid (O_v4.out.wrote hg (by have := S1.out; have := S2.out; have := S3.out; have := S4.out; have := S5.out; have := S6.out; have := S7.out; have := S8.out; have := S9.out; have := S10.out; have := S11.out; have := S12.out; have := S13.out; have := S14.out; have := S15.out; have := S16.out; omega))
      replace O_v6 := Lib.hid (O_v6.out.wrote hg (by have := S1.out; have := S2.out; have := S3.out; have := S4.out; have := S5.out; have := S6.out; have := S7.out; have := S8.out; have := S9.out; have := S10.out; have := S11.out; have := S12.out; have := S13.out; have := S14.out; have := S15.out; have := S16.out; omega))
      replace BB := Lib.hid (hg.below BB.out BB.out.size (by have := S1.out; have := S2.out; have := S3.out; have := S4.out; have := S5.out; have := S6.out; have := S7.out; have := S8.out; have := S9.out; have := S10.out; have := S11.out; have := S12.out; have := S13.out; have := S14.out; have := S15.out; have := S16.out; omega))
      have S17 := Lib.hid (show w14.heap.size ≤ w15.heap.size from hg.size)
      replace O_v5 := Lib.hid ho; clear ho hg
      have c0_aN : w15.cell? ⟨w.heap.size, 0, none⟩ = some (.slice x_q1 n_q1 c_q1) := C_aN.out.cell 0
      have c0_x1 : w15.cell? ⟨w7.heap.size, 0, none⟩ = some (.slice x_v5 n_v5 c_v5) := C_x1.out.cell 0
      go_wp2_with fail
      clear c0_aN c0_x1
      refine (Row.sameI' _ _ (Row.hopsRt (l0) (l1)) _ (O_v6.out.at) (O_v3.out.at) (by first | omega | (simp; omega) | (simp [Row.marks_length, Sl.marks_length, Row.mkW]; omega))).mono ?_
      rintro e w16 ⟨rfl, hb⟩
      replace C_aN := Lib.hid (C_aN.out.on hb)
      replace C_x1 := Lib.hid (C_x1.out.on hb)
      replace O_v3 := Lib.hid (O_v3.out.on hb)
      replace O_v4 := Lib.hid (O_v4.out.on hb)
      replace O_v5 := Lib.hid (O_v5.out.on hb)
      replace O_v6 := Lib.hid (O_v6.out.on hb)
      replace BB := Lib.hid (BB.out.trans (hb.mono BB.out.size))
      have S18 := Lib.hid (show w15.heap.size ≤ w16.heap.size from (by have h := hb.size; exact h))
      clear hb
      have c0_aN : w16.cell? ⟨w.heap.size, 0, none⟩ = some (.slice x_q1 n_q1 c_q1) := C_aN.out.cell 0
      have c0_x1 : w16.cell? ⟨w7.heap.size, 0, none⟩ = some (.slice x_v5 n_v5 c_v5) := C_x1.out.cell 0
      go_wp2_with fail
      clear c0_aN c0_x1
      refine (Row.markI _ _ _ (Row.hopsRt (l0) (l1)) _ (1) O_v6.out (by first | omega | (simp; omega) | (simp [Row.marks_length, Sl.marks_length, Row.mkW]; omega)) (by first | omega | (simp; omega) | (simp [Row.marks_length, Sl.marks_length, Row.mkW]; omega)) (by first | omega | (simp; omega) | (simp [Row.marks_length, Sl.marks_length, Row.mkW]; omega))).mono ?_
      rintro e w17 ⟨rfl, ho, hg⟩
      replace C_aN := Lib.hid (hg.blk C_aN.out (by have := S1.out; have := S2.out; have := S3.out; have := S4.out; have := S5.out; have := S6.out; have := S7.out; have := S8.out; have := S9.out; have := S10.out; have := S11.out; have := S12.out; have := S13.out; have := S14.out; have := S15.out; have := S16.out; have := S17.out; have := S18.out; omega))
      replace C_x1 := Lib.hid (hg.blk C_x1.out (by have := S1.out; have := S2.out; have := S3.out; have := S4.out; have := S5.out; have := S6.out; have := S7.out; have := S8.out; have := S9.out; have := S10.out; have := S11.out; have := S12.out; have := S13.out; have := S14.out; have := S15.out; have := S16.out; have := S17.out; have := S18.out; omega))
      replace O_v3 := Lib.hid (O_v3.out.wrote hg (by have := S1.out; have := S2.out; have := S3.out; have := S4.out; have := S5.out; have := S6.out; have := S7.out; have := S8.out; have := S9.out; have := S10.out; have := S11.out; have := S12.out; have := S13.out; have := S14.out; have := S15.out; have := S16.out; have := S17.out; have := S18.out; omega))
      replace O_v4 := Lib.hid (O_v4.out.wrote hg (by have := S1.out; have := S2.out; have := S3.out; have := S4.out; have := S5.out; have := S6.out; have := S7.out; have := S8.out; have := S9.out; have := S10.out; have := S11.out; have := S12.out; have := S13.out; have := S14.out; have := S15.out; have := S16.out; have := S17.out; have := S18.out; omega))
      replace O_v5 := Lib.hid (O_v5.out.wrote hg (by have := S1.out; have := S2.out; have := S3.out; have := S4.out; have := S5.out; have := S6.out; have := S7.out; have := S8.out; have := S9.out; have := S10.out; have := S11.out; have := S12.out; have := S13.out; have := S14.out; have := S15.out; have := S16.out; have := S17.out; have := S18.out; omega))
      replace BB := Lib.hid (hg.below BB.out BB.out.size (by have := S1.out; have := S2.out; have := S3.out; have := S4.out; have := S5.out; have := S6.out; have := S7.out; have := S8.out; have := S9.out; have := S10.out; have := S11.out; have := S12.out; have := S13.out; have := S14.out; have := S15.out; have := S16.out; have := S17.out; have := S18.out; omega))
      have S19 := Lib.hid (show w16.heap.size ≤ w17.heap.size from hg.size)
      replace O_v6 := Lib.hid ho; clear ho hg
      have c0_aN : w17.cell? ⟨w.heap.size, 0, none⟩ = some (.slice x_q1 n_q1 c_q1) := C_aN.out.cell 0
      have c0_x1 : w17.cell? ⟨w7.heap.size, 0, none⟩ = some (.slice x_v5 n_v5 c_v5) := C_x1.out.cell 0
      go_wp2_with fail
      clear c0_aN c0_x1
      refine (Row.heldI _ _ (1) (Row.hopsRt (l0) (l1)) (O_v6.out.at) (by first | omega | (simp; omega) | (simp [Row.marks_length, Sl.marks_length, Row.mkW]; omega)) (by first | omega | (simp; omega) | (simp [Row.marks_length, Sl.marks_length, Row.mkW]; omega)) (by first | omega | (simp; omega) | (simp [Row.marks_length, Sl.marks_length, Row.mkW]; omega))).mono ?_
      rintro e w18 ⟨rfl, hb⟩
      replace C_aN := Lib.hid (C_aN.out.on hb)
      replace C_x1 := Lib.hid (C_x1.out.on hb)
      replace O_v3 := Lib.hid (O_v3.out.on hb)
      replace O_v4 := Lib.hid (O_v4.out.on hb)
      replace O_v5 := Lib.hid (O_v5.out.on hb)
      replace O_v6 := Lib.hid (O_v6.out.on hb)
      replace BB := Lib.hid (BB.out.trans (hb.mono BB.out.size))
      have S20 := Lib.hid (show w17.heap.size ≤ w18.heap.size from (by have h := hb.size; exact h))
      clear hb
      have c0_aN : w18.cell? ⟨w.heap.size, 0, none⟩ = some (.slice x_q1 n_q1 c_q1) := C_aN.out.cell 0
      have c0_x1 : w18.cell? ⟨w7.heap.size, 0, none⟩ = some (.slice x_v5 n_v5 c_v5) := C_x1.out.cell 0
      go_wp2_with fail
      clear c0_aN c0_x1
      have hdr : Below w18.heap.size w18 w18.drew := (Below.refl _ _).drew
      replace C_aN := Lib.hid (C_aN.out.on hdr)
      replace C_x1 := Lib.hid (C_x1.out.on hdr)
      replace O_v3 := Lib.hid (O_v3.out.on hdr)
      replace O_v4 := Lib.hid (O_v4.out.on hdr)
      replace O_v5 := Lib.hid (O_v5.out.on hdr)
      replace O_v6 := Lib.hid (O_v6.out.on hdr)
      replace BB := Lib.hid (BB.out.trans (hdr.mono BB.out.size))
      clear hdr
      have KS0 := Lib.hid (show w18.drew.cell? ⟨w.heap.size, 0, none⟩ = some (.slice x_q1 n_q1 c_q1) ∧ Below w.heap.size w w18.drew from ⟨C_aN.out.cell 0, BB.out⟩)
      have f3 := Row.hopsRt_sz (l0) (l1)
      go_region_held3 (fun w' => w'.cell? ⟨w.heap.size, 0, none⟩ = some (.slice x_q1 n_q1 c_q1) ∧ Below w.heap.size w w') (first | exact KS0.out | exact KS1.out | exact KS2.out | exact KS3.out) ((first | (go_at_call 10; refine (Row.implNextHops _ _ (l0) (l1) _ (ho0.at.on hb1) ho1.at (show Row.bulkK Row.wtRt (l0) ≤ 1100000 by omega) (by omega)).mono ?_; rintro e w21 ⟨v11, rfl, hor, hbr⟩; have KS3 := Lib.hid (show (fun w' => w'.cell? ⟨w.heap.size, 0, none⟩ = some (.slice x_q1 n_q1 c_q1) ∧ Below w.heap.size w w') _ from ⟨Row.kc KS2.out.1 hbr, KS2.out.2.trans (hbr.mono KS2.out.2.size)⟩)) | (go_at_call 9; refine (Row.toNK _ l1 _ ((Q1.out.on BB.out).on hb0) (by omega)).mono ?_; rintro e w20 ⟨v10, rfl, ho1, hb1⟩; obtain ⟨x_v10, n_v10, c_v10, rfl, ho1⟩ := Row.kN_shape ho1; have KS2 := Lib.hid (show (fun w' => w'.cell? ⟨w.heap.size, 0, none⟩ = some (.slice x_q1 n_q1 c_q1) ∧ Below w.heap.size w w') _ from ⟨Row.kc KS1.out.1 hb1, KS1.out.2.trans (hb1.mono KS1.out.2.size)⟩)) | (go_at_call 8; refine (Row.toLRtK _ l0 _ (Q0.out.on BB.out) (by omega)).mono ?_; rintro e w19 ⟨v9, rfl, ho0, hb0⟩; obtain ⟨x_v9, n_v9, c_v9, rfl, ho0⟩ := Row.kLRt_shape ho0; have KS1 := Lib.hid (show (fun w' => w'.cell? ⟨w.heap.size, 0, none⟩ = some (.slice x_q1 n_q1 c_q1) ∧ Below w.heap.size w w') _ from ⟨Row.kc KS0.out.1 hb0, KS0.out.2.trans (hb0.mono KS0.out.2.size)⟩))))
      clear KS0 KS1 KS2 KS3 ho0 ho1
      replace C_aN := Lib.hid (C_aN.out.on hb0)
      replace C_x1 := Lib.hid (C_x1.out.on hb0)
      replace O_v3 := Lib.hid (O_v3.out.on hb0)
      replace O_v4 := Lib.hid (O_v4.out.on hb0)
      replace O_v5 := Lib.hid (O_v5.out.on hb0)
      replace O_v6 := Lib.hid (O_v6.out.on hb0)
      replace BB := Lib.hid (BB.out.trans (hb0.mono BB.out.size))
      have S21 := Lib.hid (show w18.heap.size ≤ w19.heap.size from (by have h := hb0.size; exact h))
      replace C_aN := Lib.hid (C_aN.out.on hb1)
      replace C_x1 := Lib.hid (C_x1.out.on hb1)
      replace O_v3 := Lib.hid (O_v3.out.on hb1)
      replace O_v4 := Lib.hid (O_v4.out.on hb1)
      replace O_v5 := Lib.hid (O_v5.out.on hb1)
      replace O_v6 := Lib.hid (O_v6.out.on hb1)
      replace BB := Lib.hid (BB.out.trans (hb1.mono BB.out.size))
      have S22 := Lib.hid (show w19.heap.size ≤ w20.heap.size from (by have h := hb1.size; exact h))
      clear hb0 hb1
      have hb := hbr; have ho := hor; clear hbr hor
      obtain ⟨x_v11, n_v11, c_v11, rfl, ho⟩ := Row.kI_shape ho
      replace C_aN := Lib.hid (C_aN.out.on hb)
      replace C_x1 := Lib.hid (C_x1.out.on hb)
      replace O_v3 := Lib.hid (O_v3.out.on hb)
      replace O_v4 := Lib.hid (O_v4.out.on hb)
      replace O_v5 := Lib.hid (O_v5.out.on hb)
      replace O_v6 := Lib.hid (O_v6.out.on hb)
      replace BB := Lib.hid (BB.out.trans (hb.mono BB.out.size))
      have S23 := Lib.hid (show w20.heap.size ≤ w21.heap.size from (by have h := hb.size; exact h))
      have O_v11 := Lib.hid (show Row.kI.In w20.heap.size w21.heap.size w21 (.slice x_v11 n_v11 c_v11) (Row.hopsRt (l0) (l1)) from ho); clear ho
      clear hb
      have c0_aN : w21.cell? ⟨w.heap.size, 0, none⟩ = some (.slice x_q1 n_q1 c_q1) := C_aN.out.cell 0
      have c0_x1 : w21.cell? ⟨w7.heap.size, 0, none⟩ = some (.slice x_v5 n_v5 c_v5) := C_x1.out.cell 0
      go_wp2_with fail
      clear c0_aN c0_x1
      refine (Row.sameI' _ _ (Row.hopsRt (l0) (l1)) _ (O_v11.out.at) (O_v3.out.at) (by first | omega | (simp; omega) | (simp [Row.marks_length, Sl.marks_length, Row.mkW]; omega))).mono ?_
      rintro e w22 ⟨rfl, hb⟩
      replace C_aN := Lib.hid (C_aN.out.on hb)
      replace C_x1 := Lib.hid (C_x1.out.on hb)
      replace O_v3 := Lib.hid (O_v3.out.on hb)
      replace O_v4 := Lib.hid (O_v4.out.on hb)
      replace O_v5 := Lib.hid (O_v5.out.on hb)
      replace O_v6 := Lib.hid (O_v6.out.on hb)
      replace O_v11 := Lib.hid (O_v11.out.on hb)
      replace BB := Lib.hid (BB.out.trans (hb.mono BB.out.size))
      have S24 := Lib.hid (show w21.heap.size ≤ w22.heap.size from (by have h := hb.size; exact h))
      clear hb
      have c0_aN : w22.cell? ⟨w.heap.size, 0, none⟩ = some (.slice x_q1 n_q1 c_q1) := C_aN.out.cell 0
      have c0_x1 : w22.cell? ⟨w7.heap.size, 0, none⟩ = some (.slice x_v5 n_v5 c_v5) := C_x1.out.cell 0
      go_wp2_with fail
      clear c0_aN c0_x1
      refine (Row.heldI _ _ (1) (Row.hopsRt (l0) (l1)) (O_v6.out.at) (by first | omega | (simp; omega) | (simp [Row.marks_length, Sl.marks_length, Row.mkW]; omega)) (by first | omega | (simp; omega) | (simp [Row.marks_length, Sl.marks_length, Row.mkW]; omega)) (by first | omega | (simp; omega) | (simp [Row.marks_length, Sl.marks_length, Row.mkW]; omega))).mono ?_
      rintro e w23 ⟨rfl, hb⟩
      replace C_aN := Lib.hid (C_aN.out.on hb)
      replace C_x1 := Lib.hid (C_x1.out.on hb)
      replace O_v3 := Lib.hid (O_v3.out.on hb)
      replace O_v4 := Lib.hid (O_v4.out.on hb)
      replace O_v5 := Lib.hid (O_v5.out.on hb)
      replace O_v6 := Lib.hid (O_v6.out.on hb)
      replace O_v11 := Lib.hid (O_v11.out.on hb)
      replace BB := Lib.hid (BB.out.trans (hb.mono BB.out.size))
      have S25 := Lib.hid (show w22.heap.size ≤ w23.heap.size from (by have h := hb.size; exact h))
      clear hb
      have c0_aN : w23.cell? ⟨w.heap.size, 0, none⟩ = some (.slice x_q1 n_q1 c_q1) := C_aN.out.cell 0
      have c0_x1 : w23.cell? ⟨w7.heap.size, 0, none⟩ = some (.slice x_v5 n_v5 c_v5) := C_x1.out.cell 0
      go_wp2_with fail
      clear c0_aN c0_x1
      go_ret
      exact ⟨rfl, BB.out⟩
    · -- out
      rw [Row.szL_not (by omega)]
      go_wp2
      go_ret
      exact ⟨rfl, BB.out⟩
  · -- out
    rw [Row.szW_not (by omega)]
    go_wp2
    go_ret
    exact ⟨rfl, BB.out⟩

set_option maxRecDepth 100000 in
theorem lifted (os : Os) (started : os.Started) (H : Type) (enc : TypeId × Value → H) :
    ReturnsInHanded {} Try.checked os 3 .any (Rows.fnExactNextHopsSpec.pre6 enc Try.prog Try.f3 Rows.fnExactNextHopsRow.domain false) (Rows.fnExactNextHopsSpec.post enc Try.prog Try.f3 false true false false) := by
  refine returnsInHanded_of_change_sized (C := Try.checked) own started (by kernel_rfl) Try.func3
    (ChangeSpec.witness6 (enc := enc) (C := Try.checked) false ⟨#[], #[.slice none 0 0, .agg #[.slice none 0 0]], []⟩ 8 (by kernel_rfl) (by kernel_rfl) (by kernel_rfl) (by kernel_rfl)) ?_
  intro W base args ds gs before hval0 hW _ hsz0 _
  have hval : ∀ (j : Nat) t v, Try.f3.params[j]? = some t → args[j]? = some v → Value.okWide Try.prog W .any base t v := hval0
  have hsz : (DataW.weightsEach Try.prog (Try.f3.params.toList ++ Rows.fnExactNextHopsSpec.plain.varTypes Try.prog) (ds ++ gs)).all (· ≤ reachBytes) = true := hsz0
  clear hsz0
  have hW' := hW
  obtain ⟨p, q, hA0, hV, rfl, hfz, hnd⟩ := hW
  have hA : DataW.TrodAll enc Try.prog W 0 (fun _ => true) true Try.f3.params.toList args.toList ds p := hA0
  rw [Try.params3] at hA hval hsz
  obtain ⟨v0, vs0, d0, ds0, p0, q0, hargs, rfl, rfl, h0, r0⟩ := trodAll_cons hA
  obtain ⟨v1, vs1, d1, ds1, p1, q1, rfl, rfl, rfl, h1, r1⟩ := trodAll_cons r0
  obtain ⟨rfl, rfl, rfl⟩ := trodAll_nil r1
  obtain rfl : args = #[v0, v1] := by cases args; simp_all
  obtain ⟨rfl, rfl⟩ := trodVars_none hV
  obtain ⟨l0, q0, n0⟩ := Row.open_sliceK Row.opens_RouteS Try.underlying22 (hval 0 22 v0 rfl rfl) h0
  obtain ⟨y1, l1, rfl, q1, n1, m1⟩ := Row.open_name (t := 25) (e := 23) (s := 9) Try.underlying25 rfl rfl (by kernel_rfl) (by kernel_rfl) Try.underlying23 Try.underlying9 (by kernel_rfl) (hval 1 25 v1 rfl rfl) h1
  clear hA0 hval0
  refine (walk W _ _ q0 n0 n0 _ _ q1 n1 m1).mono fun e W' ⟨he, hb⟩ => ?_
  subst he
  exact ⟨_, rfl, Frame.law_post laidOut (by kernel_rfl) rfl Try.underlying4 rfl rfl hW' hb⟩

theorem said : Rows.FnExactNextHopsSaid :=
  OpenClaim.holds_of_wide 3 Try.f3 rfl rfl rfl rfl rfl rfl rfl ⟨rfl, rfl, rfl, rfl, rfl⟩ rfl rfl rfl rfl rfl (by kernel_rfl) Try.func3 (by kernel_rfl)
    (of_decide_eq_true (by kernel_rfl)) (by unfold Func.isWrapper; first | (rw [if_pos (by decide +kernel)]; kernel_rfl) | (rw [if_neg (by decide +kernel)]; exact ⟨rfl, rfl⟩))
    (fun os started H enc _ => lifted os started H enc)

#print axioms said
end Go.Proofs.Ytdaahcaafdleaab.fnExactNextHops
