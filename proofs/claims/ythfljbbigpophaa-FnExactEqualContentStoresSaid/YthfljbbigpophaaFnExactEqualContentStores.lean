/- EqualContentStores answers as its model for all pairs of content stores, and writes into no argument. No conditions. -/
import Derived.Test.YthfljbbigpophaaRows
import Derived.WalkKit
import Derived.ProofKit
import Derived.OpenShut
import Derived.SizedLaws
import Derived.Test.YthfljbbigpophaaB1
import Derived.Test.YthfljbbigpophaaB4
import Derived.Test.YthfljbbigpophaaB3
namespace Go.Proofs.Ythfljbbigpophaa.fnExactEqualContentStores
open Go.ChangeShapes Go.WideShapes Go.ChangeAt Go.RowKit
open Go.ChangeMaps (open_string shut_string)
set_option linter.unusedVariables false

theorem own : ownKnob Try.prog.godebug = none := by kernel_rfl
theorem laidOut : laidOutB Try.prog = true := by kernel_rfl

set_option maxRecDepth 100000 in
set_option maxHeartbeats 4000000 in
theorem walk (w : World) (y0 : Value) (l0 : Row.Cnt) (q0 : Row.kCn.At w y0 l0) (n0 : Row.inCn l0) (m0 : Row.inCn l0) (y1 : Value) (l1 : Row.Cnt) (q1 : Row.kCn.At w y1 l1) (n1 : Row.inCn l1) (m1 : Row.inCn l1) :
    Calls Try.prog 10 #[y0, y1] w fun e w' => e = .returned (.bool true) ∧ Below w.heap.size w w' := by
  obtain ⟨x_q01, n_q01, c_q01, rfl, q0⟩ := Row.kCn_shapeA q0
  obtain ⟨x_q11, n_q11, c_q11, rfl, q1⟩ := Row.kCn_shapeA q1
  have Q0 := Lib.hid q0; have N0 := Lib.hid n0; clear q0 n0
  have Q1 := Lib.hid q1; have N1 := Lib.hid n1; clear q1 n1
  have hal := (Below.refl w.heap.size w).alloc (Nat.le_refl _) (.cells #[.int .i64 (l0).1, .slice x_q01 n_q01 c_q01] 31)
  have BB := Lib.hid hal
  have C_aA := Lib.hid (Ret.Blk.new' (w := w) #[.int .i64 (l0).1, .slice x_q01 n_q01 c_q01] 31 (n := w.heap.size) (by first | rfl | simp)); clear hal
  have S1 := Lib.hid (show (w.alloc (.cells #[.int .i64 (l0).1, .slice x_q01 n_q01 c_q01] 31)).heap.size = w.heap.size + 1 from World.size_alloc _ _)
  have hal := (Below.refl (w.alloc (.cells #[.int .i64 (l0).1, .slice x_q01 n_q01 c_q01] 31)).heap.size (w.alloc (.cells #[.int .i64 (l0).1, .slice x_q01 n_q01 c_q01] 31))).alloc (Nat.le_refl _) (.cells #[.int .i64 (l1).1, .slice x_q11 n_q11 c_q11] 31)
  replace C_aA := Lib.hid (C_aA.out.on hal)
  replace BB := Lib.hid (BB.out.trans (hal.mono BB.out.size))
  have C_aB := Lib.hid (Ret.Blk.new' (w := (w.alloc (.cells #[.int .i64 (l0).1, .slice x_q01 n_q01 c_q01] 31))) #[.int .i64 (l1).1, .slice x_q11 n_q11 c_q11] 31 (n := w.heap.size + 1) (by first | rfl | simp)); clear hal
  have S2 := Lib.hid (show ((w.alloc (.cells #[.int .i64 (l0).1, .slice x_q01 n_q01 c_q01] 31)).alloc (.cells #[.int .i64 (l1).1, .slice x_q11 n_q11 c_q11] 31)).heap.size = (w.alloc (.cells #[.int .i64 (l0).1, .slice x_q01 n_q01 c_q01] 31)).heap.size + 1 from World.size_alloc _ _)
  go_enter Try.func10, Try.ntmps10
  have c0_aA : ((w.alloc (.cells #[.int .i64 (l0).1, .slice x_q01 n_q01 c_q01] 31)).alloc (.cells #[.int .i64 (l1).1, .slice x_q11 n_q11 c_q11] 31)).cell? ⟨w.heap.size, 0, none⟩ = some (.int .i64 (l0).1) := C_aA.out.cell 0
  have c1_aA : ((w.alloc (.cells #[.int .i64 (l0).1, .slice x_q01 n_q01 c_q01] 31)).alloc (.cells #[.int .i64 (l1).1, .slice x_q11 n_q11 c_q11] 31)).cell? ⟨w.heap.size, 1, none⟩ = some (.slice x_q01 n_q01 c_q01) := C_aA.out.cell 1
  have c0_aB : ((w.alloc (.cells #[.int .i64 (l0).1, .slice x_q01 n_q01 c_q01] 31)).alloc (.cells #[.int .i64 (l1).1, .slice x_q11 n_q11 c_q11] 31)).cell? ⟨w.heap.size + 1, 0, none⟩ = some (.int .i64 (l1).1) := C_aB.out.cell 0
  have c1_aB : ((w.alloc (.cells #[.int .i64 (l0).1, .slice x_q01 n_q01 c_q01] 31)).alloc (.cells #[.int .i64 (l1).1, .slice x_q11 n_q11 c_q11] 31)).cell? ⟨w.heap.size + 1, 1, none⟩ = some (.slice x_q11 n_q11 c_q11) := C_aB.out.cell 1
  go_wp2_with fail
  clear c0_aA c1_aA c0_aB c1_aB
  refine (Row.szCnK _ l0 _ (1048576) (Q0.out.on BB.out) m0 N0.out (by omega) (by omega)).mono ?_
  rintro e w1 ⟨rfl, hb⟩
  replace C_aA := Lib.hid (C_aA.out.on hb)
  replace C_aB := Lib.hid (C_aB.out.on hb)
  replace BB := Lib.hid (BB.out.trans (hb.mono BB.out.size))
  have S3 := Lib.hid (show ((w.alloc (.cells #[.int .i64 (l0).1, .slice x_q01 n_q01 c_q01] 31)).alloc (.cells #[.int .i64 (l1).1, .slice x_q11 n_q11 c_q11] 31)).heap.size ≤ w1.heap.size from (by have h := hb.size; exact h))
  clear hb
  by_cases t0 : (Row.wtCn l0 : Int) ≤ 1048576
  · -- in
    rw [Row.szW_fit t0]
    have b0 : Row.wtCn l0 ≤ 1048576 := by omega
    have d0 : Row.adCn (l0) ≤ 1048576 := Row.adCn_big b0
    have g0 : ¬ 1048576 - (Row.wtCn l0 : Int) < 0 := by omega
    have c0_aA : w1.cell? ⟨w.heap.size, 0, none⟩ = some (.int .i64 (l0).1) := C_aA.out.cell 0
    have c1_aA : w1.cell? ⟨w.heap.size, 1, none⟩ = some (.slice x_q01 n_q01 c_q01) := C_aA.out.cell 1
    have c0_aB : w1.cell? ⟨w.heap.size + 1, 0, none⟩ = some (.int .i64 (l1).1) := C_aB.out.cell 0
    have c1_aB : w1.cell? ⟨w.heap.size + 1, 1, none⟩ = some (.slice x_q11 n_q11 c_q11) := C_aB.out.cell 1
    go_wp2_with fail
    clear c0_aA c1_aA c0_aB c1_aB
    refine (Row.szCnK _ l1 _ (1048576 - (Row.wtCn l0 : Int)) (Q1.out.on BB.out) m1 N1.out (by omega) (by omega)).mono ?_
    rintro e w2 ⟨rfl, hb⟩
    replace C_aA := Lib.hid (C_aA.out.on hb)
    replace C_aB := Lib.hid (C_aB.out.on hb)
    replace BB := Lib.hid (BB.out.trans (hb.mono BB.out.size))
    have S4 := Lib.hid (show w1.heap.size ≤ w2.heap.size from (by have h := hb.size; exact h))
    clear hb
    by_cases t1 : (Row.wtCn l1 : Int) ≤ 1048576 - (Row.wtCn l0 : Int)
    · -- in
      rw [Row.szW_fit t1]
      have b1 : Row.wtCn l1 ≤ 1048576 := by omega
      have d1 : Row.adCn (l1) ≤ 1048576 := Row.adCn_big b1
      have g1 : ¬ 1048576 - (Row.wtCn l0 : Int) - (Row.wtCn l1 : Int) < 0 := by omega
      have c0_aA : w2.cell? ⟨w.heap.size, 0, none⟩ = some (.int .i64 (l0).1) := C_aA.out.cell 0
      have c1_aA : w2.cell? ⟨w.heap.size, 1, none⟩ = some (.slice x_q01 n_q01 c_q01) := C_aA.out.cell 1
      have c0_aB : w2.cell? ⟨w.heap.size + 1, 0, none⟩ = some (.int .i64 (l1).1) := C_aB.out.cell 0
      have c1_aB : w2.cell? ⟨w.heap.size + 1, 1, none⟩ = some (.slice x_q11 n_q11 c_q11) := C_aB.out.cell 1
      go_wp2_with fail
      clear c0_aA c1_aA c0_aB c1_aB
      have hdr : Below w2.heap.size w2 w2.drew := (Below.refl _ _).drew
      replace C_aA := Lib.hid (C_aA.out.on hdr)
      replace C_aB := Lib.hid (C_aB.out.on hdr)
      replace BB := Lib.hid (BB.out.trans (hdr.mono BB.out.size))
      clear hdr
      have KS0 := Lib.hid (show w2.drew.cell? ⟨w.heap.size, 0, none⟩ = some (.int .i64 (l0).1) ∧ w2.drew.cell? ⟨w.heap.size, 1, none⟩ = some (.slice x_q01 n_q01 c_q01) ∧ w2.drew.cell? ⟨w.heap.size + 1, 0, none⟩ = some (.int .i64 (l1).1) ∧ w2.drew.cell? ⟨w.heap.size + 1, 1, none⟩ = some (.slice x_q11 n_q11 c_q11) ∧ Below w.heap.size w w2.drew from ⟨C_aA.out.cell 0, C_aA.out.cell 1, C_aB.out.cell 0, C_aB.out.cell 1, BB.out⟩)
      go_region_held3 (fun w' => w'.cell? ⟨w.heap.size, 0, none⟩ = some (.int .i64 (l0).1) ∧ w'.cell? ⟨w.heap.size, 1, none⟩ = some (.slice x_q01 n_q01 c_q01) ∧ w'.cell? ⟨w.heap.size + 1, 0, none⟩ = some (.int .i64 (l1).1) ∧ w'.cell? ⟨w.heap.size + 1, 1, none⟩ = some (.slice x_q11 n_q11 c_q11) ∧ Below w.heap.size w w') (first | exact KS0.out | exact KS1.out | exact KS2.out | exact KS3.out) ((first | (go_at_call 42; refine (Row.specEqualCn _ _ (l0) (l1) _ _ rfl (ho0.at.on hb1) ho1.at N0.out N1.out (show Row.wtCn (l0) ≤ 1100000 by omega) (show Row.wtCn (l1) ≤ 1100000 by omega)).mono ?_; rintro e w5 ⟨rfl, hbr⟩; have KS3 := Lib.hid (show (fun w' => w'.cell? ⟨w.heap.size, 0, none⟩ = some (.int .i64 (l0).1) ∧ w'.cell? ⟨w.heap.size, 1, none⟩ = some (.slice x_q01 n_q01 c_q01) ∧ w'.cell? ⟨w.heap.size + 1, 0, none⟩ = some (.int .i64 (l1).1) ∧ w'.cell? ⟨w.heap.size + 1, 1, none⟩ = some (.slice x_q11 n_q11 c_q11) ∧ Below w.heap.size w w') _ from ⟨Row.kc KS2.out.1 hbr, Row.kc KS2.out.2.1 hbr, Row.kc KS2.out.2.2.1 hbr, Row.kc KS2.out.2.2.2.1 hbr, KS2.out.2.2.2.2.trans (hbr.mono KS2.out.2.2.2.2.size)⟩)) | (go_at_call 18; refine (Row.toContentStoreK _ l1 _ ((Q1.out.on BB.out).on hb0) (by omega)).mono ?_; rintro e w4 ⟨v2, rfl, ho1, hb1⟩; obtain ⟨x_v21, n_v21, c_v21, rfl, ho1⟩ := Row.kCn_shape ho1; have KS2 := Lib.hid (show (fun w' => w'.cell? ⟨w.heap.size, 0, none⟩ = some (.int .i64 (l0).1) ∧ w'.cell? ⟨w.heap.size, 1, none⟩ = some (.slice x_q01 n_q01 c_q01) ∧ w'.cell? ⟨w.heap.size + 1, 0, none⟩ = some (.int .i64 (l1).1) ∧ w'.cell? ⟨w.heap.size + 1, 1, none⟩ = some (.slice x_q11 n_q11 c_q11) ∧ Below w.heap.size w w') _ from ⟨Row.kc KS1.out.1 hb1, Row.kc KS1.out.2.1 hb1, Row.kc KS1.out.2.2.1 hb1, Row.kc KS1.out.2.2.2.1 hb1, KS1.out.2.2.2.2.trans (hb1.mono KS1.out.2.2.2.2.size)⟩)) | (go_at_call 18; refine (Row.toContentStoreK _ l0 _ (Q0.out.on BB.out) (by omega)).mono ?_; rintro e w3 ⟨v1, rfl, ho0, hb0⟩; obtain ⟨x_v11, n_v11, c_v11, rfl, ho0⟩ := Row.kCn_shape ho0; have KS1 := Lib.hid (show (fun w' => w'.cell? ⟨w.heap.size, 0, none⟩ = some (.int .i64 (l0).1) ∧ w'.cell? ⟨w.heap.size, 1, none⟩ = some (.slice x_q01 n_q01 c_q01) ∧ w'.cell? ⟨w.heap.size + 1, 0, none⟩ = some (.int .i64 (l1).1) ∧ w'.cell? ⟨w.heap.size + 1, 1, none⟩ = some (.slice x_q11 n_q11 c_q11) ∧ Below w.heap.size w w') _ from ⟨Row.kc KS0.out.1 hb0, Row.kc KS0.out.2.1 hb0, Row.kc KS0.out.2.2.1 hb0, Row.kc KS0.out.2.2.2.1 hb0, KS0.out.2.2.2.2.trans (hb0.mono KS0.out.2.2.2.2.size)⟩))))
      clear KS0 KS1 KS2 KS3 ho0 ho1
      replace C_aA := Lib.hid (C_aA.out.on hb0)
      replace C_aB := Lib.hid (C_aB.out.on hb0)
      replace BB := Lib.hid (BB.out.trans (hb0.mono BB.out.size))
      have S5 := Lib.hid (show w2.heap.size ≤ w3.heap.size from (by have h := hb0.size; exact h))
      replace C_aA := Lib.hid (C_aA.out.on hb1)
      replace C_aB := Lib.hid (C_aB.out.on hb1)
      replace BB := Lib.hid (BB.out.trans (hb1.mono BB.out.size))
      have S6 := Lib.hid (show w3.heap.size ≤ w4.heap.size from (by have h := hb1.size; exact h))
      clear hb0 hb1
      replace C_aA := Lib.hid (C_aA.out.on hbr)
      replace C_aB := Lib.hid (C_aB.out.on hbr)
      replace BB := Lib.hid (BB.out.trans (hbr.mono BB.out.size))
      have S7 := Lib.hid (show w4.heap.size ≤ w5.heap.size from (by have h := hbr.size; exact h))
      clear hbr
      have c0_aA : w5.cell? ⟨w.heap.size, 0, none⟩ = some (.int .i64 (l0).1) := C_aA.out.cell 0
      have c1_aA : w5.cell? ⟨w.heap.size, 1, none⟩ = some (.slice x_q01 n_q01 c_q01) := C_aA.out.cell 1
      have c0_aB : w5.cell? ⟨w.heap.size + 1, 0, none⟩ = some (.int .i64 (l1).1) := C_aB.out.cell 0
      have c1_aB : w5.cell? ⟨w.heap.size + 1, 1, none⟩ = some (.slice x_q11 n_q11 c_q11) := C_aB.out.cell 1
      go_wp2_with fail
      clear c0_aA c1_aA c0_aB c1_aB
      refine (Row.toContentStoreK _ l0 _ (Q0.out.on BB.out) (by omega)).mono ?_
      rintro e w6 ⟨v3, rfl, ho, hb⟩
      obtain ⟨x_v31, n_v31, c_v31, rfl, ho⟩ := Row.kCn_shape ho
      replace C_aA := Lib.hid (C_aA.out.on hb)
      replace C_aB := Lib.hid (C_aB.out.on hb)
      replace BB := Lib.hid (BB.out.trans (hb.mono BB.out.size))
      have S8 := Lib.hid (show w5.heap.size ≤ w6.heap.size from (by have h := hb.size; exact h))
      have O_v3 := Lib.hid (show Row.kCn.In w5.heap.size w6.heap.size w6 (.agg #[.int .i64 (l0).1, .slice x_v31 n_v31 c_v31]) (l0) from ho); clear ho
      clear hb
      have hal := (Below.refl w6.heap.size w6).alloc (Nat.le_refl _) (.cells #[.int .i64 (l0).1, .slice x_v31 n_v31 c_v31] 24)
      replace C_aA := Lib.hid (C_aA.out.on hal)
      replace C_aB := Lib.hid (C_aB.out.on hal)
      replace O_v3 := Lib.hid (O_v3.out.on hal)
      replace BB := Lib.hid (BB.out.trans (hal.mono BB.out.size))
      have S9 := Lib.hid (show (w6.alloc (.cells #[.int .i64 (l0).1, .slice x_v31 n_v31 c_v31] 24)).heap.size = w6.heap.size + 1 from World.size_alloc _ _)
      have C_x0 := Lib.hid (Ret.Blk.new w6 #[.int .i64 (l0).1, .slice x_v31 n_v31 c_v31] 24); clear hal
      have c0_aA : (w6.alloc (.cells #[.int .i64 (l0).1, .slice x_v31 n_v31 c_v31] 24)).cell? ⟨w.heap.size, 0, none⟩ = some (.int .i64 (l0).1) := C_aA.out.cell 0
      have c1_aA : (w6.alloc (.cells #[.int .i64 (l0).1, .slice x_v31 n_v31 c_v31] 24)).cell? ⟨w.heap.size, 1, none⟩ = some (.slice x_q01 n_q01 c_q01) := C_aA.out.cell 1
      have c0_aB : (w6.alloc (.cells #[.int .i64 (l0).1, .slice x_v31 n_v31 c_v31] 24)).cell? ⟨w.heap.size + 1, 0, none⟩ = some (.int .i64 (l1).1) := C_aB.out.cell 0
      have c1_aB : (w6.alloc (.cells #[.int .i64 (l0).1, .slice x_v31 n_v31 c_v31] 24)).cell? ⟨w.heap.size + 1, 1, none⟩ = some (.slice x_q11 n_q11 c_q11) := C_aB.out.cell 1
      have c0_x0 : (w6.alloc (.cells #[.int .i64 (l0).1, .slice x_v31 n_v31 c_v31] 24)).cell? ⟨w6.heap.size, 0, none⟩ = some (.int .i64 (l0).1) := C_x0.out.cell 0
      have c1_x0 : (w6.alloc (.cells #[.int .i64 (l0).1, .slice x_v31 n_v31 c_v31] 24)).cell? ⟨w6.heap.size, 1, none⟩ = some (.slice x_v31 n_v31 c_v31) := C_x0.out.cell 1
      go_wp2_with fail
      clear c0_aA c1_aA c0_aB c1_aB c0_x0 c1_x0
      refine (Row.toContentStoreK _ l1 _ (Q1.out.on BB.out) (by omega)).mono ?_
      rintro e w7 ⟨v4, rfl, ho, hb⟩
      obtain ⟨x_v41, n_v41, c_v41, rfl, ho⟩ := Row.kCn_shape ho
      replace C_aA := Lib.hid (C_aA.out.on hb)
      replace C_aB := Lib.hid (C_aB.out.on hb)
      replace C_x0 := Lib.hid (C_x0.out.on hb)
      replace O_v3 := Lib.hid (O_v3.out.on hb)
      replace BB := Lib.hid (BB.out.trans (hb.mono BB.out.size))
      have S10 := Lib.hid (show (w6.alloc (.cells #[.int .i64 (l0).1, .slice x_v31 n_v31 c_v31] 24)).heap.size ≤ w7.heap.size from (by have h := hb.size; exact h))
      have O_v4 := Lib.hid (show Row.kCn.In (w6.alloc (.cells #[.int .i64 (l0).1, .slice x_v31 n_v31 c_v31] 24)).heap.size w7.heap.size w7 (.agg #[.int .i64 (l1).1, .slice x_v41 n_v41 c_v41]) (l1) from ho); clear ho
      clear hb
      have hal := (Below.refl w7.heap.size w7).alloc (Nat.le_refl _) (.cells #[.int .i64 (l1).1, .slice x_v41 n_v41 c_v41] 24)
      replace C_aA := Lib.hid (C_aA.out.on hal)
      replace C_aB := Lib.hid (C_aB.out.on hal)
      replace C_x0 := Lib.hid (C_x0.out.on hal)
      replace O_v3 := Lib.hid (O_v3.out.on hal)
      replace O_v4 := Lib.hid (O_v4.out.on hal)
      replace BB := Lib.hid (BB.out.trans (hal.mono BB.out.size))
      have S11 := Lib.hid (show (w7.alloc (.cells #[.int .i64 (l1).1, .slice x_v41 n_v41 c_v41] 24)).heap.size = w7.heap.size + 1 from World.size_alloc _ _)
      have C_x1 := Lib.hid (Ret.Blk.new w7 #[.int .i64 (l1).1, .slice x_v41 n_v41 c_v41] 24); clear hal
      have c0_aA : (w7.alloc (.cells #[.int .i64 (l1).1, .slice x_v41 n_v41 c_v41] 24)).cell? ⟨w.heap.size, 0, none⟩ = some (.int .i64 (l0).1) := C_aA.out.cell 0
      have c1_aA : (w7.alloc (.cells #[.int .i64 (l1).1, .slice x_v41 n_v41 c_v41] 24)).cell? ⟨w.heap.size, 1, none⟩ = some (.slice x_q01 n_q01 c_q01) := C_aA.out.cell 1
      have c0_aB : (w7.alloc (.cells #[.int .i64 (l1).1, .slice x_v41 n_v41 c_v41] 24)).cell? ⟨w.heap.size + 1, 0, none⟩ = some (.int .i64 (l1).1) := C_aB.out.cell 0
      have c1_aB : (w7.alloc (.cells #[.int .i64 (l1).1, .slice x_v41 n_v41 c_v41] 24)).cell? ⟨w.heap.size + 1, 1, none⟩ = some (.slice x_q11 n_q11 c_q11) := C_aB.out.cell 1
      have c0_x0 : (w7.alloc (.cells #[.int .i64 (l1).1, .slice x_v41 n_v41 c_v41] 24)).cell? ⟨w6.heap.size, 0, none⟩ = some (.int .i64 (l0).1) := C_x0.out.cell 0
      have c1_x0 : (w7.alloc (.cells #[.int .i64 (l1).1, .slice x_v41 n_v41 c_v41] 24)).cell? ⟨w6.heap.size, 1, none⟩ = some (.slice x_v31 n_v31 c_v31) := C_x0.out.cell 1
      have c0_x1 : (w7.alloc (.cells #[.int .i64 (l1).1, .slice x_v41 n_v41 c_v41] 24)).cell? ⟨w7.heap.size, 0, none⟩ = some (.int .i64 (l1).1) := C_x1.out.cell 0
      have c1_x1 : (w7.alloc (.cells #[.int .i64 (l1).1, .slice x_v41 n_v41 c_v41] 24)).cell? ⟨w7.heap.size, 1, none⟩ = some (.slice x_v41 n_v41 c_v41) := C_x1.out.cell 1
      go_wp2_with fail
      clear c0_aA c1_aA c0_aB c1_aB c0_x0 c1_x0 c0_x1 c1_x1
      refine (Row.implEqualCn _ _ (l0) (l1) _ _ rfl (O_v3.out.at) (O_v4.out.at) N0.out N1.out (show Row.wtCn (l0) ≤ 1100000 by omega) (show Row.wtCn (l1) ≤ 1100000 by omega)).mono ?_
      rintro e w8 ⟨rfl, hb⟩
      replace C_aA := Lib.hid (C_aA.out.on hb)
      replace C_aB := Lib.hid (C_aB.out.on hb)
      replace C_x0 := Lib.hid (C_x0.out.on hb)
      replace C_x1 := Lib.hid (C_x1.out.on hb)
      replace O_v3 := Lib.hid (O_v3.out.on hb)
      replace O_v4 := Lib.hid (O_v4.out.on hb)
      replace BB := Lib.hid (BB.out.trans (hb.mono BB.out.size))
      have S12 := Lib.hid (show (w7.alloc (.cells #[.int .i64 (l1).1, .slice x_v41 n_v41 c_v41] 24)).heap.size ≤ w8.heap.size from (by have h := hb.size; exact h))
      clear hb
      have c0_aA : w8.cell? ⟨w.heap.size, 0, none⟩ = some (.int .i64 (l0).1) := C_aA.out.cell 0
      have c1_aA : w8.cell? ⟨w.heap.size, 1, none⟩ = some (.slice x_q01 n_q01 c_q01) := C_aA.out.cell 1
      have c0_aB : w8.cell? ⟨w.heap.size + 1, 0, none⟩ = some (.int .i64 (l1).1) := C_aB.out.cell 0
      have c1_aB : w8.cell? ⟨w.heap.size + 1, 1, none⟩ = some (.slice x_q11 n_q11 c_q11) := C_aB.out.cell 1
      have c0_x0 : w8.cell? ⟨w6.heap.size, 0, none⟩ = some (.int .i64 (l0).1) := C_x0.out.cell 0
      have c1_x0 : w8.cell? ⟨w6.heap.size, 1, none⟩ = some (.slice x_v31 n_v31 c_v31) := C_x0.out.cell 1
      have c0_x1 : w8.cell? ⟨w7.heap.size, 0, none⟩ = some (.int .i64 (l1).1) := C_x1.out.cell 0
      have c1_x1 : w8.cell? ⟨w7.heap.size, 1, none⟩ = some (.slice x_v41 n_v41 c_v41) := C_x1.out.cell 1
      go_wp2_with fail
      clear c0_aA c1_aA c0_aB c1_aB c0_x0 c1_x0 c0_x1 c1_x1
      have hdr : Below w8.heap.size w8 w8.drew := (Below.refl _ _).drew
      replace C_aA := Lib.hid (C_aA.out.on hdr)
      replace C_aB := Lib.hid (C_aB.out.on hdr)
      replace C_x0 := Lib.hid (C_x0.out.on hdr)
      replace C_x1 := Lib.hid (C_x1.out.on hdr)
      replace O_v3 := Lib.hid (O_v3.out.on hdr)
      replace O_v4 := Lib.hid (O_v4.out.on hdr)
      replace BB := Lib.hid (BB.out.trans (hdr.mono BB.out.size))
      clear hdr
      have KS0 := Lib.hid (show w8.drew.cell? ⟨w6.heap.size, 0, none⟩ = some (.int .i64 (l0).1) ∧ w8.drew.cell? ⟨w6.heap.size, 1, none⟩ = some (.slice x_v31 n_v31 c_v31) ∧ w8.drew.cell? ⟨w.heap.size, 0, none⟩ = some (.int .i64 (l0).1) ∧ w8.drew.cell? ⟨w.heap.size, 1, none⟩ = some (.slice x_q01 n_q01 c_q01) ∧ Below w.heap.size w w8.drew from ⟨C_x0.out.cell 0, C_x0.out.cell 1, C_aA.out.cell 0, C_aA.out.cell 1, BB.out⟩)
      go_region_held3 (fun w' => w'.cell? ⟨w6.heap.size, 0, none⟩ = some (.int .i64 (l0).1) ∧ w'.cell? ⟨w6.heap.size, 1, none⟩ = some (.slice x_v31 n_v31 c_v31) ∧ w'.cell? ⟨w.heap.size, 0, none⟩ = some (.int .i64 (l0).1) ∧ w'.cell? ⟨w.heap.size, 1, none⟩ = some (.slice x_q01 n_q01 c_q01) ∧ Below w.heap.size w w') (first | exact KS0.out | exact KS1.out | exact KS2.out) ((first | (go_at_call 13; refine (Row.sameCnK _ _ (l0) _ ((O_v3.out.at).on hba) hoa.at (by first | omega | (simp; omega) | (simp [Row.marks_length, Sl.marks_length, Row.mkW]; omega))).mono ?_; rintro e w10 ⟨rfl, hbb⟩; have KS2 := Lib.hid (show (fun w' => w'.cell? ⟨w6.heap.size, 0, none⟩ = some (.int .i64 (l0).1) ∧ w'.cell? ⟨w6.heap.size, 1, none⟩ = some (.slice x_v31 n_v31 c_v31) ∧ w'.cell? ⟨w.heap.size, 0, none⟩ = some (.int .i64 (l0).1) ∧ w'.cell? ⟨w.heap.size, 1, none⟩ = some (.slice x_q01 n_q01 c_q01) ∧ Below w.heap.size w w') _ from ⟨Row.kc KS1.out.1 hbb, Row.kc KS1.out.2.1 hbb, Row.kc KS1.out.2.2.1 hbb, Row.kc KS1.out.2.2.2.1 hbb, KS1.out.2.2.2.2.trans (hbb.mono KS1.out.2.2.2.2.size)⟩)) | (go_at_call 18; refine (Row.toContentStoreK _ l0 _ (Q0.out.on BB.out) (by omega)).mono ?_; rintro e w9 ⟨v5, rfl, hoa, hba⟩; obtain ⟨x_v51, n_v51, c_v51, rfl, hoa⟩ := Row.kCn_shape hoa; have KS1 := Lib.hid (show (fun w' => w'.cell? ⟨w6.heap.size, 0, none⟩ = some (.int .i64 (l0).1) ∧ w'.cell? ⟨w6.heap.size, 1, none⟩ = some (.slice x_v31 n_v31 c_v31) ∧ w'.cell? ⟨w.heap.size, 0, none⟩ = some (.int .i64 (l0).1) ∧ w'.cell? ⟨w.heap.size, 1, none⟩ = some (.slice x_q01 n_q01 c_q01) ∧ Below w.heap.size w w') _ from ⟨Row.kc KS0.out.1 hba, Row.kc KS0.out.2.1 hba, Row.kc KS0.out.2.2.1 hba, Row.kc KS0.out.2.2.2.1 hba, KS0.out.2.2.2.2.trans (hba.mono KS0.out.2.2.2.2.size)⟩))))
      clear KS0 KS1 KS2 hoa
      replace C_aA := Lib.hid (C_aA.out.on hba)
      replace C_aB := Lib.hid (C_aB.out.on hba)
      replace C_x0 := Lib.hid (C_x0.out.on hba)
      replace C_x1 := Lib.hid (C_x1.out.on hba)
      replace O_v3 := Lib.hid (O_v3.out.on hba)
      replace O_v4 := Lib.hid (O_v4.out.on hba)
      replace BB := Lib.hid (BB.out.trans (hba.mono BB.out.size))
      have S13 := Lib.hid (show w8.heap.size ≤ w9.heap.size from (by have h := hba.size; exact h))
      replace C_aA := Lib.hid (C_aA.out.on hbb)
      replace C_aB := Lib.hid (C_aB.out.on hbb)
      replace C_x0 := Lib.hid (C_x0.out.on hbb)
      replace C_x1 := Lib.hid (C_x1.out.on hbb)
      replace O_v3 := Lib.hid (O_v3.out.on hbb)
      replace O_v4 := Lib.hid (O_v4.out.on hbb)
      replace BB := Lib.hid (BB.out.trans (hbb.mono BB.out.size))
      have S14 := Lib.hid (show w9.heap.size ≤ w10.heap.size from (by have h := hbb.size; exact h))
      clear hba hbb
      have c0_aA : w10.cell? ⟨w.heap.size, 0, none⟩ = some (.int .i64 (l0).1) := C_aA.out.cell 0
      have c1_aA : w10.cell? ⟨w.heap.size, 1, none⟩ = some (.slice x_q01 n_q01 c_q01) := C_aA.out.cell 1
      have c0_aB : w10.cell? ⟨w.heap.size + 1, 0, none⟩ = some (.int .i64 (l1).1) := C_aB.out.cell 0
      have c1_aB : w10.cell? ⟨w.heap.size + 1, 1, none⟩ = some (.slice x_q11 n_q11 c_q11) := C_aB.out.cell 1
      have c0_x0 : w10.cell? ⟨w6.heap.size, 0, none⟩ = some (.int .i64 (l0).1) := C_x0.out.cell 0
      have c1_x0 : w10.cell? ⟨w6.heap.size, 1, none⟩ = some (.slice x_v31 n_v31 c_v31) := C_x0.out.cell 1
      have c0_x1 : w10.cell? ⟨w7.heap.size, 0, none⟩ = some (.int .i64 (l1).1) := C_x1.out.cell 0
      have c1_x1 : w10.cell? ⟨w7.heap.size, 1, none⟩ = some (.slice x_v41 n_v41 c_v41) := C_x1.out.cell 1
      go_wp2_with fail
      clear c0_aA c1_aA c0_aB c1_aB c0_x0 c1_x0 c0_x1 c1_x1
      have hdr : Below w10.heap.size w10 w10.drew := (Below.refl _ _).drew
      replace C_aA := Lib.hid (C_aA.out.on hdr)
      replace C_aB := Lib.hid (C_aB.out.on hdr)
      replace C_x0 := Lib.hid (C_x0.out.on hdr)
      replace C_x1 := Lib.hid (C_x1.out.on hdr)
      replace O_v3 := Lib.hid (O_v3.out.on hdr)
      replace O_v4 := Lib.hid (O_v4.out.on hdr)
      replace BB := Lib.hid (BB.out.trans (hdr.mono BB.out.size))
      clear hdr
      have KS0 := Lib.hid (show w10.drew.cell? ⟨w7.heap.size, 0, none⟩ = some (.int .i64 (l1).1) ∧ w10.drew.cell? ⟨w7.heap.size, 1, none⟩ = some (.slice x_v41 n_v41 c_v41) ∧ w10.drew.cell? ⟨w.heap.size + 1, 0, none⟩ = some (.int .i64 (l1).1) ∧ w10.drew.cell? ⟨w.heap.size + 1, 1, none⟩ = some (.slice x_q11 n_q11 c_q11) ∧ Below w.heap.size w w10.drew from ⟨C_x1.out.cell 0, C_x1.out.cell 1, C_aB.out.cell 0, C_aB.out.cell 1, BB.out⟩)
      go_region_held3 (fun w' => w'.cell? ⟨w7.heap.size, 0, none⟩ = some (.int .i64 (l1).1) ∧ w'.cell? ⟨w7.heap.size, 1, none⟩ = some (.slice x_v41 n_v41 c_v41) ∧ w'.cell? ⟨w.heap.size + 1, 0, none⟩ = some (.int .i64 (l1).1) ∧ w'.cell? ⟨w.heap.size + 1, 1, none⟩ = some (.slice x_q11 n_q11 c_q11) ∧ Below w.heap.size w w') (first | exact KS0.out | exact KS1.out | exact KS2.out) ((first | (go_at_call 13; refine (Row.sameCnK _ _ (l1) _ ((O_v4.out.at).on hba) hoa.at (by first | omega | (simp; omega) | (simp [Row.marks_length, Sl.marks_length, Row.mkW]; omega))).mono ?_; rintro e w12 ⟨rfl, hbb⟩; have KS2 := Lib.hid (show (fun w' => w'.cell? ⟨w7.heap.size, 0, none⟩ = some (.int .i64 (l1).1) ∧ w'.cell? ⟨w7.heap.size, 1, none⟩ = some (.slice x_v41 n_v41 c_v41) ∧ w'.cell? ⟨w.heap.size + 1, 0, none⟩ = some (.int .i64 (l1).1) ∧ w'.cell? ⟨w.heap.size + 1, 1, none⟩ = some (.slice x_q11 n_q11 c_q11) ∧ Below w.heap.size w w') _ from ⟨Row.kc KS1.out.1 hbb, Row.kc KS1.out.2.1 hbb, Row.kc KS1.out.2.2.1 hbb, Row.kc KS1.out.2.2.2.1 hbb, KS1.out.2.2.2.2.trans (hbb.mono KS1.out.2.2.2.2.size)⟩)) | (go_at_call 18; refine (Row.toContentStoreK _ l1 _ (Q1.out.on BB.out) (by omega)).mono ?_; rintro e w11 ⟨v6, rfl, hoa, hba⟩; obtain ⟨x_v61, n_v61, c_v61, rfl, hoa⟩ := Row.kCn_shape hoa; have KS1 := Lib.hid (show (fun w' => w'.cell? ⟨w7.heap.size, 0, none⟩ = some (.int .i64 (l1).1) ∧ w'.cell? ⟨w7.heap.size, 1, none⟩ = some (.slice x_v41 n_v41 c_v41) ∧ w'.cell? ⟨w.heap.size + 1, 0, none⟩ = some (.int .i64 (l1).1) ∧ w'.cell? ⟨w.heap.size + 1, 1, none⟩ = some (.slice x_q11 n_q11 c_q11) ∧ Below w.heap.size w w') _ from ⟨Row.kc KS0.out.1 hba, Row.kc KS0.out.2.1 hba, Row.kc KS0.out.2.2.1 hba, Row.kc KS0.out.2.2.2.1 hba, KS0.out.2.2.2.2.trans (hba.mono KS0.out.2.2.2.2.size)⟩))))
      clear KS0 KS1 KS2 hoa
      replace C_aA := Lib.hid (C_aA.out.on hba)
      replace C_aB := Lib.hid (C_aB.out.on hba)
      replace C_x0 := Lib.hid (C_x0.out.on hba)
      replace C_x1 := Lib.hid (C_x1.out.on hba)
      replace O_v3 := Lib.hid (O_v3.out.on hba)
      replace O_v4 := Lib.hid (O_v4.out.on hba)
      replace BB := Lib.hid (BB.out.trans (hba.mono BB.out.size))
      have S15 := Lib.hid (show w10.heap.size ≤ w11.heap.size from (by have h := hba.size; exact h))
      replace C_aA := Lib.hid (C_aA.out.on hbb)
      replace C_aB := Lib.hid (C_aB.out.on hbb)
      replace C_x0 := Lib.hid (C_x0.out.on hbb)
      replace C_x1 := Lib.hid (C_x1.out.on hbb)
      replace O_v3 := Lib.hid (O_v3.out.on hbb)
      replace O_v4 := Lib.hid (O_v4.out.on hbb)
      replace BB := Lib.hid (BB.out.trans (hbb.mono BB.out.size))
      have S16 := Lib.hid (show w11.heap.size ≤ w12.heap.size from (by have h := hbb.size; exact h))
      clear hba hbb
      have c0_aA : w12.cell? ⟨w.heap.size, 0, none⟩ = some (.int .i64 (l0).1) := C_aA.out.cell 0
      have c1_aA : w12.cell? ⟨w.heap.size, 1, none⟩ = some (.slice x_q01 n_q01 c_q01) := C_aA.out.cell 1
      have c0_aB : w12.cell? ⟨w.heap.size + 1, 0, none⟩ = some (.int .i64 (l1).1) := C_aB.out.cell 0
      have c1_aB : w12.cell? ⟨w.heap.size + 1, 1, none⟩ = some (.slice x_q11 n_q11 c_q11) := C_aB.out.cell 1
      have c0_x0 : w12.cell? ⟨w6.heap.size, 0, none⟩ = some (.int .i64 (l0).1) := C_x0.out.cell 0
      have c1_x0 : w12.cell? ⟨w6.heap.size, 1, none⟩ = some (.slice x_v31 n_v31 c_v31) := C_x0.out.cell 1
      have c0_x1 : w12.cell? ⟨w7.heap.size, 0, none⟩ = some (.int .i64 (l1).1) := C_x1.out.cell 0
      have c1_x1 : w12.cell? ⟨w7.heap.size, 1, none⟩ = some (.slice x_v41 n_v41 c_v41) := C_x1.out.cell 1
      go_wp2_with fail
      clear c0_aA c1_aA c0_aB c1_aB c0_x0 c1_x0 c0_x1 c1_x1
      go_ret
      exact ⟨rfl, BB.out⟩
    · -- out
      rw [Row.szW_not (by omega)]
      go_wp2
      go_ret
      exact ⟨rfl, BB.out⟩
  · -- out
    rw [Row.szW_not (by omega)]
    go_wp2
    go_ret
    exact ⟨rfl, BB.out⟩

set_option maxRecDepth 100000 in
theorem lifted (os : Os) (started : os.Started) (H : Type) (enc : TypeId × Value → H) :
    ReturnsInHanded {} Try.checked os 10 .any (Rows.fnExactEqualContentStoresSpec.pre6 enc Try.prog Try.f10 Rows.fnExactEqualContentStoresRow.domain false) (Rows.fnExactEqualContentStoresSpec.post enc Try.prog Try.f10 false true false false) := by
  refine returnsInHanded_of_change_sized (C := Try.checked) own started (by kernel_rfl) Try.func10
    (ChangeSpec.witness6 (enc := enc) (C := Try.checked) false ⟨#[], #[.agg #[.int .i64 0, .slice none 0 0], .agg #[.int .i64 0, .slice none 0 0]], []⟩ 8 (by kernel_rfl) (by kernel_rfl) (by kernel_rfl) (by kernel_rfl)) ?_
  intro W base args ds gs before hval0 hW _ hsz0 _
  have hval : ∀ (j : Nat) t v, Try.f10.params[j]? = some t → args[j]? = some v → Value.okWide Try.prog W .any base t v := hval0
  have hsz : (DataW.weightsEach Try.prog (Try.f10.params.toList ++ Rows.fnExactEqualContentStoresSpec.plain.varTypes Try.prog) (ds ++ gs)).all (· ≤ reachBytes) = true := hsz0
  clear hsz0
  have hW' := hW
  obtain ⟨p, q, hA0, hV, rfl, hfz, hnd⟩ := hW
  have hA : DataW.TrodAll enc Try.prog W 0 (fun _ => true) true Try.f10.params.toList args.toList ds p := hA0
  rw [Try.params10] at hA hval hsz
  obtain ⟨v0, vs0, d0, ds0, p0, q0, hargs, rfl, rfl, h0, r0⟩ := trodAll_cons hA
  obtain ⟨v1, vs1, d1, ds1, p1, q1, rfl, rfl, rfl, h1, r1⟩ := trodAll_cons r0
  obtain ⟨rfl, rfl, rfl⟩ := trodAll_nil r1
  obtain rfl : args = #[v0, v1] := by cases args; simp_all
  obtain ⟨rfl, rfl⟩ := trodVars_none hV
  obtain ⟨l0, q0, n0⟩ := Row.open_structK Row.opens_ContentStore (fun m => rfl) Try.underlying31 (hval 0 31 v0 rfl rfl) h0
  obtain ⟨l1, q1, n1⟩ := Row.open_structK Row.opens_ContentStore (fun m => rfl) Try.underlying31 (hval 1 31 v1 rfl rfl) h1
  clear hA0 hval0
  refine (walk W _ _ q0 n0 n0 _ _ q1 n1 n1).mono fun e W' ⟨he, hb⟩ => ?_
  subst he
  exact ⟨_, rfl, Frame.law_post laidOut (by kernel_rfl) rfl Try.underlying4 rfl rfl hW' hb⟩

theorem said : Rows.FnExactEqualContentStoresSaid :=
  OpenClaim.holds_of_wide 10 Try.f10 rfl rfl rfl rfl rfl rfl rfl ⟨rfl, rfl, rfl, rfl, rfl⟩ rfl rfl rfl rfl rfl (by kernel_rfl) Try.func10 (by kernel_rfl)
    (of_decide_eq_true (by kernel_rfl)) (by unfold Func.isWrapper; first | (rw [if_pos (by decide +kernel)]; kernel_rfl) | (rw [if_neg (by decide +kernel)]; exact ⟨rfl, rfl⟩))
    (fun os started H enc _ => lifted os started H enc)

#print axioms said
end Go.Proofs.Ythfljbbigpophaa.fnExactEqualContentStores
