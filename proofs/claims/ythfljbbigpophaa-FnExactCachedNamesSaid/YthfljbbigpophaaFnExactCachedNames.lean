/- CachedNames answers as its model for all content stores, writes into no argument, and its answer owns its memory. No conditions. -/
import Derived.Test.YthfljbbigpophaaRows
import Derived.WalkKit
import Derived.ProofKit
import Derived.OpenShut
import Derived.SizedLaws
import Derived.Test.YthfljbbigpophaaB1
import Derived.Test.YthfljbbigpophaaB4
import Derived.Test.YthfljbbigpophaaB3
namespace Go.Proofs.Ythfljbbigpophaa.fnExactCachedNames
open Go.ChangeShapes Go.WideShapes Go.ChangeAt Go.RowKit
open Go.ChangeMaps (open_string shut_string)
set_option linter.unusedVariables false

theorem own : ownKnob Try.prog.godebug = none := by kernel_rfl
theorem laidOut : laidOutB Try.prog = true := by kernel_rfl

set_option maxRecDepth 100000 in
set_option maxHeartbeats 4000000 in
theorem walk (w : World) (y0 : Value) (l0 : Row.Cnt) (q0 : Row.kCn.At w y0 l0) (n0 : Row.inCn l0) (m0 : Row.inCn l0) :
    Calls Try.prog 9 #[y0] w fun e w' => e = .returned (.bool true) ∧ Below w.heap.size w w' := by
  obtain ⟨x_q01, n_q01, c_q01, rfl, q0⟩ := Row.kCn_shapeA q0
  have Q0 := Lib.hid q0; have N0 := Lib.hid n0; clear q0 n0
  have hal := (Below.refl w.heap.size w).alloc (Nat.le_refl _) (.cells #[.int .i64 (l0).1, .slice x_q01 n_q01 c_q01] 31)
  have BB := Lib.hid hal
  have C_aC := Lib.hid (Ret.Blk.new' (w := w) #[.int .i64 (l0).1, .slice x_q01 n_q01 c_q01] 31 (n := w.heap.size) (by first | rfl | simp)); clear hal
  have S1 := Lib.hid (show (w.alloc (.cells #[.int .i64 (l0).1, .slice x_q01 n_q01 c_q01] 31)).heap.size = w.heap.size + 1 from World.size_alloc _ _)
  go_enter Try.func9, Try.ntmps9
  have c0_aC : (w.alloc (.cells #[.int .i64 (l0).1, .slice x_q01 n_q01 c_q01] 31)).cell? ⟨w.heap.size, 0, none⟩ = some (.int .i64 (l0).1) := C_aC.out.cell 0
  have c1_aC : (w.alloc (.cells #[.int .i64 (l0).1, .slice x_q01 n_q01 c_q01] 31)).cell? ⟨w.heap.size, 1, none⟩ = some (.slice x_q01 n_q01 c_q01) := C_aC.out.cell 1
  go_wp2_with fail
  clear c0_aC c1_aC
  refine (Row.szCnK _ l0 _ (1048576) (Q0.out.on BB.out) m0 N0.out (by omega) (by omega)).mono ?_
  rintro e w1 ⟨rfl, hb⟩
  replace C_aC := Lib.hid (C_aC.out.on hb)
  replace BB := Lib.hid (BB.out.trans (hb.mono BB.out.size))
  have S2 := Lib.hid (show (w.alloc (.cells #[.int .i64 (l0).1, .slice x_q01 n_q01 c_q01] 31)).heap.size ≤ w1.heap.size from (by have h := hb.size; exact h))
  clear hb
  by_cases t0 : (Row.wtCn l0 : Int) ≤ 1048576
  · -- in
    rw [Row.szW_fit t0]
    have b0 : Row.wtCn l0 ≤ 1048576 := by omega
    have d0 : Row.adCn (l0) ≤ 1048576 := Row.adCn_big b0
    have a0 := Row.avCn_big (x := l0) b0
    have g0 : ¬ 1048576 - (Row.wtCn l0 : Int) < 0 := by omega
    have c0_aC : w1.cell? ⟨w.heap.size, 0, none⟩ = some (.int .i64 (l0).1) := C_aC.out.cell 0
    have c1_aC : w1.cell? ⟨w.heap.size, 1, none⟩ = some (.slice x_q01 n_q01 c_q01) := C_aC.out.cell 1
    go_wp2_with fail
    clear c0_aC c1_aC
    refine (Row.toContentStoreK _ l0 _ (Q0.out.on BB.out) (by omega)).mono ?_
    rintro e w2 ⟨v1, rfl, ho, hb⟩
    obtain ⟨x_v11, n_v11, c_v11, rfl, ho⟩ := Row.kCn_shape ho
    replace C_aC := Lib.hid (C_aC.out.on hb)
    replace BB := Lib.hid (BB.out.trans (hb.mono BB.out.size))
    have S3 := Lib.hid (show w1.heap.size ≤ w2.heap.size from (by have h := hb.size; exact h))
    have O_v1 := Lib.hid (show Row.kCn.In w1.heap.size w2.heap.size w2 (.agg #[.int .i64 (l0).1, .slice x_v11 n_v11 c_v11]) (l0) from ho); clear ho
    clear hb
    have c0_aC : w2.cell? ⟨w.heap.size, 0, none⟩ = some (.int .i64 (l0).1) := C_aC.out.cell 0
    have c1_aC : w2.cell? ⟨w.heap.size, 1, none⟩ = some (.slice x_q01 n_q01 c_q01) := C_aC.out.cell 1
    go_wp2_with fail
    clear c0_aC c1_aC
    have f1 := Row.namesC_sz (l0)
    refine (Row.specCachedNames _ (l0) _ (O_v1.out.at) (show Row.wtCn (l0) ≤ 1100000 by omega)).mono ?_
    rintro e w3 ⟨v2, rfl, ho, hb⟩
    obtain ⟨x_v2, n_v2, c_v2, rfl, ho⟩ := Row.kLNn_shape ho
    replace C_aC := Lib.hid (C_aC.out.on hb)
    replace O_v1 := Lib.hid (O_v1.out.on hb)
    replace BB := Lib.hid (BB.out.trans (hb.mono BB.out.size))
    have S4 := Lib.hid (show w2.heap.size ≤ w3.heap.size from (by have h := hb.size; exact h))
    have O_v2 := Lib.hid (show Row.kLNn.In w2.heap.size w3.heap.size w3 (.slice x_v2 n_v2 c_v2) (Row.namesC (l0)) from ho); clear ho
    clear hb
    have c0_aC : w3.cell? ⟨w.heap.size, 0, none⟩ = some (.int .i64 (l0).1) := C_aC.out.cell 0
    have c1_aC : w3.cell? ⟨w.heap.size, 1, none⟩ = some (.slice x_q01 n_q01 c_q01) := C_aC.out.cell 1
    go_wp2_with fail
    clear c0_aC c1_aC
    clear O_v1
    refine (Row.toContentStoreK _ l0 _ (Q0.out.on BB.out) (by omega)).mono ?_
    rintro e w4 ⟨v3, rfl, ho, hb⟩
    obtain ⟨x_v31, n_v31, c_v31, rfl, ho⟩ := Row.kCn_shape ho
    replace C_aC := Lib.hid (C_aC.out.on hb)
    replace O_v2 := Lib.hid (O_v2.out.on hb)
    replace BB := Lib.hid (BB.out.trans (hb.mono BB.out.size))
    have S5 := Lib.hid (show w3.heap.size ≤ w4.heap.size from (by have h := hb.size; exact h))
    have O_v3 := Lib.hid (show Row.kCn.In w3.heap.size w4.heap.size w4 (.agg #[.int .i64 (l0).1, .slice x_v31 n_v31 c_v31]) (l0) from ho); clear ho
    clear hb
    have hal := (Below.refl w4.heap.size w4).alloc (Nat.le_refl _) (.cells #[.int .i64 (l0).1, .slice x_v31 n_v31 c_v31] 24)
    replace C_aC := Lib.hid (C_aC.out.on hal)
    replace O_v2 := Lib.hid (O_v2.out.on hal)
    replace O_v3 := Lib.hid (O_v3.out.on hal)
    replace BB := Lib.hid (BB.out.trans (hal.mono BB.out.size))
    have S6 := Lib.hid (show (w4.alloc (.cells #[.int .i64 (l0).1, .slice x_v31 n_v31 c_v31] 24)).heap.size = w4.heap.size + 1 from World.size_alloc _ _)
    have C_x0 := Lib.hid (Ret.Blk.new w4 #[.int .i64 (l0).1, .slice x_v31 n_v31 c_v31] 24); clear hal
    have c0_aC : (w4.alloc (.cells #[.int .i64 (l0).1, .slice x_v31 n_v31 c_v31] 24)).cell? ⟨w.heap.size, 0, none⟩ = some (.int .i64 (l0).1) := C_aC.out.cell 0
    have c1_aC : (w4.alloc (.cells #[.int .i64 (l0).1, .slice x_v31 n_v31 c_v31] 24)).cell? ⟨w.heap.size, 1, none⟩ = some (.slice x_q01 n_q01 c_q01) := C_aC.out.cell 1
    have c0_x0 : (w4.alloc (.cells #[.int .i64 (l0).1, .slice x_v31 n_v31 c_v31] 24)).cell? ⟨w4.heap.size, 0, none⟩ = some (.int .i64 (l0).1) := C_x0.out.cell 0
    have c1_x0 : (w4.alloc (.cells #[.int .i64 (l0).1, .slice x_v31 n_v31 c_v31] 24)).cell? ⟨w4.heap.size, 1, none⟩ = some (.slice x_v31 n_v31 c_v31) := C_x0.out.cell 1
    go_wp2_with fail
    clear c0_aC c1_aC c0_x0 c1_x0
    have f2 := Row.namesC_sz (l0)
    refine (Row.implCachedNames _ (l0) _ (O_v3.out.at) (show Row.wtCn (l0) ≤ 1100000 by omega)).mono ?_
    rintro e w5 ⟨v4, rfl, ho, hb⟩
    obtain ⟨x_v4, n_v4, c_v4, rfl, ho⟩ := Row.kLNn_shape ho
    replace C_aC := Lib.hid (C_aC.out.on hb)
    replace C_x0 := Lib.hid (C_x0.out.on hb)
    replace O_v2 := Lib.hid (O_v2.out.on hb)
    replace O_v3 := Lib.hid (O_v3.out.on hb)
    replace BB := Lib.hid (BB.out.trans (hb.mono BB.out.size))
    have S7 := Lib.hid (show (w4.alloc (.cells #[.int .i64 (l0).1, .slice x_v31 n_v31 c_v31] 24)).heap.size ≤ w5.heap.size from (by have h := hb.size; exact h))
    have O_v4 := Lib.hid (show Row.kLNn.In (w4.alloc (.cells #[.int .i64 (l0).1, .slice x_v31 n_v31 c_v31] 24)).heap.size w5.heap.size w5 (.slice x_v4 n_v4 c_v4) (Row.namesC (l0)) from ho); clear ho
    clear hb
    have c0_aC : w5.cell? ⟨w.heap.size, 0, none⟩ = some (.int .i64 (l0).1) := C_aC.out.cell 0
    have c1_aC : w5.cell? ⟨w.heap.size, 1, none⟩ = some (.slice x_q01 n_q01 c_q01) := C_aC.out.cell 1
    have c0_x0 : w5.cell? ⟨w4.heap.size, 0, none⟩ = some (.int .i64 (l0).1) := C_x0.out.cell 0
    have c1_x0 : w5.cell? ⟨w4.heap.size, 1, none⟩ = some (.slice x_v31 n_v31 c_v31) := C_x0.out.cell 1
    go_wp2_with fail
    clear c0_aC c1_aC c0_x0 c1_x0
    refine (Row.eqLNnK _ _ (Row.namesC (l0)) _ (O_v4.out.at) (O_v2.out.at) (by first | omega | (simp; omega) | (simp [Row.marks_length, Sl.marks_length, Row.mkW]; omega))).mono ?_
    rintro e w6 ⟨rfl, hb⟩
    replace C_aC := Lib.hid (C_aC.out.on hb)
    replace C_x0 := Lib.hid (C_x0.out.on hb)
    replace O_v2 := Lib.hid (O_v2.out.on hb)
    replace O_v3 := Lib.hid (O_v3.out.on hb)
    replace O_v4 := Lib.hid (O_v4.out.on hb)
    replace BB := Lib.hid (BB.out.trans (hb.mono BB.out.size))
    have S8 := Lib.hid (show w5.heap.size ≤ w6.heap.size from (by have h := hb.size; exact h))
    clear hb
    have c0_aC : w6.cell? ⟨w.heap.size, 0, none⟩ = some (.int .i64 (l0).1) := C_aC.out.cell 0
    have c1_aC : w6.cell? ⟨w.heap.size, 1, none⟩ = some (.slice x_q01 n_q01 c_q01) := C_aC.out.cell 1
    have c0_x0 : w6.cell? ⟨w4.heap.size, 0, none⟩ = some (.int .i64 (l0).1) := C_x0.out.cell 0
    have c1_x0 : w6.cell? ⟨w4.heap.size, 1, none⟩ = some (.slice x_v31 n_v31 c_v31) := C_x0.out.cell 1
    go_wp2_with fail
    clear c0_aC c1_aC c0_x0 c1_x0
    have hdr : Below w6.heap.size w6 w6.drew := (Below.refl _ _).drew
    replace C_aC := Lib.hid (C_aC.out.on hdr)
    replace C_x0 := Lib.hid (C_x0.out.on hdr)
    replace O_v2 := Lib.hid (O_v2.out.on hdr)
    replace O_v3 := Lib.hid (O_v3.out.on hdr)
    replace O_v4 := Lib.hid (O_v4.out.on hdr)
    replace BB := Lib.hid (BB.out.trans (hdr.mono BB.out.size))
    clear hdr
    have KS0 := Lib.hid (show w6.drew.cell? ⟨w4.heap.size, 0, none⟩ = some (.int .i64 (l0).1) ∧ w6.drew.cell? ⟨w4.heap.size, 1, none⟩ = some (.slice x_v31 n_v31 c_v31) ∧ w6.drew.cell? ⟨w.heap.size, 0, none⟩ = some (.int .i64 (l0).1) ∧ w6.drew.cell? ⟨w.heap.size, 1, none⟩ = some (.slice x_q01 n_q01 c_q01) ∧ Below w.heap.size w w6.drew from ⟨C_x0.out.cell 0, C_x0.out.cell 1, C_aC.out.cell 0, C_aC.out.cell 1, BB.out⟩)
    go_region_held3 (fun w' => w'.cell? ⟨w4.heap.size, 0, none⟩ = some (.int .i64 (l0).1) ∧ w'.cell? ⟨w4.heap.size, 1, none⟩ = some (.slice x_v31 n_v31 c_v31) ∧ w'.cell? ⟨w.heap.size, 0, none⟩ = some (.int .i64 (l0).1) ∧ w'.cell? ⟨w.heap.size, 1, none⟩ = some (.slice x_q01 n_q01 c_q01) ∧ Below w.heap.size w w') (first | exact KS0.out | exact KS1.out | exact KS2.out) ((first | (go_at_call 13; refine (Row.sameCnK _ _ (l0) _ ((O_v3.out.at).on hba) hoa.at (by first | omega | (simp; omega) | (simp [Row.marks_length, Sl.marks_length, Row.mkW]; omega))).mono ?_; rintro e w8 ⟨rfl, hbb⟩; have KS2 := Lib.hid (show (fun w' => w'.cell? ⟨w4.heap.size, 0, none⟩ = some (.int .i64 (l0).1) ∧ w'.cell? ⟨w4.heap.size, 1, none⟩ = some (.slice x_v31 n_v31 c_v31) ∧ w'.cell? ⟨w.heap.size, 0, none⟩ = some (.int .i64 (l0).1) ∧ w'.cell? ⟨w.heap.size, 1, none⟩ = some (.slice x_q01 n_q01 c_q01) ∧ Below w.heap.size w w') _ from ⟨Row.kc KS1.out.1 hbb, Row.kc KS1.out.2.1 hbb, Row.kc KS1.out.2.2.1 hbb, Row.kc KS1.out.2.2.2.1 hbb, KS1.out.2.2.2.2.trans (hbb.mono KS1.out.2.2.2.2.size)⟩)) | (go_at_call 18; refine (Row.toContentStoreK _ l0 _ (Q0.out.on BB.out) (by omega)).mono ?_; rintro e w7 ⟨v5, rfl, hoa, hba⟩; obtain ⟨x_v51, n_v51, c_v51, rfl, hoa⟩ := Row.kCn_shape hoa; have KS1 := Lib.hid (show (fun w' => w'.cell? ⟨w4.heap.size, 0, none⟩ = some (.int .i64 (l0).1) ∧ w'.cell? ⟨w4.heap.size, 1, none⟩ = some (.slice x_v31 n_v31 c_v31) ∧ w'.cell? ⟨w.heap.size, 0, none⟩ = some (.int .i64 (l0).1) ∧ w'.cell? ⟨w.heap.size, 1, none⟩ = some (.slice x_q01 n_q01 c_q01) ∧ Below w.heap.size w w') _ from ⟨Row.kc KS0.out.1 hba, Row.kc KS0.out.2.1 hba, Row.kc KS0.out.2.2.1 hba, Row.kc KS0.out.2.2.2.1 hba, KS0.out.2.2.2.2.trans (hba.mono KS0.out.2.2.2.2.size)⟩))))
    clear KS0 KS1 KS2 hoa
    replace C_aC := Lib.hid (C_aC.out.on hba)
    replace C_x0 := Lib.hid (C_x0.out.on hba)
    replace O_v2 := Lib.hid (O_v2.out.on hba)
    replace O_v3 := Lib.hid (O_v3.out.on hba)
    replace O_v4 := Lib.hid (O_v4.out.on hba)
    replace BB := Lib.hid (BB.out.trans (hba.mono BB.out.size))
    have S9 := Lib.hid (show w6.heap.size ≤ w7.heap.size from (by have h := hba.size; exact h))
    replace C_aC := Lib.hid (C_aC.out.on hbb)
    replace C_x0 := Lib.hid (C_x0.out.on hbb)
    replace O_v2 := Lib.hid (O_v2.out.on hbb)
    replace O_v3 := Lib.hid (O_v3.out.on hbb)
    replace O_v4 := Lib.hid (O_v4.out.on hbb)
    replace BB := Lib.hid (BB.out.trans (hbb.mono BB.out.size))
    have S10 := Lib.hid (show w7.heap.size ≤ w8.heap.size from (by have h := hbb.size; exact h))
    clear hba hbb
    have c0_aC : w8.cell? ⟨w.heap.size, 0, none⟩ = some (.int .i64 (l0).1) := C_aC.out.cell 0
    have c1_aC : w8.cell? ⟨w.heap.size, 1, none⟩ = some (.slice x_q01 n_q01 c_q01) := C_aC.out.cell 1
    have c0_x0 : w8.cell? ⟨w4.heap.size, 0, none⟩ = some (.int .i64 (l0).1) := C_x0.out.cell 0
    have c1_x0 : w8.cell? ⟨w4.heap.size, 1, none⟩ = some (.slice x_v31 n_v31 c_v31) := C_x0.out.cell 1
    go_wp2_with fail
    clear c0_aC c1_aC c0_x0 c1_x0
    refine (Row.markCnK _ _ _ (l0) _ (1) O_v3.out (by first | omega | (simp; omega) | (simp [Row.marks_length, Sl.marks_length, Row.mkW]; omega)) (by first | omega | (simp; omega) | (simp [Row.marks_length, Sl.marks_length, Row.mkW]; omega)) (by first | omega | (simp; omega) | (simp [Row.marks_length, Sl.marks_length, Row.mkW]; omega))).mono ?_
    rintro e w9 ⟨rfl, ho, hg⟩
    replace C_aC := Lib.hid (hg.blk C_aC.out (by have := S1.out; have := S2.out; have := S3.out; have := S4.out; have := S5.out; have := S6.out; have := S7.out; have := S8.out; have := S9.out; have := S10.out; omega))
    replace C_x0 := Lib.hid (hg.blk C_x0.out (by have := S1.out; have := S2.out; have := S3.out; have := S4.out; have := S5.out; have := S6.out; have := S7.out; have := S8.out; have := S9.out; have := S10.out; omega))
    replace O_v2 := Lib.hid (O_v2.out.wrote hg (by have := S1.out; have := S2.out; have := S3.out; have := S4.out; have := S5.out; have := S6.out; have := S7.out; have := S8.out; have := S9.out; have := S10.out; omega))
    replace O_v4 := Lib.hid (O_v4.out.wrote hg (by have := S1.out; have := S2.out; have := S3.out; have := S4.out; have := S5.out; have := S6.out; have := S7.out; have := S8.out; have := S9.out; have := S10.out; omega))
    replace BB := Lib.hid (hg.below BB.out BB.out.size (by have := S1.out; have := S2.out; have := S3.out; have := S4.out; have := S5.out; have := S6.out; have := S7.out; have := S8.out; have := S9.out; have := S10.out; omega))
    have S11 := Lib.hid (show w8.heap.size ≤ w9.heap.size from hg.size)
    replace O_v3 := Lib.hid ho; clear ho hg
    have c0_aC : w9.cell? ⟨w.heap.size, 0, none⟩ = some (.int .i64 (l0).1) := C_aC.out.cell 0
    have c1_aC : w9.cell? ⟨w.heap.size, 1, none⟩ = some (.slice x_q01 n_q01 c_q01) := C_aC.out.cell 1
    have c0_x0 : w9.cell? ⟨w4.heap.size, 0, none⟩ = some (.int .i64 (l0).1) := C_x0.out.cell 0
    have c1_x0 : w9.cell? ⟨w4.heap.size, 1, none⟩ = some (.slice x_v31 n_v31 c_v31) := C_x0.out.cell 1
    go_wp2_with fail
    clear c0_aC c1_aC c0_x0 c1_x0
    refine (Row.eqLNnK _ _ (Row.namesC (l0)) _ (O_v4.out.at) (O_v2.out.at) (by first | omega | (simp; omega) | (simp [Row.marks_length, Sl.marks_length, Row.mkW]; omega))).mono ?_
    rintro e w10 ⟨rfl, hb⟩
    replace C_aC := Lib.hid (C_aC.out.on hb)
    replace C_x0 := Lib.hid (C_x0.out.on hb)
    replace O_v2 := Lib.hid (O_v2.out.on hb)
    replace O_v3 := Lib.hid (O_v3.out.on hb)
    replace O_v4 := Lib.hid (O_v4.out.on hb)
    replace BB := Lib.hid (BB.out.trans (hb.mono BB.out.size))
    have S12 := Lib.hid (show w9.heap.size ≤ w10.heap.size from (by have h := hb.size; exact h))
    clear hb
    have c0_aC : w10.cell? ⟨w.heap.size, 0, none⟩ = some (.int .i64 (l0).1) := C_aC.out.cell 0
    have c1_aC : w10.cell? ⟨w.heap.size, 1, none⟩ = some (.slice x_q01 n_q01 c_q01) := C_aC.out.cell 1
    have c0_x0 : w10.cell? ⟨w4.heap.size, 0, none⟩ = some (.int .i64 (l0).1) := C_x0.out.cell 0
    have c1_x0 : w10.cell? ⟨w4.heap.size, 1, none⟩ = some (.slice x_v31 n_v31 c_v31) := C_x0.out.cell 1
    go_wp2_with fail
    clear c0_aC c1_aC c0_x0 c1_x0
    refine (Row.markLNnK _ _ _ (Row.namesC (l0)) _ (1) O_v4.out (by first | omega | (simp; omega) | (simp [Row.marks_length, Sl.marks_length, Row.mkW]; omega)) (by first | omega | (simp; omega) | (simp [Row.marks_length, Sl.marks_length, Row.mkW]; omega)) (by first | omega | (simp; omega) | (simp [Row.marks_length, Sl.marks_length, Row.mkW]; omega))).mono ?_
    rintro e w11 ⟨rfl, ho, hg⟩
    replace C_aC := Lib.hid (hg.blk C_aC.out (by have := S1.out; have := S2.out; have := S3.out; have := S4.out; have := S5.out; have := S6.out; have := S7.out; have := S8.out; have := S9.out; have := S10.out; have := S11.out; have := S12.out; omega))
    replace C_x0 := Lib.hid (hg.blk C_x0.out (by have := S1.out; have := S2.out; have := S3.out; have := S4.out; have := S5.out; have := S6.out; have := S7.out; have := S8.out; have := S9.out; have := S10.out; have := S11.out; have := S12.out; omega))
    replace O_v2 := Lib.hid (O_v2.out.wrote hg (by have := S1.out; have := S2.out; have := S3.out; have := S4.out; have := S5.out; have := S6.out; have := S7.out; have := S8.out; have := S9.out; have := S10.out; have := S11.out; have := S12.out; omega))
    replace O_v3 := Lib.hid (O_v3.out.wrote hg (by have := S1.out; have := S2.out; have := S3.out; have := S4.out; have := S5.out; have := S6.out; have := S7.out; have := S8.out; have := S9.out; have := S10.out; have := S11.out; have := S12.out; omega))
    replace BB := Lib.hid (hg.below BB.out BB.out.size (by have := S1.out; have := S2.out; have := S3.out; have := S4.out; have := S5.out; have := S6.out; have := S7.out; have := S8.out; have := S9.out; have := S10.out; have := S11.out; have := S12.out; omega))
    have S13 := Lib.hid (show w10.heap.size ≤ w11.heap.size from hg.size)
    replace O_v4 := Lib.hid ho; clear ho hg
    have c0_aC : w11.cell? ⟨w.heap.size, 0, none⟩ = some (.int .i64 (l0).1) := C_aC.out.cell 0
    have c1_aC : w11.cell? ⟨w.heap.size, 1, none⟩ = some (.slice x_q01 n_q01 c_q01) := C_aC.out.cell 1
    have c0_x0 : w11.cell? ⟨w4.heap.size, 0, none⟩ = some (.int .i64 (l0).1) := C_x0.out.cell 0
    have c1_x0 : w11.cell? ⟨w4.heap.size, 1, none⟩ = some (.slice x_v31 n_v31 c_v31) := C_x0.out.cell 1
    go_wp2_with fail
    clear c0_aC c1_aC c0_x0 c1_x0
    refine (Row.heldLNnK _ _ (1) (Row.namesC (l0)) (O_v4.out.at) (by first | omega | (simp; omega) | (simp [Row.marks_length, Sl.marks_length, Row.mkW]; omega)) (by first | omega | (simp; omega) | (simp [Row.marks_length, Sl.marks_length, Row.mkW]; omega)) (by first | omega | (simp; omega) | (simp [Row.marks_length, Sl.marks_length, Row.mkW]; omega))).mono ?_
    rintro e w12 ⟨rfl, hb⟩
    replace C_aC := Lib.hid (C_aC.out.on hb)
    replace C_x0 := Lib.hid (C_x0.out.on hb)
    replace O_v2 := Lib.hid (O_v2.out.on hb)
    replace O_v3 := Lib.hid (O_v3.out.on hb)
    replace O_v4 := Lib.hid (O_v4.out.on hb)
    replace BB := Lib.hid (BB.out.trans (hb.mono BB.out.size))
    have S14 := Lib.hid (show w11.heap.size ≤ w12.heap.size from (by have h := hb.size; exact h))
    clear hb
    have c0_aC : w12.cell? ⟨w.heap.size, 0, none⟩ = some (.int .i64 (l0).1) := C_aC.out.cell 0
    have c1_aC : w12.cell? ⟨w.heap.size, 1, none⟩ = some (.slice x_q01 n_q01 c_q01) := C_aC.out.cell 1
    have c0_x0 : w12.cell? ⟨w4.heap.size, 0, none⟩ = some (.int .i64 (l0).1) := C_x0.out.cell 0
    have c1_x0 : w12.cell? ⟨w4.heap.size, 1, none⟩ = some (.slice x_v31 n_v31 c_v31) := C_x0.out.cell 1
    go_wp2_with fail
    clear c0_aC c1_aC c0_x0 c1_x0
    refine (Row.toContentStoreK _ l0 _ (Q0.out.on BB.out) (by omega)).mono ?_
    rintro e w13 ⟨v6, rfl, ho, hb⟩
    obtain ⟨x_v61, n_v61, c_v61, rfl, ho⟩ := Row.kCn_shape ho
    replace C_aC := Lib.hid (C_aC.out.on hb)
    replace C_x0 := Lib.hid (C_x0.out.on hb)
    replace O_v2 := Lib.hid (O_v2.out.on hb)
    replace O_v3 := Lib.hid (O_v3.out.on hb)
    replace O_v4 := Lib.hid (O_v4.out.on hb)
    replace BB := Lib.hid (BB.out.trans (hb.mono BB.out.size))
    have S15 := Lib.hid (show w12.heap.size ≤ w13.heap.size from (by have h := hb.size; exact h))
    have O_v6 := Lib.hid (show Row.kCn.In w12.heap.size w13.heap.size w13 (.agg #[.int .i64 (l0).1, .slice x_v61 n_v61 c_v61]) (l0) from ho); clear ho
    clear hb
    have c0_aC : w13.cell? ⟨w.heap.size, 0, none⟩ = some (.int .i64 (l0).1) := C_aC.out.cell 0
    have c1_aC : w13.cell? ⟨w.heap.size, 1, none⟩ = some (.slice x_q01 n_q01 c_q01) := C_aC.out.cell 1
    have c0_x0 : w13.cell? ⟨w4.heap.size, 0, none⟩ = some (.int .i64 (l0).1) := C_x0.out.cell 0
    have c1_x0 : w13.cell? ⟨w4.heap.size, 1, none⟩ = some (.slice x_v31 n_v31 c_v31) := C_x0.out.cell 1
    go_wp2_with fail
    clear c0_aC c1_aC c0_x0 c1_x0
    have f3 := Row.namesC_sz (l0)
    refine (Row.implCachedNames _ (l0) _ (O_v6.out.at) (show Row.wtCn (l0) ≤ 1100000 by omega)).mono ?_
    rintro e w14 ⟨v7, rfl, ho, hb⟩
    obtain ⟨x_v7, n_v7, c_v7, rfl, ho⟩ := Row.kLNn_shape ho
    replace C_aC := Lib.hid (C_aC.out.on hb)
    replace C_x0 := Lib.hid (C_x0.out.on hb)
    replace O_v2 := Lib.hid (O_v2.out.on hb)
    replace O_v3 := Lib.hid (O_v3.out.on hb)
    replace O_v4 := Lib.hid (O_v4.out.on hb)
    replace O_v6 := Lib.hid (O_v6.out.on hb)
    replace BB := Lib.hid (BB.out.trans (hb.mono BB.out.size))
    have S16 := Lib.hid (show w13.heap.size ≤ w14.heap.size from (by have h := hb.size; exact h))
    have O_v7 := Lib.hid (show Row.kLNn.In w13.heap.size w14.heap.size w14 (.slice x_v7 n_v7 c_v7) (Row.namesC (l0)) from ho); clear ho
    clear hb
    have c0_aC : w14.cell? ⟨w.heap.size, 0, none⟩ = some (.int .i64 (l0).1) := C_aC.out.cell 0
    have c1_aC : w14.cell? ⟨w.heap.size, 1, none⟩ = some (.slice x_q01 n_q01 c_q01) := C_aC.out.cell 1
    have c0_x0 : w14.cell? ⟨w4.heap.size, 0, none⟩ = some (.int .i64 (l0).1) := C_x0.out.cell 0
    have c1_x0 : w14.cell? ⟨w4.heap.size, 1, none⟩ = some (.slice x_v31 n_v31 c_v31) := C_x0.out.cell 1
    go_wp2_with fail
    clear c0_aC c1_aC c0_x0 c1_x0
    clear O_v6
    refine (Row.eqLNnK _ _ (Row.namesC (l0)) _ (O_v7.out.at) (O_v2.out.at) (by first | omega | (simp; omega) | (simp [Row.marks_length, Sl.marks_length, Row.mkW]; omega))).mono ?_
    rintro e w15 ⟨rfl, hb⟩
    replace C_aC := Lib.hid (C_aC.out.on hb)
    replace C_x0 := Lib.hid (C_x0.out.on hb)
    replace O_v2 := Lib.hid (O_v2.out.on hb)
    replace O_v3 := Lib.hid (O_v3.out.on hb)
    replace O_v4 := Lib.hid (O_v4.out.on hb)
    replace O_v7 := Lib.hid (O_v7.out.on hb)
    replace BB := Lib.hid (BB.out.trans (hb.mono BB.out.size))
    have S17 := Lib.hid (show w14.heap.size ≤ w15.heap.size from (by have h := hb.size; exact h))
    clear hb
    have c0_aC : w15.cell? ⟨w.heap.size, 0, none⟩ = some (.int .i64 (l0).1) := C_aC.out.cell 0
    have c1_aC : w15.cell? ⟨w.heap.size, 1, none⟩ = some (.slice x_q01 n_q01 c_q01) := C_aC.out.cell 1
    have c0_x0 : w15.cell? ⟨w4.heap.size, 0, none⟩ = some (.int .i64 (l0).1) := C_x0.out.cell 0
    have c1_x0 : w15.cell? ⟨w4.heap.size, 1, none⟩ = some (.slice x_v31 n_v31 c_v31) := C_x0.out.cell 1
    go_wp2_with fail
    clear c0_aC c1_aC c0_x0 c1_x0
    refine (Row.heldLNnK _ _ (1) (Row.namesC (l0)) (O_v4.out.at) (by first | omega | (simp; omega) | (simp [Row.marks_length, Sl.marks_length, Row.mkW]; omega)) (by first | omega | (simp; omega) | (simp [Row.marks_length, Sl.marks_length, Row.mkW]; omega)) (by first | omega | (simp; omega) | (simp [Row.marks_length, Sl.marks_length, Row.mkW]; omega))).mono ?_
    rintro e w16 ⟨rfl, hb⟩
    replace C_aC := Lib.hid (C_aC.out.on hb)
    replace C_x0 := Lib.hid (C_x0.out.on hb)
    replace O_v2 := Lib.hid (O_v2.out.on hb)
    replace O_v3 := Lib.hid (O_v3.out.on hb)
    replace O_v4 := Lib.hid (O_v4.out.on hb)
    replace O_v7 := Lib.hid (O_v7.out.on hb)
    replace BB := Lib.hid (BB.out.trans (hb.mono BB.out.size))
    have S18 := Lib.hid (show w15.heap.size ≤ w16.heap.size from (by have h := hb.size; exact h))
    clear hb
    have c0_aC : w16.cell? ⟨w.heap.size, 0, none⟩ = some (.int .i64 (l0).1) := C_aC.out.cell 0
    have c1_aC : w16.cell? ⟨w.heap.size, 1, none⟩ = some (.slice x_q01 n_q01 c_q01) := C_aC.out.cell 1
    have c0_x0 : w16.cell? ⟨w4.heap.size, 0, none⟩ = some (.int .i64 (l0).1) := C_x0.out.cell 0
    have c1_x0 : w16.cell? ⟨w4.heap.size, 1, none⟩ = some (.slice x_v31 n_v31 c_v31) := C_x0.out.cell 1
    go_wp2_with fail
    clear c0_aC c1_aC c0_x0 c1_x0
    go_ret
    exact ⟨rfl, BB.out⟩
  · -- out
    rw [Row.szW_not (by omega)]
    go_wp2
    go_ret
    exact ⟨rfl, BB.out⟩

set_option maxRecDepth 100000 in
theorem lifted (os : Os) (started : os.Started) (H : Type) (enc : TypeId × Value → H) :
    ReturnsInHanded {} Try.checked os 9 .any (Rows.fnExactCachedNamesSpec.pre6 enc Try.prog Try.f9 Rows.fnExactCachedNamesRow.domain false) (Rows.fnExactCachedNamesSpec.post enc Try.prog Try.f9 false true false false) := by
  refine returnsInHanded_of_change_sized (C := Try.checked) own started (by kernel_rfl) Try.func9
    (ChangeSpec.witness6 (enc := enc) (C := Try.checked) false ⟨#[], #[.agg #[.int .i64 0, .slice none 0 0]], []⟩ 8 (by kernel_rfl) (by kernel_rfl) (by kernel_rfl) (by kernel_rfl)) ?_
  intro W base args ds gs before hval0 hW _ hsz0 _
  have hval : ∀ (j : Nat) t v, Try.f9.params[j]? = some t → args[j]? = some v → Value.okWide Try.prog W .any base t v := hval0
  have hsz : (DataW.weightsEach Try.prog (Try.f9.params.toList ++ Rows.fnExactCachedNamesSpec.plain.varTypes Try.prog) (ds ++ gs)).all (· ≤ reachBytes) = true := hsz0
  clear hsz0
  have hW' := hW
  obtain ⟨p, q, hA0, hV, rfl, hfz, hnd⟩ := hW
  have hA : DataW.TrodAll enc Try.prog W 0 (fun _ => true) true Try.f9.params.toList args.toList ds p := hA0
  rw [Try.params9] at hA hval hsz
  obtain ⟨v0, vs0, d0, ds0, p0, q0, hargs, rfl, rfl, h0, r0⟩ := trodAll_cons hA
  obtain ⟨rfl, rfl, rfl⟩ := trodAll_nil r0
  obtain rfl : args = #[v0] := by cases args; simp_all
  obtain ⟨rfl, rfl⟩ := trodVars_none hV
  obtain ⟨l0, q0, n0⟩ := Row.open_structK Row.opens_ContentStore (fun m => rfl) Try.underlying31 (hval 0 31 v0 rfl rfl) h0
  clear hA0 hval0
  refine (walk W _ _ q0 n0 n0).mono fun e W' ⟨he, hb⟩ => ?_
  subst he
  exact ⟨_, rfl, Frame.law_post laidOut (by kernel_rfl) rfl Try.underlying4 rfl rfl hW' hb⟩

theorem said : Rows.FnExactCachedNamesSaid :=
  OpenClaim.holds_of_wide 9 Try.f9 rfl rfl rfl rfl rfl rfl rfl ⟨rfl, rfl, rfl, rfl, rfl⟩ rfl rfl rfl rfl rfl (by kernel_rfl) Try.func9 (by kernel_rfl)
    (of_decide_eq_true (by kernel_rfl)) (by unfold Func.isWrapper; first | (rw [if_pos (by decide +kernel)]; kernel_rfl) | (rw [if_neg (by decide +kernel)]; exact ⟨rfl, rfl⟩))
    (fun os started H enc _ => lifted os started H enc)

#print axioms said
end Go.Proofs.Ythfljbbigpophaa.fnExactCachedNames
