/- MatchingPrefix answers as its model for all lists of routes and all names, writes into no argument, and its answer owns its memory. No conditions. -/
import Derived.Test.YtdaahcaafdleaaaRows
import Derived.WalkKit
import Derived.ProofKit
import Derived.OpenShut
import Derived.SizedLaws
import Derived.Test.YtdaahcaafdleaaaB1
import Derived.Test.YtdaahcaafdleaaaB4
import Derived.Test.YtdaahcaafdleaaaB3
namespace Go.Proofs.Ytdaahcaafdleaaa.fnExactMatchingPrefix
open Go.ChangeShapes Go.WideShapes Go.ChangeAt Go.RowKit
open Go.ChangeMaps (open_string shut_string)
set_option linter.unusedVariables false

theorem own : ownKnob Try.prog.godebug = none := by kernel_rfl
theorem laidOut : laidOutB Try.prog = true := by kernel_rfl

set_option maxRecDepth 100000 in
set_option maxHeartbeats 4000000 in
theorem walk (w : World) (y0 : Value) (l0 : List Row.Rtt) (q0 : Row.kLRt.At w y0 l0) (n0 : Row.inLRt l0) (m0 : Row.inLRt l0) (y1 : Value) (l1 : List ByteArray) (q1 : Row.Holds Value.string w y1 l1) (n1 : ∀ x ∈ l1, x.size ≤ maxLen) (m1 : l1.length ≤ 9223372036854775807) :
    Calls Try.prog 7 #[y0, .agg #[y1]] w fun e w' => e = .returned (.bool true) ∧ Below w.heap.size w w' := by
  obtain ⟨x_q0, n_q0, c_q0, rfl, q0⟩ := Row.kLRt_shapeA q0
  obtain ⟨x_q1, n_q1, c_q1, rfl, -, -, q1⟩ := q1.shapeN; replace q1 := Row.kN_of q1
  have Q0 := Lib.hid q0; have N0 := Lib.hid n0; clear q0 n0
  have Q1 := Lib.hid q1; have N1 := Lib.hid n1; clear q1 n1
  have hal := (Below.refl w.heap.size w).alloc (Nat.le_refl _) (.cells #[.slice x_q1 n_q1 c_q1] 46)
  have BB := Lib.hid hal
  have C_aN := Lib.hid (Ret.Blk.new' (w := w) #[.slice x_q1 n_q1 c_q1] 46 (n := w.heap.size) (by first | rfl | simp)); clear hal
  have S1 := Lib.hid (show (w.alloc (.cells #[.slice x_q1 n_q1 c_q1] 46)).heap.size = w.heap.size + 1 from World.size_alloc _ _)
  go_enter Try.func7, Try.ntmps7
  have c0_aN : (w.alloc (.cells #[.slice x_q1 n_q1 c_q1] 46)).cell? ⟨w.heap.size, 0, none⟩ = some (.slice x_q1 n_q1 c_q1) := C_aN.out.cell 0
  go_wp2_with fail
  clear c0_aN
  refine (Row.szLRtK _ l0 _ (1048576) (Q0.out.on BB.out) m0 N0.out (by omega) (by omega)).mono ?_
  rintro e w1 ⟨rfl, hb⟩
  replace C_aN := Lib.hid (C_aN.out.on hb)
  replace BB := Lib.hid (BB.out.trans (hb.mono BB.out.size))
  have S2 := Lib.hid (show (w.alloc (.cells #[.slice x_q1 n_q1 c_q1] 46)).heap.size ≤ w1.heap.size from (by have h := hb.size; exact h))
  clear hb
  by_cases t0 : (Row.bulkK Row.wtRt l0 : Int) ≤ 1048576
  · -- in
    rw [Row.szW_fit t0]
    have b0 : Row.bulkK Row.wtRt l0 ≤ 1048576 := by omega
    have d0 : Row.adLRt (l0) ≤ 1048576 := Row.adLRt_big b0
    have a0 := Row.avRt_big (l := l0) b0
    have g0 : ¬ 1048576 - (Row.bulkK Row.wtRt l0 : Int) < 0 := by omega
    have c0_aN : w1.cell? ⟨w.heap.size, 0, none⟩ = some (.slice x_q1 n_q1 c_q1) := C_aN.out.cell 0
    go_wp2_with fail
    clear c0_aN
    refine (Row.szNK _ l1 _ (1048576 - (Row.bulkK Row.wtRt l0 : Int)) (Q1.out.on BB.out) m1 N1.out (by omega) (by omega)).mono ?_
    rintro e w2 ⟨rfl, hb⟩
    replace C_aN := Lib.hid (C_aN.out.on hb)
    replace BB := Lib.hid (BB.out.trans (hb.mono BB.out.size))
    have S3 := Lib.hid (show w1.heap.size ≤ w2.heap.size from (by have h := hb.size; exact h))
    clear hb
    by_cases t1 : (Row.bulk l1 : Int) ≤ 1048576 - (Row.bulkK Row.wtRt l0 : Int)
    · -- in
      rw [Row.szL_fit t1]
      have b1 : Row.bulk l1 ≤ 1048576 := by omega
      have d1 : (l1).length ≤ 1048576 := Row.bigLen b1
      have g1 : ¬ 1048576 - (Row.bulkK Row.wtRt l0 : Int) - (Row.bulk l1 : Int) < 0 := by omega
      have c0_aN : w2.cell? ⟨w.heap.size, 0, none⟩ = some (.slice x_q1 n_q1 c_q1) := C_aN.out.cell 0
      go_wp2_with fail
      clear c0_aN
      have f1 := Row.mpN_sz (l0) (l1)
      refine Row.specregR14 (Lib.hid (Q0.out.on BB.out)) (Lib.hid (Q1.out.on BB.out)) b0 b1 (Lib.hid (C_aN.out.cell 0)) ?_
      intro u0 u1 u2 u3 u4 u5 u6 u7 g_v1 n_v1 c_v1 x_v1 w3 hb ho hblk hg1 hg2
      replace C_aN := Lib.hid (C_aN.out.on hb)
      replace BB := Lib.hid (BB.out.trans (hb.mono BB.out.size))
      have S4 := Lib.hid (show w2.heap.size ≤ w3.heap.size from (by have h := hb.size; exact h))
      have O_v1 := Lib.hid (show Row.kN.In w2.heap.size w3.heap.size w3 (.agg #[.slice x_v1 n_v1 c_v1]) (Row.mpN (l0) (l1)) from ho); clear ho
      have S5 := Lib.hid (show w2.heap.size ≤ g_v1 from hg1)
      have S6 := Lib.hid (show g_v1 < w3.heap.size from hg2)
      have C_w0 := Lib.hid (show Ret.Blk w3 g_v1 #[.slice x_v1 n_v1 c_v1] 27 from hblk); clear hblk hb hg1 hg2
      have c0_aN : w3.cell? ⟨w.heap.size, 0, none⟩ = some (.slice x_q1 n_q1 c_q1) := C_aN.out.cell 0
      have c0_w0 : w3.cell? ⟨g_v1, 0, none⟩ = some (.slice x_v1 n_v1 c_v1) := C_w0.out.cell 0
      go_wp2_with fail
      clear c0_aN c0_w0
      refine (Row.toLRtK _ l0 _ (Q0.out.on BB.out) (by omega)).mono ?_
      rintro e w4 ⟨v2, rfl, ho, hb⟩
      obtain ⟨x_v2, n_v2, c_v2, rfl, ho⟩ := Row.kLRt_shape ho
      replace C_aN := Lib.hid (C_aN.out.on hb)
      replace C_w0 := Lib.hid (C_w0.out.on hb)
      replace O_v1 := Lib.hid (O_v1.out.on hb)
      replace BB := Lib.hid (BB.out.trans (hb.mono BB.out.size))
      have S7 := Lib.hid (show w3.heap.size ≤ w4.heap.size from (by have h := hb.size; exact h))
      have O_v2 := Lib.hid (show Row.kLRt.In w3.heap.size w4.heap.size w4 (.slice x_v2 n_v2 c_v2) (l0) from ho); clear ho
      clear hb
      have c0_aN : w4.cell? ⟨w.heap.size, 0, none⟩ = some (.slice x_q1 n_q1 c_q1) := C_aN.out.cell 0
      have c0_w0 : w4.cell? ⟨g_v1, 0, none⟩ = some (.slice x_v1 n_v1 c_v1) := C_w0.out.cell 0
      go_wp2_with fail
      clear c0_aN c0_w0
      refine (Row.toNK _ l1 _ (Q1.out.on BB.out) (by omega)).mono ?_
      rintro e w5 ⟨v3, rfl, ho, hb⟩
      obtain ⟨x_v3, n_v3, c_v3, rfl, ho⟩ := Row.kN_shape ho
      replace C_aN := Lib.hid (C_aN.out.on hb)
      replace C_w0 := Lib.hid (C_w0.out.on hb)
      replace O_v1 := Lib.hid (O_v1.out.on hb)
      replace O_v2 := Lib.hid (O_v2.out.on hb)
      replace BB := Lib.hid (BB.out.trans (hb.mono BB.out.size))
      have S8 := Lib.hid (show w4.heap.size ≤ w5.heap.size from (by have h := hb.size; exact h))
      have O_v3 := Lib.hid (show Row.kN.In w4.heap.size w5.heap.size w5 (.agg #[.slice x_v3 n_v3 c_v3]) (l1) from ho); clear ho
      clear hb
      have hal := (Below.refl w5.heap.size w5).alloc (Nat.le_refl _) (.cells #[.slice x_v3 n_v3 c_v3] 27)
      replace C_aN := Lib.hid (C_aN.out.on hal)
      replace C_w0 := Lib.hid (C_w0.out.on hal)
      replace O_v1 := Lib.hid (O_v1.out.on hal)
      replace O_v2 := Lib.hid (O_v2.out.on hal)
      replace O_v3 := Lib.hid (O_v3.out.on hal)
      replace BB := Lib.hid (BB.out.trans (hal.mono BB.out.size))
      have S9 := Lib.hid (show (w5.alloc (.cells #[.slice x_v3 n_v3 c_v3] 27)).heap.size = w5.heap.size + 1 from World.size_alloc _ _)
      have C_x1 := Lib.hid (Ret.Blk.new w5 #[.slice x_v3 n_v3 c_v3] 27); clear hal
      have c0_aN : (w5.alloc (.cells #[.slice x_v3 n_v3 c_v3] 27)).cell? ⟨w.heap.size, 0, none⟩ = some (.slice x_q1 n_q1 c_q1) := C_aN.out.cell 0
      have c0_w0 : (w5.alloc (.cells #[.slice x_v3 n_v3 c_v3] 27)).cell? ⟨g_v1, 0, none⟩ = some (.slice x_v1 n_v1 c_v1) := C_w0.out.cell 0
      have c0_x1 : (w5.alloc (.cells #[.slice x_v3 n_v3 c_v3] 27)).cell? ⟨w5.heap.size, 0, none⟩ = some (.slice x_v3 n_v3 c_v3) := C_x1.out.cell 0
      go_wp2_with fail
      clear c0_aN c0_w0 c0_x1
      have f2 := Row.mpN_sz (l0) (l1)
      refine (Row.implMatchingPrefix _ _ (l0) (l1) _ (O_v2.out.at) (O_v3.out.at) (show Row.bulkK Row.wtRt (l0) ≤ 1100000 by omega) (by omega)).mono ?_
      rintro e w6 ⟨v4, rfl, ho, hb⟩
      obtain ⟨x_v4, n_v4, c_v4, rfl, ho⟩ := Row.kN_shape ho
      replace C_aN := Lib.hid (C_aN.out.on hb)
      replace C_w0 := Lib.hid (C_w0.out.on hb)
      replace C_x1 := Lib.hid (C_x1.out.on hb)
      replace O_v1 := Lib.hid (O_v1.out.on hb)
      replace O_v2 := Lib.hid (O_v2.out.on hb)
      replace O_v3 := Lib.hid (O_v3.out.on hb)
      replace BB := Lib.hid (BB.out.trans (hb.mono BB.out.size))
      have S10 := Lib.hid (show (w5.alloc (.cells #[.slice x_v3 n_v3 c_v3] 27)).heap.size ≤ w6.heap.size from (by have h := hb.size; exact h))
      have O_v4 := Lib.hid (show Row.kN.In (w5.alloc (.cells #[.slice x_v3 n_v3 c_v3] 27)).heap.size w6.heap.size w6 (.agg #[.slice x_v4 n_v4 c_v4]) (Row.mpN (l0) (l1)) from ho); clear ho
      clear hb
      have hal := (Below.refl w6.heap.size w6).alloc (Nat.le_refl _) (.cells #[.slice x_v4 n_v4 c_v4] 27)
      replace C_aN := Lib.hid (C_aN.out.on hal)
      replace C_w0 := Lib.hid (C_w0.out.on hal)
      replace C_x1 := Lib.hid (C_x1.out.on hal)
      replace O_v1 := Lib.hid (O_v1.out.on hal)
      replace O_v2 := Lib.hid (O_v2.out.on hal)
      replace O_v3 := Lib.hid (O_v3.out.on hal)
      replace O_v4 := Lib.hid (O_v4.out.on hal)
      replace BB := Lib.hid (BB.out.trans (hal.mono BB.out.size))
      have S11 := Lib.hid (show (w6.alloc (.cells #[.slice x_v4 n_v4 c_v4] 27)).heap.size = w6.heap.size + 1 from World.size_alloc _ _)
      have C_g0 := Lib.hid (Ret.Blk.new w6 #[.slice x_v4 n_v4 c_v4] 27); clear hal
      have c0_aN : (w6.alloc (.cells #[.slice x_v4 n_v4 c_v4] 27)).cell? ⟨w.heap.size, 0, none⟩ = some (.slice x_q1 n_q1 c_q1) := C_aN.out.cell 0
      have c0_w0 : (w6.alloc (.cells #[.slice x_v4 n_v4 c_v4] 27)).cell? ⟨g_v1, 0, none⟩ = some (.slice x_v1 n_v1 c_v1) := C_w0.out.cell 0
      have c0_x1 : (w6.alloc (.cells #[.slice x_v4 n_v4 c_v4] 27)).cell? ⟨w5.heap.size, 0, none⟩ = some (.slice x_v3 n_v3 c_v3) := C_x1.out.cell 0
      have c0_g0 : (w6.alloc (.cells #[.slice x_v4 n_v4 c_v4] 27)).cell? ⟨w6.heap.size, 0, none⟩ = some (.slice x_v4 n_v4 c_v4) := C_g0.out.cell 0
      go_wp2_with fail
      clear c0_aN c0_w0 c0_x1 c0_g0
      refine (Row.sameNK _ _ (Row.mpN (l0) (l1)) _ (O_v4.out.at) (O_v1.out.at) (by first | omega | (simp; omega) | (simp [Row.marks_length, Sl.marks_length, Row.mkW]; omega))).mono ?_
      rintro e w7 ⟨rfl, hb⟩
      replace C_aN := Lib.hid (C_aN.out.on hb)
      replace C_w0 := Lib.hid (C_w0.out.on hb)
      replace C_x1 := Lib.hid (C_x1.out.on hb)
      replace C_g0 := Lib.hid (C_g0.out.on hb)
      replace O_v1 := Lib.hid (O_v1.out.on hb)
      replace O_v2 := Lib.hid (O_v2.out.on hb)
      replace O_v3 := Lib.hid (O_v3.out.on hb)
      replace O_v4 := Lib.hid (O_v4.out.on hb)
      replace BB := Lib.hid (BB.out.trans (hb.mono BB.out.size))
      have S12 := Lib.hid (show (w6.alloc (.cells #[.slice x_v4 n_v4 c_v4] 27)).heap.size ≤ w7.heap.size from (by have h := hb.size; exact h))
      clear hb
      have c0_aN : w7.cell? ⟨w.heap.size, 0, none⟩ = some (.slice x_q1 n_q1 c_q1) := C_aN.out.cell 0
      have c0_w0 : w7.cell? ⟨g_v1, 0, none⟩ = some (.slice x_v1 n_v1 c_v1) := C_w0.out.cell 0
      have c0_x1 : w7.cell? ⟨w5.heap.size, 0, none⟩ = some (.slice x_v3 n_v3 c_v3) := C_x1.out.cell 0
      have c0_g0 : w7.cell? ⟨w6.heap.size, 0, none⟩ = some (.slice x_v4 n_v4 c_v4) := C_g0.out.cell 0
      go_wp2_with fail
      clear c0_aN c0_w0 c0_x1 c0_g0
      refine (Row.toLRtK _ l0 _ (Q0.out.on BB.out) (by omega)).mono ?_
      rintro e w8 ⟨v5, rfl, ho, hb⟩
      obtain ⟨x_v5, n_v5, c_v5, rfl, ho⟩ := Row.kLRt_shape ho
      replace C_aN := Lib.hid (C_aN.out.on hb)
      replace C_w0 := Lib.hid (C_w0.out.on hb)
      replace C_x1 := Lib.hid (C_x1.out.on hb)
      replace C_g0 := Lib.hid (C_g0.out.on hb)
      replace O_v1 := Lib.hid (O_v1.out.on hb)
      replace O_v2 := Lib.hid (O_v2.out.on hb)
      replace O_v3 := Lib.hid (O_v3.out.on hb)
      replace O_v4 := Lib.hid (O_v4.out.on hb)
      replace BB := Lib.hid (BB.out.trans (hb.mono BB.out.size))
      have S13 := Lib.hid (show w7.heap.size ≤ w8.heap.size from (by have h := hb.size; exact h))
      have O_v5 := Lib.hid (show Row.kLRt.In w7.heap.size w8.heap.size w8 (.slice x_v5 n_v5 c_v5) (l0) from ho); clear ho
      clear hb
      have c0_aN : w8.cell? ⟨w.heap.size, 0, none⟩ = some (.slice x_q1 n_q1 c_q1) := C_aN.out.cell 0
      have c0_w0 : w8.cell? ⟨g_v1, 0, none⟩ = some (.slice x_v1 n_v1 c_v1) := C_w0.out.cell 0
      have c0_x1 : w8.cell? ⟨w5.heap.size, 0, none⟩ = some (.slice x_v3 n_v3 c_v3) := C_x1.out.cell 0
      have c0_g0 : w8.cell? ⟨w6.heap.size, 0, none⟩ = some (.slice x_v4 n_v4 c_v4) := C_g0.out.cell 0
      go_wp2_with fail
      clear c0_aN c0_w0 c0_x1 c0_g0
      refine (Row.eqLRtK _ _ (l0) _ (O_v2.out.at) (O_v5.out.at) (by first | omega | (simp; omega) | (simp [Row.marks_length, Sl.marks_length, Row.mkW]; omega))).mono ?_
      rintro e w9 ⟨rfl, hb⟩
      replace C_aN := Lib.hid (C_aN.out.on hb)
      replace C_w0 := Lib.hid (C_w0.out.on hb)
      replace C_x1 := Lib.hid (C_x1.out.on hb)
      replace C_g0 := Lib.hid (C_g0.out.on hb)
      replace O_v1 := Lib.hid (O_v1.out.on hb)
      replace O_v2 := Lib.hid (O_v2.out.on hb)
      replace O_v3 := Lib.hid (O_v3.out.on hb)
      replace O_v4 := Lib.hid (O_v4.out.on hb)
      replace O_v5 := Lib.hid (O_v5.out.on hb)
      replace BB := Lib.hid (BB.out.trans (hb.mono BB.out.size))
      have S14 := Lib.hid (show w8.heap.size ≤ w9.heap.size from (by have h := hb.size; exact h))
      clear hb
      have c0_aN : w9.cell? ⟨w.heap.size, 0, none⟩ = some (.slice x_q1 n_q1 c_q1) := C_aN.out.cell 0
      have c0_w0 : w9.cell? ⟨g_v1, 0, none⟩ = some (.slice x_v1 n_v1 c_v1) := C_w0.out.cell 0
      have c0_x1 : w9.cell? ⟨w5.heap.size, 0, none⟩ = some (.slice x_v3 n_v3 c_v3) := C_x1.out.cell 0
      have c0_g0 : w9.cell? ⟨w6.heap.size, 0, none⟩ = some (.slice x_v4 n_v4 c_v4) := C_g0.out.cell 0
      go_wp2_with fail
      clear c0_aN c0_w0 c0_x1 c0_g0
      clear O_v5
      have hdr : Below w9.heap.size w9 w9.drew := (Below.refl _ _).drew
      replace C_aN := Lib.hid (C_aN.out.on hdr)
      replace C_w0 := Lib.hid (C_w0.out.on hdr)
      replace C_x1 := Lib.hid (C_x1.out.on hdr)
      replace C_g0 := Lib.hid (C_g0.out.on hdr)
      replace O_v1 := Lib.hid (O_v1.out.on hdr)
      replace O_v2 := Lib.hid (O_v2.out.on hdr)
      replace O_v3 := Lib.hid (O_v3.out.on hdr)
      replace O_v4 := Lib.hid (O_v4.out.on hdr)
      replace BB := Lib.hid (BB.out.trans (hdr.mono BB.out.size))
      clear hdr
      have KS0 := Lib.hid (show w9.drew.cell? ⟨w5.heap.size, 0, none⟩ = some (.slice x_v3 n_v3 c_v3) ∧ w9.drew.cell? ⟨w.heap.size, 0, none⟩ = some (.slice x_q1 n_q1 c_q1) ∧ Below w.heap.size w w9.drew from ⟨C_x1.out.cell 0, C_aN.out.cell 0, BB.out⟩)
      go_region_held3 (fun w' => w'.cell? ⟨w5.heap.size, 0, none⟩ = some (.slice x_v3 n_v3 c_v3) ∧ w'.cell? ⟨w.heap.size, 0, none⟩ = some (.slice x_q1 n_q1 c_q1) ∧ Below w.heap.size w w') (first | exact KS0.out | exact KS1.out | exact KS2.out) ((first | (go_at_call 34; refine (Row.sameNK _ _ (l1) _ ((O_v3.out.at).on hba) hoa.at (by first | omega | (simp; omega) | (simp [Row.marks_length, Sl.marks_length, Row.mkW]; omega))).mono ?_; rintro e w11 ⟨rfl, hbb⟩; have KS2 := Lib.hid (show (fun w' => w'.cell? ⟨w5.heap.size, 0, none⟩ = some (.slice x_v3 n_v3 c_v3) ∧ w'.cell? ⟨w.heap.size, 0, none⟩ = some (.slice x_q1 n_q1 c_q1) ∧ Below w.heap.size w w') _ from ⟨Row.kc KS1.out.1 hbb, Row.kc KS1.out.2.1 hbb, KS1.out.2.2.trans (hbb.mono KS1.out.2.2.size)⟩)) | (go_at_call 32; refine (Row.toNK _ l1 _ (Q1.out.on BB.out) (by omega)).mono ?_; rintro e w10 ⟨v6, rfl, hoa, hba⟩; obtain ⟨x_v6, n_v6, c_v6, rfl, hoa⟩ := Row.kN_shape hoa; have KS1 := Lib.hid (show (fun w' => w'.cell? ⟨w5.heap.size, 0, none⟩ = some (.slice x_v3 n_v3 c_v3) ∧ w'.cell? ⟨w.heap.size, 0, none⟩ = some (.slice x_q1 n_q1 c_q1) ∧ Below w.heap.size w w') _ from ⟨Row.kc KS0.out.1 hba, Row.kc KS0.out.2.1 hba, KS0.out.2.2.trans (hba.mono KS0.out.2.2.size)⟩))))
      clear KS0 KS1 KS2 hoa
      replace C_aN := Lib.hid (C_aN.out.on hba)
      replace C_w0 := Lib.hid (C_w0.out.on hba)
      replace C_x1 := Lib.hid (C_x1.out.on hba)
      replace C_g0 := Lib.hid (C_g0.out.on hba)
      replace O_v1 := Lib.hid (O_v1.out.on hba)
      replace O_v2 := Lib.hid (O_v2.out.on hba)
      replace O_v3 := Lib.hid (O_v3.out.on hba)
      replace O_v4 := Lib.hid (O_v4.out.on hba)
      replace BB := Lib.hid (BB.out.trans (hba.mono BB.out.size))
      have S15 := Lib.hid (show w9.heap.size ≤ w10.heap.size from (by have h := hba.size; exact h))
      replace C_aN := Lib.hid (C_aN.out.on hbb)
      replace C_w0 := Lib.hid (C_w0.out.on hbb)
      replace C_x1 := Lib.hid (C_x1.out.on hbb)
      replace C_g0 := Lib.hid (C_g0.out.on hbb)
      replace O_v1 := Lib.hid (O_v1.out.on hbb)
      replace O_v2 := Lib.hid (O_v2.out.on hbb)
      replace O_v3 := Lib.hid (O_v3.out.on hbb)
      replace O_v4 := Lib.hid (O_v4.out.on hbb)
      replace BB := Lib.hid (BB.out.trans (hbb.mono BB.out.size))
      have S16 := Lib.hid (show w10.heap.size ≤ w11.heap.size from (by have h := hbb.size; exact h))
      clear hba hbb
      have c0_aN : w11.cell? ⟨w.heap.size, 0, none⟩ = some (.slice x_q1 n_q1 c_q1) := C_aN.out.cell 0
      have c0_w0 : w11.cell? ⟨g_v1, 0, none⟩ = some (.slice x_v1 n_v1 c_v1) := C_w0.out.cell 0
      have c0_x1 : w11.cell? ⟨w5.heap.size, 0, none⟩ = some (.slice x_v3 n_v3 c_v3) := C_x1.out.cell 0
      have c0_g0 : w11.cell? ⟨w6.heap.size, 0, none⟩ = some (.slice x_v4 n_v4 c_v4) := C_g0.out.cell 0
      go_wp2_with fail
      clear c0_aN c0_w0 c0_x1 c0_g0
      refine (Row.markLRtK _ _ _ (l0) _ (1) O_v2.out (by first | omega | (simp; omega) | (simp [Row.marks_length, Sl.marks_length, Row.mkW]; omega)) (by first | omega | (simp; omega) | (simp [Row.marks_length, Sl.marks_length, Row.mkW]; omega)) (by first | omega | (simp; omega) | (simp [Row.marks_length, Sl.marks_length, Row.mkW]; omega))).mono ?_
      rintro e w12 ⟨rfl, ho, hg⟩
      replace C_aN := Lib.hid (hg.blk C_aN.out (by have := S1.out; have := S2.out; have := S3.out; have := S4.out; have := S5.out; have := S6.out; have := S7.out; have := S8.out; have := S9.out; have := S10.out; have := S11.out; have := S12.out; have := S13.out; have := S14.out; have := S15.out; have := S16.out; omega))
      replace C_w0 := Lib.hid (hg.blk C_w0.out (by have := S1.out; have := S2.out; have := S3.out; have := S4.out; have := S5.out; have := S6.out; have := S7.out; have := S8.out; have := S9.out; have := S10.out; have := S11.out; have := S12.out; have := S13.out; have := S14.out; have := S15.out; have := S16.out; omega))
      replace C_x1 := Lib.hid (hg.blk C_x1.out (by have := S1.out; have := S2.out; have := S3.out; have := S4.out; have := S5.out; have := S6.out; have := S7.out; have := S8.out; have := S9.out; have := S10.out; have := S11.out; have := S12.out; have := S13.out; have := S14.out; have := S15.out; have := S16.out; omega))
      replace C_g0 := Lib.hid (hg.blk C_g0.out (by have := S1.out; have := S2.out; have := S3.out; have := S4.out; have := S5.out; have := S6.out; have := S7.out; have := S8.out; have := S9.out; have := S10.out; have := S11.out; have := S12.out; have := S13.out; have := S14.out; have := S15.out; have := S16.out; omega))
      replace O_v1 := Lib.hid (O_v1.out.wrote hg (by have := S1.out; have := S2.out; have := S3.out; have := S4.out; have := S5.out; have := S6.out; have := S7.out; have := S8.out; have := S9.out; have := S10.out; have := S11.out; have := S12.out; have := S13.out; have := S14.out; have := S15.out; have := S16.out; omega))
      replace O_v3 := Lib.hid (O_v3.out.wrote hg (by have := S1.out; have := S2.out; have := S3.out; have := S4.out; have := S5.out; have := S6.out; have := S7.out; have := S8.out; have := S9.out; have := S10.out; have := S11.out; have := S12.out; have := S13.out; have := S14.out; have := S15.out; have := S16.out; omega))
      replace O_v4 := Lib.hid (O_v4.out.wrote hg (by have := S1.out; have := S2.out; have := S3.out; have := S4.out; have := S5.out; have := S6.out; have := S7.out; have := S8.out; have := S9.out; have := S10.out; have := S11.out; have := S12.out; have := S13.out; have := S14.out; have := S15.out; have := S16.out; omega))
      replace BB := Lib.hid (hg.below BB.out BB.out.size (by have := S1.out; have := S2.out; have := S3.out; have := S4.out; have := S5.out; have := S6.out; have := S7.out; have := S8.out; have := S9.out; have := S10.out; have := S11.out; have := S12.out; have := S13.out; have := S14.out; have := S15.out; have := S16.out; omega))
      have S17 := Lib.hid (show w11.heap.size ≤ w12.heap.size from hg.size)
      replace O_v2 := Lib.hid ho; clear ho hg
      have c0_aN : w12.cell? ⟨w.heap.size, 0, none⟩ = some (.slice x_q1 n_q1 c_q1) := C_aN.out.cell 0
      have c0_w0 : w12.cell? ⟨g_v1, 0, none⟩ = some (.slice x_v1 n_v1 c_v1) := C_w0.out.cell 0
      have c0_x1 : w12.cell? ⟨w5.heap.size, 0, none⟩ = some (.slice x_v3 n_v3 c_v3) := C_x1.out.cell 0
      have c0_g0 : w12.cell? ⟨w6.heap.size, 0, none⟩ = some (.slice x_v4 n_v4 c_v4) := C_g0.out.cell 0
      go_wp2_with fail
      clear c0_aN c0_w0 c0_x1 c0_g0
      refine (Row.markNK _ _ _ (l1) _ (1 + (Row.advK Row.mvRt (l0) : Int)) O_v3.out (by first | omega | (simp; omega) | (simp [Row.marks_length, Sl.marks_length, Row.mkW]; omega)) (by first | omega | (simp; omega) | (simp [Row.marks_length, Sl.marks_length, Row.mkW]; omega)) (by first | omega | (simp; omega) | (simp [Row.marks_length, Sl.marks_length, Row.mkW]; omega))).mono ?_
      rintro e w13 ⟨rfl, ho, hg⟩
      replace C_aN := Lib.hid (hg.blk C_aN.out (by have := S1.out; have := S2.out; have := S3.out; have := S4.out; have := S5.out; have := S6.out; have := S7.out; have := S8.out; have := S9.out; have := S10.out; have := S11.out; have := S12.out; have := S13.out; have := S14.out; have := S15.out; have := S16.out; have := S17.out; omega))
      replace C_w0 := Lib.hid (hg.blk C_w0.out (by have := S1.out; have := S2.out; have := S3.out; have := S4.out; have := S5.out; have := S6.out; have := S7.out; have := S8.out; have := S9.out; have := S10.out; have := S11.out; have := S12.out; have := S13.out; have := S14.out; have := S15.out; have := S16.out; have := S17.out; omega))
      replace C_x1 := Lib.hid (hg.blk C_x1.out (by have := S1.out; have := S2.out; have := S3.out; have := S4.out; have := S5.out; have := S6.out; have := S7.out; have := S8.out; have := S9.out; have := S10.out; have := S11.out; have := S12.out; have := S13.out; have := S14.out; have := S15.out; have := S16.out; have := S17.out; omega))
      replace C_g0 := Lib.hid (hg.blk C_g0.out (by have := S1.out; have := S2.out; have := S3.out; have := S4.out; have := S5.out; have := S6.out; have := S7.out; have := S8.out; have := S9.out; have := S10.out; have := S11.out; have := S12.out; have := S13.out; have := S14.out; have := S15.out; have := S16.out; have := S17.out; omega))
      replace O_v1 := Lib.hid (O_v1.out.wrote hg (by have := S1.out; have := S2.out; have := S3.out; have := S4.out; have := S5.out; have := S6.out; have := S7.out; have := S8.out; have := S9.out; have := S10.out; have := S11.out; have := S12.out; have := S13.out; have := S14.out; have := S15.out; have := S16.out; have := S17.out; omega))
      replace O_v2 := Lib.hid (O_v2.out.wrote hg (by have := S1.out; have := S2.out; have := S3.out; have := S4.out; have := S5.out; have := S6.out; have := S7.out; have := S8.out; have := S9.out; have := S10.out; have := S11.out; have := S12.out; have := S13.out; have := S14.out; have := S15.out; have := S16.out; have := S17.out; omega))
      replace O_v4 := Lib.hid (O_v4.out.wrote hg (by have := S1.out; have := S2.out; have := S3.out; have := S4.out; have := S5.out; have := S6.out; have := S7.out; have := S8.out; have := S9.out; have := S10.out; have := S11.out; have := S12.out; have := S13.out; have := S14.out; have := S15.out; have := S16.out; have := S17.out; omega))
      replace BB := Lib.hid (hg.below BB.out BB.out.size (by have := S1.out; have := S2.out; have := S3.out; have := S4.out; have := S5.out; have := S6.out; have := S7.out; have := S8.out; have := S9.out; have := S10.out; have := S11.out; have := S12.out; have := S13.out; have := S14.out; have := S15.out; have := S16.out; have := S17.out; omega))
      have S18 := Lib.hid (show w12.heap.size ≤ w13.heap.size from hg.size)
      replace O_v3 := Lib.hid ho; clear ho hg
      have c0_aN : w13.cell? ⟨w.heap.size, 0, none⟩ = some (.slice x_q1 n_q1 c_q1) := C_aN.out.cell 0
      have c0_w0 : w13.cell? ⟨g_v1, 0, none⟩ = some (.slice x_v1 n_v1 c_v1) := C_w0.out.cell 0
      have c0_x1 : w13.cell? ⟨w5.heap.size, 0, none⟩ = some (.slice x_v3 n_v3 c_v3) := C_x1.out.cell 0
      have c0_g0 : w13.cell? ⟨w6.heap.size, 0, none⟩ = some (.slice x_v4 n_v4 c_v4) := C_g0.out.cell 0
      go_wp2_with fail
      clear c0_aN c0_w0 c0_x1 c0_g0
      refine (Row.sameNK _ _ (Row.mpN (l0) (l1)) _ (O_v4.out.at) (O_v1.out.at) (by first | omega | (simp; omega) | (simp [Row.marks_length, Sl.marks_length, Row.mkW]; omega))).mono ?_
      rintro e w14 ⟨rfl, hb⟩
      replace C_aN := Lib.hid (C_aN.out.on hb)
      replace C_w0 := Lib.hid (C_w0.out.on hb)
      replace C_x1 := Lib.hid (C_x1.out.on hb)
      replace C_g0 := Lib.hid (C_g0.out.on hb)
      replace O_v1 := Lib.hid (O_v1.out.on hb)
      replace O_v2 := Lib.hid (O_v2.out.on hb)
      replace O_v3 := Lib.hid (O_v3.out.on hb)
      replace O_v4 := Lib.hid (O_v4.out.on hb)
      replace BB := Lib.hid (BB.out.trans (hb.mono BB.out.size))
      have S19 := Lib.hid (show w13.heap.size ≤ w14.heap.size from (by have h := hb.size; exact h))
      clear hb
      have c0_aN : w14.cell? ⟨w.heap.size, 0, none⟩ = some (.slice x_q1 n_q1 c_q1) := C_aN.out.cell 0
      have c0_w0 : w14.cell? ⟨g_v1, 0, none⟩ = some (.slice x_v1 n_v1 c_v1) := C_w0.out.cell 0
      have c0_x1 : w14.cell? ⟨w5.heap.size, 0, none⟩ = some (.slice x_v3 n_v3 c_v3) := C_x1.out.cell 0
      have c0_g0 : w14.cell? ⟨w6.heap.size, 0, none⟩ = some (.slice x_v4 n_v4 c_v4) := C_g0.out.cell 0
      go_wp2_with fail
      clear c0_aN c0_w0 c0_x1 c0_g0
      refine (Row.markNK _ _ _ (Row.mpN (l0) (l1)) _ (1) O_v4.out (by first | omega | (simp; omega) | (simp [Row.marks_length, Sl.marks_length, Row.mkW]; omega)) (by first | omega | (simp; omega) | (simp [Row.marks_length, Sl.marks_length, Row.mkW]; omega)) (by first | omega | (simp; omega) | (simp [Row.marks_length, Sl.marks_length, Row.mkW]; omega))).mono ?_
      rintro e w15 ⟨rfl, ho, hg⟩
      replace C_aN := Lib.hid (hg.blk C_aN.out (by have := S1.out; have := S2.out; have := S3.out; have := S4.out; have := S5.out; have := S6.out; have := S7.out; have := S8.out; have := S9.out; have := S10.out; have := S11.out; have := S12.out; have := S13.out; have := S14.out; have := S15.out; have := S16.out; have := S17.out; have := S18.out; have := S19.out; omega))
      replace C_w0 := Lib.hid (hg.blk C_w0.out (by have := S1.out; have := S2.out; have := S3.out; have := S4.out; have := S5.out; have := S6.out; have := S7.out; have := S8.out; have := S9.out; have := S10.out; have := S11.out; have := S12.out; have := S13.out; have := S14.out; have := S15.out; have := S16.out; have := S17.out; have := S18.out; have := S19.out; omega))
      replace C_x1 := Lib.hid (hg.blk C_x1.out (by have := S1.out; have := S2.out; have := S3.out; have := S4.out; have := S5.out; have := S6.out; have := S7.out; have := S8.out; have := S9.out; have := S10.out; have := S11.out; have := S12.out; have := S13.out; have := S14.out; have := S15.out; have := S16.out; have := S17.out; have := S18.out; have := S19.out; omega))
      replace C_g0 := Lib.hid (hg.blk C_g0.out (by have := S1.out; have := S2.out; have := S3.out; have := S4.out; have := S5.out; have := S6.out; have := S7.out; have := S8.out; have := S9.out; have := S10.out; have := S11.out; have := S12.out; have := S13.out; have := S14.out; have := S15.out; have := S16.out; have := S17.out; have := S18.out; have := S19.out; omega))
      replace O_v1 := Lib.hid (O_v1.out.wrote hg (by have := S1.out; have := S2.out; have := S3.out; have := S4.out; have := S5.out; have := S6.out; have := S7.out; have := S8.out; have := S9.out; have := S10.out; have := S11.out; have := S12.out; have := S13.out; have := S14.out; have := S15.out; have := S16.out; have := S17.out; have := S18.out; have := S19.out; omega))
      replace O_v2 := Lib.hid (O_v2.out.wrote hg (by have := S1.out; have := S2.out; have := S3.out; have := S4.out; have := S5.out; have := S6.out; have := S7.out; have := S8.out; have := S9.out; have := S10.out; have := S11.out; have := S12.out; have := S13.out; have := S14.out; have := S15.out; have := S16.out; have := S17.out; have := S18.out; have := S19.out; omega))
      replace O_v3 := Lib.hid (O_v3.out.wrote hg (by have := S1.out; have := S2.out; have := S3.out; have := S4.out; have := S5.out; have := S6.out; have := S7.out; have := S8.out; have := S9.out; have := S10.out; have := S11.out; have := S12.out; have := S13.out; have := S14.out; have := S15.out; have := S16.out; have := S17.out; have := S18.out; have := S19.out; omega))
      replace BB := Lib.hid (hg.below BB.out BB.out.size (by have := S1.out; have := S2.out; have := S3.out; have := S4.out; have := S5.out; have := S6.out; have := S7.out; have := S8.out; have := S9.out; have := S10.out; have := S11.out; have := S12.out; have := S13.out; have := S14.out; have := S15.out; have := S16.out; have := S17.out; have := S18.out; have := S19.out; omega))
      have S20 := Lib.hid (show w14.heap.size ≤ w15.heap.size from hg.size)
      replace O_v4 := Lib.hid ho; clear ho hg
      have c0_aN : w15.cell? ⟨w.heap.size, 0, none⟩ = some (.slice x_q1 n_q1 c_q1) := C_aN.out.cell 0
      have c0_w0 : w15.cell? ⟨g_v1, 0, none⟩ = some (.slice x_v1 n_v1 c_v1) := C_w0.out.cell 0
      have c0_x1 : w15.cell? ⟨w5.heap.size, 0, none⟩ = some (.slice x_v3 n_v3 c_v3) := C_x1.out.cell 0
      have c0_g0 : w15.cell? ⟨w6.heap.size, 0, none⟩ = some (.slice x_v4 n_v4 c_v4) := C_g0.out.cell 0
      go_wp2_with fail
      clear c0_aN c0_w0 c0_x1 c0_g0
      refine (Row.heldNK _ _ (1) (Row.mpN (l0) (l1)) (O_v4.out.at) (by first | omega | (simp; omega) | (simp [Row.marks_length, Sl.marks_length, Row.mkW]; omega)) (by first | omega | (simp; omega) | (simp [Row.marks_length, Sl.marks_length, Row.mkW]; omega)) (by first | omega | (simp; omega) | (simp [Row.marks_length, Sl.marks_length, Row.mkW]; omega))).mono ?_
      rintro e w16 ⟨rfl, hb⟩
      replace C_aN := Lib.hid (C_aN.out.on hb)
      replace C_w0 := Lib.hid (C_w0.out.on hb)
      replace C_x1 := Lib.hid (C_x1.out.on hb)
      replace C_g0 := Lib.hid (C_g0.out.on hb)
      replace O_v1 := Lib.hid (O_v1.out.on hb)
      replace O_v2 := Lib.hid (O_v2.out.on hb)
      replace O_v3 := Lib.hid (O_v3.out.on hb)
      replace O_v4 := Lib.hid (O_v4.out.on hb)
      replace BB := Lib.hid (BB.out.trans (hb.mono BB.out.size))
      have S21 := Lib.hid (show w15.heap.size ≤ w16.heap.size from (by have h := hb.size; exact h))
      clear hb
      have c0_aN : w16.cell? ⟨w.heap.size, 0, none⟩ = some (.slice x_q1 n_q1 c_q1) := C_aN.out.cell 0
      have c0_w0 : w16.cell? ⟨g_v1, 0, none⟩ = some (.slice x_v1 n_v1 c_v1) := C_w0.out.cell 0
      have c0_x1 : w16.cell? ⟨w5.heap.size, 0, none⟩ = some (.slice x_v3 n_v3 c_v3) := C_x1.out.cell 0
      have c0_g0 : w16.cell? ⟨w6.heap.size, 0, none⟩ = some (.slice x_v4 n_v4 c_v4) := C_g0.out.cell 0
      go_wp2_with fail
      clear c0_aN c0_w0 c0_x1 c0_g0
      have f3 := Row.mpN_sz (l0) (l1)
      refine Row.implregR14 (Lib.hid (Q0.out.on BB.out)) (Lib.hid (Q1.out.on BB.out)) b0 b1 (Lib.hid (C_aN.out.cell 0)) ?_
      intro u0 u1 u2 u3 u4 u5 u6 u7 g_v7 n_v7 c_v7 x_v7 w17 hb ho hblk hg1 hg2
      replace C_aN := Lib.hid (C_aN.out.on hb)
      replace C_w0 := Lib.hid (C_w0.out.on hb)
      replace C_x1 := Lib.hid (C_x1.out.on hb)
      replace C_g0 := Lib.hid (C_g0.out.on hb)
      replace O_v1 := Lib.hid (O_v1.out.on hb)
      replace O_v2 := Lib.hid (O_v2.out.on hb)
      replace O_v3 := Lib.hid (O_v3.out.on hb)
      replace O_v4 := Lib.hid (O_v4.out.on hb)
      replace BB := Lib.hid (BB.out.trans (hb.mono BB.out.size))
      have S22 := Lib.hid (show w16.heap.size ≤ w17.heap.size from (by have h := hb.size; exact h))
      have O_v7 := Lib.hid (show Row.kN.In w16.heap.size w17.heap.size w17 (.agg #[.slice x_v7 n_v7 c_v7]) (Row.mpN (l0) (l1)) from ho); clear ho
      have S23 := Lib.hid (show w16.heap.size ≤ g_v7 from hg1)
      have S24 := Lib.hid (show g_v7 < w17.heap.size from hg2)
      have C_h0 := Lib.hid (show Ret.Blk w17 g_v7 #[.slice x_v7 n_v7 c_v7] 27 from hblk); clear hblk hb hg1 hg2
      have c0_aN : w17.cell? ⟨w.heap.size, 0, none⟩ = some (.slice x_q1 n_q1 c_q1) := C_aN.out.cell 0
      have c0_w0 : w17.cell? ⟨g_v1, 0, none⟩ = some (.slice x_v1 n_v1 c_v1) := C_w0.out.cell 0
      have c0_x1 : w17.cell? ⟨w5.heap.size, 0, none⟩ = some (.slice x_v3 n_v3 c_v3) := C_x1.out.cell 0
      have c0_g0 : w17.cell? ⟨w6.heap.size, 0, none⟩ = some (.slice x_v4 n_v4 c_v4) := C_g0.out.cell 0
      have c0_h0 : w17.cell? ⟨g_v7, 0, none⟩ = some (.slice x_v7 n_v7 c_v7) := C_h0.out.cell 0
      go_wp2_with fail
      clear c0_aN c0_w0 c0_x1 c0_g0 c0_h0
      refine (Row.sameNK _ _ (Row.mpN (l0) (l1)) _ (O_v7.out.at) (O_v1.out.at) (by first | omega | (simp; omega) | (simp [Row.marks_length, Sl.marks_length, Row.mkW]; omega))).mono ?_
      rintro e w18 ⟨rfl, hb⟩
      replace C_aN := Lib.hid (C_aN.out.on hb)
      replace C_w0 := Lib.hid (C_w0.out.on hb)
      replace C_x1 := Lib.hid (C_x1.out.on hb)
      replace C_g0 := Lib.hid (C_g0.out.on hb)
      replace C_h0 := Lib.hid (C_h0.out.on hb)
      replace O_v1 := Lib.hid (O_v1.out.on hb)
      replace O_v2 := Lib.hid (O_v2.out.on hb)
      replace O_v3 := Lib.hid (O_v3.out.on hb)
      replace O_v4 := Lib.hid (O_v4.out.on hb)
      replace O_v7 := Lib.hid (O_v7.out.on hb)
      replace BB := Lib.hid (BB.out.trans (hb.mono BB.out.size))
      have S25 := Lib.hid (show w17.heap.size ≤ w18.heap.size from (by have h := hb.size; exact h))
      clear hb
      have c0_aN : w18.cell? ⟨w.heap.size, 0, none⟩ = some (.slice x_q1 n_q1 c_q1) := C_aN.out.cell 0
      have c0_w0 : w18.cell? ⟨g_v1, 0, none⟩ = some (.slice x_v1 n_v1 c_v1) := C_w0.out.cell 0
      have c0_x1 : w18.cell? ⟨w5.heap.size, 0, none⟩ = some (.slice x_v3 n_v3 c_v3) := C_x1.out.cell 0
      have c0_g0 : w18.cell? ⟨w6.heap.size, 0, none⟩ = some (.slice x_v4 n_v4 c_v4) := C_g0.out.cell 0
      have c0_h0 : w18.cell? ⟨g_v7, 0, none⟩ = some (.slice x_v7 n_v7 c_v7) := C_h0.out.cell 0
      go_wp2_with fail
      clear c0_aN c0_w0 c0_x1 c0_g0 c0_h0
      refine (Row.heldNK _ _ (1) (Row.mpN (l0) (l1)) (O_v4.out.at) (by first | omega | (simp; omega) | (simp [Row.marks_length, Sl.marks_length, Row.mkW]; omega)) (by first | omega | (simp; omega) | (simp [Row.marks_length, Sl.marks_length, Row.mkW]; omega)) (by first | omega | (simp; omega) | (simp [Row.marks_length, Sl.marks_length, Row.mkW]; omega))).mono ?_
      rintro e w19 ⟨rfl, hb⟩
      replace C_aN := Lib.hid (C_aN.out.on hb)
      replace C_w0 := Lib.hid (C_w0.out.on hb)
      replace C_x1 := Lib.hid (C_x1.out.on hb)
      replace C_g0 := Lib.hid (C_g0.out.on hb)
      replace C_h0 := Lib.hid (C_h0.out.on hb)
      replace O_v1 := Lib.hid (O_v1.out.on hb)
      replace O_v2 := Lib.hid (O_v2.out.on hb)
      replace O_v3 := Lib.hid (O_v3.out.on hb)
      replace O_v4 := Lib.hid (O_v4.out.on hb)
      replace O_v7 := Lib.hid (O_v7.out.on hb)
      replace BB := Lib.hid (BB.out.trans (hb.mono BB.out.size))
      have S26 := Lib.hid (show w18.heap.size ≤ w19.heap.size from (by have h := hb.size; exact h))
      clear hb
      have c0_aN : w19.cell? ⟨w.heap.size, 0, none⟩ = some (.slice x_q1 n_q1 c_q1) := C_aN.out.cell 0
      have c0_w0 : w19.cell? ⟨g_v1, 0, none⟩ = some (.slice x_v1 n_v1 c_v1) := C_w0.out.cell 0
      have c0_x1 : w19.cell? ⟨w5.heap.size, 0, none⟩ = some (.slice x_v3 n_v3 c_v3) := C_x1.out.cell 0
      have c0_g0 : w19.cell? ⟨w6.heap.size, 0, none⟩ = some (.slice x_v4 n_v4 c_v4) := C_g0.out.cell 0
      have c0_h0 : w19.cell? ⟨g_v7, 0, none⟩ = some (.slice x_v7 n_v7 c_v7) := C_h0.out.cell 0
      go_wp2_with fail
      clear c0_aN c0_w0 c0_x1 c0_g0 c0_h0
      go_ret
      exact ⟨rfl, BB.out⟩
    · -- out
      rw [Row.szL_not (by omega)]
      go_wp2
      go_ret
      exact ⟨rfl, BB.out⟩
  · -- out
    rw [Row.szW_not (by omega)]
    go_wp2
    go_ret
    exact ⟨rfl, BB.out⟩

set_option maxRecDepth 100000 in
theorem lifted (os : Os) (started : os.Started) (H : Type) (enc : TypeId × Value → H) :
    ReturnsInHanded {} Try.checked os 7 .any (Rows.fnExactMatchingPrefixSpec.pre6 enc Try.prog Try.f7 Rows.fnExactMatchingPrefixRow.domain false) (Rows.fnExactMatchingPrefixSpec.post enc Try.prog Try.f7 false true false false) := by
  refine returnsInHanded_of_change_sized (C := Try.checked) own started (by kernel_rfl) Try.func7
    (ChangeSpec.witness6 (enc := enc) (C := Try.checked) false ⟨#[], #[.slice none 0 0, .agg #[.slice none 0 0]], []⟩ 8 (by kernel_rfl) (by kernel_rfl) (by kernel_rfl) (by kernel_rfl)) ?_
  intro W base args ds gs before hval0 hW _ hsz0 _
  have hval : ∀ (j : Nat) t v, Try.f7.params[j]? = some t → args[j]? = some v → Value.okWide Try.prog W .any base t v := hval0
  have hsz : (DataW.weightsEach Try.prog (Try.f7.params.toList ++ Rows.fnExactMatchingPrefixSpec.plain.varTypes Try.prog) (ds ++ gs)).all (· ≤ reachBytes) = true := hsz0
  clear hsz0
  have hW' := hW
  obtain ⟨p, q, hA0, hV, rfl, hfz, hnd⟩ := hW
  have hA : DataW.TrodAll enc Try.prog W 0 (fun _ => true) true Try.f7.params.toList args.toList ds p := hA0
  rw [Try.params7] at hA hval hsz
  obtain ⟨v0, vs0, d0, ds0, p0, q0, hargs, rfl, rfl, h0, r0⟩ := trodAll_cons hA
  obtain ⟨v1, vs1, d1, ds1, p1, q1, rfl, rfl, rfl, h1, r1⟩ := trodAll_cons r0
  obtain ⟨rfl, rfl, rfl⟩ := trodAll_nil r1
  obtain rfl : args = #[v0, v1] := by cases args; simp_all
  obtain ⟨rfl, rfl⟩ := trodVars_none hV
  obtain ⟨l0, q0, n0⟩ := Row.open_sliceK Row.opens_RouteS Try.underlying39 (hval 0 39 v0 rfl rfl) h0
  obtain ⟨y1, l1, rfl, q1, n1, m1⟩ := Row.open_name (t := 46) (e := 25) (s := 9) Try.underlying46 rfl rfl (by kernel_rfl) (by kernel_rfl) Try.underlying25 Try.underlying9 (by kernel_rfl) (hval 1 46 v1 rfl rfl) h1
  clear hA0 hval0
  refine (walk W _ _ q0 n0 n0 _ _ q1 n1 m1).mono fun e W' ⟨he, hb⟩ => ?_
  subst he
  exact ⟨_, rfl, Frame.law_post laidOut (by kernel_rfl) rfl Try.underlying4 rfl rfl hW' hb⟩

theorem said : Rows.FnExactMatchingPrefixSaid :=
  OpenClaim.holds_of_wide 7 Try.f7 rfl rfl rfl rfl rfl rfl rfl ⟨rfl, rfl, rfl, rfl, rfl⟩ rfl rfl rfl rfl rfl (by kernel_rfl) Try.func7 (by kernel_rfl)
    (of_decide_eq_true (by kernel_rfl)) (by unfold Func.isWrapper; first | (rw [if_pos (by decide +kernel)]; kernel_rfl) | (rw [if_neg (by decide +kernel)]; exact ⟨rfl, rfl⟩))
    (fun os started H enc _ => lifted os started H enc)

#print axioms said
end Go.Proofs.Ytdaahcaafdleaaa.fnExactMatchingPrefix
