/- IssueCertificate answers as its model for all lists of keys, names and times, writes into no argument, and its answer owns its memory. No conditions. -/
import Derived.Test.YtcidfmmeonhkhaaRows
import Derived.WalkKit
import Derived.ProofKit
import Derived.OpenShut
import Derived.SizedLaws
import Derived.Test.YtcidfmmeonhkhaaB1
import Derived.Test.YtcidfmmeonhkhaaB24
import Derived.Test.YtcidfmmeonhkhaaB25
namespace Go.Proofs.Ytcidfmmeonhkhaa.fnExactIssueCertificate
open Go.ChangeShapes Go.WideShapes Go.ChangeAt Go.RowKit
open Go.ChangeMaps (open_string shut_string)
set_option linter.unusedVariables false

theorem own : ownKnob Try.prog.godebug = none := by kernel_rfl
theorem laidOut : laidOutB Try.prog = true := by kernel_rfl

set_option maxRecDepth 100000 in
set_option maxHeartbeats 4000000 in
theorem walk (a3 : Int) (w3 : (Lit.int .i64 a3).wf = true) (w : World) (y0 : Value) (l0 : Row.Ring.Kt) (q0 : Row.Ring.kK.At w y0 l0) (n0 : ∀ t ∈ l0, t.1.length ≤ 9223372036854775807 ∧ (∀ x ∈ t.1, x.size ≤ maxLen) ∧ (Lit.int .i64 t.2).wf = true) (m0 : l0.length ≤ 9223372036854775807) (y1 : Value) (l1 : List ByteArray) (q1 : Row.Holds Value.string w y1 l1) (n1 : ∀ x ∈ l1, x.size ≤ maxLen) (m1 : l1.length ≤ 9223372036854775807) (y2 : Value) (l2 : List ByteArray) (q2 : Row.Holds Value.string w y2 l2) (n2 : ∀ x ∈ l2, x.size ≤ maxLen) (m2 : l2.length ≤ 9223372036854775807) :
    Calls Try.prog 7 #[y0, .agg #[y1], .agg #[y2], .int .i64 a3] w fun e w' => e = .returned (.bool true) ∧ Below w.heap.size w w' := by
  obtain ⟨x_q0, n_q0, c_q0, rfl, q0⟩ := Row.Ring.kK_shapeA q0
  obtain ⟨x_q1, n_q1, c_q1, rfl, -, -, q1⟩ := q1.shapeN; replace q1 := Row.kN_of q1
  obtain ⟨x_q2, n_q2, c_q2, rfl, -, -, q2⟩ := q2.shapeN; replace q2 := Row.kN_of q2
  have Q0 := Lib.hid q0; have N0 := Lib.hid n0; clear q0 n0
  have Q1 := Lib.hid q1; have N1 := Lib.hid n1; clear q1 n1
  have Q2 := Lib.hid q2; have N2 := Lib.hid n2; clear q2 n2
  have hal := (Below.refl w.heap.size w).alloc (Nat.le_refl _) (.cells #[.slice x_q1 n_q1 c_q1] 41)
  have BB := Lib.hid hal
  have C_aN := Lib.hid (Ret.Blk.new' (w := w) #[.slice x_q1 n_q1 c_q1] 41 (n := w.heap.size) (by first | rfl | simp)); clear hal
  have S1 := Lib.hid (show (w.alloc (.cells #[.slice x_q1 n_q1 c_q1] 41)).heap.size = w.heap.size + 1 from World.size_alloc _ _)
  have hal := (Below.refl (w.alloc (.cells #[.slice x_q1 n_q1 c_q1] 41)).heap.size (w.alloc (.cells #[.slice x_q1 n_q1 c_q1] 41))).alloc (Nat.le_refl _) (.cells #[.slice x_q2 n_q2 c_q2] 41)
  replace C_aN := Lib.hid (C_aN.out.on hal)
  replace BB := Lib.hid (BB.out.trans (hal.mono BB.out.size))
  have C_aKey := Lib.hid (Ret.Blk.new' (w := (w.alloc (.cells #[.slice x_q1 n_q1 c_q1] 41))) #[.slice x_q2 n_q2 c_q2] 41 (n := w.heap.size + 1) (by first | rfl | simp)); clear hal
  have S2 := Lib.hid (show ((w.alloc (.cells #[.slice x_q1 n_q1 c_q1] 41)).alloc (.cells #[.slice x_q2 n_q2 c_q2] 41)).heap.size = (w.alloc (.cells #[.slice x_q1 n_q1 c_q1] 41)).heap.size + 1 from World.size_alloc _ _)
  go_enter Try.func7, Try.ntmps7
  have c0_aN : ((w.alloc (.cells #[.slice x_q1 n_q1 c_q1] 41)).alloc (.cells #[.slice x_q2 n_q2 c_q2] 41)).cell? ⟨w.heap.size, 0, none⟩ = some (.slice x_q1 n_q1 c_q1) := C_aN.out.cell 0
  have c0_aKey : ((w.alloc (.cells #[.slice x_q1 n_q1 c_q1] 41)).alloc (.cells #[.slice x_q2 n_q2 c_q2] 41)).cell? ⟨w.heap.size + 1, 0, none⟩ = some (.slice x_q2 n_q2 c_q2) := C_aKey.out.cell 0
  go_wp2_with fail
  clear c0_aN c0_aKey
  refine (Row.Ring.szKK _ l0 _ (1048576) (Q0.out.on BB.out) m0 N0.out (by omega) (by omega)).mono ?_
  rintro e w1 ⟨rfl, hb⟩
  replace C_aN := Lib.hid (C_aN.out.on hb)
  replace C_aKey := Lib.hid (C_aKey.out.on hb)
  replace BB := Lib.hid (BB.out.trans (hb.mono BB.out.size))
  have S3 := Lib.hid (show ((w.alloc (.cells #[.slice x_q1 n_q1 c_q1] 41)).alloc (.cells #[.slice x_q2 n_q2 c_q2] 41)).heap.size ≤ w1.heap.size from (by have h := hb.size; exact h))
  clear hb
  by_cases t0 : (Row.Ring.bulkT l0 : Int) ≤ 1048576
  · -- in
    rw [Row.Ring.szLT_fit t0]
    have b0 : Row.Ring.bulkT l0 ≤ 1048576 := by omega
    have d0 : Row.Ring.adv (l0) ≤ 1048576 := Row.Ring.adv_big b0
    have g0 : ¬ 1048576 - (Row.Ring.bulkT l0 : Int) < 0 := by omega
    have c0_aN : w1.cell? ⟨w.heap.size, 0, none⟩ = some (.slice x_q1 n_q1 c_q1) := C_aN.out.cell 0
    have c0_aKey : w1.cell? ⟨w.heap.size + 1, 0, none⟩ = some (.slice x_q2 n_q2 c_q2) := C_aKey.out.cell 0
    go_wp2_with fail
    clear c0_aN c0_aKey
    refine (Row.szNK _ l1 _ (1048576 - (Row.Ring.bulkT l0 : Int)) (Q1.out.on BB.out) m1 N1.out (by omega) (by omega)).mono ?_
    rintro e w2 ⟨rfl, hb⟩
    replace C_aN := Lib.hid (C_aN.out.on hb)
    replace C_aKey := Lib.hid (C_aKey.out.on hb)
    replace BB := Lib.hid (BB.out.trans (hb.mono BB.out.size))
    have S4 := Lib.hid (show w1.heap.size ≤ w2.heap.size from (by have h := hb.size; exact h))
    clear hb
    by_cases t1 : (Row.bulk l1 : Int) ≤ 1048576 - (Row.Ring.bulkT l0 : Int)
    · -- in
      rw [Row.szL_fit t1]
      have b1 : Row.bulk l1 ≤ 1048576 := by omega
      have d1 : (l1).length ≤ 1048576 := Row.bigLen b1
      have g1 : ¬ 1048576 - (Row.Ring.bulkT l0 : Int) - (Row.bulk l1 : Int) < 0 := by omega
      have c0_aN : w2.cell? ⟨w.heap.size, 0, none⟩ = some (.slice x_q1 n_q1 c_q1) := C_aN.out.cell 0
      have c0_aKey : w2.cell? ⟨w.heap.size + 1, 0, none⟩ = some (.slice x_q2 n_q2 c_q2) := C_aKey.out.cell 0
      go_wp2_with fail
      clear c0_aN c0_aKey
      refine (Row.szNK _ l2 _ (1048576 - (Row.Ring.bulkT l0 : Int) - (Row.bulk l1 : Int)) (Q2.out.on BB.out) m2 N2.out (by omega) (by omega)).mono ?_
      rintro e w3 ⟨rfl, hb⟩
      replace C_aN := Lib.hid (C_aN.out.on hb)
      replace C_aKey := Lib.hid (C_aKey.out.on hb)
      replace BB := Lib.hid (BB.out.trans (hb.mono BB.out.size))
      have S5 := Lib.hid (show w2.heap.size ≤ w3.heap.size from (by have h := hb.size; exact h))
      clear hb
      by_cases t2 : (Row.bulk l2 : Int) ≤ 1048576 - (Row.Ring.bulkT l0 : Int) - (Row.bulk l1 : Int)
      · -- in
        rw [Row.szL_fit t2]
        have b2 : Row.bulk l2 ≤ 1048576 := by omega
        have d2 : (l2).length ≤ 1048576 := Row.bigLen b2
        have g2 : ¬ 1048576 - (Row.Ring.bulkT l0 : Int) - (Row.bulk l1 : Int) - (Row.bulk l2 : Int) < 0 := by omega
        have c0_aN : w3.cell? ⟨w.heap.size, 0, none⟩ = some (.slice x_q1 n_q1 c_q1) := C_aN.out.cell 0
        have c0_aKey : w3.cell? ⟨w.heap.size + 1, 0, none⟩ = some (.slice x_q2 n_q2 c_q2) := C_aKey.out.cell 0
        go_wp2_with fail
        clear c0_aN c0_aKey
        have f1 := Row.Ring.sgK_adv (l0) (l2) (l1) (Row.digK (l0) (l1)) a3
        have f2 := Row.digK_len (l0) (l1)
        refine Row.specIS (Lib.hid (Q0.out.on BB.out)) (Lib.hid (Q1.out.on BB.out)) (Lib.hid (Q2.out.on BB.out)) b0 b1 b2 (Lib.hid (C_aN.out.cell 0)) (Lib.hid (C_aKey.out.cell 0)) ?_
        intro u0 u1 u2 u3 u4 u5 u6 u7 u8 u9 u10 g_v1 n_v1a c_v1a n_v1b c_v1b n_v1c c_v1c x_v1a x_v1b x_v1c w4 hb ho hblk hg1 hg2
        replace C_aN := Lib.hid (C_aN.out.on hb)
        replace C_aKey := Lib.hid (C_aKey.out.on hb)
        replace BB := Lib.hid (BB.out.trans (hb.mono BB.out.size))
        have S6 := Lib.hid (show w3.heap.size ≤ w4.heap.size from (by have h := hb.size; exact h))
        have O_v1 := Lib.hid (show Row.kD.In w3.heap.size w4.heap.size w4 (.agg #[.slice x_v1a n_v1a c_v1a, .slice x_v1b n_v1b c_v1b, .slice x_v1c n_v1c c_v1c, .int .i64 (Row.Ring.sgK (l0) (l2) (l1) (Row.digK (l0) (l1)) a3).2.2.2.1, .int .i64 (Row.Ring.sgK (l0) (l2) (l1) (Row.digK (l0) (l1)) a3).2.2.2.2]) (Row.Ring.sgK (l0) (l2) (l1) (Row.digK (l0) (l1)) a3) from ho); clear ho
        have S7 := Lib.hid (show w3.heap.size ≤ g_v1 from hg1)
        have S8 := Lib.hid (show g_v1 < w4.heap.size from hg2)
        have C_w0 := Lib.hid (show Ret.Blk w4 g_v1 #[.slice x_v1a n_v1a c_v1a, .slice x_v1b n_v1b c_v1b, .slice x_v1c n_v1c c_v1c, .int .i64 (Row.Ring.sgK (l0) (l2) (l1) (Row.digK (l0) (l1)) a3).2.2.2.1, .int .i64 (Row.Ring.sgK (l0) (l2) (l1) (Row.digK (l0) (l1)) a3).2.2.2.2] 61 from hblk); clear hblk hb hg1 hg2
        have c0_aN : w4.cell? ⟨w.heap.size, 0, none⟩ = some (.slice x_q1 n_q1 c_q1) := C_aN.out.cell 0
        have c0_aKey : w4.cell? ⟨w.heap.size + 1, 0, none⟩ = some (.slice x_q2 n_q2 c_q2) := C_aKey.out.cell 0
        have c0_w0 : w4.cell? ⟨g_v1, 0, none⟩ = some (.slice x_v1a n_v1a c_v1a) := C_w0.out.cell 0
        have c1_w0 : w4.cell? ⟨g_v1, 1, none⟩ = some (.slice x_v1b n_v1b c_v1b) := C_w0.out.cell 1
        have c2_w0 : w4.cell? ⟨g_v1, 2, none⟩ = some (.slice x_v1c n_v1c c_v1c) := C_w0.out.cell 2
        have c3_w0 : w4.cell? ⟨g_v1, 3, none⟩ = some (.int .i64 (Row.Ring.sgK (l0) (l2) (l1) (Row.digK (l0) (l1)) a3).2.2.2.1) := C_w0.out.cell 3
        have c4_w0 : w4.cell? ⟨g_v1, 4, none⟩ = some (.int .i64 (Row.Ring.sgK (l0) (l2) (l1) (Row.digK (l0) (l1)) a3).2.2.2.2) := C_w0.out.cell 4
        go_wp2_with fail
        clear c0_aN c0_aKey c0_w0 c1_w0 c2_w0 c3_w0 c4_w0
        refine (Row.Ring.toKK _ l0 _ (Q0.out.on BB.out) (by omega)).mono ?_
        rintro e w5 ⟨v2, rfl, ho, hb⟩
        obtain ⟨x_v2, n_v2, c_v2, rfl, ho⟩ := Row.Ring.kK_shape ho
        replace C_aN := Lib.hid (C_aN.out.on hb)
        replace C_aKey := Lib.hid (C_aKey.out.on hb)
        replace C_w0 := Lib.hid (C_w0.out.on hb)
        replace O_v1 := Lib.hid (O_v1.out.on hb)
        replace BB := Lib.hid (BB.out.trans (hb.mono BB.out.size))
        have S9 := Lib.hid (show w4.heap.size ≤ w5.heap.size from (by have h := hb.size; exact h))
        have O_v2 := Lib.hid (show Row.Ring.kK.In w4.heap.size w5.heap.size w5 (.slice x_v2 n_v2 c_v2) (l0) from ho); clear ho
        clear hb
        have c0_aN : w5.cell? ⟨w.heap.size, 0, none⟩ = some (.slice x_q1 n_q1 c_q1) := C_aN.out.cell 0
        have c0_aKey : w5.cell? ⟨w.heap.size + 1, 0, none⟩ = some (.slice x_q2 n_q2 c_q2) := C_aKey.out.cell 0
        have c0_w0 : w5.cell? ⟨g_v1, 0, none⟩ = some (.slice x_v1a n_v1a c_v1a) := C_w0.out.cell 0
        have c1_w0 : w5.cell? ⟨g_v1, 1, none⟩ = some (.slice x_v1b n_v1b c_v1b) := C_w0.out.cell 1
        have c2_w0 : w5.cell? ⟨g_v1, 2, none⟩ = some (.slice x_v1c n_v1c c_v1c) := C_w0.out.cell 2
        have c3_w0 : w5.cell? ⟨g_v1, 3, none⟩ = some (.int .i64 (Row.Ring.sgK (l0) (l2) (l1) (Row.digK (l0) (l1)) a3).2.2.2.1) := C_w0.out.cell 3
        have c4_w0 : w5.cell? ⟨g_v1, 4, none⟩ = some (.int .i64 (Row.Ring.sgK (l0) (l2) (l1) (Row.digK (l0) (l1)) a3).2.2.2.2) := C_w0.out.cell 4
        go_wp2_with fail
        clear c0_aN c0_aKey c0_w0 c1_w0 c2_w0 c3_w0 c4_w0
        refine (Row.toNK _ l1 _ (Q1.out.on BB.out) (by omega)).mono ?_
        rintro e w6 ⟨v3, rfl, ho, hb⟩
        obtain ⟨x_v3, n_v3, c_v3, rfl, ho⟩ := Row.kN_shape ho
        replace C_aN := Lib.hid (C_aN.out.on hb)
        replace C_aKey := Lib.hid (C_aKey.out.on hb)
        replace C_w0 := Lib.hid (C_w0.out.on hb)
        replace O_v1 := Lib.hid (O_v1.out.on hb)
        replace O_v2 := Lib.hid (O_v2.out.on hb)
        replace BB := Lib.hid (BB.out.trans (hb.mono BB.out.size))
        have S10 := Lib.hid (show w5.heap.size ≤ w6.heap.size from (by have h := hb.size; exact h))
        have O_v3 := Lib.hid (show Row.kN.In w5.heap.size w6.heap.size w6 (.agg #[.slice x_v3 n_v3 c_v3]) (l1) from ho); clear ho
        clear hb
        have hal := (Below.refl w6.heap.size w6).alloc (Nat.le_refl _) (.cells #[.slice x_v3 n_v3 c_v3] 47)
        replace C_aN := Lib.hid (C_aN.out.on hal)
        replace C_aKey := Lib.hid (C_aKey.out.on hal)
        replace C_w0 := Lib.hid (C_w0.out.on hal)
        replace O_v1 := Lib.hid (O_v1.out.on hal)
        replace O_v2 := Lib.hid (O_v2.out.on hal)
        replace O_v3 := Lib.hid (O_v3.out.on hal)
        replace BB := Lib.hid (BB.out.trans (hal.mono BB.out.size))
        have S11 := Lib.hid (show (w6.alloc (.cells #[.slice x_v3 n_v3 c_v3] 47)).heap.size = w6.heap.size + 1 from World.size_alloc _ _)
        have C_x1 := Lib.hid (Ret.Blk.new w6 #[.slice x_v3 n_v3 c_v3] 47); clear hal
        have c0_aN : (w6.alloc (.cells #[.slice x_v3 n_v3 c_v3] 47)).cell? ⟨w.heap.size, 0, none⟩ = some (.slice x_q1 n_q1 c_q1) := C_aN.out.cell 0
        have c0_aKey : (w6.alloc (.cells #[.slice x_v3 n_v3 c_v3] 47)).cell? ⟨w.heap.size + 1, 0, none⟩ = some (.slice x_q2 n_q2 c_q2) := C_aKey.out.cell 0
        have c0_w0 : (w6.alloc (.cells #[.slice x_v3 n_v3 c_v3] 47)).cell? ⟨g_v1, 0, none⟩ = some (.slice x_v1a n_v1a c_v1a) := C_w0.out.cell 0
        have c1_w0 : (w6.alloc (.cells #[.slice x_v3 n_v3 c_v3] 47)).cell? ⟨g_v1, 1, none⟩ = some (.slice x_v1b n_v1b c_v1b) := C_w0.out.cell 1
        have c2_w0 : (w6.alloc (.cells #[.slice x_v3 n_v3 c_v3] 47)).cell? ⟨g_v1, 2, none⟩ = some (.slice x_v1c n_v1c c_v1c) := C_w0.out.cell 2
        have c3_w0 : (w6.alloc (.cells #[.slice x_v3 n_v3 c_v3] 47)).cell? ⟨g_v1, 3, none⟩ = some (.int .i64 (Row.Ring.sgK (l0) (l2) (l1) (Row.digK (l0) (l1)) a3).2.2.2.1) := C_w0.out.cell 3
        have c4_w0 : (w6.alloc (.cells #[.slice x_v3 n_v3 c_v3] 47)).cell? ⟨g_v1, 4, none⟩ = some (.int .i64 (Row.Ring.sgK (l0) (l2) (l1) (Row.digK (l0) (l1)) a3).2.2.2.2) := C_w0.out.cell 4
        have c0_x1 : (w6.alloc (.cells #[.slice x_v3 n_v3 c_v3] 47)).cell? ⟨w6.heap.size, 0, none⟩ = some (.slice x_v3 n_v3 c_v3) := C_x1.out.cell 0
        go_wp2_with fail
        clear c0_aN c0_aKey c0_w0 c1_w0 c2_w0 c3_w0 c4_w0 c0_x1
        refine (Row.toNK _ l2 _ (Q2.out.on BB.out) (by omega)).mono ?_
        rintro e w7 ⟨v4, rfl, ho, hb⟩
        obtain ⟨x_v4, n_v4, c_v4, rfl, ho⟩ := Row.kN_shape ho
        replace C_aN := Lib.hid (C_aN.out.on hb)
        replace C_aKey := Lib.hid (C_aKey.out.on hb)
        replace C_w0 := Lib.hid (C_w0.out.on hb)
        replace C_x1 := Lib.hid (C_x1.out.on hb)
        replace O_v1 := Lib.hid (O_v1.out.on hb)
        replace O_v2 := Lib.hid (O_v2.out.on hb)
        replace O_v3 := Lib.hid (O_v3.out.on hb)
        replace BB := Lib.hid (BB.out.trans (hb.mono BB.out.size))
        have S12 := Lib.hid (show (w6.alloc (.cells #[.slice x_v3 n_v3 c_v3] 47)).heap.size ≤ w7.heap.size from (by have h := hb.size; exact h))
        have O_v4 := Lib.hid (show Row.kN.In (w6.alloc (.cells #[.slice x_v3 n_v3 c_v3] 47)).heap.size w7.heap.size w7 (.agg #[.slice x_v4 n_v4 c_v4]) (l2) from ho); clear ho
        clear hb
        have hal := (Below.refl w7.heap.size w7).alloc (Nat.le_refl _) (.cells #[.slice x_v4 n_v4 c_v4] 47)
        replace C_aN := Lib.hid (C_aN.out.on hal)
        replace C_aKey := Lib.hid (C_aKey.out.on hal)
        replace C_w0 := Lib.hid (C_w0.out.on hal)
        replace C_x1 := Lib.hid (C_x1.out.on hal)
        replace O_v1 := Lib.hid (O_v1.out.on hal)
        replace O_v2 := Lib.hid (O_v2.out.on hal)
        replace O_v3 := Lib.hid (O_v3.out.on hal)
        replace O_v4 := Lib.hid (O_v4.out.on hal)
        replace BB := Lib.hid (BB.out.trans (hal.mono BB.out.size))
        have S13 := Lib.hid (show (w7.alloc (.cells #[.slice x_v4 n_v4 c_v4] 47)).heap.size = w7.heap.size + 1 from World.size_alloc _ _)
        have C_x2 := Lib.hid (Ret.Blk.new w7 #[.slice x_v4 n_v4 c_v4] 47); clear hal
        have c0_aN : (w7.alloc (.cells #[.slice x_v4 n_v4 c_v4] 47)).cell? ⟨w.heap.size, 0, none⟩ = some (.slice x_q1 n_q1 c_q1) := C_aN.out.cell 0
        have c0_aKey : (w7.alloc (.cells #[.slice x_v4 n_v4 c_v4] 47)).cell? ⟨w.heap.size + 1, 0, none⟩ = some (.slice x_q2 n_q2 c_q2) := C_aKey.out.cell 0
        have c0_w0 : (w7.alloc (.cells #[.slice x_v4 n_v4 c_v4] 47)).cell? ⟨g_v1, 0, none⟩ = some (.slice x_v1a n_v1a c_v1a) := C_w0.out.cell 0
        have c1_w0 : (w7.alloc (.cells #[.slice x_v4 n_v4 c_v4] 47)).cell? ⟨g_v1, 1, none⟩ = some (.slice x_v1b n_v1b c_v1b) := C_w0.out.cell 1
        have c2_w0 : (w7.alloc (.cells #[.slice x_v4 n_v4 c_v4] 47)).cell? ⟨g_v1, 2, none⟩ = some (.slice x_v1c n_v1c c_v1c) := C_w0.out.cell 2
        have c3_w0 : (w7.alloc (.cells #[.slice x_v4 n_v4 c_v4] 47)).cell? ⟨g_v1, 3, none⟩ = some (.int .i64 (Row.Ring.sgK (l0) (l2) (l1) (Row.digK (l0) (l1)) a3).2.2.2.1) := C_w0.out.cell 3
        have c4_w0 : (w7.alloc (.cells #[.slice x_v4 n_v4 c_v4] 47)).cell? ⟨g_v1, 4, none⟩ = some (.int .i64 (Row.Ring.sgK (l0) (l2) (l1) (Row.digK (l0) (l1)) a3).2.2.2.2) := C_w0.out.cell 4
        have c0_x1 : (w7.alloc (.cells #[.slice x_v4 n_v4 c_v4] 47)).cell? ⟨w6.heap.size, 0, none⟩ = some (.slice x_v3 n_v3 c_v3) := C_x1.out.cell 0
        have c0_x2 : (w7.alloc (.cells #[.slice x_v4 n_v4 c_v4] 47)).cell? ⟨w7.heap.size, 0, none⟩ = some (.slice x_v4 n_v4 c_v4) := C_x2.out.cell 0
        go_wp2_with fail
        clear c0_aN c0_aKey c0_w0 c1_w0 c2_w0 c3_w0 c4_w0 c0_x1 c0_x2
        have f3 := Row.Ring.sgK_adv (l0) (l2) (l1) (Row.digK (l0) (l1)) a3
        have f4 := Row.digK_len (l0) (l1)
        refine (Row.implIssueCertificate _ _ _ (l0) (l1) (l2) a3 _ (O_v2.out.at) (O_v3.out.at) (O_v4.out.at) (by omega) (by omega) (by omega)).mono ?_
        rintro e w8 ⟨v5, rfl, ho, hb⟩
        obtain ⟨x_v5a, n_v5a, c_v5a, x_v5b, n_v5b, c_v5b, x_v5c, n_v5c, c_v5c, rfl, ho⟩ := Row.kD_shape ho
        replace C_aN := Lib.hid (C_aN.out.on hb)
        replace C_aKey := Lib.hid (C_aKey.out.on hb)
        replace C_w0 := Lib.hid (C_w0.out.on hb)
        replace C_x1 := Lib.hid (C_x1.out.on hb)
        replace C_x2 := Lib.hid (C_x2.out.on hb)
        replace O_v1 := Lib.hid (O_v1.out.on hb)
        replace O_v2 := Lib.hid (O_v2.out.on hb)
        replace O_v3 := Lib.hid (O_v3.out.on hb)
        replace O_v4 := Lib.hid (O_v4.out.on hb)
        replace BB := Lib.hid (BB.out.trans (hb.mono BB.out.size))
        have S14 := Lib.hid (show (w7.alloc (.cells #[.slice x_v4 n_v4 c_v4] 47)).heap.size ≤ w8.heap.size from (by have h := hb.size; exact h))
        have O_v5 := Lib.hid (show Row.kD.In (w7.alloc (.cells #[.slice x_v4 n_v4 c_v4] 47)).heap.size w8.heap.size w8 (.agg #[.slice x_v5a n_v5a c_v5a, .slice x_v5b n_v5b c_v5b, .slice x_v5c n_v5c c_v5c, .int .i64 (Row.Ring.sgK (l0) (l2) (l1) (Row.digK (l0) (l1)) a3).2.2.2.1, .int .i64 (Row.Ring.sgK (l0) (l2) (l1) (Row.digK (l0) (l1)) a3).2.2.2.2]) (Row.Ring.sgK (l0) (l2) (l1) (Row.digK (l0) (l1)) a3) from ho); clear ho
        clear hb
        have hal := (Below.refl w8.heap.size w8).alloc (Nat.le_refl _) (.cells #[.slice x_v5a n_v5a c_v5a, .slice x_v5b n_v5b c_v5b, .slice x_v5c n_v5c c_v5c, .int .i64 (Row.Ring.sgK (l0) (l2) (l1) (Row.digK (l0) (l1)) a3).2.2.2.1, .int .i64 (Row.Ring.sgK (l0) (l2) (l1) (Row.digK (l0) (l1)) a3).2.2.2.2] 61)
        replace C_aN := Lib.hid (C_aN.out.on hal)
        replace C_aKey := Lib.hid (C_aKey.out.on hal)
        replace C_w0 := Lib.hid (C_w0.out.on hal)
        replace C_x1 := Lib.hid (C_x1.out.on hal)
        replace C_x2 := Lib.hid (C_x2.out.on hal)
        replace O_v1 := Lib.hid (O_v1.out.on hal)
        replace O_v2 := Lib.hid (O_v2.out.on hal)
        replace O_v3 := Lib.hid (O_v3.out.on hal)
        replace O_v4 := Lib.hid (O_v4.out.on hal)
        replace O_v5 := Lib.hid (O_v5.out.on hal)
        replace BB := Lib.hid (BB.out.trans (hal.mono BB.out.size))
        have S15 := Lib.hid (show (w8.alloc (.cells #[.slice x_v5a n_v5a c_v5a, .slice x_v5b n_v5b c_v5b, .slice x_v5c n_v5c c_v5c, .int .i64 (Row.Ring.sgK (l0) (l2) (l1) (Row.digK (l0) (l1)) a3).2.2.2.1, .int .i64 (Row.Ring.sgK (l0) (l2) (l1) (Row.digK (l0) (l1)) a3).2.2.2.2] 61)).heap.size = w8.heap.size + 1 from World.size_alloc _ _)
        have C_g0 := Lib.hid (Ret.Blk.new w8 #[.slice x_v5a n_v5a c_v5a, .slice x_v5b n_v5b c_v5b, .slice x_v5c n_v5c c_v5c, .int .i64 (Row.Ring.sgK (l0) (l2) (l1) (Row.digK (l0) (l1)) a3).2.2.2.1, .int .i64 (Row.Ring.sgK (l0) (l2) (l1) (Row.digK (l0) (l1)) a3).2.2.2.2] 61); clear hal
        have c0_aN : (w8.alloc (.cells #[.slice x_v5a n_v5a c_v5a, .slice x_v5b n_v5b c_v5b, .slice x_v5c n_v5c c_v5c, .int .i64 (Row.Ring.sgK (l0) (l2) (l1) (Row.digK (l0) (l1)) a3).2.2.2.1, .int .i64 (Row.Ring.sgK (l0) (l2) (l1) (Row.digK (l0) (l1)) a3).2.2.2.2] 61)).cell? ⟨w.heap.size, 0, none⟩ = some (.slice x_q1 n_q1 c_q1) := C_aN.out.cell 0
        have c0_aKey : (w8.alloc (.cells #[.slice x_v5a n_v5a c_v5a, .slice x_v5b n_v5b c_v5b, .slice x_v5c n_v5c c_v5c, .int .i64 (Row.Ring.sgK (l0) (l2) (l1) (Row.digK (l0) (l1)) a3).2.2.2.1, .int .i64 (Row.Ring.sgK (l0) (l2) (l1) (Row.digK (l0) (l1)) a3).2.2.2.2] 61)).cell? ⟨w.heap.size + 1, 0, none⟩ = some (.slice x_q2 n_q2 c_q2) := C_aKey.out.cell 0
        have c0_w0 : (w8.alloc (.cells #[.slice x_v5a n_v5a c_v5a, .slice x_v5b n_v5b c_v5b, .slice x_v5c n_v5c c_v5c, .int .i64 (Row.Ring.sgK (l0) (l2) (l1) (Row.digK (l0) (l1)) a3).2.2.2.1, .int .i64 (Row.Ring.sgK (l0) (l2) (l1) (Row.digK (l0) (l1)) a3).2.2.2.2] 61)).cell? ⟨g_v1, 0, none⟩ = some (.slice x_v1a n_v1a c_v1a) := C_w0.out.cell 0
        have c1_w0 : (w8.alloc (.cells #[.slice x_v5a n_v5a c_v5a, .slice x_v5b n_v5b c_v5b, .slice x_v5c n_v5c c_v5c, .int .i64 (Row.Ring.sgK (l0) (l2) (l1) (Row.digK (l0) (l1)) a3).2.2.2.1, .int .i64 (Row.Ring.sgK (l0) (l2) (l1) (Row.digK (l0) (l1)) a3).2.2.2.2] 61)).cell? ⟨g_v1, 1, none⟩ = some (.slice x_v1b n_v1b c_v1b) := C_w0.out.cell 1
        have c2_w0 : (w8.alloc (.cells #[.slice x_v5a n_v5a c_v5a, .slice x_v5b n_v5b c_v5b, .slice x_v5c n_v5c c_v5c, .int .i64 (Row.Ring.sgK (l0) (l2) (l1) (Row.digK (l0) (l1)) a3).2.2.2.1, .int .i64 (Row.Ring.sgK (l0) (l2) (l1) (Row.digK (l0) (l1)) a3).2.2.2.2] 61)).cell? ⟨g_v1, 2, none⟩ = some (.slice x_v1c n_v1c c_v1c) := C_w0.out.cell 2
        have c3_w0 : (w8.alloc (.cells #[.slice x_v5a n_v5a c_v5a, .slice x_v5b n_v5b c_v5b, .slice x_v5c n_v5c c_v5c, .int .i64 (Row.Ring.sgK (l0) (l2) (l1) (Row.digK (l0) (l1)) a3).2.2.2.1, .int .i64 (Row.Ring.sgK (l0) (l2) (l1) (Row.digK (l0) (l1)) a3).2.2.2.2] 61)).cell? ⟨g_v1, 3, none⟩ = some (.int .i64 (Row.Ring.sgK (l0) (l2) (l1) (Row.digK (l0) (l1)) a3).2.2.2.1) := C_w0.out.cell 3
        have c4_w0 : (w8.alloc (.cells #[.slice x_v5a n_v5a c_v5a, .slice x_v5b n_v5b c_v5b, .slice x_v5c n_v5c c_v5c, .int .i64 (Row.Ring.sgK (l0) (l2) (l1) (Row.digK (l0) (l1)) a3).2.2.2.1, .int .i64 (Row.Ring.sgK (l0) (l2) (l1) (Row.digK (l0) (l1)) a3).2.2.2.2] 61)).cell? ⟨g_v1, 4, none⟩ = some (.int .i64 (Row.Ring.sgK (l0) (l2) (l1) (Row.digK (l0) (l1)) a3).2.2.2.2) := C_w0.out.cell 4
        have c0_x1 : (w8.alloc (.cells #[.slice x_v5a n_v5a c_v5a, .slice x_v5b n_v5b c_v5b, .slice x_v5c n_v5c c_v5c, .int .i64 (Row.Ring.sgK (l0) (l2) (l1) (Row.digK (l0) (l1)) a3).2.2.2.1, .int .i64 (Row.Ring.sgK (l0) (l2) (l1) (Row.digK (l0) (l1)) a3).2.2.2.2] 61)).cell? ⟨w6.heap.size, 0, none⟩ = some (.slice x_v3 n_v3 c_v3) := C_x1.out.cell 0
        have c0_x2 : (w8.alloc (.cells #[.slice x_v5a n_v5a c_v5a, .slice x_v5b n_v5b c_v5b, .slice x_v5c n_v5c c_v5c, .int .i64 (Row.Ring.sgK (l0) (l2) (l1) (Row.digK (l0) (l1)) a3).2.2.2.1, .int .i64 (Row.Ring.sgK (l0) (l2) (l1) (Row.digK (l0) (l1)) a3).2.2.2.2] 61)).cell? ⟨w7.heap.size, 0, none⟩ = some (.slice x_v4 n_v4 c_v4) := C_x2.out.cell 0
        have c0_g0 : (w8.alloc (.cells #[.slice x_v5a n_v5a c_v5a, .slice x_v5b n_v5b c_v5b, .slice x_v5c n_v5c c_v5c, .int .i64 (Row.Ring.sgK (l0) (l2) (l1) (Row.digK (l0) (l1)) a3).2.2.2.1, .int .i64 (Row.Ring.sgK (l0) (l2) (l1) (Row.digK (l0) (l1)) a3).2.2.2.2] 61)).cell? ⟨w8.heap.size, 0, none⟩ = some (.slice x_v5a n_v5a c_v5a) := C_g0.out.cell 0
        have c1_g0 : (w8.alloc (.cells #[.slice x_v5a n_v5a c_v5a, .slice x_v5b n_v5b c_v5b, .slice x_v5c n_v5c c_v5c, .int .i64 (Row.Ring.sgK (l0) (l2) (l1) (Row.digK (l0) (l1)) a3).2.2.2.1, .int .i64 (Row.Ring.sgK (l0) (l2) (l1) (Row.digK (l0) (l1)) a3).2.2.2.2] 61)).cell? ⟨w8.heap.size, 1, none⟩ = some (.slice x_v5b n_v5b c_v5b) := C_g0.out.cell 1
        have c2_g0 : (w8.alloc (.cells #[.slice x_v5a n_v5a c_v5a, .slice x_v5b n_v5b c_v5b, .slice x_v5c n_v5c c_v5c, .int .i64 (Row.Ring.sgK (l0) (l2) (l1) (Row.digK (l0) (l1)) a3).2.2.2.1, .int .i64 (Row.Ring.sgK (l0) (l2) (l1) (Row.digK (l0) (l1)) a3).2.2.2.2] 61)).cell? ⟨w8.heap.size, 2, none⟩ = some (.slice x_v5c n_v5c c_v5c) := C_g0.out.cell 2
        have c3_g0 : (w8.alloc (.cells #[.slice x_v5a n_v5a c_v5a, .slice x_v5b n_v5b c_v5b, .slice x_v5c n_v5c c_v5c, .int .i64 (Row.Ring.sgK (l0) (l2) (l1) (Row.digK (l0) (l1)) a3).2.2.2.1, .int .i64 (Row.Ring.sgK (l0) (l2) (l1) (Row.digK (l0) (l1)) a3).2.2.2.2] 61)).cell? ⟨w8.heap.size, 3, none⟩ = some (.int .i64 (Row.Ring.sgK (l0) (l2) (l1) (Row.digK (l0) (l1)) a3).2.2.2.1) := C_g0.out.cell 3
        have c4_g0 : (w8.alloc (.cells #[.slice x_v5a n_v5a c_v5a, .slice x_v5b n_v5b c_v5b, .slice x_v5c n_v5c c_v5c, .int .i64 (Row.Ring.sgK (l0) (l2) (l1) (Row.digK (l0) (l1)) a3).2.2.2.1, .int .i64 (Row.Ring.sgK (l0) (l2) (l1) (Row.digK (l0) (l1)) a3).2.2.2.2] 61)).cell? ⟨w8.heap.size, 4, none⟩ = some (.int .i64 (Row.Ring.sgK (l0) (l2) (l1) (Row.digK (l0) (l1)) a3).2.2.2.2) := C_g0.out.cell 4
        go_wp2_with fail
        clear c0_aN c0_aKey c0_w0 c1_w0 c2_w0 c3_w0 c4_w0 c0_x1 c0_x2 c0_g0 c1_g0 c2_g0 c3_g0 c4_g0
        refine (Row.sameDK _ _ (Row.Ring.sgK (l0) (l2) (l1) (Row.digK (l0) (l1)) a3) _ (O_v5.out.at) (O_v1.out.at) (by first | omega | (simp; omega) | (simp [Row.marks_length, Sl.marks_length, Row.mkW]; omega))).mono ?_
        rintro e w9 ⟨rfl, hb⟩
        replace C_aN := Lib.hid (C_aN.out.on hb)
        replace C_aKey := Lib.hid (C_aKey.out.on hb)
        replace C_w0 := Lib.hid (C_w0.out.on hb)
        replace C_x1 := Lib.hid (C_x1.out.on hb)
        replace C_x2 := Lib.hid (C_x2.out.on hb)
        replace C_g0 := Lib.hid (C_g0.out.on hb)
        replace O_v1 := Lib.hid (O_v1.out.on hb)
        replace O_v2 := Lib.hid (O_v2.out.on hb)
        replace O_v3 := Lib.hid (O_v3.out.on hb)
        replace O_v4 := Lib.hid (O_v4.out.on hb)
        replace O_v5 := Lib.hid (O_v5.out.on hb)
        replace BB := Lib.hid (BB.out.trans (hb.mono BB.out.size))
        have S16 := Lib.hid (show (w8.alloc (.cells #[.slice x_v5a n_v5a c_v5a, .slice x_v5b n_v5b c_v5b, .slice x_v5c n_v5c c_v5c, .int .i64 (Row.Ring.sgK (l0) (l2) (l1) (Row.digK (l0) (l1)) a3).2.2.2.1, .int .i64 (Row.Ring.sgK (l0) (l2) (l1) (Row.digK (l0) (l1)) a3).2.2.2.2] 61)).heap.size ≤ w9.heap.size from (by have h := hb.size; exact h))
        clear hb
        have c0_aN : w9.cell? ⟨w.heap.size, 0, none⟩ = some (.slice x_q1 n_q1 c_q1) := C_aN.out.cell 0
        have c0_aKey : w9.cell? ⟨w.heap.size + 1, 0, none⟩ = some (.slice x_q2 n_q2 c_q2) := C_aKey.out.cell 0
        have c0_w0 : w9.cell? ⟨g_v1, 0, none⟩ = some (.slice x_v1a n_v1a c_v1a) := C_w0.out.cell 0
        have c1_w0 : w9.cell? ⟨g_v1, 1, none⟩ = some (.slice x_v1b n_v1b c_v1b) := C_w0.out.cell 1
        have c2_w0 : w9.cell? ⟨g_v1, 2, none⟩ = some (.slice x_v1c n_v1c c_v1c) := C_w0.out.cell 2
        have c3_w0 : w9.cell? ⟨g_v1, 3, none⟩ = some (.int .i64 (Row.Ring.sgK (l0) (l2) (l1) (Row.digK (l0) (l1)) a3).2.2.2.1) := C_w0.out.cell 3
        have c4_w0 : w9.cell? ⟨g_v1, 4, none⟩ = some (.int .i64 (Row.Ring.sgK (l0) (l2) (l1) (Row.digK (l0) (l1)) a3).2.2.2.2) := C_w0.out.cell 4
        have c0_x1 : w9.cell? ⟨w6.heap.size, 0, none⟩ = some (.slice x_v3 n_v3 c_v3) := C_x1.out.cell 0
        have c0_x2 : w9.cell? ⟨w7.heap.size, 0, none⟩ = some (.slice x_v4 n_v4 c_v4) := C_x2.out.cell 0
        have c0_g0 : w9.cell? ⟨w8.heap.size, 0, none⟩ = some (.slice x_v5a n_v5a c_v5a) := C_g0.out.cell 0
        have c1_g0 : w9.cell? ⟨w8.heap.size, 1, none⟩ = some (.slice x_v5b n_v5b c_v5b) := C_g0.out.cell 1
        have c2_g0 : w9.cell? ⟨w8.heap.size, 2, none⟩ = some (.slice x_v5c n_v5c c_v5c) := C_g0.out.cell 2
        have c3_g0 : w9.cell? ⟨w8.heap.size, 3, none⟩ = some (.int .i64 (Row.Ring.sgK (l0) (l2) (l1) (Row.digK (l0) (l1)) a3).2.2.2.1) := C_g0.out.cell 3
        have c4_g0 : w9.cell? ⟨w8.heap.size, 4, none⟩ = some (.int .i64 (Row.Ring.sgK (l0) (l2) (l1) (Row.digK (l0) (l1)) a3).2.2.2.2) := C_g0.out.cell 4
        go_wp2_with fail
        clear c0_aN c0_aKey c0_w0 c1_w0 c2_w0 c3_w0 c4_w0 c0_x1 c0_x2 c0_g0 c1_g0 c2_g0 c3_g0 c4_g0
        refine (Row.Ring.toKK _ l0 _ (Q0.out.on BB.out) (by omega)).mono ?_
        rintro e w10 ⟨v6, rfl, ho, hb⟩
        obtain ⟨x_v6, n_v6, c_v6, rfl, ho⟩ := Row.Ring.kK_shape ho
        replace C_aN := Lib.hid (C_aN.out.on hb)
        replace C_aKey := Lib.hid (C_aKey.out.on hb)
        replace C_w0 := Lib.hid (C_w0.out.on hb)
        replace C_x1 := Lib.hid (C_x1.out.on hb)
        replace C_x2 := Lib.hid (C_x2.out.on hb)
        replace C_g0 := Lib.hid (C_g0.out.on hb)
        replace O_v1 := Lib.hid (O_v1.out.on hb)
        replace O_v2 := Lib.hid (O_v2.out.on hb)
        replace O_v3 := Lib.hid (O_v3.out.on hb)
        replace O_v4 := Lib.hid (O_v4.out.on hb)
        replace O_v5 := Lib.hid (O_v5.out.on hb)
        replace BB := Lib.hid (BB.out.trans (hb.mono BB.out.size))
        have S17 := Lib.hid (show w9.heap.size ≤ w10.heap.size from (by have h := hb.size; exact h))
        have O_v6 := Lib.hid (show Row.Ring.kK.In w9.heap.size w10.heap.size w10 (.slice x_v6 n_v6 c_v6) (l0) from ho); clear ho
        clear hb
        have c0_aN : w10.cell? ⟨w.heap.size, 0, none⟩ = some (.slice x_q1 n_q1 c_q1) := C_aN.out.cell 0
        have c0_aKey : w10.cell? ⟨w.heap.size + 1, 0, none⟩ = some (.slice x_q2 n_q2 c_q2) := C_aKey.out.cell 0
        have c0_w0 : w10.cell? ⟨g_v1, 0, none⟩ = some (.slice x_v1a n_v1a c_v1a) := C_w0.out.cell 0
        have c1_w0 : w10.cell? ⟨g_v1, 1, none⟩ = some (.slice x_v1b n_v1b c_v1b) := C_w0.out.cell 1
        have c2_w0 : w10.cell? ⟨g_v1, 2, none⟩ = some (.slice x_v1c n_v1c c_v1c) := C_w0.out.cell 2
        have c3_w0 : w10.cell? ⟨g_v1, 3, none⟩ = some (.int .i64 (Row.Ring.sgK (l0) (l2) (l1) (Row.digK (l0) (l1)) a3).2.2.2.1) := C_w0.out.cell 3
        have c4_w0 : w10.cell? ⟨g_v1, 4, none⟩ = some (.int .i64 (Row.Ring.sgK (l0) (l2) (l1) (Row.digK (l0) (l1)) a3).2.2.2.2) := C_w0.out.cell 4
        have c0_x1 : w10.cell? ⟨w6.heap.size, 0, none⟩ = some (.slice x_v3 n_v3 c_v3) := C_x1.out.cell 0
        have c0_x2 : w10.cell? ⟨w7.heap.size, 0, none⟩ = some (.slice x_v4 n_v4 c_v4) := C_x2.out.cell 0
        have c0_g0 : w10.cell? ⟨w8.heap.size, 0, none⟩ = some (.slice x_v5a n_v5a c_v5a) := C_g0.out.cell 0
        have c1_g0 : w10.cell? ⟨w8.heap.size, 1, none⟩ = some (.slice x_v5b n_v5b c_v5b) := C_g0.out.cell 1
        have c2_g0 : w10.cell? ⟨w8.heap.size, 2, none⟩ = some (.slice x_v5c n_v5c c_v5c) := C_g0.out.cell 2
        have c3_g0 : w10.cell? ⟨w8.heap.size, 3, none⟩ = some (.int .i64 (Row.Ring.sgK (l0) (l2) (l1) (Row.digK (l0) (l1)) a3).2.2.2.1) := C_g0.out.cell 3
        have c4_g0 : w10.cell? ⟨w8.heap.size, 4, none⟩ = some (.int .i64 (Row.Ring.sgK (l0) (l2) (l1) (Row.digK (l0) (l1)) a3).2.2.2.2) := C_g0.out.cell 4
        go_wp2_with fail
        clear c0_aN c0_aKey c0_w0 c1_w0 c2_w0 c3_w0 c4_w0 c0_x1 c0_x2 c0_g0 c1_g0 c2_g0 c3_g0 c4_g0
        refine (Row.Ring.sameKK _ _ (l0) _ (O_v2.out.at) (O_v6.out.at) (by first | omega | (simp; omega) | (simp [Row.marks_length, Sl.marks_length, Row.mkW]; omega))).mono ?_
        rintro e w11 ⟨rfl, hb⟩
        replace C_aN := Lib.hid (C_aN.out.on hb)
        replace C_aKey := Lib.hid (C_aKey.out.on hb)
        replace C_w0 := Lib.hid (C_w0.out.on hb)
        replace C_x1 := Lib.hid (C_x1.out.on hb)
        replace C_x2 := Lib.hid (C_x2.out.on hb)
        replace C_g0 := Lib.hid (C_g0.out.on hb)
        replace O_v1 := Lib.hid (O_v1.out.on hb)
        replace O_v2 := Lib.hid (O_v2.out.on hb)
        replace O_v3 := Lib.hid (O_v3.out.on hb)
        replace O_v4 := Lib.hid (O_v4.out.on hb)
        replace O_v5 := Lib.hid (O_v5.out.on hb)
        replace O_v6 := Lib.hid (O_v6.out.on hb)
        replace BB := Lib.hid (BB.out.trans (hb.mono BB.out.size))
        have S18 := Lib.hid (show w10.heap.size ≤ w11.heap.size from (by have h := hb.size; exact h))
        clear hb
        have c0_aN : w11.cell? ⟨w.heap.size, 0, none⟩ = some (.slice x_q1 n_q1 c_q1) := C_aN.out.cell 0
        have c0_aKey : w11.cell? ⟨w.heap.size + 1, 0, none⟩ = some (.slice x_q2 n_q2 c_q2) := C_aKey.out.cell 0
        have c0_w0 : w11.cell? ⟨g_v1, 0, none⟩ = some (.slice x_v1a n_v1a c_v1a) := C_w0.out.cell 0
        have c1_w0 : w11.cell? ⟨g_v1, 1, none⟩ = some (.slice x_v1b n_v1b c_v1b) := C_w0.out.cell 1
        have c2_w0 : w11.cell? ⟨g_v1, 2, none⟩ = some (.slice x_v1c n_v1c c_v1c) := C_w0.out.cell 2
        have c3_w0 : w11.cell? ⟨g_v1, 3, none⟩ = some (.int .i64 (Row.Ring.sgK (l0) (l2) (l1) (Row.digK (l0) (l1)) a3).2.2.2.1) := C_w0.out.cell 3
        have c4_w0 : w11.cell? ⟨g_v1, 4, none⟩ = some (.int .i64 (Row.Ring.sgK (l0) (l2) (l1) (Row.digK (l0) (l1)) a3).2.2.2.2) := C_w0.out.cell 4
        have c0_x1 : w11.cell? ⟨w6.heap.size, 0, none⟩ = some (.slice x_v3 n_v3 c_v3) := C_x1.out.cell 0
        have c0_x2 : w11.cell? ⟨w7.heap.size, 0, none⟩ = some (.slice x_v4 n_v4 c_v4) := C_x2.out.cell 0
        have c0_g0 : w11.cell? ⟨w8.heap.size, 0, none⟩ = some (.slice x_v5a n_v5a c_v5a) := C_g0.out.cell 0
        have c1_g0 : w11.cell? ⟨w8.heap.size, 1, none⟩ = some (.slice x_v5b n_v5b c_v5b) := C_g0.out.cell 1
        have c2_g0 : w11.cell? ⟨w8.heap.size, 2, none⟩ = some (.slice x_v5c n_v5c c_v5c) := C_g0.out.cell 2
        have c3_g0 : w11.cell? ⟨w8.heap.size, 3, none⟩ = some (.int .i64 (Row.Ring.sgK (l0) (l2) (l1) (Row.digK (l0) (l1)) a3).2.2.2.1) := C_g0.out.cell 3
        have c4_g0 : w11.cell? ⟨w8.heap.size, 4, none⟩ = some (.int .i64 (Row.Ring.sgK (l0) (l2) (l1) (Row.digK (l0) (l1)) a3).2.2.2.2) := C_g0.out.cell 4
        go_wp2_with fail
        clear c0_aN c0_aKey c0_w0 c1_w0 c2_w0 c3_w0 c4_w0 c0_x1 c0_x2 c0_g0 c1_g0 c2_g0 c3_g0 c4_g0
        clear O_v6
        have hdr : Below w11.heap.size w11 w11.drew := (Below.refl _ _).drew
        replace C_aN := Lib.hid (C_aN.out.on hdr)
        replace C_aKey := Lib.hid (C_aKey.out.on hdr)
        replace C_w0 := Lib.hid (C_w0.out.on hdr)
        replace C_x1 := Lib.hid (C_x1.out.on hdr)
        replace C_x2 := Lib.hid (C_x2.out.on hdr)
        replace C_g0 := Lib.hid (C_g0.out.on hdr)
        replace O_v1 := Lib.hid (O_v1.out.on hdr)
        replace O_v2 := Lib.hid (O_v2.out.on hdr)
        replace O_v3 := Lib.hid (O_v3.out.on hdr)
        replace O_v4 := Lib.hid (O_v4.out.on hdr)
        replace O_v5 := Lib.hid (O_v5.out.on hdr)
        replace BB := Lib.hid (BB.out.trans (hdr.mono BB.out.size))
        clear hdr
        have KS0 := Lib.hid (show w11.drew.cell? ⟨w6.heap.size, 0, none⟩ = some (.slice x_v3 n_v3 c_v3) ∧ w11.drew.cell? ⟨w.heap.size, 0, none⟩ = some (.slice x_q1 n_q1 c_q1) ∧ Below w.heap.size w w11.drew from ⟨C_x1.out.cell 0, C_aN.out.cell 0, BB.out⟩)
        go_region_held3 (fun w' => w'.cell? ⟨w6.heap.size, 0, none⟩ = some (.slice x_v3 n_v3 c_v3) ∧ w'.cell? ⟨w.heap.size, 0, none⟩ = some (.slice x_q1 n_q1 c_q1) ∧ Below w.heap.size w w') (first | exact KS0.out | exact KS1.out | exact KS2.out) ((first | (go_at_call 21; refine (Row.sameNK _ _ (l1) _ ((O_v3.out.at).on hba) hoa.at (by first | omega | (simp; omega) | (simp [Row.marks_length, Sl.marks_length, Row.mkW]; omega))).mono ?_; rintro e w13 ⟨rfl, hbb⟩; have KS2 := Lib.hid (show (fun w' => w'.cell? ⟨w6.heap.size, 0, none⟩ = some (.slice x_v3 n_v3 c_v3) ∧ w'.cell? ⟨w.heap.size, 0, none⟩ = some (.slice x_q1 n_q1 c_q1) ∧ Below w.heap.size w w') _ from ⟨Row.kc KS1.out.1 hbb, Row.kc KS1.out.2.1 hbb, KS1.out.2.2.trans (hbb.mono KS1.out.2.2.size)⟩)) | (go_at_call 17; refine (Row.toNK _ l1 _ (Q1.out.on BB.out) (by omega)).mono ?_; rintro e w12 ⟨v7, rfl, hoa, hba⟩; obtain ⟨x_v7, n_v7, c_v7, rfl, hoa⟩ := Row.kN_shape hoa; have KS1 := Lib.hid (show (fun w' => w'.cell? ⟨w6.heap.size, 0, none⟩ = some (.slice x_v3 n_v3 c_v3) ∧ w'.cell? ⟨w.heap.size, 0, none⟩ = some (.slice x_q1 n_q1 c_q1) ∧ Below w.heap.size w w') _ from ⟨Row.kc KS0.out.1 hba, Row.kc KS0.out.2.1 hba, KS0.out.2.2.trans (hba.mono KS0.out.2.2.size)⟩))))
        clear KS0 KS1 KS2 hoa
        replace C_aN := Lib.hid (C_aN.out.on hba)
        replace C_aKey := Lib.hid (C_aKey.out.on hba)
        replace C_w0 := Lib.hid (C_w0.out.on hba)
        replace C_x1 := Lib.hid (C_x1.out.on hba)
        replace C_x2 := Lib.hid (C_x2.out.on hba)
        replace C_g0 := Lib.hid (C_g0.out.on hba)
        replace O_v1 := Lib.hid (O_v1.out.on hba)
        replace O_v2 := Lib.hid (O_v2.out.on hba)
        replace O_v3 := Lib.hid (O_v3.out.on hba)
        replace O_v4 := Lib.hid (O_v4.out.on hba)
        replace O_v5 := Lib.hid (O_v5.out.on hba)
        replace BB := Lib.hid (BB.out.trans (hba.mono BB.out.size))
        have S19 := Lib.hid (show w11.heap.size ≤ w12.heap.size from (by have h := hba.size; exact h))
        replace C_aN := Lib.hid (C_aN.out.on hbb)
        replace C_aKey := Lib.hid (C_aKey.out.on hbb)
        replace C_w0 := Lib.hid (C_w0.out.on hbb)
        replace C_x1 := Lib.hid (C_x1.out.on hbb)
        replace C_x2 := Lib.hid (C_x2.out.on hbb)
        replace C_g0 := Lib.hid (C_g0.out.on hbb)
        replace O_v1 := Lib.hid (O_v1.out.on hbb)
        replace O_v2 := Lib.hid (O_v2.out.on hbb)
        replace O_v3 := Lib.hid (O_v3.out.on hbb)
        replace O_v4 := Lib.hid (O_v4.out.on hbb)
        replace O_v5 := Lib.hid (O_v5.out.on hbb)
        replace BB := Lib.hid (BB.out.trans (hbb.mono BB.out.size))
        have S20 := Lib.hid (show w12.heap.size ≤ w13.heap.size from (by have h := hbb.size; exact h))
        clear hba hbb
        have c0_aN : w13.cell? ⟨w.heap.size, 0, none⟩ = some (.slice x_q1 n_q1 c_q1) := C_aN.out.cell 0
        have c0_aKey : w13.cell? ⟨w.heap.size + 1, 0, none⟩ = some (.slice x_q2 n_q2 c_q2) := C_aKey.out.cell 0
        have c0_w0 : w13.cell? ⟨g_v1, 0, none⟩ = some (.slice x_v1a n_v1a c_v1a) := C_w0.out.cell 0
        have c1_w0 : w13.cell? ⟨g_v1, 1, none⟩ = some (.slice x_v1b n_v1b c_v1b) := C_w0.out.cell 1
        have c2_w0 : w13.cell? ⟨g_v1, 2, none⟩ = some (.slice x_v1c n_v1c c_v1c) := C_w0.out.cell 2
        have c3_w0 : w13.cell? ⟨g_v1, 3, none⟩ = some (.int .i64 (Row.Ring.sgK (l0) (l2) (l1) (Row.digK (l0) (l1)) a3).2.2.2.1) := C_w0.out.cell 3
        have c4_w0 : w13.cell? ⟨g_v1, 4, none⟩ = some (.int .i64 (Row.Ring.sgK (l0) (l2) (l1) (Row.digK (l0) (l1)) a3).2.2.2.2) := C_w0.out.cell 4
        have c0_x1 : w13.cell? ⟨w6.heap.size, 0, none⟩ = some (.slice x_v3 n_v3 c_v3) := C_x1.out.cell 0
        have c0_x2 : w13.cell? ⟨w7.heap.size, 0, none⟩ = some (.slice x_v4 n_v4 c_v4) := C_x2.out.cell 0
        have c0_g0 : w13.cell? ⟨w8.heap.size, 0, none⟩ = some (.slice x_v5a n_v5a c_v5a) := C_g0.out.cell 0
        have c1_g0 : w13.cell? ⟨w8.heap.size, 1, none⟩ = some (.slice x_v5b n_v5b c_v5b) := C_g0.out.cell 1
        have c2_g0 : w13.cell? ⟨w8.heap.size, 2, none⟩ = some (.slice x_v5c n_v5c c_v5c) := C_g0.out.cell 2
        have c3_g0 : w13.cell? ⟨w8.heap.size, 3, none⟩ = some (.int .i64 (Row.Ring.sgK (l0) (l2) (l1) (Row.digK (l0) (l1)) a3).2.2.2.1) := C_g0.out.cell 3
        have c4_g0 : w13.cell? ⟨w8.heap.size, 4, none⟩ = some (.int .i64 (Row.Ring.sgK (l0) (l2) (l1) (Row.digK (l0) (l1)) a3).2.2.2.2) := C_g0.out.cell 4
        go_wp2_with fail
        clear c0_aN c0_aKey c0_w0 c1_w0 c2_w0 c3_w0 c4_w0 c0_x1 c0_x2 c0_g0 c1_g0 c2_g0 c3_g0 c4_g0
        have hdr : Below w13.heap.size w13 w13.drew := (Below.refl _ _).drew
        replace C_aN := Lib.hid (C_aN.out.on hdr)
        replace C_aKey := Lib.hid (C_aKey.out.on hdr)
        replace C_w0 := Lib.hid (C_w0.out.on hdr)
        replace C_x1 := Lib.hid (C_x1.out.on hdr)
        replace C_x2 := Lib.hid (C_x2.out.on hdr)
        replace C_g0 := Lib.hid (C_g0.out.on hdr)
        replace O_v1 := Lib.hid (O_v1.out.on hdr)
        replace O_v2 := Lib.hid (O_v2.out.on hdr)
        replace O_v3 := Lib.hid (O_v3.out.on hdr)
        replace O_v4 := Lib.hid (O_v4.out.on hdr)
        replace O_v5 := Lib.hid (O_v5.out.on hdr)
        replace BB := Lib.hid (BB.out.trans (hdr.mono BB.out.size))
        clear hdr
        have KS0 := Lib.hid (show w13.drew.cell? ⟨w7.heap.size, 0, none⟩ = some (.slice x_v4 n_v4 c_v4) ∧ w13.drew.cell? ⟨w.heap.size + 1, 0, none⟩ = some (.slice x_q2 n_q2 c_q2) ∧ Below w.heap.size w w13.drew from ⟨C_x2.out.cell 0, C_aKey.out.cell 0, BB.out⟩)
        go_region_held3 (fun w' => w'.cell? ⟨w7.heap.size, 0, none⟩ = some (.slice x_v4 n_v4 c_v4) ∧ w'.cell? ⟨w.heap.size + 1, 0, none⟩ = some (.slice x_q2 n_q2 c_q2) ∧ Below w.heap.size w w') (first | exact KS0.out | exact KS1.out | exact KS2.out) ((first | (go_at_call 21; refine (Row.sameNK _ _ (l2) _ ((O_v4.out.at).on hba) hoa.at (by first | omega | (simp; omega) | (simp [Row.marks_length, Sl.marks_length, Row.mkW]; omega))).mono ?_; rintro e w15 ⟨rfl, hbb⟩; have KS2 := Lib.hid (show (fun w' => w'.cell? ⟨w7.heap.size, 0, none⟩ = some (.slice x_v4 n_v4 c_v4) ∧ w'.cell? ⟨w.heap.size + 1, 0, none⟩ = some (.slice x_q2 n_q2 c_q2) ∧ Below w.heap.size w w') _ from ⟨Row.kc KS1.out.1 hbb, Row.kc KS1.out.2.1 hbb, KS1.out.2.2.trans (hbb.mono KS1.out.2.2.size)⟩)) | (go_at_call 17; refine (Row.toNK _ l2 _ (Q2.out.on BB.out) (by omega)).mono ?_; rintro e w14 ⟨v8, rfl, hoa, hba⟩; obtain ⟨x_v8, n_v8, c_v8, rfl, hoa⟩ := Row.kN_shape hoa; have KS1 := Lib.hid (show (fun w' => w'.cell? ⟨w7.heap.size, 0, none⟩ = some (.slice x_v4 n_v4 c_v4) ∧ w'.cell? ⟨w.heap.size + 1, 0, none⟩ = some (.slice x_q2 n_q2 c_q2) ∧ Below w.heap.size w w') _ from ⟨Row.kc KS0.out.1 hba, Row.kc KS0.out.2.1 hba, KS0.out.2.2.trans (hba.mono KS0.out.2.2.size)⟩))))
        clear KS0 KS1 KS2 hoa
        replace C_aN := Lib.hid (C_aN.out.on hba)
        replace C_aKey := Lib.hid (C_aKey.out.on hba)
        replace C_w0 := Lib.hid (C_w0.out.on hba)
        replace C_x1 := Lib.hid (C_x1.out.on hba)
        replace C_x2 := Lib.hid (C_x2.out.on hba)
        replace C_g0 := Lib.hid (C_g0.out.on hba)
        replace O_v1 := Lib.hid (O_v1.out.on hba)
        replace O_v2 := Lib.hid (O_v2.out.on hba)
        replace O_v3 := Lib.hid (O_v3.out.on hba)
        replace O_v4 := Lib.hid (O_v4.out.on hba)
        replace O_v5 := Lib.hid (O_v5.out.on hba)
        replace BB := Lib.hid (BB.out.trans (hba.mono BB.out.size))
        have S21 := Lib.hid (show w13.heap.size ≤ w14.heap.size from (by have h := hba.size; exact h))
        replace C_aN := Lib.hid (C_aN.out.on hbb)
        replace C_aKey := Lib.hid (C_aKey.out.on hbb)
        replace C_w0 := Lib.hid (C_w0.out.on hbb)
        replace C_x1 := Lib.hid (C_x1.out.on hbb)
        replace C_x2 := Lib.hid (C_x2.out.on hbb)
        replace C_g0 := Lib.hid (C_g0.out.on hbb)
        replace O_v1 := Lib.hid (O_v1.out.on hbb)
        replace O_v2 := Lib.hid (O_v2.out.on hbb)
        replace O_v3 := Lib.hid (O_v3.out.on hbb)
        replace O_v4 := Lib.hid (O_v4.out.on hbb)
        replace O_v5 := Lib.hid (O_v5.out.on hbb)
        replace BB := Lib.hid (BB.out.trans (hbb.mono BB.out.size))
        have S22 := Lib.hid (show w14.heap.size ≤ w15.heap.size from (by have h := hbb.size; exact h))
        clear hba hbb
        have c0_aN : w15.cell? ⟨w.heap.size, 0, none⟩ = some (.slice x_q1 n_q1 c_q1) := C_aN.out.cell 0
        have c0_aKey : w15.cell? ⟨w.heap.size + 1, 0, none⟩ = some (.slice x_q2 n_q2 c_q2) := C_aKey.out.cell 0
        have c0_w0 : w15.cell? ⟨g_v1, 0, none⟩ = some (.slice x_v1a n_v1a c_v1a) := C_w0.out.cell 0
        have c1_w0 : w15.cell? ⟨g_v1, 1, none⟩ = some (.slice x_v1b n_v1b c_v1b) := C_w0.out.cell 1
        have c2_w0 : w15.cell? ⟨g_v1, 2, none⟩ = some (.slice x_v1c n_v1c c_v1c) := C_w0.out.cell 2
        have c3_w0 : w15.cell? ⟨g_v1, 3, none⟩ = some (.int .i64 (Row.Ring.sgK (l0) (l2) (l1) (Row.digK (l0) (l1)) a3).2.2.2.1) := C_w0.out.cell 3
        have c4_w0 : w15.cell? ⟨g_v1, 4, none⟩ = some (.int .i64 (Row.Ring.sgK (l0) (l2) (l1) (Row.digK (l0) (l1)) a3).2.2.2.2) := C_w0.out.cell 4
        have c0_x1 : w15.cell? ⟨w6.heap.size, 0, none⟩ = some (.slice x_v3 n_v3 c_v3) := C_x1.out.cell 0
        have c0_x2 : w15.cell? ⟨w7.heap.size, 0, none⟩ = some (.slice x_v4 n_v4 c_v4) := C_x2.out.cell 0
        have c0_g0 : w15.cell? ⟨w8.heap.size, 0, none⟩ = some (.slice x_v5a n_v5a c_v5a) := C_g0.out.cell 0
        have c1_g0 : w15.cell? ⟨w8.heap.size, 1, none⟩ = some (.slice x_v5b n_v5b c_v5b) := C_g0.out.cell 1
        have c2_g0 : w15.cell? ⟨w8.heap.size, 2, none⟩ = some (.slice x_v5c n_v5c c_v5c) := C_g0.out.cell 2
        have c3_g0 : w15.cell? ⟨w8.heap.size, 3, none⟩ = some (.int .i64 (Row.Ring.sgK (l0) (l2) (l1) (Row.digK (l0) (l1)) a3).2.2.2.1) := C_g0.out.cell 3
        have c4_g0 : w15.cell? ⟨w8.heap.size, 4, none⟩ = some (.int .i64 (Row.Ring.sgK (l0) (l2) (l1) (Row.digK (l0) (l1)) a3).2.2.2.2) := C_g0.out.cell 4
        go_wp2_with fail
        clear c0_aN c0_aKey c0_w0 c1_w0 c2_w0 c3_w0 c4_w0 c0_x1 c0_x2 c0_g0 c1_g0 c2_g0 c3_g0 c4_g0
        refine (Row.Ring.markKK _ _ _ (l0) _ (1) O_v2.out (by first | omega | (simp; omega) | (simp [Row.marks_length, Sl.marks_length, Row.mkW]; omega)) (by first | omega | (simp; omega) | (simp [Row.marks_length, Sl.marks_length, Row.mkW]; omega)) (by first | omega | (simp; omega) | (simp [Row.marks_length, Sl.marks_length, Row.mkW]; omega))).mono ?_
        rintro e w16 ⟨rfl, ho, hg⟩
        replace C_aN := Lib.hid (hg.blk C_aN.out (by have := S1.out; have := S2.out; have := S3.out; have := S4.out; have := S5.out; have := S6.out; have := S7.out; have := S8.out; have := S9.out; have := S10.out; have := S11.out; have := S12.out; have := S13.out; have := S14.out; have := S15.out; have := S16.out; have := S17.out; have := S18.out; have := S19.out; have := S20.out; have := S21.out; have := S22.out; omega))
        replace C_aKey := Lib.hid (hg.blk C_aKey.out (by have := S1.out; have := S2.out; have := S3.out; have := S4.out; have := S5.out; have := S6.out; have := S7.out; have := S8.out; have := S9.out; have := S10.out; have := S11.out; have := S12.out; have := S13.out; have := S14.out; have := S15.out; have := S16.out; have := S17.out; have := S18.out; have := S19.out; have := S20.out; have := S21.out; have := S22.out; omega))
        replace C_w0 := Lib.hid (hg.blk C_w0.out (by have := S1.out; have := S2.out; have := S3.out; have := S4.out; have := S5.out; have := S6.out; have := S7.out; have := S8.out; have := S9.out; have := S10.out; have := S11.out; have := S12.out; have := S13.out; have := S14.out; have := S15.out; have := S16.out; have := S17.out; have := S18.out; have := S19.out; have := S20.out; have := S21.out; have := S22.out; omega))
        replace C_x1 := Lib.hid (hg.blk C_x1.out (by have := S1.out; have := S2.out; have := S3.out; have := S4.out; have := S5.out; have := S6.out; have := S7.out; have := S8.out; have := S9.out; have := S10.out; have := S11.out; have := S12.out; have := S13.out; have := S14.out; have := S15.out; have := S16.out; have := S17.out; have := S18.out; have := S19.out; have := S20.out; have := S21.out; have := S22.out; omega))
        replace C_x2 := Lib.hid (hg.blk C_x2.out (by have := S1.out; have := S2.out; have := S3.out; have := S4.out; have := S5.out; have := S6.out; have := S7.out; have := S8.out; have := S9.out; have := S10.out; have := S11.out; have := S12.out; have := S13.out; have := S14.out; have := S15.out; have := S16.out; have := S17.out; have := S18.out; have := S19.out; have := S20.out; have := S21.out; have := S22.out; omega))
        replace C_g0 := Lib.hid (hg.blk C_g0.out (by have := S1.out; have := S2.out; have := S3.out; have := S4.out; have := S5.out; have := S6.out; have := S7.out; have := S8.out; have := S9.out; have := S10.out; have := S11.out; have := S12.out; have := S13.out; have := S14.out; have := S15.out; have := S16.out; have := S17.out; have := S18.out; have := S19.out; have := S20.out; have := S21.out; have := S22.out; omega))
        replace O_v1 := Lib.hid (O_v1.out.wrote hg (by have := S1.out; have := S2.out; have := S3.out; have := S4.out; have := S5.out; have := S6.out; have := S7.out; have := S8.out; have := S9.out; have := S10.out; have := S11.out; have := S12.out; have := S13.out; have := S14.out; have := S15.out; have := S16.out; have := S17.out; have := S18.out; have := S19.out; have := S20.out; have := S21.out; have := S22.out; omega))
        replace O_v3 := Lib.hid (O_v3.out.wrote hg (by have := S1.out; have := S2.out; have := S3.out; have := S4.out; have := S5.out; have := S6.out; have := S7.out; have := S8.out; have := S9.out; have := S10.out; have := S11.out; have := S12.out; have := S13.out; have := S14.out; have := S15.out; have := S16.out; have := S17.out; have := S18.out; have := S19.out; have := S20.out; have := S21.out; have := S22.out; omega))
        replace O_v4 := Lib.hid (O_v4.out.wrote hg (by have := S1.out; have := S2.out; have := S3.out; have := S4.out; have := S5.out; have := S6.out; have := S7.out; have := S8.out; have := S9.out; have := S10.out; have := S11.out; have := S12.out; have := S13.out; have := S14.out; have := S15.out; have := S16.out; have := S17.out; have := S18.out; have := S19.out; have := S20.out; have := S21.out; have := S22.out; omega))
        replace O_v5 := Lib.hid (O_v5.out.wrote hg (by have := S1.out; have := S2.out; have := S3.out; have := S4.out; have := S5.out; have := S6.out; have := S7.out; have := S8.out; have := S9.out; have := S10.out; have := S11.out; have := S12.out; have := S13.out; have := S14.out; have := S15.out; have := S16.out; have := S17.out; have := S18.out; have := S19.out; have := S20.out; have := S21.out; have := S22.out; omega))
        replace BB := Lib.hid (hg.below BB.out BB.out.size (by have := S1.out; have := S2.out; have := S3.out; have := S4.out; have := S5.out; have := S6.out; have := S7.out; have := S8.out; have := S9.out; have := S10.out; have := S11.out; have := S12.out; have := S13.out; have := S14.out; have := S15.out; have := S16.out; have := S17.out; have := S18.out; have := S19.out; have := S20.out; have := S21.out; have := S22.out; omega))
        have S23 := Lib.hid (show w15.heap.size ≤ w16.heap.size from hg.size)
        replace O_v2 := Lib.hid ho; clear ho hg
        have c0_aN : w16.cell? ⟨w.heap.size, 0, none⟩ = some (.slice x_q1 n_q1 c_q1) := C_aN.out.cell 0
        have c0_aKey : w16.cell? ⟨w.heap.size + 1, 0, none⟩ = some (.slice x_q2 n_q2 c_q2) := C_aKey.out.cell 0
        have c0_w0 : w16.cell? ⟨g_v1, 0, none⟩ = some (.slice x_v1a n_v1a c_v1a) := C_w0.out.cell 0
        have c1_w0 : w16.cell? ⟨g_v1, 1, none⟩ = some (.slice x_v1b n_v1b c_v1b) := C_w0.out.cell 1
        have c2_w0 : w16.cell? ⟨g_v1, 2, none⟩ = some (.slice x_v1c n_v1c c_v1c) := C_w0.out.cell 2
        have c3_w0 : w16.cell? ⟨g_v1, 3, none⟩ = some (.int .i64 (Row.Ring.sgK (l0) (l2) (l1) (Row.digK (l0) (l1)) a3).2.2.2.1) := C_w0.out.cell 3
        have c4_w0 : w16.cell? ⟨g_v1, 4, none⟩ = some (.int .i64 (Row.Ring.sgK (l0) (l2) (l1) (Row.digK (l0) (l1)) a3).2.2.2.2) := C_w0.out.cell 4
        have c0_x1 : w16.cell? ⟨w6.heap.size, 0, none⟩ = some (.slice x_v3 n_v3 c_v3) := C_x1.out.cell 0
        have c0_x2 : w16.cell? ⟨w7.heap.size, 0, none⟩ = some (.slice x_v4 n_v4 c_v4) := C_x2.out.cell 0
        have c0_g0 : w16.cell? ⟨w8.heap.size, 0, none⟩ = some (.slice x_v5a n_v5a c_v5a) := C_g0.out.cell 0
        have c1_g0 : w16.cell? ⟨w8.heap.size, 1, none⟩ = some (.slice x_v5b n_v5b c_v5b) := C_g0.out.cell 1
        have c2_g0 : w16.cell? ⟨w8.heap.size, 2, none⟩ = some (.slice x_v5c n_v5c c_v5c) := C_g0.out.cell 2
        have c3_g0 : w16.cell? ⟨w8.heap.size, 3, none⟩ = some (.int .i64 (Row.Ring.sgK (l0) (l2) (l1) (Row.digK (l0) (l1)) a3).2.2.2.1) := C_g0.out.cell 3
        have c4_g0 : w16.cell? ⟨w8.heap.size, 4, none⟩ = some (.int .i64 (Row.Ring.sgK (l0) (l2) (l1) (Row.digK (l0) (l1)) a3).2.2.2.2) := C_g0.out.cell 4
        go_wp2_with fail
        clear c0_aN c0_aKey c0_w0 c1_w0 c2_w0 c3_w0 c4_w0 c0_x1 c0_x2 c0_g0 c1_g0 c2_g0 c3_g0 c4_g0
        refine (Row.markNK _ _ _ (l1) _ (1 + (Row.Ring.adv (l0) : Int)) O_v3.out (by first | omega | (simp; omega) | (simp [Row.marks_length, Sl.marks_length, Row.mkW]; omega)) (by first | omega | (simp; omega) | (simp [Row.marks_length, Sl.marks_length, Row.mkW]; omega)) (by first | omega | (simp; omega) | (simp [Row.marks_length, Sl.marks_length, Row.mkW]; omega))).mono ?_
        rintro e w17 ⟨rfl, ho, hg⟩
        replace C_aN := Lib.hid (hg.blk C_aN.out (by have := S1.out; have := S2.out; have := S3.out; have := S4.out; have := S5.out; have := S6.out; have := S7.out; have := S8.out; have := S9.out; have := S10.out; have := S11.out; have := S12.out; have := S13.out; have := S14.out; have := S15.out; have := S16.out; have := S17.out; have := S18.out; have := S19.out; have := S20.out; have := S21.out; have := S22.out; have := S23.out; omega))
        replace C_aKey := Lib.hid (hg.blk C_aKey.out (by have := S1.out; have := S2.out; have := S3.out; have := S4.out; have := S5.out; have := S6.out; have := S7.out; have := S8.out; have := S9.out; have := S10.out; have := S11.out; have := S12.out; have := S13.out; have := S14.out; have := S15.out; have := S16.out; have := S17.out; have := S18.out; have := S19.out; have := S20.out; have := S21.out; have := S22.out; have := S23.out; omega))
        replace C_w0 := Lib.hid (hg.blk C_w0.out (by have := S1.out; have := S2.out; have := S3.out; have := S4.out; have := S5.out; have := S6.out; have := S7.out; have := S8.out; have := S9.out; have := S10.out; have := S11.out; have := S12.out; have := S13.out; have := S14.out; have := S15.out; have := S16.out; have := S17.out; have := S18.out; have := S19.out; have := S20.out; have := S21.out; have := S22.out; have := S23.out; omega))
        replace C_x1 := Lib.hid (hg.blk C_x1.out (by have := S1.out; have := S2.out; have := S3.out; have := S4.out; have := S5.out; have := S6.out; have := S7.out; have := S8.out; have := S9.out; have := S10.out; have := S11.out; have := S12.out; have := S13.out; have := S14.out; have := S15.out; have := S16.out; have := S17.out; have := S18.out; have := S19.out; have := S20.out; have := S21.out; have := S22.out; have := S23.out; omega))
        replace C_x2 := Lib.hid (hg.blk C_x2.out (by have := S1.out; have := S2.out; have := S3.out; have := S4.out; have := S5.out; have := S6.out; have := S7.out; have := S8.out; have := S9.out; have := S10.out; have := S11.out; have := S12.out; have := S13.out; have := S14.out; have := S15.out; have := S16.out; have := S17.out; have := S18.out; have := S19.out; have := S20.out; have := S21.out; have := S22.out; have := S23.out; omega))
        replace C_g0 := Lib.hid (hg.blk C_g0.out (by have := S1.out; have := S2.out; have := S3.out; have := S4.out; have := S5.out; have := S6.out; have := S7.out; have := S8.out; have := S9.out; have := S10.out; have := S11.out; have := S12.out; have := S13.out; have := S14.out; have := S15.out; have := S16.out; have := S17.out; have := S18.out; have := S19.out; have := S20.out; have := S21.out; have := S22.out; have := S23.out; omega))
        replace O_v1 := Lib.hid (O_v1.out.wrote hg (by have := S1.out; have := S2.out; have := S3.out; have := S4.out; have := S5.out; have := S6.out; have := S7.out; have := S8.out; have := S9.out; have := S10.out; have := S11.out; have := S12.out; have := S13.out; have := S14.out; have := S15.out; have := S16.out; have := S17.out; have := S18.out; have := S19.out; have := S20.out; have := S21.out; have := S22.out; have := S23.out; omega))
        replace O_v2 := Lib.hid (O_v2.out.wrote hg (by have := S1.out; have := S2.out; have := S3.out; have := S4.out; have := S5.out; have := S6.out; have := S7.out; have := S8.out; have := S9.out; have := S10.out; have := S11.out; have := S12.out; have := S13.out; have := S14.out; have := S15.out; have := S16.out; have := S17.out; have := S18.out; have := S19.out; have := S20.out; have := S21.out; have := S22.out; have := S23.out; omega))
        replace O_v4 := Lib.hid (O_v4.out.wrote hg (by have := S1.out; have := S2.out; have := S3.out; have := S4.out; have := S5.out; have := S6.out; have := S7.out; have := S8.out; have := S9.out; have := S10.out; have := S11.out; have := S12.out; have := S13.out; have := S14.out; have := S15.out; have := S16.out; have := S17.out; have := S18.out; have := S19.out; have := S20.out; have := S21.out; have := S22.out; have := S23.out; omega))
        replace O_v5 := Lib.hid (O_v5.out.wrote hg (by have := S1.out; have := S2.out; have := S3.out; have := S4.out; have := S5.out; have := S6.out; have := S7.out; have := S8.out; have := S9.out; have := S10.out; have := S11.out; have := S12.out; have := S13.out; have := S14.out; have := S15.out; have := S16.out; have := S17.out; have := S18.out; have := S19.out; have := S20.out; have := S21.out; have := S22.out; have := S23.out; omega))
        replace BB := Lib.hid (hg.below BB.out BB.out.size (by have := S1.out; have := S2.out; have := S3.out; have := S4.out; have := S5.out; have := S6.out; have := S7.out; have := S8.out; have := S9.out; have := S10.out; have := S11.out; have := S12.out; have := S13.out; have := S14.out; have := S15.out; have := S16.out; have := S17.out; have := S18.out; have := S19.out; have := S20.out; have := S21.out; have := S22.out; have := S23.out; omega))
        have S24 := Lib.hid (show w16.heap.size ≤ w17.heap.size from hg.size)
        replace O_v3 := Lib.hid ho; clear ho hg
        have c0_aN : w17.cell? ⟨w.heap.size, 0, none⟩ = some (.slice x_q1 n_q1 c_q1) := C_aN.out.cell 0
        have c0_aKey : w17.cell? ⟨w.heap.size + 1, 0, none⟩ = some (.slice x_q2 n_q2 c_q2) := C_aKey.out.cell 0
        have c0_w0 : w17.cell? ⟨g_v1, 0, none⟩ = some (.slice x_v1a n_v1a c_v1a) := C_w0.out.cell 0
        have c1_w0 : w17.cell? ⟨g_v1, 1, none⟩ = some (.slice x_v1b n_v1b c_v1b) := C_w0.out.cell 1
        have c2_w0 : w17.cell? ⟨g_v1, 2, none⟩ = some (.slice x_v1c n_v1c c_v1c) := C_w0.out.cell 2
        have c3_w0 : w17.cell? ⟨g_v1, 3, none⟩ = some (.int .i64 (Row.Ring.sgK (l0) (l2) (l1) (Row.digK (l0) (l1)) a3).2.2.2.1) := C_w0.out.cell 3
        have c4_w0 : w17.cell? ⟨g_v1, 4, none⟩ = some (.int .i64 (Row.Ring.sgK (l0) (l2) (l1) (Row.digK (l0) (l1)) a3).2.2.2.2) := C_w0.out.cell 4
        have c0_x1 : w17.cell? ⟨w6.heap.size, 0, none⟩ = some (.slice x_v3 n_v3 c_v3) := C_x1.out.cell 0
        have c0_x2 : w17.cell? ⟨w7.heap.size, 0, none⟩ = some (.slice x_v4 n_v4 c_v4) := C_x2.out.cell 0
        have c0_g0 : w17.cell? ⟨w8.heap.size, 0, none⟩ = some (.slice x_v5a n_v5a c_v5a) := C_g0.out.cell 0
        have c1_g0 : w17.cell? ⟨w8.heap.size, 1, none⟩ = some (.slice x_v5b n_v5b c_v5b) := C_g0.out.cell 1
        have c2_g0 : w17.cell? ⟨w8.heap.size, 2, none⟩ = some (.slice x_v5c n_v5c c_v5c) := C_g0.out.cell 2
        have c3_g0 : w17.cell? ⟨w8.heap.size, 3, none⟩ = some (.int .i64 (Row.Ring.sgK (l0) (l2) (l1) (Row.digK (l0) (l1)) a3).2.2.2.1) := C_g0.out.cell 3
        have c4_g0 : w17.cell? ⟨w8.heap.size, 4, none⟩ = some (.int .i64 (Row.Ring.sgK (l0) (l2) (l1) (Row.digK (l0) (l1)) a3).2.2.2.2) := C_g0.out.cell 4
        go_wp2_with fail
        clear c0_aN c0_aKey c0_w0 c1_w0 c2_w0 c3_w0 c4_w0 c0_x1 c0_x2 c0_g0 c1_g0 c2_g0 c3_g0 c4_g0
        refine (Row.markNK _ _ _ (l2) _ (1 + (Row.Ring.adv (l0) : Int) + ((l1).length : Int)) O_v4.out (by first | omega | (simp; omega) | (simp [Row.marks_length, Sl.marks_length, Row.mkW]; omega)) (by first | omega | (simp; omega) | (simp [Row.marks_length, Sl.marks_length, Row.mkW]; omega)) (by first | omega | (simp; omega) | (simp [Row.marks_length, Sl.marks_length, Row.mkW]; omega))).mono ?_
        rintro e w18 ⟨rfl, ho, hg⟩
        replace C_aN := Lib.hid (hg.blk C_aN.out (by have := S1.out; have := S2.out; have := S3.out; have := S4.out; have := S5.out; have := S6.out; have := S7.out; have := S8.out; have := S9.out; have := S10.out; have := S11.out; have := S12.out; have := S13.out; have := S14.out; have := S15.out; have := S16.out; have := S17.out; have := S18.out; have := S19.out; have := S20.out; have := S21.out; have := S22.out; have := S23.out; have := S24.out; omega))
        replace C_aKey := Lib.hid (hg.blk C_aKey.out (by have := S1.out; have := S2.out; have := S3.out; have := S4.out; have := S5.out; have := S6.out; have := S7.out; have := S8.out; have := S9.out; have := S10.out; have := S11.out; have := S12.out; have := S13.out; have := S14.out; have := S15.out; have := S16.out; have := S17.out; have := S18.out; have := S19.out; have := S20.out; have := S21.out; have := S22.out; have := S23.out; have := S24.out; omega))
        replace C_w0 := Lib.hid (hg.blk C_w0.out (by have := S1.out; have := S2.out; have := S3.out; have := S4.out; have := S5.out; have := S6.out; have := S7.out; have := S8.out; have := S9.out; have := S10.out; have := S11.out; have := S12.out; have := S13.out; have := S14.out; have := S15.out; have := S16.out; have := S17.out; have := S18.out; have := S19.out; have := S20.out; have := S21.out; have := S22.out; have := S23.out; have := S24.out; omega))
        replace C_x1 := Lib.hid (hg.blk C_x1.out (by have := S1.out; have := S2.out; have := S3.out; have := S4.out; have := S5.out; have := S6.out; have := S7.out; have := S8.out; have := S9.out; have := S10.out; have := S11.out; have := S12.out; have := S13.out; have := S14.out; have := S15.out; have := S16.out; have := S17.out; have := S18.out; have := S19.out; have := S20.out; have := S21.out; have := S22.out; have := S23.out; have := S24.out; omega))
        replace C_x2 := Lib.hid (hg.blk C_x2.out (by have := S1.out; have := S2.out; have := S3.out; have := S4.out; have := S5.out; have := S6.out; have := S7.out; have := S8.out; have := S9.out; have := S10.out; have := S11.out; have := S12.out; have := S13.out; have := S14.out; have := S15.out; have := S16.out; have := S17.out; have := S18.out; have := S19.out; have := S20.out; have := S21.out; have := S22.out; have := S23.out; have := S24.out; omega))
        replace C_g0 := Lib.hid (hg.blk C_g0.out (by have := S1.out; have := S2.out; have := S3.out; have := S4.out; have := S5.out; have := S6.out; have := S7.out; have := S8.out; have := S9.out; have := S10.out; have := S11.out; have := S12.out; have := S13.out; have := S14.out; have := S15.out; have := S16.out; have := S17.out; have := S18.out; have := S19.out; have := S20.out; have := S21.out; have := S22.out; have := S23.out; have := S24.out; omega))
        replace O_v1 := Lib.hid (O_v1.out.wrote hg (by have := S1.out; have := S2.out; have := S3.out; have := S4.out; have := S5.out; have := S6.out; have := S7.out; have := S8.out; have := S9.out; have := S10.out; have := S11.out; have := S12.out; have := S13.out; have := S14.out; have := S15.out; have := S16.out; have := S17.out; have := S18.out; have := S19.out; have := S20.out; have := S21.out; have := S22.out; have := S23.out; have := S24.out; omega))
        replace O_v2 := Lib.hid (O_v2.out.wrote hg (by have := S1.out; have := S2.out; have := S3.out; have := S4.out; have := S5.out; have := S6.out; have := S7.out; have := S8.out; have := S9.out; have := S10.out; have := S11.out; have := S12.out; have := S13.out; have := S14.out; have := S15.out; have := S16.out; have := S17.out; have := S18.out; have := S19.out; have := S20.out; have := S21.out; have := S22.out; have := S23.out; have := S24.out; omega))
        replace O_v3 := Lib.hid (O_v3.out.wrote hg (by have := S1.out; have := S2.out; have := S3.out; have := S4.out; have := S5.out; have := S6.out; have := S7.out; have := S8.out; have := S9.out; have := S10.out; have := S11.out; have := S12.out; have := S13.out; have := S14.out; have := S15.out; have := S16.out; have := S17.out; have := S18.out; have := S19.out; have := S20.out; have := S21.out; have := S22.out; have := S23.out; have := S24.out; omega))
        replace O_v5 := Lib.hid (O_v5.out.wrote hg (by have := S1.out; have := S2.out; have := S3.out; have := S4.out; have := S5.out; have := S6.out; have := S7.out; have := S8.out; have := S9.out; have := S10.out; have := S11.out; have := S12.out; have := S13.out; have := S14.out; have := S15.out; have := S16.out; have := S17.out; have := S18.out; have := S19.out; have := S20.out; have := S21.out; have := S22.out; have := S23.out; have := S24.out; omega))
        replace BB := Lib.hid (hg.below BB.out BB.out.size (by have := S1.out; have := S2.out; have := S3.out; have := S4.out; have := S5.out; have := S6.out; have := S7.out; have := S8.out; have := S9.out; have := S10.out; have := S11.out; have := S12.out; have := S13.out; have := S14.out; have := S15.out; have := S16.out; have := S17.out; have := S18.out; have := S19.out; have := S20.out; have := S21.out; have := S22.out; have := S23.out; have := S24.out; omega))
        have S25 := Lib.hid (show w17.heap.size ≤ w18.heap.size from hg.size)
        replace O_v4 := Lib.hid ho; clear ho hg
        have c0_aN : w18.cell? ⟨w.heap.size, 0, none⟩ = some (.slice x_q1 n_q1 c_q1) := C_aN.out.cell 0
        have c0_aKey : w18.cell? ⟨w.heap.size + 1, 0, none⟩ = some (.slice x_q2 n_q2 c_q2) := C_aKey.out.cell 0
        have c0_w0 : w18.cell? ⟨g_v1, 0, none⟩ = some (.slice x_v1a n_v1a c_v1a) := C_w0.out.cell 0
        have c1_w0 : w18.cell? ⟨g_v1, 1, none⟩ = some (.slice x_v1b n_v1b c_v1b) := C_w0.out.cell 1
        have c2_w0 : w18.cell? ⟨g_v1, 2, none⟩ = some (.slice x_v1c n_v1c c_v1c) := C_w0.out.cell 2
        have c3_w0 : w18.cell? ⟨g_v1, 3, none⟩ = some (.int .i64 (Row.Ring.sgK (l0) (l2) (l1) (Row.digK (l0) (l1)) a3).2.2.2.1) := C_w0.out.cell 3
        have c4_w0 : w18.cell? ⟨g_v1, 4, none⟩ = some (.int .i64 (Row.Ring.sgK (l0) (l2) (l1) (Row.digK (l0) (l1)) a3).2.2.2.2) := C_w0.out.cell 4
        have c0_x1 : w18.cell? ⟨w6.heap.size, 0, none⟩ = some (.slice x_v3 n_v3 c_v3) := C_x1.out.cell 0
        have c0_x2 : w18.cell? ⟨w7.heap.size, 0, none⟩ = some (.slice x_v4 n_v4 c_v4) := C_x2.out.cell 0
        have c0_g0 : w18.cell? ⟨w8.heap.size, 0, none⟩ = some (.slice x_v5a n_v5a c_v5a) := C_g0.out.cell 0
        have c1_g0 : w18.cell? ⟨w8.heap.size, 1, none⟩ = some (.slice x_v5b n_v5b c_v5b) := C_g0.out.cell 1
        have c2_g0 : w18.cell? ⟨w8.heap.size, 2, none⟩ = some (.slice x_v5c n_v5c c_v5c) := C_g0.out.cell 2
        have c3_g0 : w18.cell? ⟨w8.heap.size, 3, none⟩ = some (.int .i64 (Row.Ring.sgK (l0) (l2) (l1) (Row.digK (l0) (l1)) a3).2.2.2.1) := C_g0.out.cell 3
        have c4_g0 : w18.cell? ⟨w8.heap.size, 4, none⟩ = some (.int .i64 (Row.Ring.sgK (l0) (l2) (l1) (Row.digK (l0) (l1)) a3).2.2.2.2) := C_g0.out.cell 4
        go_wp2_with fail
        clear c0_aN c0_aKey c0_w0 c1_w0 c2_w0 c3_w0 c4_w0 c0_x1 c0_x2 c0_g0 c1_g0 c2_g0 c3_g0 c4_g0
        refine (Row.sameDK _ _ (Row.Ring.sgK (l0) (l2) (l1) (Row.digK (l0) (l1)) a3) _ (O_v5.out.at) (O_v1.out.at) (by first | omega | (simp; omega) | (simp [Row.marks_length, Sl.marks_length, Row.mkW]; omega))).mono ?_
        rintro e w19 ⟨rfl, hb⟩
        replace C_aN := Lib.hid (C_aN.out.on hb)
        replace C_aKey := Lib.hid (C_aKey.out.on hb)
        replace C_w0 := Lib.hid (C_w0.out.on hb)
        replace C_x1 := Lib.hid (C_x1.out.on hb)
        replace C_x2 := Lib.hid (C_x2.out.on hb)
        replace C_g0 := Lib.hid (C_g0.out.on hb)
        replace O_v1 := Lib.hid (O_v1.out.on hb)
        replace O_v2 := Lib.hid (O_v2.out.on hb)
        replace O_v3 := Lib.hid (O_v3.out.on hb)
        replace O_v4 := Lib.hid (O_v4.out.on hb)
        replace O_v5 := Lib.hid (O_v5.out.on hb)
        replace BB := Lib.hid (BB.out.trans (hb.mono BB.out.size))
        have S26 := Lib.hid (show w18.heap.size ≤ w19.heap.size from (by have h := hb.size; exact h))
        clear hb
        have c0_aN : w19.cell? ⟨w.heap.size, 0, none⟩ = some (.slice x_q1 n_q1 c_q1) := C_aN.out.cell 0
        have c0_aKey : w19.cell? ⟨w.heap.size + 1, 0, none⟩ = some (.slice x_q2 n_q2 c_q2) := C_aKey.out.cell 0
        have c0_w0 : w19.cell? ⟨g_v1, 0, none⟩ = some (.slice x_v1a n_v1a c_v1a) := C_w0.out.cell 0
        have c1_w0 : w19.cell? ⟨g_v1, 1, none⟩ = some (.slice x_v1b n_v1b c_v1b) := C_w0.out.cell 1
        have c2_w0 : w19.cell? ⟨g_v1, 2, none⟩ = some (.slice x_v1c n_v1c c_v1c) := C_w0.out.cell 2
        have c3_w0 : w19.cell? ⟨g_v1, 3, none⟩ = some (.int .i64 (Row.Ring.sgK (l0) (l2) (l1) (Row.digK (l0) (l1)) a3).2.2.2.1) := C_w0.out.cell 3
        have c4_w0 : w19.cell? ⟨g_v1, 4, none⟩ = some (.int .i64 (Row.Ring.sgK (l0) (l2) (l1) (Row.digK (l0) (l1)) a3).2.2.2.2) := C_w0.out.cell 4
        have c0_x1 : w19.cell? ⟨w6.heap.size, 0, none⟩ = some (.slice x_v3 n_v3 c_v3) := C_x1.out.cell 0
        have c0_x2 : w19.cell? ⟨w7.heap.size, 0, none⟩ = some (.slice x_v4 n_v4 c_v4) := C_x2.out.cell 0
        have c0_g0 : w19.cell? ⟨w8.heap.size, 0, none⟩ = some (.slice x_v5a n_v5a c_v5a) := C_g0.out.cell 0
        have c1_g0 : w19.cell? ⟨w8.heap.size, 1, none⟩ = some (.slice x_v5b n_v5b c_v5b) := C_g0.out.cell 1
        have c2_g0 : w19.cell? ⟨w8.heap.size, 2, none⟩ = some (.slice x_v5c n_v5c c_v5c) := C_g0.out.cell 2
        have c3_g0 : w19.cell? ⟨w8.heap.size, 3, none⟩ = some (.int .i64 (Row.Ring.sgK (l0) (l2) (l1) (Row.digK (l0) (l1)) a3).2.2.2.1) := C_g0.out.cell 3
        have c4_g0 : w19.cell? ⟨w8.heap.size, 4, none⟩ = some (.int .i64 (Row.Ring.sgK (l0) (l2) (l1) (Row.digK (l0) (l1)) a3).2.2.2.2) := C_g0.out.cell 4
        go_wp2_with fail
        clear c0_aN c0_aKey c0_w0 c1_w0 c2_w0 c3_w0 c4_w0 c0_x1 c0_x2 c0_g0 c1_g0 c2_g0 c3_g0 c4_g0
        refine (Row.markDK _ _ _ (Row.Ring.sgK (l0) (l2) (l1) (Row.digK (l0) (l1)) a3) _ (1) O_v5.out (by first | omega | (simp; omega) | (simp [Row.marks_length, Sl.marks_length, Row.mkW]; omega)) (by first | omega | (simp; omega) | (simp [Row.marks_length, Sl.marks_length, Row.mkW]; omega)) (by first | omega | (simp; omega) | (simp [Row.marks_length, Sl.marks_length, Row.mkW]; omega))).mono ?_
        rintro e w20 ⟨rfl, ho, hg⟩
        replace C_aN := Lib.hid (hg.blk C_aN.out (by have := S1.out; have := S2.out; have := S3.out; have := S4.out; have := S5.out; have := S6.out; have := S7.out; have := S8.out; have := S9.out; have := S10.out; have := S11.out; have := S12.out; have := S13.out; have := S14.out; have := S15.out; have := S16.out; have := S17.out; have := S18.out; have := S19.out; have := S20.out; have := S21.out; have := S22.out; have := S23.out; have := S24.out; have := S25.out; have := S26.out; omega))
        replace C_aKey := Lib.hid (hg.blk C_aKey.out (by have := S1.out; have := S2.out; have := S3.out; have := S4.out; have := S5.out; have := S6.out; have := S7.out; have := S8.out; have := S9.out; have := S10.out; have := S11.out; have := S12.out; have := S13.out; have := S14.out; have := S15.out; have := S16.out; have := S17.out; have := S18.out; have := S19.out; have := S20.out; have := S21.out; have := S22.out; have := S23.out; have := S24.out; have := S25.out; have := S26.out; omega))
        replace C_w0 := Lib.hid (hg.blk C_w0.out (by have := S1.out; have := S2.out; have := S3.out; have := S4.out; have := S5.out; have := S6.out; have := S7.out; have := S8.out; have := S9.out; have := S10.out; have := S11.out; have := S12.out; have := S13.out; have := S14.out; have := S15.out; have := S16.out; have := S17.out; have := S18.out; have := S19.out; have := S20.out; have := S21.out; have := S22.out; have := S23.out; have := S24.out; have := S25.out; have := S26.out; omega))
        replace C_x1 := Lib.hid (hg.blk C_x1.out (by have := S1.out; have := S2.out; have := S3.out; have := S4.out; have := S5.out; have := S6.out; have := S7.out; have := S8.out; have := S9.out; have := S10.out; have := S11.out; have := S12.out; have := S13.out; have := S14.out; have := S15.out; have := S16.out; have := S17.out; have := S18.out; have := S19.out; have := S20.out; have := S21.out; have := S22.out; have := S23.out; have := S24.out; have := S25.out; have := S26.out; omega))
        replace C_x2 := Lib.hid (hg.blk C_x2.out (by have := S1.out; have := S2.out; have := S3.out; have := S4.out; have := S5.out; have := S6.out; have := S7.out; have := S8.out; have := S9.out; have := S10.out; have := S11.out; have := S12.out; have := S13.out; have := S14.out; have := S15.out; have := S16.out; have := S17.out; have := S18.out; have := S19.out; have := S20.out; have := S21.out; have := S22.out; have := S23.out; have := S24.out; have := S25.out; have := S26.out; omega))
        replace C_g0 := Lib.hid (hg.blk C_g0.out (by have := S1.out; have := S2.out; have := S3.out; have := S4.out; have := S5.out; have := S6.out; have := S7.out; have := S8.out; have := S9.out; have := S10.out; have := S11.out; have := S12.out; have := S13.out; have := S14.out; have := S15.out; have := S16.out; have := S17.out; have := S18.out; have := S19.out; have := S20.out; have := S21.out; have := S22.out; have := S23.out; have := S24.out; have := S25.out; have := S26.out; omega))
        replace O_v1 := Lib.hid (O_v1.out.wrote hg (by have := S1.out; have := S2.out; have := S3.out; have := S4.out; have := S5.out; have := S6.out; have := S7.out; have := S8.out; have := S9.out; have := S10.out; have := S11.out; have := S12.out; have := S13.out; have := S14.out; have := S15.out; have := S16.out; have := S17.out; have := S18.out; have := S19.out; have := S20.out; have := S21.out; have := S22.out; have := S23.out; have := S24.out; have := S25.out; have := S26.out; omega))
        replace O_v2 := Lib.hid (O_v2.out.wrote hg (by have := S1.out; have := S2.out; have := S3.out; have := S4.out; have := S5.out; have := S6.out; have := S7.out; have := S8.out; have := S9.out; have := S10.out; have := S11.out; have := S12.out; have := S13.out; have := S14.out; have := S15.out; have := S16.out; have := S17.out; have := S18.out; have := S19.out; have := S20.out; have := S21.out; have := S22.out; have := S23.out; have := S24.out; have := S25.out; have := S26.out; omega))
        replace O_v3 := Lib.hid (O_v3.out.wrote hg (by have := S1.out; have := S2.out; have := S3.out; have := S4.out; have := S5.out; have := S6.out; have := S7.out; have := S8.out; have := S9.out; have := S10.out; have := S11.out; have := S12.out; have := S13.out; have := S14.out; have := S15.out; have := S16.out; have := S17.out; have := S18.out; have := S19.out; have := S20.out; have := S21.out; have := S22.out; have := S23.out; have := S24.out; have := S25.out; have := S26.out; omega))
        replace O_v4 := Lib.hid (O_v4.out.wrote hg (by have := S1.out; have := S2.out; have := S3.out; have := S4.out; have := S5.out; have := S6.out; have := S7.out; have := S8.out; have := S9.out; have := S10.out; have := S11.out; have := S12.out; have := S13.out; have := S14.out; have := S15.out; have := S16.out; have := S17.out; have := S18.out; have := S19.out; have := S20.out; have := S21.out; have := S22.out; have := S23.out; have := S24.out; have := S25.out; have := S26.out; omega))
        replace BB := Lib.hid (hg.below BB.out BB.out.size (by have := S1.out; have := S2.out; have := S3.out; have := S4.out; have := S5.out; have := S6.out; have := S7.out; have := S8.out; have := S9.out; have := S10.out; have := S11.out; have := S12.out; have := S13.out; have := S14.out; have := S15.out; have := S16.out; have := S17.out; have := S18.out; have := S19.out; have := S20.out; have := S21.out; have := S22.out; have := S23.out; have := S24.out; have := S25.out; have := S26.out; omega))
        have S27 := Lib.hid (show w19.heap.size ≤ w20.heap.size from hg.size)
        replace O_v5 := Lib.hid ho; clear ho hg
        have c0_aN : w20.cell? ⟨w.heap.size, 0, none⟩ = some (.slice x_q1 n_q1 c_q1) := C_aN.out.cell 0
        have c0_aKey : w20.cell? ⟨w.heap.size + 1, 0, none⟩ = some (.slice x_q2 n_q2 c_q2) := C_aKey.out.cell 0
        have c0_w0 : w20.cell? ⟨g_v1, 0, none⟩ = some (.slice x_v1a n_v1a c_v1a) := C_w0.out.cell 0
        have c1_w0 : w20.cell? ⟨g_v1, 1, none⟩ = some (.slice x_v1b n_v1b c_v1b) := C_w0.out.cell 1
        have c2_w0 : w20.cell? ⟨g_v1, 2, none⟩ = some (.slice x_v1c n_v1c c_v1c) := C_w0.out.cell 2
        have c3_w0 : w20.cell? ⟨g_v1, 3, none⟩ = some (.int .i64 (Row.Ring.sgK (l0) (l2) (l1) (Row.digK (l0) (l1)) a3).2.2.2.1) := C_w0.out.cell 3
        have c4_w0 : w20.cell? ⟨g_v1, 4, none⟩ = some (.int .i64 (Row.Ring.sgK (l0) (l2) (l1) (Row.digK (l0) (l1)) a3).2.2.2.2) := C_w0.out.cell 4
        have c0_x1 : w20.cell? ⟨w6.heap.size, 0, none⟩ = some (.slice x_v3 n_v3 c_v3) := C_x1.out.cell 0
        have c0_x2 : w20.cell? ⟨w7.heap.size, 0, none⟩ = some (.slice x_v4 n_v4 c_v4) := C_x2.out.cell 0
        have c0_g0 : w20.cell? ⟨w8.heap.size, 0, none⟩ = some (.slice x_v5a n_v5a c_v5a) := C_g0.out.cell 0
        have c1_g0 : w20.cell? ⟨w8.heap.size, 1, none⟩ = some (.slice x_v5b n_v5b c_v5b) := C_g0.out.cell 1
        have c2_g0 : w20.cell? ⟨w8.heap.size, 2, none⟩ = some (.slice x_v5c n_v5c c_v5c) := C_g0.out.cell 2
        have c3_g0 : w20.cell? ⟨w8.heap.size, 3, none⟩ = some (.int .i64 (Row.Ring.sgK (l0) (l2) (l1) (Row.digK (l0) (l1)) a3).2.2.2.1) := C_g0.out.cell 3
        have c4_g0 : w20.cell? ⟨w8.heap.size, 4, none⟩ = some (.int .i64 (Row.Ring.sgK (l0) (l2) (l1) (Row.digK (l0) (l1)) a3).2.2.2.2) := C_g0.out.cell 4
        go_wp2_with fail
        clear c0_aN c0_aKey c0_w0 c1_w0 c2_w0 c3_w0 c4_w0 c0_x1 c0_x2 c0_g0 c1_g0 c2_g0 c3_g0 c4_g0
        refine (Row.heldDK _ _ (1) (Row.Ring.sgK (l0) (l2) (l1) (Row.digK (l0) (l1)) a3) (O_v5.out.at) (by first | omega | (simp; omega) | (simp [Row.marks_length, Sl.marks_length, Row.mkW]; omega)) (by first | omega | (simp; omega) | (simp [Row.marks_length, Sl.marks_length, Row.mkW]; omega)) (by first | omega | (simp; omega) | (simp [Row.marks_length, Sl.marks_length, Row.mkW]; omega))).mono ?_
        rintro e w21 ⟨rfl, hb⟩
        replace C_aN := Lib.hid (C_aN.out.on hb)
        replace C_aKey := Lib.hid (C_aKey.out.on hb)
        replace C_w0 := Lib.hid (C_w0.out.on hb)
        replace C_x1 := Lib.hid (C_x1.out.on hb)
        replace C_x2 := Lib.hid (C_x2.out.on hb)
        replace C_g0 := Lib.hid (C_g0.out.on hb)
        replace O_v1 := Lib.hid (O_v1.out.on hb)
        replace O_v2 := Lib.hid (O_v2.out.on hb)
        replace O_v3 := Lib.hid (O_v3.out.on hb)
        replace O_v4 := Lib.hid (O_v4.out.on hb)
        replace O_v5 := Lib.hid (O_v5.out.on hb)
        replace BB := Lib.hid (BB.out.trans (hb.mono BB.out.size))
        have S28 := Lib.hid (show w20.heap.size ≤ w21.heap.size from (by have h := hb.size; exact h))
        clear hb
        have c0_aN : w21.cell? ⟨w.heap.size, 0, none⟩ = some (.slice x_q1 n_q1 c_q1) := C_aN.out.cell 0
        have c0_aKey : w21.cell? ⟨w.heap.size + 1, 0, none⟩ = some (.slice x_q2 n_q2 c_q2) := C_aKey.out.cell 0
        have c0_w0 : w21.cell? ⟨g_v1, 0, none⟩ = some (.slice x_v1a n_v1a c_v1a) := C_w0.out.cell 0
        have c1_w0 : w21.cell? ⟨g_v1, 1, none⟩ = some (.slice x_v1b n_v1b c_v1b) := C_w0.out.cell 1
        have c2_w0 : w21.cell? ⟨g_v1, 2, none⟩ = some (.slice x_v1c n_v1c c_v1c) := C_w0.out.cell 2
        have c3_w0 : w21.cell? ⟨g_v1, 3, none⟩ = some (.int .i64 (Row.Ring.sgK (l0) (l2) (l1) (Row.digK (l0) (l1)) a3).2.2.2.1) := C_w0.out.cell 3
        have c4_w0 : w21.cell? ⟨g_v1, 4, none⟩ = some (.int .i64 (Row.Ring.sgK (l0) (l2) (l1) (Row.digK (l0) (l1)) a3).2.2.2.2) := C_w0.out.cell 4
        have c0_x1 : w21.cell? ⟨w6.heap.size, 0, none⟩ = some (.slice x_v3 n_v3 c_v3) := C_x1.out.cell 0
        have c0_x2 : w21.cell? ⟨w7.heap.size, 0, none⟩ = some (.slice x_v4 n_v4 c_v4) := C_x2.out.cell 0
        have c0_g0 : w21.cell? ⟨w8.heap.size, 0, none⟩ = some (.slice x_v5a n_v5a c_v5a) := C_g0.out.cell 0
        have c1_g0 : w21.cell? ⟨w8.heap.size, 1, none⟩ = some (.slice x_v5b n_v5b c_v5b) := C_g0.out.cell 1
        have c2_g0 : w21.cell? ⟨w8.heap.size, 2, none⟩ = some (.slice x_v5c n_v5c c_v5c) := C_g0.out.cell 2
        have c3_g0 : w21.cell? ⟨w8.heap.size, 3, none⟩ = some (.int .i64 (Row.Ring.sgK (l0) (l2) (l1) (Row.digK (l0) (l1)) a3).2.2.2.1) := C_g0.out.cell 3
        have c4_g0 : w21.cell? ⟨w8.heap.size, 4, none⟩ = some (.int .i64 (Row.Ring.sgK (l0) (l2) (l1) (Row.digK (l0) (l1)) a3).2.2.2.2) := C_g0.out.cell 4
        go_wp2_with fail
        clear c0_aN c0_aKey c0_w0 c1_w0 c2_w0 c3_w0 c4_w0 c0_x1 c0_x2 c0_g0 c1_g0 c2_g0 c3_g0 c4_g0
        have f5 := Row.Ring.sgK_adv (l0) (l2) (l1) (Row.digK (l0) (l1)) a3
        have f6 := Row.digK_len (l0) (l1)
        refine Row.implIS (Lib.hid (Q0.out.on BB.out)) (Lib.hid (Q1.out.on BB.out)) (Lib.hid (Q2.out.on BB.out)) b0 b1 b2 (Lib.hid (C_aN.out.cell 0)) (Lib.hid (C_aKey.out.cell 0)) ?_
        intro u0 u1 u2 u3 u4 u5 u6 u7 u8 u9 u10 g_v9 n_v9a c_v9a n_v9b c_v9b n_v9c c_v9c x_v9a x_v9b x_v9c w22 hb ho hblk hg1 hg2
        replace C_aN := Lib.hid (C_aN.out.on hb)
        replace C_aKey := Lib.hid (C_aKey.out.on hb)
        replace C_w0 := Lib.hid (C_w0.out.on hb)
        replace C_x1 := Lib.hid (C_x1.out.on hb)
        replace C_x2 := Lib.hid (C_x2.out.on hb)
        replace C_g0 := Lib.hid (C_g0.out.on hb)
        replace O_v1 := Lib.hid (O_v1.out.on hb)
        replace O_v2 := Lib.hid (O_v2.out.on hb)
        replace O_v3 := Lib.hid (O_v3.out.on hb)
        replace O_v4 := Lib.hid (O_v4.out.on hb)
        replace O_v5 := Lib.hid (O_v5.out.on hb)
        replace BB := Lib.hid (BB.out.trans (hb.mono BB.out.size))
        have S29 := Lib.hid (show w21.heap.size ≤ w22.heap.size from (by have h := hb.size; exact h))
        have O_v9 := Lib.hid (show Row.kD.In w21.heap.size w22.heap.size w22 (.agg #[.slice x_v9a n_v9a c_v9a, .slice x_v9b n_v9b c_v9b, .slice x_v9c n_v9c c_v9c, .int .i64 (Row.Ring.sgK (l0) (l2) (l1) (Row.digK (l0) (l1)) a3).2.2.2.1, .int .i64 (Row.Ring.sgK (l0) (l2) (l1) (Row.digK (l0) (l1)) a3).2.2.2.2]) (Row.Ring.sgK (l0) (l2) (l1) (Row.digK (l0) (l1)) a3) from ho); clear ho
        have S30 := Lib.hid (show w21.heap.size ≤ g_v9 from hg1)
        have S31 := Lib.hid (show g_v9 < w22.heap.size from hg2)
        have C_h0 := Lib.hid (show Ret.Blk w22 g_v9 #[.slice x_v9a n_v9a c_v9a, .slice x_v9b n_v9b c_v9b, .slice x_v9c n_v9c c_v9c, .int .i64 (Row.Ring.sgK (l0) (l2) (l1) (Row.digK (l0) (l1)) a3).2.2.2.1, .int .i64 (Row.Ring.sgK (l0) (l2) (l1) (Row.digK (l0) (l1)) a3).2.2.2.2] 61 from hblk); clear hblk hb hg1 hg2
        have c0_aN : w22.cell? ⟨w.heap.size, 0, none⟩ = some (.slice x_q1 n_q1 c_q1) := C_aN.out.cell 0
        have c0_aKey : w22.cell? ⟨w.heap.size + 1, 0, none⟩ = some (.slice x_q2 n_q2 c_q2) := C_aKey.out.cell 0
        have c0_w0 : w22.cell? ⟨g_v1, 0, none⟩ = some (.slice x_v1a n_v1a c_v1a) := C_w0.out.cell 0
        have c1_w0 : w22.cell? ⟨g_v1, 1, none⟩ = some (.slice x_v1b n_v1b c_v1b) := C_w0.out.cell 1
        have c2_w0 : w22.cell? ⟨g_v1, 2, none⟩ = some (.slice x_v1c n_v1c c_v1c) := C_w0.out.cell 2
        have c3_w0 : w22.cell? ⟨g_v1, 3, none⟩ = some (.int .i64 (Row.Ring.sgK (l0) (l2) (l1) (Row.digK (l0) (l1)) a3).2.2.2.1) := C_w0.out.cell 3
        have c4_w0 : w22.cell? ⟨g_v1, 4, none⟩ = some (.int .i64 (Row.Ring.sgK (l0) (l2) (l1) (Row.digK (l0) (l1)) a3).2.2.2.2) := C_w0.out.cell 4
        have c0_x1 : w22.cell? ⟨w6.heap.size, 0, none⟩ = some (.slice x_v3 n_v3 c_v3) := C_x1.out.cell 0
        have c0_x2 : w22.cell? ⟨w7.heap.size, 0, none⟩ = some (.slice x_v4 n_v4 c_v4) := C_x2.out.cell 0
        have c0_g0 : w22.cell? ⟨w8.heap.size, 0, none⟩ = some (.slice x_v5a n_v5a c_v5a) := C_g0.out.cell 0
        have c1_g0 : w22.cell? ⟨w8.heap.size, 1, none⟩ = some (.slice x_v5b n_v5b c_v5b) := C_g0.out.cell 1
        have c2_g0 : w22.cell? ⟨w8.heap.size, 2, none⟩ = some (.slice x_v5c n_v5c c_v5c) := C_g0.out.cell 2
        have c3_g0 : w22.cell? ⟨w8.heap.size, 3, none⟩ = some (.int .i64 (Row.Ring.sgK (l0) (l2) (l1) (Row.digK (l0) (l1)) a3).2.2.2.1) := C_g0.out.cell 3
        have c4_g0 : w22.cell? ⟨w8.heap.size, 4, none⟩ = some (.int .i64 (Row.Ring.sgK (l0) (l2) (l1) (Row.digK (l0) (l1)) a3).2.2.2.2) := C_g0.out.cell 4
        have c0_h0 : w22.cell? ⟨g_v9, 0, none⟩ = some (.slice x_v9a n_v9a c_v9a) := C_h0.out.cell 0
        have c1_h0 : w22.cell? ⟨g_v9, 1, none⟩ = some (.slice x_v9b n_v9b c_v9b) := C_h0.out.cell 1
        have c2_h0 : w22.cell? ⟨g_v9, 2, none⟩ = some (.slice x_v9c n_v9c c_v9c) := C_h0.out.cell 2
        have c3_h0 : w22.cell? ⟨g_v9, 3, none⟩ = some (.int .i64 (Row.Ring.sgK (l0) (l2) (l1) (Row.digK (l0) (l1)) a3).2.2.2.1) := C_h0.out.cell 3
        have c4_h0 : w22.cell? ⟨g_v9, 4, none⟩ = some (.int .i64 (Row.Ring.sgK (l0) (l2) (l1) (Row.digK (l0) (l1)) a3).2.2.2.2) := C_h0.out.cell 4
        go_wp2_with fail
        clear c0_aN c0_aKey c0_w0 c1_w0 c2_w0 c3_w0 c4_w0 c0_x1 c0_x2 c0_g0 c1_g0 c2_g0 c3_g0 c4_g0 c0_h0 c1_h0 c2_h0 c3_h0 c4_h0
        refine (Row.sameDK _ _ (Row.Ring.sgK (l0) (l2) (l1) (Row.digK (l0) (l1)) a3) _ (O_v9.out.at) (O_v1.out.at) (by first | omega | (simp; omega) | (simp [Row.marks_length, Sl.marks_length, Row.mkW]; omega))).mono ?_
        rintro e w23 ⟨rfl, hb⟩
        replace C_aN := Lib.hid (C_aN.out.on hb)
        replace C_aKey := Lib.hid (C_aKey.out.on hb)
        replace C_w0 := Lib.hid (C_w0.out.on hb)
        replace C_x1 := Lib.hid (C_x1.out.on hb)
        replace C_x2 := Lib.hid (C_x2.out.on hb)
        replace C_g0 := Lib.hid (C_g0.out.on hb)
        replace C_h0 := Lib.hid (C_h0.out.on hb)
        replace O_v1 := Lib.hid (O_v1.out.on hb)
        replace O_v2 := Lib.hid (O_v2.out.on hb)
        replace O_v3 := Lib.hid (O_v3.out.on hb)
        replace O_v4 := Lib.hid (O_v4.out.on hb)
        replace O_v5 := Lib.hid (O_v5.out.on hb)
        replace O_v9 := Lib.hid (O_v9.out.on hb)
        replace BB := Lib.hid (BB.out.trans (hb.mono BB.out.size))
        have S32 := Lib.hid (show w22.heap.size ≤ w23.heap.size from (by have h := hb.size; exact h))
        clear hb
        have c0_aN : w23.cell? ⟨w.heap.size, 0, none⟩ = some (.slice x_q1 n_q1 c_q1) := C_aN.out.cell 0
        have c0_aKey : w23.cell? ⟨w.heap.size + 1, 0, none⟩ = some (.slice x_q2 n_q2 c_q2) := C_aKey.out.cell 0
        have c0_w0 : w23.cell? ⟨g_v1, 0, none⟩ = some (.slice x_v1a n_v1a c_v1a) := C_w0.out.cell 0
        have c1_w0 : w23.cell? ⟨g_v1, 1, none⟩ = some (.slice x_v1b n_v1b c_v1b) := C_w0.out.cell 1
        have c2_w0 : w23.cell? ⟨g_v1, 2, none⟩ = some (.slice x_v1c n_v1c c_v1c) := C_w0.out.cell 2
        have c3_w0 : w23.cell? ⟨g_v1, 3, none⟩ = some (.int .i64 (Row.Ring.sgK (l0) (l2) (l1) (Row.digK (l0) (l1)) a3).2.2.2.1) := C_w0.out.cell 3
        have c4_w0 : w23.cell? ⟨g_v1, 4, none⟩ = some (.int .i64 (Row.Ring.sgK (l0) (l2) (l1) (Row.digK (l0) (l1)) a3).2.2.2.2) := C_w0.out.cell 4
        have c0_x1 : w23.cell? ⟨w6.heap.size, 0, none⟩ = some (.slice x_v3 n_v3 c_v3) := C_x1.out.cell 0
        have c0_x2 : w23.cell? ⟨w7.heap.size, 0, none⟩ = some (.slice x_v4 n_v4 c_v4) := C_x2.out.cell 0
        have c0_g0 : w23.cell? ⟨w8.heap.size, 0, none⟩ = some (.slice x_v5a n_v5a c_v5a) := C_g0.out.cell 0
        have c1_g0 : w23.cell? ⟨w8.heap.size, 1, none⟩ = some (.slice x_v5b n_v5b c_v5b) := C_g0.out.cell 1
        have c2_g0 : w23.cell? ⟨w8.heap.size, 2, none⟩ = some (.slice x_v5c n_v5c c_v5c) := C_g0.out.cell 2
        have c3_g0 : w23.cell? ⟨w8.heap.size, 3, none⟩ = some (.int .i64 (Row.Ring.sgK (l0) (l2) (l1) (Row.digK (l0) (l1)) a3).2.2.2.1) := C_g0.out.cell 3
        have c4_g0 : w23.cell? ⟨w8.heap.size, 4, none⟩ = some (.int .i64 (Row.Ring.sgK (l0) (l2) (l1) (Row.digK (l0) (l1)) a3).2.2.2.2) := C_g0.out.cell 4
        have c0_h0 : w23.cell? ⟨g_v9, 0, none⟩ = some (.slice x_v9a n_v9a c_v9a) := C_h0.out.cell 0
        have c1_h0 : w23.cell? ⟨g_v9, 1, none⟩ = some (.slice x_v9b n_v9b c_v9b) := C_h0.out.cell 1
        have c2_h0 : w23.cell? ⟨g_v9, 2, none⟩ = some (.slice x_v9c n_v9c c_v9c) := C_h0.out.cell 2
        have c3_h0 : w23.cell? ⟨g_v9, 3, none⟩ = some (.int .i64 (Row.Ring.sgK (l0) (l2) (l1) (Row.digK (l0) (l1)) a3).2.2.2.1) := C_h0.out.cell 3
        have c4_h0 : w23.cell? ⟨g_v9, 4, none⟩ = some (.int .i64 (Row.Ring.sgK (l0) (l2) (l1) (Row.digK (l0) (l1)) a3).2.2.2.2) := C_h0.out.cell 4
        go_wp2_with fail
        clear c0_aN c0_aKey c0_w0 c1_w0 c2_w0 c3_w0 c4_w0 c0_x1 c0_x2 c0_g0 c1_g0 c2_g0 c3_g0 c4_g0 c0_h0 c1_h0 c2_h0 c3_h0 c4_h0
        refine (Row.heldDK _ _ (1) (Row.Ring.sgK (l0) (l2) (l1) (Row.digK (l0) (l1)) a3) (O_v5.out.at) (by first | omega | (simp; omega) | (simp [Row.marks_length, Sl.marks_length, Row.mkW]; omega)) (by first | omega | (simp; omega) | (simp [Row.marks_length, Sl.marks_length, Row.mkW]; omega)) (by first | omega | (simp; omega) | (simp [Row.marks_length, Sl.marks_length, Row.mkW]; omega))).mono ?_
        rintro e w24 ⟨rfl, hb⟩
        replace C_aN := Lib.hid (C_aN.out.on hb)
        replace C_aKey := Lib.hid (C_aKey.out.on hb)
        replace C_w0 := Lib.hid (C_w0.out.on hb)
        replace C_x1 := Lib.hid (C_x1.out.on hb)
        replace C_x2 := Lib.hid (C_x2.out.on hb)
        replace C_g0 := Lib.hid (C_g0.out.on hb)
        replace C_h0 := Lib.hid (C_h0.out.on hb)
        replace O_v1 := Lib.hid (O_v1.out.on hb)
        replace O_v2 := Lib.hid (O_v2.out.on hb)
        replace O_v3 := Lib.hid (O_v3.out.on hb)
        replace O_v4 := Lib.hid (O_v4.out.on hb)
        replace O_v5 := Lib.hid (O_v5.out.on hb)
        replace O_v9 := Lib.hid (O_v9.out.on hb)
        replace BB := Lib.hid (BB.out.trans (hb.mono BB.out.size))
        have S33 := Lib.hid (show w23.heap.size ≤ w24.heap.size from (by have h := hb.size; exact h))
        clear hb
        have c0_aN : w24.cell? ⟨w.heap.size, 0, none⟩ = some (.slice x_q1 n_q1 c_q1) := C_aN.out.cell 0
        have c0_aKey : w24.cell? ⟨w.heap.size + 1, 0, none⟩ = some (.slice x_q2 n_q2 c_q2) := C_aKey.out.cell 0
        have c0_w0 : w24.cell? ⟨g_v1, 0, none⟩ = some (.slice x_v1a n_v1a c_v1a) := C_w0.out.cell 0
        have c1_w0 : w24.cell? ⟨g_v1, 1, none⟩ = some (.slice x_v1b n_v1b c_v1b) := C_w0.out.cell 1
        have c2_w0 : w24.cell? ⟨g_v1, 2, none⟩ = some (.slice x_v1c n_v1c c_v1c) := C_w0.out.cell 2
        have c3_w0 : w24.cell? ⟨g_v1, 3, none⟩ = some (.int .i64 (Row.Ring.sgK (l0) (l2) (l1) (Row.digK (l0) (l1)) a3).2.2.2.1) := C_w0.out.cell 3
        have c4_w0 : w24.cell? ⟨g_v1, 4, none⟩ = some (.int .i64 (Row.Ring.sgK (l0) (l2) (l1) (Row.digK (l0) (l1)) a3).2.2.2.2) := C_w0.out.cell 4
        have c0_x1 : w24.cell? ⟨w6.heap.size, 0, none⟩ = some (.slice x_v3 n_v3 c_v3) := C_x1.out.cell 0
        have c0_x2 : w24.cell? ⟨w7.heap.size, 0, none⟩ = some (.slice x_v4 n_v4 c_v4) := C_x2.out.cell 0
        have c0_g0 : w24.cell? ⟨w8.heap.size, 0, none⟩ = some (.slice x_v5a n_v5a c_v5a) := C_g0.out.cell 0
        have c1_g0 : w24.cell? ⟨w8.heap.size, 1, none⟩ = some (.slice x_v5b n_v5b c_v5b) := C_g0.out.cell 1
        have c2_g0 : w24.cell? ⟨w8.heap.size, 2, none⟩ = some (.slice x_v5c n_v5c c_v5c) := C_g0.out.cell 2
        have c3_g0 : w24.cell? ⟨w8.heap.size, 3, none⟩ = some (.int .i64 (Row.Ring.sgK (l0) (l2) (l1) (Row.digK (l0) (l1)) a3).2.2.2.1) := C_g0.out.cell 3
        have c4_g0 : w24.cell? ⟨w8.heap.size, 4, none⟩ = some (.int .i64 (Row.Ring.sgK (l0) (l2) (l1) (Row.digK (l0) (l1)) a3).2.2.2.2) := C_g0.out.cell 4
        have c0_h0 : w24.cell? ⟨g_v9, 0, none⟩ = some (.slice x_v9a n_v9a c_v9a) := C_h0.out.cell 0
        have c1_h0 : w24.cell? ⟨g_v9, 1, none⟩ = some (.slice x_v9b n_v9b c_v9b) := C_h0.out.cell 1
        have c2_h0 : w24.cell? ⟨g_v9, 2, none⟩ = some (.slice x_v9c n_v9c c_v9c) := C_h0.out.cell 2
        have c3_h0 : w24.cell? ⟨g_v9, 3, none⟩ = some (.int .i64 (Row.Ring.sgK (l0) (l2) (l1) (Row.digK (l0) (l1)) a3).2.2.2.1) := C_h0.out.cell 3
        have c4_h0 : w24.cell? ⟨g_v9, 4, none⟩ = some (.int .i64 (Row.Ring.sgK (l0) (l2) (l1) (Row.digK (l0) (l1)) a3).2.2.2.2) := C_h0.out.cell 4
        go_wp2_with fail
        clear c0_aN c0_aKey c0_w0 c1_w0 c2_w0 c3_w0 c4_w0 c0_x1 c0_x2 c0_g0 c1_g0 c2_g0 c3_g0 c4_g0 c0_h0 c1_h0 c2_h0 c3_h0 c4_h0
        go_ret
        exact ⟨rfl, BB.out⟩
      · -- out
        rw [Row.szL_not (by omega)]
        go_wp2
        go_ret
        exact ⟨rfl, BB.out⟩
    · -- out
      rw [Row.szL_not (by omega)]
      go_wp2
      go_ret
      exact ⟨rfl, BB.out⟩
  · -- out
    rw [Row.Ring.szLT_not (by omega)]
    go_wp2
    go_ret
    exact ⟨rfl, BB.out⟩

set_option maxRecDepth 100000 in
theorem lifted (os : Os) (started : os.Started) (H : Type) (enc : TypeId × Value → H) :
    ReturnsInHanded {} Try.checked os 7 .any (Rows.fnExactIssueCertificateSpec.pre6 enc Try.prog Try.f7 Rows.fnExactIssueCertificateRow.domain false) (Rows.fnExactIssueCertificateSpec.post enc Try.prog Try.f7 false true false false) := by
  refine returnsInHanded_of_change_sized (C := Try.checked) own started (by kernel_rfl) Try.func7
    (ChangeSpec.witness6 (enc := enc) (C := Try.checked) false ⟨#[], #[.slice none 0 0, .agg #[.slice none 0 0], .agg #[.slice none 0 0], .int .i64 0], []⟩ 8 (by kernel_rfl) (by kernel_rfl) (by kernel_rfl) (by kernel_rfl)) ?_
  intro W base args ds gs before hval0 hW _ hsz0 _
  have hval : ∀ (j : Nat) t v, Try.f7.params[j]? = some t → args[j]? = some v → Value.okWide Try.prog W .any base t v := hval0
  have hsz : (DataW.weightsEach Try.prog (Try.f7.params.toList ++ Rows.fnExactIssueCertificateSpec.plain.varTypes Try.prog) (ds ++ gs)).all (· ≤ reachBytes) = true := hsz0
  clear hsz0
  have hW' := hW
  obtain ⟨p, q, hA0, hV, rfl, hfz, hnd⟩ := hW
  have hA : DataW.TrodAll enc Try.prog W 0 (fun _ => true) true Try.f7.params.toList args.toList ds p := hA0
  rw [Try.params7] at hA hval hsz
  obtain ⟨v0, vs0, d0, ds0, p0, q0, hargs, rfl, rfl, h0, r0⟩ := trodAll_cons hA
  obtain ⟨v1, vs1, d1, ds1, p1, q1, rfl, rfl, rfl, h1, r1⟩ := trodAll_cons r0
  obtain ⟨v2, vs2, d2, ds2, p2, q2, rfl, rfl, rfl, h2, r2⟩ := trodAll_cons r1
  obtain ⟨v3, vs3, d3, ds3, p3, q3, rfl, rfl, rfl, h3, r3⟩ := trodAll_cons r2
  obtain ⟨rfl, rfl, rfl⟩ := trodAll_nil r3
  obtain rfl : args = #[v0, v1, v2, v3] := by cases args; simp_all
  obtain ⟨rfl, rfl⟩ := trodVars_none hV
  obtain ⟨l0, q0, n0, m0⟩ := Row.Ring.open_tab (t := 22) (e := 83) Try.underlying22 Try.underlying83 Try.underlying41 Try.underlying39 Try.underlying9 Try.underlying3 rfl rfl rfl (by kernel_rfl) (by kernel_rfl) (by kernel_rfl) (by kernel_rfl) (by kernel_rfl) (hval 0 22 v0 rfl rfl) h0
  obtain ⟨y1, l1, rfl, q1, n1, m1⟩ := Row.open_name (t := 41) (e := 39) (s := 9) Try.underlying41 rfl rfl (by kernel_rfl) (by kernel_rfl) Try.underlying39 Try.underlying9 (by kernel_rfl) (hval 1 41 v1 rfl rfl) h1
  obtain ⟨y2, l2, rfl, q2, n2, m2⟩ := Row.open_name (t := 41) (e := 39) (s := 9) Try.underlying41 rfl rfl (by kernel_rfl) (by kernel_rfl) Try.underlying39 Try.underlying9 (by kernel_rfl) (hval 2 41 v2 rfl rfl) h2
  obtain ⟨a3, rfl, rfl, rfl, w3⟩ := open_int Try.underlying3 (hval 3 3 v3 rfl rfl) h3
  clear hA0 hval0
  refine (walk a3 w3 W _ _ q0 n0 m0 _ _ q1 n1 m1 _ _ q2 n2 m2).mono fun e W' ⟨he, hb⟩ => ?_
  subst he
  exact ⟨_, rfl, Frame.law_post laidOut (by kernel_rfl) rfl Try.underlying4 rfl rfl hW' hb⟩

theorem said : Rows.FnExactIssueCertificateSaid :=
  OpenClaim.holds_of_wide 7 Try.f7 rfl rfl rfl rfl rfl rfl rfl ⟨rfl, rfl, rfl, rfl, rfl⟩ rfl rfl rfl rfl rfl (by kernel_rfl) Try.func7 (by kernel_rfl)
    (of_decide_eq_true (by kernel_rfl)) (by unfold Func.isWrapper; first | (rw [if_pos (by decide +kernel)]; kernel_rfl) | (rw [if_neg (by decide +kernel)]; exact ⟨rfl, rfl⟩))
    (fun os started H enc _ => lifted os started H enc)

#print axioms said
end Go.Proofs.Ytcidfmmeonhkhaa.fnExactIssueCertificate
