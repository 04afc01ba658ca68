/- SignData answers as its model for all secrets and data, writes into no argument, and its answer owns its memory. No conditions. -/
import Derived.Test.YtbooamnlocobfaaRows
import Derived.WalkKit
import Derived.ProofKit
import Derived.OpenShut
import Derived.SizedLaws
import Derived.Test.YtbooamnlocobfaaB1
import Derived.Test.YtbooamnlocobfaaB9
namespace Go.Proofs.Ytbooamnlocobfaa.fnExactSignData
open Go.ChangeShapes Go.WideShapes Go.ChangeAt Go.RowKit
open Go.ChangeMaps (open_string shut_string)
set_option linter.unusedVariables false

theorem own : ownKnob Try.prog.godebug = none := by kernel_rfl
theorem laidOut : laidOutB Try.prog = true := by kernel_rfl

set_option maxRecDepth 100000 in
set_option maxHeartbeats 4000000 in
theorem walk (a0 : Int) (w0 : (Lit.int .i64 a0).wf = true) (w : World) (y1 : Value) (l1 : Row.Dt) (q1 : Row.kD.At w y1 l1) (n1 : Row.WfD l1) (m1 : l1.1.length ≤ 9223372036854775807 ∧ l1.2.1.length ≤ 9223372036854775807 ∧ l1.2.2.1.length ≤ 9223372036854775807) :
    Calls Try.prog 5 #[.int .i64 a0, y1] w fun e w' => e = .returned (.bool true) ∧ Below w.heap.size w w' := by
  obtain ⟨x_q1a, n_q1a, c_q1a, x_q1b, n_q1b, c_q1b, x_q1c, n_q1c, c_q1c, rfl, q1⟩ := Row.kD_shapeA q1
  have Q1 := Lib.hid q1; have N1 := Lib.hid n1; clear q1 n1
  have hal := (Below.refl w.heap.size w).alloc (Nat.le_refl _) (.cells #[.slice x_q1a n_q1a c_q1a, .slice x_q1b n_q1b c_q1b, .slice x_q1c n_q1c c_q1c, .int .i64 (l1).2.2.2.1, .int .i64 (l1).2.2.2.2] 27)
  have BB := Lib.hid hal
  have C_aX := Lib.hid (Ret.Blk.new' (w := w) #[.slice x_q1a n_q1a c_q1a, .slice x_q1b n_q1b c_q1b, .slice x_q1c n_q1c c_q1c, .int .i64 (l1).2.2.2.1, .int .i64 (l1).2.2.2.2] 27 (n := w.heap.size) (by first | rfl | simp)); clear hal
  have S1 := Lib.hid (show (w.alloc (.cells #[.slice x_q1a n_q1a c_q1a, .slice x_q1b n_q1b c_q1b, .slice x_q1c n_q1c c_q1c, .int .i64 (l1).2.2.2.1, .int .i64 (l1).2.2.2.2] 27)).heap.size = w.heap.size + 1 from World.size_alloc _ _)
  go_enter Try.func5, Try.ntmps5
  have c0_aX : (w.alloc (.cells #[.slice x_q1a n_q1a c_q1a, .slice x_q1b n_q1b c_q1b, .slice x_q1c n_q1c c_q1c, .int .i64 (l1).2.2.2.1, .int .i64 (l1).2.2.2.2] 27)).cell? ⟨w.heap.size, 0, none⟩ = some (.slice x_q1a n_q1a c_q1a) := C_aX.out.cell 0
  have c1_aX : (w.alloc (.cells #[.slice x_q1a n_q1a c_q1a, .slice x_q1b n_q1b c_q1b, .slice x_q1c n_q1c c_q1c, .int .i64 (l1).2.2.2.1, .int .i64 (l1).2.2.2.2] 27)).cell? ⟨w.heap.size, 1, none⟩ = some (.slice x_q1b n_q1b c_q1b) := C_aX.out.cell 1
  have c2_aX : (w.alloc (.cells #[.slice x_q1a n_q1a c_q1a, .slice x_q1b n_q1b c_q1b, .slice x_q1c n_q1c c_q1c, .int .i64 (l1).2.2.2.1, .int .i64 (l1).2.2.2.2] 27)).cell? ⟨w.heap.size, 2, none⟩ = some (.slice x_q1c n_q1c c_q1c) := C_aX.out.cell 2
  have c3_aX : (w.alloc (.cells #[.slice x_q1a n_q1a c_q1a, .slice x_q1b n_q1b c_q1b, .slice x_q1c n_q1c c_q1c, .int .i64 (l1).2.2.2.1, .int .i64 (l1).2.2.2.2] 27)).cell? ⟨w.heap.size, 3, none⟩ = some (.int .i64 (l1).2.2.2.1) := C_aX.out.cell 3
  have c4_aX : (w.alloc (.cells #[.slice x_q1a n_q1a c_q1a, .slice x_q1b n_q1b c_q1b, .slice x_q1c n_q1c c_q1c, .int .i64 (l1).2.2.2.1, .int .i64 (l1).2.2.2.2] 27)).cell? ⟨w.heap.size, 4, none⟩ = some (.int .i64 (l1).2.2.2.2) := C_aX.out.cell 4
  go_wp2_with fail
  clear c0_aX c1_aX c2_aX c3_aX c4_aX
  refine (Row.szDK _ l1 _ (1048576) (Q1.out.on BB.out) m1 N1.out (by omega) (by omega)).mono ?_
  rintro e w1 ⟨rfl, hb⟩
  replace C_aX := Lib.hid (C_aX.out.on hb)
  replace BB := Lib.hid (BB.out.trans (hb.mono BB.out.size))
  have S2 := Lib.hid (show (w.alloc (.cells #[.slice x_q1a n_q1a c_q1a, .slice x_q1b n_q1b c_q1b, .slice x_q1c n_q1c c_q1c, .int .i64 (l1).2.2.2.1, .int .i64 (l1).2.2.2.2] 27)).heap.size ≤ w1.heap.size from (by have h := hb.size; exact h))
  clear hb
  by_cases t1 : (Row.bulkD l1 : Int) ≤ 1048576
  · -- in
    rw [Row.szD_fit t1]
    have b1 : Row.bulkD l1 ≤ 1048576 := by omega
    have d1 : Row.advD l1 ≤ 1048576 := Row.advD_big b1
    have g1 : ¬ 1048576 - (Row.bulkD l1 : Int) < 0 := by omega
    have c0_aX : w1.cell? ⟨w.heap.size, 0, none⟩ = some (.slice x_q1a n_q1a c_q1a) := C_aX.out.cell 0
    have c1_aX : w1.cell? ⟨w.heap.size, 1, none⟩ = some (.slice x_q1b n_q1b c_q1b) := C_aX.out.cell 1
    have c2_aX : w1.cell? ⟨w.heap.size, 2, none⟩ = some (.slice x_q1c n_q1c c_q1c) := C_aX.out.cell 2
    have c3_aX : w1.cell? ⟨w.heap.size, 3, none⟩ = some (.int .i64 (l1).2.2.2.1) := C_aX.out.cell 3
    have c4_aX : w1.cell? ⟨w.heap.size, 4, none⟩ = some (.int .i64 (l1).2.2.2.2) := C_aX.out.cell 4
    go_wp2_with fail
    clear c0_aX c1_aX c2_aX c3_aX c4_aX
    refine (Row.toDK _ l1 _ (Q1.out.on BB.out) (by omega)).mono ?_
    rintro e w2 ⟨v1, rfl, ho, hb⟩
    obtain ⟨x_v1a, n_v1a, c_v1a, x_v1b, n_v1b, c_v1b, x_v1c, n_v1c, c_v1c, rfl, ho⟩ := Row.kD_shape ho
    replace C_aX := Lib.hid (C_aX.out.on hb)
    replace BB := Lib.hid (BB.out.trans (hb.mono BB.out.size))
    have S3 := Lib.hid (show w1.heap.size ≤ w2.heap.size from (by have h := hb.size; exact h))
    have O_v1 := Lib.hid (show Row.kD.In w1.heap.size w2.heap.size w2 (.agg #[.slice x_v1a n_v1a c_v1a, .slice x_v1b n_v1b c_v1b, .slice x_v1c n_v1c c_v1c, .int .i64 (l1).2.2.2.1, .int .i64 (l1).2.2.2.2]) (l1) from ho); clear ho
    clear hb
    have c0_aX : w2.cell? ⟨w.heap.size, 0, none⟩ = some (.slice x_q1a n_q1a c_q1a) := C_aX.out.cell 0
    have c1_aX : w2.cell? ⟨w.heap.size, 1, none⟩ = some (.slice x_q1b n_q1b c_q1b) := C_aX.out.cell 1
    have c2_aX : w2.cell? ⟨w.heap.size, 2, none⟩ = some (.slice x_q1c n_q1c c_q1c) := C_aX.out.cell 2
    have c3_aX : w2.cell? ⟨w.heap.size, 3, none⟩ = some (.int .i64 (l1).2.2.2.1) := C_aX.out.cell 3
    have c4_aX : w2.cell? ⟨w.heap.size, 4, none⟩ = some (.int .i64 (l1).2.2.2.2) := C_aX.out.cell 4
    go_wp2_with fail
    clear c0_aX c1_aX c2_aX c3_aX c4_aX
    have f1 := Row.sgD_adv a0 (l1)
    refine (Row.specSignDataK _ a0 (l1) _ (O_v1.out.at) N1.out (by omega)).mono ?_
    rintro e w3 ⟨v2, rfl, ho, hb⟩
    obtain ⟨x_v2a, n_v2a, c_v2a, x_v2b, n_v2b, c_v2b, x_v2c, n_v2c, c_v2c, rfl, ho⟩ := Row.kD_shape ho
    replace C_aX := Lib.hid (C_aX.out.on hb)
    replace O_v1 := Lib.hid (O_v1.out.on hb)
    replace BB := Lib.hid (BB.out.trans (hb.mono BB.out.size))
    have S4 := Lib.hid (show w2.heap.size ≤ w3.heap.size from (by have h := hb.size; exact h))
    have O_v2 := Lib.hid (show Row.kD.In w2.heap.size w3.heap.size w3 (.agg #[.slice x_v2a n_v2a c_v2a, .slice x_v2b n_v2b c_v2b, .slice x_v2c n_v2c c_v2c, .int .i64 (Row.sgD a0 (l1)).2.2.2.1, .int .i64 (Row.sgD a0 (l1)).2.2.2.2]) (Row.sgD a0 (l1)) from ho); clear ho
    clear hb
    have hal := (Below.refl w3.heap.size w3).alloc (Nat.le_refl _) (.cells #[.slice x_v2a n_v2a c_v2a, .slice x_v2b n_v2b c_v2b, .slice x_v2c n_v2c c_v2c, .int .i64 (Row.sgD a0 (l1)).2.2.2.1, .int .i64 (Row.sgD a0 (l1)).2.2.2.2] 32)
    replace C_aX := Lib.hid (C_aX.out.on hal)
    replace O_v1 := Lib.hid (O_v1.out.on hal)
    replace O_v2 := Lib.hid (O_v2.out.on hal)
    replace BB := Lib.hid (BB.out.trans (hal.mono BB.out.size))
    have S5 := Lib.hid (show (w3.alloc (.cells #[.slice x_v2a n_v2a c_v2a, .slice x_v2b n_v2b c_v2b, .slice x_v2c n_v2c c_v2c, .int .i64 (Row.sgD a0 (l1)).2.2.2.1, .int .i64 (Row.sgD a0 (l1)).2.2.2.2] 32)).heap.size = w3.heap.size + 1 from World.size_alloc _ _)
    have C_w0 := Lib.hid (Ret.Blk.new w3 #[.slice x_v2a n_v2a c_v2a, .slice x_v2b n_v2b c_v2b, .slice x_v2c n_v2c c_v2c, .int .i64 (Row.sgD a0 (l1)).2.2.2.1, .int .i64 (Row.sgD a0 (l1)).2.2.2.2] 32); clear hal
    have c0_aX : (w3.alloc (.cells #[.slice x_v2a n_v2a c_v2a, .slice x_v2b n_v2b c_v2b, .slice x_v2c n_v2c c_v2c, .int .i64 (Row.sgD a0 (l1)).2.2.2.1, .int .i64 (Row.sgD a0 (l1)).2.2.2.2] 32)).cell? ⟨w.heap.size, 0, none⟩ = some (.slice x_q1a n_q1a c_q1a) := C_aX.out.cell 0
    have c1_aX : (w3.alloc (.cells #[.slice x_v2a n_v2a c_v2a, .slice x_v2b n_v2b c_v2b, .slice x_v2c n_v2c c_v2c, .int .i64 (Row.sgD a0 (l1)).2.2.2.1, .int .i64 (Row.sgD a0 (l1)).2.2.2.2] 32)).cell? ⟨w.heap.size, 1, none⟩ = some (.slice x_q1b n_q1b c_q1b) := C_aX.out.cell 1
    have c2_aX : (w3.alloc (.cells #[.slice x_v2a n_v2a c_v2a, .slice x_v2b n_v2b c_v2b, .slice x_v2c n_v2c c_v2c, .int .i64 (Row.sgD a0 (l1)).2.2.2.1, .int .i64 (Row.sgD a0 (l1)).2.2.2.2] 32)).cell? ⟨w.heap.size, 2, none⟩ = some (.slice x_q1c n_q1c c_q1c) := C_aX.out.cell 2
    have c3_aX : (w3.alloc (.cells #[.slice x_v2a n_v2a c_v2a, .slice x_v2b n_v2b c_v2b, .slice x_v2c n_v2c c_v2c, .int .i64 (Row.sgD a0 (l1)).2.2.2.1, .int .i64 (Row.sgD a0 (l1)).2.2.2.2] 32)).cell? ⟨w.heap.size, 3, none⟩ = some (.int .i64 (l1).2.2.2.1) := C_aX.out.cell 3
    have c4_aX : (w3.alloc (.cells #[.slice x_v2a n_v2a c_v2a, .slice x_v2b n_v2b c_v2b, .slice x_v2c n_v2c c_v2c, .int .i64 (Row.sgD a0 (l1)).2.2.2.1, .int .i64 (Row.sgD a0 (l1)).2.2.2.2] 32)).cell? ⟨w.heap.size, 4, none⟩ = some (.int .i64 (l1).2.2.2.2) := C_aX.out.cell 4
    have c0_w0 : (w3.alloc (.cells #[.slice x_v2a n_v2a c_v2a, .slice x_v2b n_v2b c_v2b, .slice x_v2c n_v2c c_v2c, .int .i64 (Row.sgD a0 (l1)).2.2.2.1, .int .i64 (Row.sgD a0 (l1)).2.2.2.2] 32)).cell? ⟨w3.heap.size, 0, none⟩ = some (.slice x_v2a n_v2a c_v2a) := C_w0.out.cell 0
    have c1_w0 : (w3.alloc (.cells #[.slice x_v2a n_v2a c_v2a, .slice x_v2b n_v2b c_v2b, .slice x_v2c n_v2c c_v2c, .int .i64 (Row.sgD a0 (l1)).2.2.2.1, .int .i64 (Row.sgD a0 (l1)).2.2.2.2] 32)).cell? ⟨w3.heap.size, 1, none⟩ = some (.slice x_v2b n_v2b c_v2b) := C_w0.out.cell 1
    have c2_w0 : (w3.alloc (.cells #[.slice x_v2a n_v2a c_v2a, .slice x_v2b n_v2b c_v2b, .slice x_v2c n_v2c c_v2c, .int .i64 (Row.sgD a0 (l1)).2.2.2.1, .int .i64 (Row.sgD a0 (l1)).2.2.2.2] 32)).cell? ⟨w3.heap.size, 2, none⟩ = some (.slice x_v2c n_v2c c_v2c) := C_w0.out.cell 2
    have c3_w0 : (w3.alloc (.cells #[.slice x_v2a n_v2a c_v2a, .slice x_v2b n_v2b c_v2b, .slice x_v2c n_v2c c_v2c, .int .i64 (Row.sgD a0 (l1)).2.2.2.1, .int .i64 (Row.sgD a0 (l1)).2.2.2.2] 32)).cell? ⟨w3.heap.size, 3, none⟩ = some (.int .i64 (Row.sgD a0 (l1)).2.2.2.1) := C_w0.out.cell 3
    have c4_w0 : (w3.alloc (.cells #[.slice x_v2a n_v2a c_v2a, .slice x_v2b n_v2b c_v2b, .slice x_v2c n_v2c c_v2c, .int .i64 (Row.sgD a0 (l1)).2.2.2.1, .int .i64 (Row.sgD a0 (l1)).2.2.2.2] 32)).cell? ⟨w3.heap.size, 4, none⟩ = some (.int .i64 (Row.sgD a0 (l1)).2.2.2.2) := C_w0.out.cell 4
    go_wp2_with fail
    clear c0_aX c1_aX c2_aX c3_aX c4_aX c0_w0 c1_w0 c2_w0 c3_w0 c4_w0
    clear O_v1
    refine (Row.toDK _ l1 _ (Q1.out.on BB.out) (by omega)).mono ?_
    rintro e w4 ⟨v3, rfl, ho, hb⟩
    obtain ⟨x_v3a, n_v3a, c_v3a, x_v3b, n_v3b, c_v3b, x_v3c, n_v3c, c_v3c, rfl, ho⟩ := Row.kD_shape ho
    replace C_aX := Lib.hid (C_aX.out.on hb)
    replace C_w0 := Lib.hid (C_w0.out.on hb)
    replace O_v2 := Lib.hid (O_v2.out.on hb)
    replace BB := Lib.hid (BB.out.trans (hb.mono BB.out.size))
    have S6 := Lib.hid (show (w3.alloc (.cells #[.slice x_v2a n_v2a c_v2a, .slice x_v2b n_v2b c_v2b, .slice x_v2c n_v2c c_v2c, .int .i64 (Row.sgD a0 (l1)).2.2.2.1, .int .i64 (Row.sgD a0 (l1)).2.2.2.2] 32)).heap.size ≤ w4.heap.size from (by have h := hb.size; exact h))
    have O_v3 := Lib.hid (show Row.kD.In (w3.alloc (.cells #[.slice x_v2a n_v2a c_v2a, .slice x_v2b n_v2b c_v2b, .slice x_v2c n_v2c c_v2c, .int .i64 (Row.sgD a0 (l1)).2.2.2.1, .int .i64 (Row.sgD a0 (l1)).2.2.2.2] 32)).heap.size w4.heap.size w4 (.agg #[.slice x_v3a n_v3a c_v3a, .slice x_v3b n_v3b c_v3b, .slice x_v3c n_v3c c_v3c, .int .i64 (l1).2.2.2.1, .int .i64 (l1).2.2.2.2]) (l1) from ho); clear ho
    clear hb
    have hal := (Below.refl w4.heap.size w4).alloc (Nat.le_refl _) (.cells #[.slice x_v3a n_v3a c_v3a, .slice x_v3b n_v3b c_v3b, .slice x_v3c n_v3c c_v3c, .int .i64 (l1).2.2.2.1, .int .i64 (l1).2.2.2.2] 32)
    replace C_aX := Lib.hid (C_aX.out.on hal)
    replace C_w0 := Lib.hid (C_w0.out.on hal)
    replace O_v2 := Lib.hid (O_v2.out.on hal)
    replace O_v3 := Lib.hid (O_v3.out.on hal)
    replace BB := Lib.hid (BB.out.trans (hal.mono BB.out.size))
    have S7 := Lib.hid (show (w4.alloc (.cells #[.slice x_v3a n_v3a c_v3a, .slice x_v3b n_v3b c_v3b, .slice x_v3c n_v3c c_v3c, .int .i64 (l1).2.2.2.1, .int .i64 (l1).2.2.2.2] 32)).heap.size = w4.heap.size + 1 from World.size_alloc _ _)
    have C_x1 := Lib.hid (Ret.Blk.new w4 #[.slice x_v3a n_v3a c_v3a, .slice x_v3b n_v3b c_v3b, .slice x_v3c n_v3c c_v3c, .int .i64 (l1).2.2.2.1, .int .i64 (l1).2.2.2.2] 32); clear hal
    have c0_aX : (w4.alloc (.cells #[.slice x_v3a n_v3a c_v3a, .slice x_v3b n_v3b c_v3b, .slice x_v3c n_v3c c_v3c, .int .i64 (l1).2.2.2.1, .int .i64 (l1).2.2.2.2] 32)).cell? ⟨w.heap.size, 0, none⟩ = some (.slice x_q1a n_q1a c_q1a) := C_aX.out.cell 0
    have c1_aX : (w4.alloc (.cells #[.slice x_v3a n_v3a c_v3a, .slice x_v3b n_v3b c_v3b, .slice x_v3c n_v3c c_v3c, .int .i64 (l1).2.2.2.1, .int .i64 (l1).2.2.2.2] 32)).cell? ⟨w.heap.size, 1, none⟩ = some (.slice x_q1b n_q1b c_q1b) := C_aX.out.cell 1
    have c2_aX : (w4.alloc (.cells #[.slice x_v3a n_v3a c_v3a, .slice x_v3b n_v3b c_v3b, .slice x_v3c n_v3c c_v3c, .int .i64 (l1).2.2.2.1, .int .i64 (l1).2.2.2.2] 32)).cell? ⟨w.heap.size, 2, none⟩ = some (.slice x_q1c n_q1c c_q1c) := C_aX.out.cell 2
    have c3_aX : (w4.alloc (.cells #[.slice x_v3a n_v3a c_v3a, .slice x_v3b n_v3b c_v3b, .slice x_v3c n_v3c c_v3c, .int .i64 (l1).2.2.2.1, .int .i64 (l1).2.2.2.2] 32)).cell? ⟨w.heap.size, 3, none⟩ = some (.int .i64 (l1).2.2.2.1) := C_aX.out.cell 3
    have c4_aX : (w4.alloc (.cells #[.slice x_v3a n_v3a c_v3a, .slice x_v3b n_v3b c_v3b, .slice x_v3c n_v3c c_v3c, .int .i64 (l1).2.2.2.1, .int .i64 (l1).2.2.2.2] 32)).cell? ⟨w.heap.size, 4, none⟩ = some (.int .i64 (l1).2.2.2.2) := C_aX.out.cell 4
    have c0_w0 : (w4.alloc (.cells #[.slice x_v3a n_v3a c_v3a, .slice x_v3b n_v3b c_v3b, .slice x_v3c n_v3c c_v3c, .int .i64 (l1).2.2.2.1, .int .i64 (l1).2.2.2.2] 32)).cell? ⟨w3.heap.size, 0, none⟩ = some (.slice x_v2a n_v2a c_v2a) := C_w0.out.cell 0
    have c1_w0 : (w4.alloc (.cells #[.slice x_v3a n_v3a c_v3a, .slice x_v3b n_v3b c_v3b, .slice x_v3c n_v3c c_v3c, .int .i64 (l1).2.2.2.1, .int .i64 (l1).2.2.2.2] 32)).cell? ⟨w3.heap.size, 1, none⟩ = some (.slice x_v2b n_v2b c_v2b) := C_w0.out.cell 1
    have c2_w0 : (w4.alloc (.cells #[.slice x_v3a n_v3a c_v3a, .slice x_v3b n_v3b c_v3b, .slice x_v3c n_v3c c_v3c, .int .i64 (l1).2.2.2.1, .int .i64 (l1).2.2.2.2] 32)).cell? ⟨w3.heap.size, 2, none⟩ = some (.slice x_v2c n_v2c c_v2c) := C_w0.out.cell 2
    have c3_w0 : (w4.alloc (.cells #[.slice x_v3a n_v3a c_v3a, .slice x_v3b n_v3b c_v3b, .slice x_v3c n_v3c c_v3c, .int .i64 (l1).2.2.2.1, .int .i64 (l1).2.2.2.2] 32)).cell? ⟨w3.heap.size, 3, none⟩ = some (.int .i64 (Row.sgD a0 (l1)).2.2.2.1) := C_w0.out.cell 3
    have c4_w0 : (w4.alloc (.cells #[.slice x_v3a n_v3a c_v3a, .slice x_v3b n_v3b c_v3b, .slice x_v3c n_v3c c_v3c, .int .i64 (l1).2.2.2.1, .int .i64 (l1).2.2.2.2] 32)).cell? ⟨w3.heap.size, 4, none⟩ = some (.int .i64 (Row.sgD a0 (l1)).2.2.2.2) := C_w0.out.cell 4
    have c0_x1 : (w4.alloc (.cells #[.slice x_v3a n_v3a c_v3a, .slice x_v3b n_v3b c_v3b, .slice x_v3c n_v3c c_v3c, .int .i64 (l1).2.2.2.1, .int .i64 (l1).2.2.2.2] 32)).cell? ⟨w4.heap.size, 0, none⟩ = some (.slice x_v3a n_v3a c_v3a) := C_x1.out.cell 0
    have c1_x1 : (w4.alloc (.cells #[.slice x_v3a n_v3a c_v3a, .slice x_v3b n_v3b c_v3b, .slice x_v3c n_v3c c_v3c, .int .i64 (l1).2.2.2.1, .int .i64 (l1).2.2.2.2] 32)).cell? ⟨w4.heap.size, 1, none⟩ = some (.slice x_v3b n_v3b c_v3b) := C_x1.out.cell 1
    have c2_x1 : (w4.alloc (.cells #[.slice x_v3a n_v3a c_v3a, .slice x_v3b n_v3b c_v3b, .slice x_v3c n_v3c c_v3c, .int .i64 (l1).2.2.2.1, .int .i64 (l1).2.2.2.2] 32)).cell? ⟨w4.heap.size, 2, none⟩ = some (.slice x_v3c n_v3c c_v3c) := C_x1.out.cell 2
    have c3_x1 : (w4.alloc (.cells #[.slice x_v3a n_v3a c_v3a, .slice x_v3b n_v3b c_v3b, .slice x_v3c n_v3c c_v3c, .int .i64 (l1).2.2.2.1, .int .i64 (l1).2.2.2.2] 32)).cell? ⟨w4.heap.size, 3, none⟩ = some (.int .i64 (l1).2.2.2.1) := C_x1.out.cell 3
    have c4_x1 : (w4.alloc (.cells #[.slice x_v3a n_v3a c_v3a, .slice x_v3b n_v3b c_v3b, .slice x_v3c n_v3c c_v3c, .int .i64 (l1).2.2.2.1, .int .i64 (l1).2.2.2.2] 32)).cell? ⟨w4.heap.size, 4, none⟩ = some (.int .i64 (l1).2.2.2.2) := C_x1.out.cell 4
    go_wp2_with fail
    clear c0_aX c1_aX c2_aX c3_aX c4_aX c0_w0 c1_w0 c2_w0 c3_w0 c4_w0 c0_x1 c1_x1 c2_x1 c3_x1 c4_x1
    have f2 := Row.sgD_adv a0 (l1)
    refine (Row.implSignDataK _ a0 (l1) _ (O_v3.out.at) N1.out (by omega)).mono ?_
    rintro e w5 ⟨v4, rfl, ho, hb⟩
    obtain ⟨x_v4a, n_v4a, c_v4a, x_v4b, n_v4b, c_v4b, x_v4c, n_v4c, c_v4c, rfl, ho⟩ := Row.kD_shape ho
    replace C_aX := Lib.hid (C_aX.out.on hb)
    replace C_w0 := Lib.hid (C_w0.out.on hb)
    replace C_x1 := Lib.hid (C_x1.out.on hb)
    replace O_v2 := Lib.hid (O_v2.out.on hb)
    replace O_v3 := Lib.hid (O_v3.out.on hb)
    replace BB := Lib.hid (BB.out.trans (hb.mono BB.out.size))
    have S8 := Lib.hid (show (w4.alloc (.cells #[.slice x_v3a n_v3a c_v3a, .slice x_v3b n_v3b c_v3b, .slice x_v3c n_v3c c_v3c, .int .i64 (l1).2.2.2.1, .int .i64 (l1).2.2.2.2] 32)).heap.size ≤ w5.heap.size from (by have h := hb.size; exact h))
    have O_v4 := Lib.hid (show Row.kD.In (w4.alloc (.cells #[.slice x_v3a n_v3a c_v3a, .slice x_v3b n_v3b c_v3b, .slice x_v3c n_v3c c_v3c, .int .i64 (l1).2.2.2.1, .int .i64 (l1).2.2.2.2] 32)).heap.size w5.heap.size w5 (.agg #[.slice x_v4a n_v4a c_v4a, .slice x_v4b n_v4b c_v4b, .slice x_v4c n_v4c c_v4c, .int .i64 (Row.sgD a0 (l1)).2.2.2.1, .int .i64 (Row.sgD a0 (l1)).2.2.2.2]) (Row.sgD a0 (l1)) from ho); clear ho
    clear hb
    have hal := (Below.refl w5.heap.size w5).alloc (Nat.le_refl _) (.cells #[.slice x_v4a n_v4a c_v4a, .slice x_v4b n_v4b c_v4b, .slice x_v4c n_v4c c_v4c, .int .i64 (Row.sgD a0 (l1)).2.2.2.1, .int .i64 (Row.sgD a0 (l1)).2.2.2.2] 32)
    replace C_aX := Lib.hid (C_aX.out.on hal)
    replace C_w0 := Lib.hid (C_w0.out.on hal)
    replace C_x1 := Lib.hid (C_x1.out.on hal)
    replace O_v2 := Lib.hid (O_v2.out.on hal)
    replace O_v3 := Lib.hid (O_v3.out.on hal)
    replace O_v4 := Lib.hid (O_v4.out.on hal)
    replace BB := Lib.hid (BB.out.trans (hal.mono BB.out.size))
    have S9 := Lib.hid (show (w5.alloc (.cells #[.slice x_v4a n_v4a c_v4a, .slice x_v4b n_v4b c_v4b, .slice x_v4c n_v4c c_v4c, .int .i64 (Row.sgD a0 (l1)).2.2.2.1, .int .i64 (Row.sgD a0 (l1)).2.2.2.2] 32)).heap.size = w5.heap.size + 1 from World.size_alloc _ _)
    have C_g0 := Lib.hid (Ret.Blk.new w5 #[.slice x_v4a n_v4a c_v4a, .slice x_v4b n_v4b c_v4b, .slice x_v4c n_v4c c_v4c, .int .i64 (Row.sgD a0 (l1)).2.2.2.1, .int .i64 (Row.sgD a0 (l1)).2.2.2.2] 32); clear hal
    have c0_aX : (w5.alloc (.cells #[.slice x_v4a n_v4a c_v4a, .slice x_v4b n_v4b c_v4b, .slice x_v4c n_v4c c_v4c, .int .i64 (Row.sgD a0 (l1)).2.2.2.1, .int .i64 (Row.sgD a0 (l1)).2.2.2.2] 32)).cell? ⟨w.heap.size, 0, none⟩ = some (.slice x_q1a n_q1a c_q1a) := C_aX.out.cell 0
    have c1_aX : (w5.alloc (.cells #[.slice x_v4a n_v4a c_v4a, .slice x_v4b n_v4b c_v4b, .slice x_v4c n_v4c c_v4c, .int .i64 (Row.sgD a0 (l1)).2.2.2.1, .int .i64 (Row.sgD a0 (l1)).2.2.2.2] 32)).cell? ⟨w.heap.size, 1, none⟩ = some (.slice x_q1b n_q1b c_q1b) := C_aX.out.cell 1
    have c2_aX : (w5.alloc (.cells #[.slice x_v4a n_v4a c_v4a, .slice x_v4b n_v4b c_v4b, .slice x_v4c n_v4c c_v4c, .int .i64 (Row.sgD a0 (l1)).2.2.2.1, .int .i64 (Row.sgD a0 (l1)).2.2.2.2] 32)).cell? ⟨w.heap.size, 2, none⟩ = some (.slice x_q1c n_q1c c_q1c) := C_aX.out.cell 2
    have c3_aX : (w5.alloc (.cells #[.slice x_v4a n_v4a c_v4a, .slice x_v4b n_v4b c_v4b, .slice x_v4c n_v4c c_v4c, .int .i64 (Row.sgD a0 (l1)).2.2.2.1, .int .i64 (Row.sgD a0 (l1)).2.2.2.2] 32)).cell? ⟨w.heap.size, 3, none⟩ = some (.int .i64 (l1).2.2.2.1) := C_aX.out.cell 3
    have c4_aX : (w5.alloc (.cells #[.slice x_v4a n_v4a c_v4a, .slice x_v4b n_v4b c_v4b, .slice x_v4c n_v4c c_v4c, .int .i64 (Row.sgD a0 (l1)).2.2.2.1, .int .i64 (Row.sgD a0 (l1)).2.2.2.2] 32)).cell? ⟨w.heap.size, 4, none⟩ = some (.int .i64 (l1).2.2.2.2) := C_aX.out.cell 4
    have c0_w0 : (w5.alloc (.cells #[.slice x_v4a n_v4a c_v4a, .slice x_v4b n_v4b c_v4b, .slice x_v4c n_v4c c_v4c, .int .i64 (Row.sgD a0 (l1)).2.2.2.1, .int .i64 (Row.sgD a0 (l1)).2.2.2.2] 32)).cell? ⟨w3.heap.size, 0, none⟩ = some (.slice x_v2a n_v2a c_v2a) := C_w0.out.cell 0
    have c1_w0 : (w5.alloc (.cells #[.slice x_v4a n_v4a c_v4a, .slice x_v4b n_v4b c_v4b, .slice x_v4c n_v4c c_v4c, .int .i64 (Row.sgD a0 (l1)).2.2.2.1, .int .i64 (Row.sgD a0 (l1)).2.2.2.2] 32)).cell? ⟨w3.heap.size, 1, none⟩ = some (.slice x_v2b n_v2b c_v2b) := C_w0.out.cell 1
    have c2_w0 : (w5.alloc (.cells #[.slice x_v4a n_v4a c_v4a, .slice x_v4b n_v4b c_v4b, .slice x_v4c n_v4c c_v4c, .int .i64 (Row.sgD a0 (l1)).2.2.2.1, .int .i64 (Row.sgD a0 (l1)).2.2.2.2] 32)).cell? ⟨w3.heap.size, 2, none⟩ = some (.slice x_v2c n_v2c c_v2c) := C_w0.out.cell 2
    have c3_w0 : (w5.alloc (.cells #[.slice x_v4a n_v4a c_v4a, .slice x_v4b n_v4b c_v4b, .slice x_v4c n_v4c c_v4c, .int .i64 (Row.sgD a0 (l1)).2.2.2.1, .int .i64 (Row.sgD a0 (l1)).2.2.2.2] 32)).cell? ⟨w3.heap.size, 3, none⟩ = some (.int .i64 (Row.sgD a0 (l1)).2.2.2.1) := C_w0.out.cell 3
    have c4_w0 : (w5.alloc (.cells #[.slice x_v4a n_v4a c_v4a, .slice x_v4b n_v4b c_v4b, .slice x_v4c n_v4c c_v4c, .int .i64 (Row.sgD a0 (l1)).2.2.2.1, .int .i64 (Row.sgD a0 (l1)).2.2.2.2] 32)).cell? ⟨w3.heap.size, 4, none⟩ = some (.int .i64 (Row.sgD a0 (l1)).2.2.2.2) := C_w0.out.cell 4
    have c0_x1 : (w5.alloc (.cells #[.slice x_v4a n_v4a c_v4a, .slice x_v4b n_v4b c_v4b, .slice x_v4c n_v4c c_v4c, .int .i64 (Row.sgD a0 (l1)).2.2.2.1, .int .i64 (Row.sgD a0 (l1)).2.2.2.2] 32)).cell? ⟨w4.heap.size, 0, none⟩ = some (.slice x_v3a n_v3a c_v3a) := C_x1.out.cell 0
    have c1_x1 : (w5.alloc (.cells #[.slice x_v4a n_v4a c_v4a, .slice x_v4b n_v4b c_v4b, .slice x_v4c n_v4c c_v4c, .int .i64 (Row.sgD a0 (l1)).2.2.2.1, .int .i64 (Row.sgD a0 (l1)).2.2.2.2] 32)).cell? ⟨w4.heap.size, 1, none⟩ = some (.slice x_v3b n_v3b c_v3b) := C_x1.out.cell 1
    have c2_x1 : (w5.alloc (.cells #[.slice x_v4a n_v4a c_v4a, .slice x_v4b n_v4b c_v4b, .slice x_v4c n_v4c c_v4c, .int .i64 (Row.sgD a0 (l1)).2.2.2.1, .int .i64 (Row.sgD a0 (l1)).2.2.2.2] 32)).cell? ⟨w4.heap.size, 2, none⟩ = some (.slice x_v3c n_v3c c_v3c) := C_x1.out.cell 2
    have c3_x1 : (w5.alloc (.cells #[.slice x_v4a n_v4a c_v4a, .slice x_v4b n_v4b c_v4b, .slice x_v4c n_v4c c_v4c, .int .i64 (Row.sgD a0 (l1)).2.2.2.1, .int .i64 (Row.sgD a0 (l1)).2.2.2.2] 32)).cell? ⟨w4.heap.size, 3, none⟩ = some (.int .i64 (l1).2.2.2.1) := C_x1.out.cell 3
    have c4_x1 : (w5.alloc (.cells #[.slice x_v4a n_v4a c_v4a, .slice x_v4b n_v4b c_v4b, .slice x_v4c n_v4c c_v4c, .int .i64 (Row.sgD a0 (l1)).2.2.2.1, .int .i64 (Row.sgD a0 (l1)).2.2.2.2] 32)).cell? ⟨w4.heap.size, 4, none⟩ = some (.int .i64 (l1).2.2.2.2) := C_x1.out.cell 4
    have c0_g0 : (w5.alloc (.cells #[.slice x_v4a n_v4a c_v4a, .slice x_v4b n_v4b c_v4b, .slice x_v4c n_v4c c_v4c, .int .i64 (Row.sgD a0 (l1)).2.2.2.1, .int .i64 (Row.sgD a0 (l1)).2.2.2.2] 32)).cell? ⟨w5.heap.size, 0, none⟩ = some (.slice x_v4a n_v4a c_v4a) := C_g0.out.cell 0
    have c1_g0 : (w5.alloc (.cells #[.slice x_v4a n_v4a c_v4a, .slice x_v4b n_v4b c_v4b, .slice x_v4c n_v4c c_v4c, .int .i64 (Row.sgD a0 (l1)).2.2.2.1, .int .i64 (Row.sgD a0 (l1)).2.2.2.2] 32)).cell? ⟨w5.heap.size, 1, none⟩ = some (.slice x_v4b n_v4b c_v4b) := C_g0.out.cell 1
    have c2_g0 : (w5.alloc (.cells #[.slice x_v4a n_v4a c_v4a, .slice x_v4b n_v4b c_v4b, .slice x_v4c n_v4c c_v4c, .int .i64 (Row.sgD a0 (l1)).2.2.2.1, .int .i64 (Row.sgD a0 (l1)).2.2.2.2] 32)).cell? ⟨w5.heap.size, 2, none⟩ = some (.slice x_v4c n_v4c c_v4c) := C_g0.out.cell 2
    have c3_g0 : (w5.alloc (.cells #[.slice x_v4a n_v4a c_v4a, .slice x_v4b n_v4b c_v4b, .slice x_v4c n_v4c c_v4c, .int .i64 (Row.sgD a0 (l1)).2.2.2.1, .int .i64 (Row.sgD a0 (l1)).2.2.2.2] 32)).cell? ⟨w5.heap.size, 3, none⟩ = some (.int .i64 (Row.sgD a0 (l1)).2.2.2.1) := C_g0.out.cell 3
    have c4_g0 : (w5.alloc (.cells #[.slice x_v4a n_v4a c_v4a, .slice x_v4b n_v4b c_v4b, .slice x_v4c n_v4c c_v4c, .int .i64 (Row.sgD a0 (l1)).2.2.2.1, .int .i64 (Row.sgD a0 (l1)).2.2.2.2] 32)).cell? ⟨w5.heap.size, 4, none⟩ = some (.int .i64 (Row.sgD a0 (l1)).2.2.2.2) := C_g0.out.cell 4
    go_wp2_with fail
    clear c0_aX c1_aX c2_aX c3_aX c4_aX c0_w0 c1_w0 c2_w0 c3_w0 c4_w0 c0_x1 c1_x1 c2_x1 c3_x1 c4_x1 c0_g0 c1_g0 c2_g0 c3_g0 c4_g0
    refine (Row.sameDK _ _ (Row.sgD a0 (l1)) _ (O_v4.out.at) (O_v2.out.at) (by first | omega | (simp; omega) | (simp [Row.marks_length, Sl.marks_length, Row.mkW]; omega))).mono ?_
    rintro e w6 ⟨rfl, hb⟩
    replace C_aX := Lib.hid (C_aX.out.on hb)
    replace C_w0 := Lib.hid (C_w0.out.on hb)
    replace C_x1 := Lib.hid (C_x1.out.on hb)
    replace C_g0 := Lib.hid (C_g0.out.on hb)
    replace O_v2 := Lib.hid (O_v2.out.on hb)
    replace O_v3 := Lib.hid (O_v3.out.on hb)
    replace O_v4 := Lib.hid (O_v4.out.on hb)
    replace BB := Lib.hid (BB.out.trans (hb.mono BB.out.size))
    have S10 := Lib.hid (show (w5.alloc (.cells #[.slice x_v4a n_v4a c_v4a, .slice x_v4b n_v4b c_v4b, .slice x_v4c n_v4c c_v4c, .int .i64 (Row.sgD a0 (l1)).2.2.2.1, .int .i64 (Row.sgD a0 (l1)).2.2.2.2] 32)).heap.size ≤ w6.heap.size from (by have h := hb.size; exact h))
    clear hb
    have c0_aX : w6.cell? ⟨w.heap.size, 0, none⟩ = some (.slice x_q1a n_q1a c_q1a) := C_aX.out.cell 0
    have c1_aX : w6.cell? ⟨w.heap.size, 1, none⟩ = some (.slice x_q1b n_q1b c_q1b) := C_aX.out.cell 1
    have c2_aX : w6.cell? ⟨w.heap.size, 2, none⟩ = some (.slice x_q1c n_q1c c_q1c) := C_aX.out.cell 2
    have c3_aX : w6.cell? ⟨w.heap.size, 3, none⟩ = some (.int .i64 (l1).2.2.2.1) := C_aX.out.cell 3
    have c4_aX : w6.cell? ⟨w.heap.size, 4, none⟩ = some (.int .i64 (l1).2.2.2.2) := C_aX.out.cell 4
    have c0_w0 : w6.cell? ⟨w3.heap.size, 0, none⟩ = some (.slice x_v2a n_v2a c_v2a) := C_w0.out.cell 0
    have c1_w0 : w6.cell? ⟨w3.heap.size, 1, none⟩ = some (.slice x_v2b n_v2b c_v2b) := C_w0.out.cell 1
    have c2_w0 : w6.cell? ⟨w3.heap.size, 2, none⟩ = some (.slice x_v2c n_v2c c_v2c) := C_w0.out.cell 2
    have c3_w0 : w6.cell? ⟨w3.heap.size, 3, none⟩ = some (.int .i64 (Row.sgD a0 (l1)).2.2.2.1) := C_w0.out.cell 3
    have c4_w0 : w6.cell? ⟨w3.heap.size, 4, none⟩ = some (.int .i64 (Row.sgD a0 (l1)).2.2.2.2) := C_w0.out.cell 4
    have c0_x1 : w6.cell? ⟨w4.heap.size, 0, none⟩ = some (.slice x_v3a n_v3a c_v3a) := C_x1.out.cell 0
    have c1_x1 : w6.cell? ⟨w4.heap.size, 1, none⟩ = some (.slice x_v3b n_v3b c_v3b) := C_x1.out.cell 1
    have c2_x1 : w6.cell? ⟨w4.heap.size, 2, none⟩ = some (.slice x_v3c n_v3c c_v3c) := C_x1.out.cell 2
    have c3_x1 : w6.cell? ⟨w4.heap.size, 3, none⟩ = some (.int .i64 (l1).2.2.2.1) := C_x1.out.cell 3
    have c4_x1 : w6.cell? ⟨w4.heap.size, 4, none⟩ = some (.int .i64 (l1).2.2.2.2) := C_x1.out.cell 4
    have c0_g0 : w6.cell? ⟨w5.heap.size, 0, none⟩ = some (.slice x_v4a n_v4a c_v4a) := C_g0.out.cell 0
    have c1_g0 : w6.cell? ⟨w5.heap.size, 1, none⟩ = some (.slice x_v4b n_v4b c_v4b) := C_g0.out.cell 1
    have c2_g0 : w6.cell? ⟨w5.heap.size, 2, none⟩ = some (.slice x_v4c n_v4c c_v4c) := C_g0.out.cell 2
    have c3_g0 : w6.cell? ⟨w5.heap.size, 3, none⟩ = some (.int .i64 (Row.sgD a0 (l1)).2.2.2.1) := C_g0.out.cell 3
    have c4_g0 : w6.cell? ⟨w5.heap.size, 4, none⟩ = some (.int .i64 (Row.sgD a0 (l1)).2.2.2.2) := C_g0.out.cell 4
    go_wp2_with fail
    clear c0_aX c1_aX c2_aX c3_aX c4_aX c0_w0 c1_w0 c2_w0 c3_w0 c4_w0 c0_x1 c1_x1 c2_x1 c3_x1 c4_x1 c0_g0 c1_g0 c2_g0 c3_g0 c4_g0
    have hdr : Below w6.heap.size w6 w6.drew := (Below.refl _ _).drew
    replace C_aX := Lib.hid (C_aX.out.on hdr)
    replace C_w0 := Lib.hid (C_w0.out.on hdr)
    replace C_x1 := Lib.hid (C_x1.out.on hdr)
    replace C_g0 := Lib.hid (C_g0.out.on hdr)
    replace O_v2 := Lib.hid (O_v2.out.on hdr)
    replace O_v3 := Lib.hid (O_v3.out.on hdr)
    replace O_v4 := Lib.hid (O_v4.out.on hdr)
    replace BB := Lib.hid (BB.out.trans (hdr.mono BB.out.size))
    clear hdr
    have KS0 := Lib.hid (show w6.drew.cell? ⟨w4.heap.size, 0, none⟩ = some (.slice x_v3a n_v3a c_v3a) ∧ w6.drew.cell? ⟨w4.heap.size, 1, none⟩ = some (.slice x_v3b n_v3b c_v3b) ∧ w6.drew.cell? ⟨w4.heap.size, 2, none⟩ = some (.slice x_v3c n_v3c c_v3c) ∧ w6.drew.cell? ⟨w4.heap.size, 3, none⟩ = some (.int .i64 (l1).2.2.2.1) ∧ w6.drew.cell? ⟨w4.heap.size, 4, none⟩ = some (.int .i64 (l1).2.2.2.2) ∧ w6.drew.cell? ⟨w.heap.size, 0, none⟩ = some (.slice x_q1a n_q1a c_q1a) ∧ w6.drew.cell? ⟨w.heap.size, 1, none⟩ = some (.slice x_q1b n_q1b c_q1b) ∧ w6.drew.cell? ⟨w.heap.size, 2, none⟩ = some (.slice x_q1c n_q1c c_q1c) ∧ w6.drew.cell? ⟨w.heap.size, 3, none⟩ = some (.int .i64 (l1).2.2.2.1) ∧ w6.drew.cell? ⟨w.heap.size, 4, none⟩ = some (.int .i64 (l1).2.2.2.2) ∧ Below w.heap.size w w6.drew from ⟨C_x1.out.cell 0, C_x1.out.cell 1, C_x1.out.cell 2, C_x1.out.cell 3, C_x1.out.cell 4, C_aX.out.cell 0, C_aX.out.cell 1, C_aX.out.cell 2, C_aX.out.cell 3, C_aX.out.cell 4, BB.out⟩)
    go_region_held3 (fun w' => w'.cell? ⟨w4.heap.size, 0, none⟩ = some (.slice x_v3a n_v3a c_v3a) ∧ w'.cell? ⟨w4.heap.size, 1, none⟩ = some (.slice x_v3b n_v3b c_v3b) ∧ w'.cell? ⟨w4.heap.size, 2, none⟩ = some (.slice x_v3c n_v3c c_v3c) ∧ w'.cell? ⟨w4.heap.size, 3, none⟩ = some (.int .i64 (l1).2.2.2.1) ∧ w'.cell? ⟨w4.heap.size, 4, none⟩ = some (.int .i64 (l1).2.2.2.2) ∧ w'.cell? ⟨w.heap.size, 0, none⟩ = some (.slice x_q1a n_q1a c_q1a) ∧ w'.cell? ⟨w.heap.size, 1, none⟩ = some (.slice x_q1b n_q1b c_q1b) ∧ w'.cell? ⟨w.heap.size, 2, none⟩ = some (.slice x_q1c n_q1c c_q1c) ∧ w'.cell? ⟨w.heap.size, 3, none⟩ = some (.int .i64 (l1).2.2.2.1) ∧ w'.cell? ⟨w.heap.size, 4, none⟩ = some (.int .i64 (l1).2.2.2.2) ∧ Below w.heap.size w w') (first | exact KS0.out | exact KS1.out | exact KS2.out) ((first | (go_at_call 15; refine (Row.sameDK _ _ (l1) _ ((O_v3.out.at).on hba) hoa.at (by first | omega | (simp; omega) | (simp [Row.marks_length, Sl.marks_length, Row.mkW]; omega))).mono ?_; rintro e w8 ⟨rfl, hbb⟩; have KS2 := Lib.hid (show (fun w' => w'.cell? ⟨w4.heap.size, 0, none⟩ = some (.slice x_v3a n_v3a c_v3a) ∧ w'.cell? ⟨w4.heap.size, 1, none⟩ = some (.slice x_v3b n_v3b c_v3b) ∧ w'.cell? ⟨w4.heap.size, 2, none⟩ = some (.slice x_v3c n_v3c c_v3c) ∧ w'.cell? ⟨w4.heap.size, 3, none⟩ = some (.int .i64 (l1).2.2.2.1) ∧ w'.cell? ⟨w4.heap.size, 4, none⟩ = some (.int .i64 (l1).2.2.2.2) ∧ w'.cell? ⟨w.heap.size, 0, none⟩ = some (.slice x_q1a n_q1a c_q1a) ∧ w'.cell? ⟨w.heap.size, 1, none⟩ = some (.slice x_q1b n_q1b c_q1b) ∧ w'.cell? ⟨w.heap.size, 2, none⟩ = some (.slice x_q1c n_q1c c_q1c) ∧ w'.cell? ⟨w.heap.size, 3, none⟩ = some (.int .i64 (l1).2.2.2.1) ∧ w'.cell? ⟨w.heap.size, 4, none⟩ = some (.int .i64 (l1).2.2.2.2) ∧ Below w.heap.size w w') _ from ⟨Row.kc KS1.out.1 hbb, Row.kc KS1.out.2.1 hbb, Row.kc KS1.out.2.2.1 hbb, Row.kc KS1.out.2.2.2.1 hbb, Row.kc KS1.out.2.2.2.2.1 hbb, Row.kc KS1.out.2.2.2.2.2.1 hbb, Row.kc KS1.out.2.2.2.2.2.2.1 hbb, Row.kc KS1.out.2.2.2.2.2.2.2.1 hbb, Row.kc KS1.out.2.2.2.2.2.2.2.2.1 hbb, Row.kc KS1.out.2.2.2.2.2.2.2.2.2.1 hbb, KS1.out.2.2.2.2.2.2.2.2.2.2.trans (hbb.mono KS1.out.2.2.2.2.2.2.2.2.2.2.size)⟩)) | (go_at_call 13; refine (Row.toDK _ l1 _ (Q1.out.on BB.out) (by omega)).mono ?_; rintro e w7 ⟨v5, rfl, hoa, hba⟩; obtain ⟨x_v5a, n_v5a, c_v5a, x_v5b, n_v5b, c_v5b, x_v5c, n_v5c, c_v5c, rfl, hoa⟩ := Row.kD_shape hoa; have KS1 := Lib.hid (show (fun w' => w'.cell? ⟨w4.heap.size, 0, none⟩ = some (.slice x_v3a n_v3a c_v3a) ∧ w'.cell? ⟨w4.heap.size, 1, none⟩ = some (.slice x_v3b n_v3b c_v3b) ∧ w'.cell? ⟨w4.heap.size, 2, none⟩ = some (.slice x_v3c n_v3c c_v3c) ∧ w'.cell? ⟨w4.heap.size, 3, none⟩ = some (.int .i64 (l1).2.2.2.1) ∧ w'.cell? ⟨w4.heap.size, 4, none⟩ = some (.int .i64 (l1).2.2.2.2) ∧ w'.cell? ⟨w.heap.size, 0, none⟩ = some (.slice x_q1a n_q1a c_q1a) ∧ w'.cell? ⟨w.heap.size, 1, none⟩ = some (.slice x_q1b n_q1b c_q1b) ∧ w'.cell? ⟨w.heap.size, 2, none⟩ = some (.slice x_q1c n_q1c c_q1c) ∧ w'.cell? ⟨w.heap.size, 3, none⟩ = some (.int .i64 (l1).2.2.2.1) ∧ w'.cell? ⟨w.heap.size, 4, none⟩ = some (.int .i64 (l1).2.2.2.2) ∧ Below w.heap.size w w') _ from ⟨Row.kc KS0.out.1 hba, Row.kc KS0.out.2.1 hba, Row.kc KS0.out.2.2.1 hba, Row.kc KS0.out.2.2.2.1 hba, Row.kc KS0.out.2.2.2.2.1 hba, Row.kc KS0.out.2.2.2.2.2.1 hba, Row.kc KS0.out.2.2.2.2.2.2.1 hba, Row.kc KS0.out.2.2.2.2.2.2.2.1 hba, Row.kc KS0.out.2.2.2.2.2.2.2.2.1 hba, Row.kc KS0.out.2.2.2.2.2.2.2.2.2.1 hba, KS0.out.2.2.2.2.2.2.2.2.2.2.trans (hba.mono KS0.out.2.2.2.2.2.2.2.2.2.2.size)⟩))))
    clear KS0 KS1 KS2 hoa
    replace C_aX := Lib.hid (C_aX.out.on hba)
    replace C_w0 := Lib.hid (C_w0.out.on hba)
    replace C_x1 := Lib.hid (C_x1.out.on hba)
    replace C_g0 := Lib.hid (C_g0.out.on hba)
    replace O_v2 := Lib.hid (O_v2.out.on hba)
    replace O_v3 := Lib.hid (O_v3.out.on hba)
    replace O_v4 := Lib.hid (O_v4.out.on hba)
    replace BB := Lib.hid (BB.out.trans (hba.mono BB.out.size))
    have S11 := Lib.hid (show w6.heap.size ≤ w7.heap.size from (by have h := hba.size; exact h))
    replace C_aX := Lib.hid (C_aX.out.on hbb)
    replace C_w0 := Lib.hid (C_w0.out.on hbb)
    replace C_x1 := Lib.hid (C_x1.out.on hbb)
    replace C_g0 := Lib.hid (C_g0.out.on hbb)
    replace O_v2 := Lib.hid (O_v2.out.on hbb)
    replace O_v3 := Lib.hid (O_v3.out.on hbb)
    replace O_v4 := Lib.hid (O_v4.out.on hbb)
    replace BB := Lib.hid (BB.out.trans (hbb.mono BB.out.size))
    have S12 := Lib.hid (show w7.heap.size ≤ w8.heap.size from (by have h := hbb.size; exact h))
    clear hba hbb
    have c0_aX : w8.cell? ⟨w.heap.size, 0, none⟩ = some (.slice x_q1a n_q1a c_q1a) := C_aX.out.cell 0
    have c1_aX : w8.cell? ⟨w.heap.size, 1, none⟩ = some (.slice x_q1b n_q1b c_q1b) := C_aX.out.cell 1
    have c2_aX : w8.cell? ⟨w.heap.size, 2, none⟩ = some (.slice x_q1c n_q1c c_q1c) := C_aX.out.cell 2
    have c3_aX : w8.cell? ⟨w.heap.size, 3, none⟩ = some (.int .i64 (l1).2.2.2.1) := C_aX.out.cell 3
    have c4_aX : w8.cell? ⟨w.heap.size, 4, none⟩ = some (.int .i64 (l1).2.2.2.2) := C_aX.out.cell 4
    have c0_w0 : w8.cell? ⟨w3.heap.size, 0, none⟩ = some (.slice x_v2a n_v2a c_v2a) := C_w0.out.cell 0
    have c1_w0 : w8.cell? ⟨w3.heap.size, 1, none⟩ = some (.slice x_v2b n_v2b c_v2b) := C_w0.out.cell 1
    have c2_w0 : w8.cell? ⟨w3.heap.size, 2, none⟩ = some (.slice x_v2c n_v2c c_v2c) := C_w0.out.cell 2
    have c3_w0 : w8.cell? ⟨w3.heap.size, 3, none⟩ = some (.int .i64 (Row.sgD a0 (l1)).2.2.2.1) := C_w0.out.cell 3
    have c4_w0 : w8.cell? ⟨w3.heap.size, 4, none⟩ = some (.int .i64 (Row.sgD a0 (l1)).2.2.2.2) := C_w0.out.cell 4
    have c0_x1 : w8.cell? ⟨w4.heap.size, 0, none⟩ = some (.slice x_v3a n_v3a c_v3a) := C_x1.out.cell 0
    have c1_x1 : w8.cell? ⟨w4.heap.size, 1, none⟩ = some (.slice x_v3b n_v3b c_v3b) := C_x1.out.cell 1
    have c2_x1 : w8.cell? ⟨w4.heap.size, 2, none⟩ = some (.slice x_v3c n_v3c c_v3c) := C_x1.out.cell 2
    have c3_x1 : w8.cell? ⟨w4.heap.size, 3, none⟩ = some (.int .i64 (l1).2.2.2.1) := C_x1.out.cell 3
    have c4_x1 : w8.cell? ⟨w4.heap.size, 4, none⟩ = some (.int .i64 (l1).2.2.2.2) := C_x1.out.cell 4
    have c0_g0 : w8.cell? ⟨w5.heap.size, 0, none⟩ = some (.slice x_v4a n_v4a c_v4a) := C_g0.out.cell 0
    have c1_g0 : w8.cell? ⟨w5.heap.size, 1, none⟩ = some (.slice x_v4b n_v4b c_v4b) := C_g0.out.cell 1
    have c2_g0 : w8.cell? ⟨w5.heap.size, 2, none⟩ = some (.slice x_v4c n_v4c c_v4c) := C_g0.out.cell 2
    have c3_g0 : w8.cell? ⟨w5.heap.size, 3, none⟩ = some (.int .i64 (Row.sgD a0 (l1)).2.2.2.1) := C_g0.out.cell 3
    have c4_g0 : w8.cell? ⟨w5.heap.size, 4, none⟩ = some (.int .i64 (Row.sgD a0 (l1)).2.2.2.2) := C_g0.out.cell 4
    go_wp2_with fail
    clear c0_aX c1_aX c2_aX c3_aX c4_aX c0_w0 c1_w0 c2_w0 c3_w0 c4_w0 c0_x1 c1_x1 c2_x1 c3_x1 c4_x1 c0_g0 c1_g0 c2_g0 c3_g0 c4_g0
    refine (Row.markDK _ _ _ (l1) _ (1) O_v3.out (by first | omega | (simp; omega) | (simp [Row.marks_length, Sl.marks_length, Row.mkW]; omega)) (by first | omega | (simp; omega) | (simp [Row.marks_length, Sl.marks_length, Row.mkW]; omega)) (by first | omega | (simp; omega) | (simp [Row.marks_length, Sl.marks_length, Row.mkW]; omega))).mono ?_
    rintro e w9 ⟨rfl, ho, hg⟩
    replace C_aX := Lib.hid (hg.blk C_aX.out (by have := S1.out; have := S2.out; have := S3.out; have := S4.out; have := S5.out; have := S6.out; have := S7.out; have := S8.out; have := S9.out; have := S10.out; have := S11.out; have := S12.out; omega))
    replace C_w0 := Lib.hid (hg.blk C_w0.out (by have := S1.out; have := S2.out; have := S3.out; have := S4.out; have := S5.out; have := S6.out; have := S7.out; have := S8.out; have := S9.out; have := S10.out; have := S11.out; have := S12.out; omega))
    replace C_x1 := Lib.hid (hg.blk C_x1.out (by have := S1.out; have := S2.out; have := S3.out; have := S4.out; have := S5.out; have := S6.out; have := S7.out; have := S8.out; have := S9.out; have := S10.out; have := S11.out; have := S12.out; omega))
    replace C_g0 := Lib.hid (hg.blk C_g0.out (by have := S1.out; have := S2.out; have := S3.out; have := S4.out; have := S5.out; have := S6.out; have := S7.out; have := S8.out; have := S9.out; have := S10.out; have := S11.out; have := S12.out; omega))
    replace O_v2 := Lib.hid (O_v2.out.wrote hg (by have := S1.out; have := S2.out; have := S3.out; have := S4.out; have := S5.out; have := S6.out; have := S7.out; have := S8.out; have := S9.out; have := S10.out; have := S11.out; have := S12.out; omega))
    replace O_v4 := Lib.hid (O_v4.out.wrote hg (by have := S1.out; have := S2.out; have := S3.out; have := S4.out; have := S5.out; have := S6.out; have := S7.out; have := S8.out; have := S9.out; have := S10.out; have := S11.out; have := S12.out; omega))
    replace BB := Lib.hid (hg.below BB.out BB.out.size (by have := S1.out; have := S2.out; have := S3.out; have := S4.out; have := S5.out; have := S6.out; have := S7.out; have := S8.out; have := S9.out; have := S10.out; have := S11.out; have := S12.out; omega))
    have S13 := Lib.hid (show w8.heap.size ≤ w9.heap.size from hg.size)
    replace O_v3 := Lib.hid ho; clear ho hg
    have c0_aX : w9.cell? ⟨w.heap.size, 0, none⟩ = some (.slice x_q1a n_q1a c_q1a) := C_aX.out.cell 0
    have c1_aX : w9.cell? ⟨w.heap.size, 1, none⟩ = some (.slice x_q1b n_q1b c_q1b) := C_aX.out.cell 1
    have c2_aX : w9.cell? ⟨w.heap.size, 2, none⟩ = some (.slice x_q1c n_q1c c_q1c) := C_aX.out.cell 2
    have c3_aX : w9.cell? ⟨w.heap.size, 3, none⟩ = some (.int .i64 (l1).2.2.2.1) := C_aX.out.cell 3
    have c4_aX : w9.cell? ⟨w.heap.size, 4, none⟩ = some (.int .i64 (l1).2.2.2.2) := C_aX.out.cell 4
    have c0_w0 : w9.cell? ⟨w3.heap.size, 0, none⟩ = some (.slice x_v2a n_v2a c_v2a) := C_w0.out.cell 0
    have c1_w0 : w9.cell? ⟨w3.heap.size, 1, none⟩ = some (.slice x_v2b n_v2b c_v2b) := C_w0.out.cell 1
    have c2_w0 : w9.cell? ⟨w3.heap.size, 2, none⟩ = some (.slice x_v2c n_v2c c_v2c) := C_w0.out.cell 2
    have c3_w0 : w9.cell? ⟨w3.heap.size, 3, none⟩ = some (.int .i64 (Row.sgD a0 (l1)).2.2.2.1) := C_w0.out.cell 3
    have c4_w0 : w9.cell? ⟨w3.heap.size, 4, none⟩ = some (.int .i64 (Row.sgD a0 (l1)).2.2.2.2) := C_w0.out.cell 4
    have c0_x1 : w9.cell? ⟨w4.heap.size, 0, none⟩ = some (.slice x_v3a n_v3a c_v3a) := C_x1.out.cell 0
    have c1_x1 : w9.cell? ⟨w4.heap.size, 1, none⟩ = some (.slice x_v3b n_v3b c_v3b) := C_x1.out.cell 1
    have c2_x1 : w9.cell? ⟨w4.heap.size, 2, none⟩ = some (.slice x_v3c n_v3c c_v3c) := C_x1.out.cell 2
    have c3_x1 : w9.cell? ⟨w4.heap.size, 3, none⟩ = some (.int .i64 (l1).2.2.2.1) := C_x1.out.cell 3
    have c4_x1 : w9.cell? ⟨w4.heap.size, 4, none⟩ = some (.int .i64 (l1).2.2.2.2) := C_x1.out.cell 4
    have c0_g0 : w9.cell? ⟨w5.heap.size, 0, none⟩ = some (.slice x_v4a n_v4a c_v4a) := C_g0.out.cell 0
    have c1_g0 : w9.cell? ⟨w5.heap.size, 1, none⟩ = some (.slice x_v4b n_v4b c_v4b) := C_g0.out.cell 1
    have c2_g0 : w9.cell? ⟨w5.heap.size, 2, none⟩ = some (.slice x_v4c n_v4c c_v4c) := C_g0.out.cell 2
    have c3_g0 : w9.cell? ⟨w5.heap.size, 3, none⟩ = some (.int .i64 (Row.sgD a0 (l1)).2.2.2.1) := C_g0.out.cell 3
    have c4_g0 : w9.cell? ⟨w5.heap.size, 4, none⟩ = some (.int .i64 (Row.sgD a0 (l1)).2.2.2.2) := C_g0.out.cell 4
    go_wp2_with fail
    clear c0_aX c1_aX c2_aX c3_aX c4_aX c0_w0 c1_w0 c2_w0 c3_w0 c4_w0 c0_x1 c1_x1 c2_x1 c3_x1 c4_x1 c0_g0 c1_g0 c2_g0 c3_g0 c4_g0
    refine (Row.sameDK _ _ (Row.sgD a0 (l1)) _ (O_v4.out.at) (O_v2.out.at) (by first | omega | (simp; omega) | (simp [Row.marks_length, Sl.marks_length, Row.mkW]; omega))).mono ?_
    rintro e w10 ⟨rfl, hb⟩
    replace C_aX := Lib.hid (C_aX.out.on hb)
    replace C_w0 := Lib.hid (C_w0.out.on hb)
    replace C_x1 := Lib.hid (C_x1.out.on hb)
    replace C_g0 := Lib.hid (C_g0.out.on hb)
    replace O_v2 := Lib.hid (O_v2.out.on hb)
    replace O_v3 := Lib.hid (O_v3.out.on hb)
    replace O_v4 := Lib.hid (O_v4.out.on hb)
    replace BB := Lib.hid (BB.out.trans (hb.mono BB.out.size))
    have S14 := Lib.hid (show w9.heap.size ≤ w10.heap.size from (by have h := hb.size; exact h))
    clear hb
    have c0_aX : w10.cell? ⟨w.heap.size, 0, none⟩ = some (.slice x_q1a n_q1a c_q1a) := C_aX.out.cell 0
    have c1_aX : w10.cell? ⟨w.heap.size, 1, none⟩ = some (.slice x_q1b n_q1b c_q1b) := C_aX.out.cell 1
    have c2_aX : w10.cell? ⟨w.heap.size, 2, none⟩ = some (.slice x_q1c n_q1c c_q1c) := C_aX.out.cell 2
    have c3_aX : w10.cell? ⟨w.heap.size, 3, none⟩ = some (.int .i64 (l1).2.2.2.1) := C_aX.out.cell 3
    have c4_aX : w10.cell? ⟨w.heap.size, 4, none⟩ = some (.int .i64 (l1).2.2.2.2) := C_aX.out.cell 4
    have c0_w0 : w10.cell? ⟨w3.heap.size, 0, none⟩ = some (.slice x_v2a n_v2a c_v2a) := C_w0.out.cell 0
    have c1_w0 : w10.cell? ⟨w3.heap.size, 1, none⟩ = some (.slice x_v2b n_v2b c_v2b) := C_w0.out.cell 1
    have c2_w0 : w10.cell? ⟨w3.heap.size, 2, none⟩ = some (.slice x_v2c n_v2c c_v2c) := C_w0.out.cell 2
    have c3_w0 : w10.cell? ⟨w3.heap.size, 3, none⟩ = some (.int .i64 (Row.sgD a0 (l1)).2.2.2.1) := C_w0.out.cell 3
    have c4_w0 : w10.cell? ⟨w3.heap.size, 4, none⟩ = some (.int .i64 (Row.sgD a0 (l1)).2.2.2.2) := C_w0.out.cell 4
    have c0_x1 : w10.cell? ⟨w4.heap.size, 0, none⟩ = some (.slice x_v3a n_v3a c_v3a) := C_x1.out.cell 0
    have c1_x1 : w10.cell? ⟨w4.heap.size, 1, none⟩ = some (.slice x_v3b n_v3b c_v3b) := C_x1.out.cell 1
    have c2_x1 : w10.cell? ⟨w4.heap.size, 2, none⟩ = some (.slice x_v3c n_v3c c_v3c) := C_x1.out.cell 2
    have c3_x1 : w10.cell? ⟨w4.heap.size, 3, none⟩ = some (.int .i64 (l1).2.2.2.1) := C_x1.out.cell 3
    have c4_x1 : w10.cell? ⟨w4.heap.size, 4, none⟩ = some (.int .i64 (l1).2.2.2.2) := C_x1.out.cell 4
    have c0_g0 : w10.cell? ⟨w5.heap.size, 0, none⟩ = some (.slice x_v4a n_v4a c_v4a) := C_g0.out.cell 0
    have c1_g0 : w10.cell? ⟨w5.heap.size, 1, none⟩ = some (.slice x_v4b n_v4b c_v4b) := C_g0.out.cell 1
    have c2_g0 : w10.cell? ⟨w5.heap.size, 2, none⟩ = some (.slice x_v4c n_v4c c_v4c) := C_g0.out.cell 2
    have c3_g0 : w10.cell? ⟨w5.heap.size, 3, none⟩ = some (.int .i64 (Row.sgD a0 (l1)).2.2.2.1) := C_g0.out.cell 3
    have c4_g0 : w10.cell? ⟨w5.heap.size, 4, none⟩ = some (.int .i64 (Row.sgD a0 (l1)).2.2.2.2) := C_g0.out.cell 4
    go_wp2_with fail
    clear c0_aX c1_aX c2_aX c3_aX c4_aX c0_w0 c1_w0 c2_w0 c3_w0 c4_w0 c0_x1 c1_x1 c2_x1 c3_x1 c4_x1 c0_g0 c1_g0 c2_g0 c3_g0 c4_g0
    refine (Row.markDK _ _ _ (Row.sgD a0 (l1)) _ (1) O_v4.out (by first | omega | (simp; omega) | (simp [Row.marks_length, Sl.marks_length, Row.mkW]; omega)) (by first | omega | (simp; omega) | (simp [Row.marks_length, Sl.marks_length, Row.mkW]; omega)) (by first | omega | (simp; omega) | (simp [Row.marks_length, Sl.marks_length, Row.mkW]; omega))).mono ?_
    rintro e w11 ⟨rfl, ho, hg⟩
    replace C_aX := Lib.hid (hg.blk C_aX.out (by have := S1.out; have := S2.out; have := S3.out; have := S4.out; have := S5.out; have := S6.out; have := S7.out; have := S8.out; have := S9.out; have := S10.out; have := S11.out; have := S12.out; have := S13.out; have := S14.out; omega))
    replace C_w0 := Lib.hid (hg.blk C_w0.out (by have := S1.out; have := S2.out; have := S3.out; have := S4.out; have := S5.out; have := S6.out; have := S7.out; have := S8.out; have := S9.out; have := S10.out; have := S11.out; have := S12.out; have := S13.out; have := S14.out; omega))
    replace C_x1 := Lib.hid (hg.blk C_x1.out (by have := S1.out; have := S2.out; have := S3.out; have := S4.out; have := S5.out; have := S6.out; have := S7.out; have := S8.out; have := S9.out; have := S10.out; have := S11.out; have := S12.out; have := S13.out; have := S14.out; omega))
    replace C_g0 := Lib.hid (hg.blk C_g0.out (by have := S1.out; have := S2.out; have := S3.out; have := S4.out; have := S5.out; have := S6.out; have := S7.out; have := S8.out; have := S9.out; have := S10.out; have := S11.out; have := S12.out; have := S13.out; have := S14.out; omega))
    replace O_v2 := Lib.hid (O_v2.out.wrote hg (by have := S1.out; have := S2.out; have := S3.out; have := S4.out; have := S5.out; have := S6.out; have := S7.out; have := S8.out; have := S9.out; have := S10.out; have := S11.out; have := S12.out; have := S13.out; have := S14.out; omega))
    replace O_v3 := Lib.hid (O_v3.out.wrote hg (by have := S1.out; have := S2.out; have := S3.out; have := S4.out; have := S5.out; have := S6.out; have := S7.out; have := S8.out; have := S9.out; have := S10.out; have := S11.out; have := S12.out; have := S13.out; have := S14.out; omega))
    replace BB := Lib.hid (hg.below BB.out BB.out.size (by have := S1.out; have := S2.out; have := S3.out; have := S4.out; have := S5.out; have := S6.out; have := S7.out; have := S8.out; have := S9.out; have := S10.out; have := S11.out; have := S12.out; have := S13.out; have := S14.out; omega))
    have S15 := Lib.hid (show w10.heap.size ≤ w11.heap.size from hg.size)
    replace O_v4 := Lib.hid ho; clear ho hg
    have c0_aX : w11.cell? ⟨w.heap.size, 0, none⟩ = some (.slice x_q1a n_q1a c_q1a) := C_aX.out.cell 0
    have c1_aX : w11.cell? ⟨w.heap.size, 1, none⟩ = some (.slice x_q1b n_q1b c_q1b) := C_aX.out.cell 1
    have c2_aX : w11.cell? ⟨w.heap.size, 2, none⟩ = some (.slice x_q1c n_q1c c_q1c) := C_aX.out.cell 2
    have c3_aX : w11.cell? ⟨w.heap.size, 3, none⟩ = some (.int .i64 (l1).2.2.2.1) := C_aX.out.cell 3
    have c4_aX : w11.cell? ⟨w.heap.size, 4, none⟩ = some (.int .i64 (l1).2.2.2.2) := C_aX.out.cell 4
    have c0_w0 : w11.cell? ⟨w3.heap.size, 0, none⟩ = some (.slice x_v2a n_v2a c_v2a) := C_w0.out.cell 0
    have c1_w0 : w11.cell? ⟨w3.heap.size, 1, none⟩ = some (.slice x_v2b n_v2b c_v2b) := C_w0.out.cell 1
    have c2_w0 : w11.cell? ⟨w3.heap.size, 2, none⟩ = some (.slice x_v2c n_v2c c_v2c) := C_w0.out.cell 2
    have c3_w0 : w11.cell? ⟨w3.heap.size, 3, none⟩ = some (.int .i64 (Row.sgD a0 (l1)).2.2.2.1) := C_w0.out.cell 3
    have c4_w0 : w11.cell? ⟨w3.heap.size, 4, none⟩ = some (.int .i64 (Row.sgD a0 (l1)).2.2.2.2) := C_w0.out.cell 4
    have c0_x1 : w11.cell? ⟨w4.heap.size, 0, none⟩ = some (.slice x_v3a n_v3a c_v3a) := C_x1.out.cell 0
    have c1_x1 : w11.cell? ⟨w4.heap.size, 1, none⟩ = some (.slice x_v3b n_v3b c_v3b) := C_x1.out.cell 1
    have c2_x1 : w11.cell? ⟨w4.heap.size, 2, none⟩ = some (.slice x_v3c n_v3c c_v3c) := C_x1.out.cell 2
    have c3_x1 : w11.cell? ⟨w4.heap.size, 3, none⟩ = some (.int .i64 (l1).2.2.2.1) := C_x1.out.cell 3
    have c4_x1 : w11.cell? ⟨w4.heap.size, 4, none⟩ = some (.int .i64 (l1).2.2.2.2) := C_x1.out.cell 4
    have c0_g0 : w11.cell? ⟨w5.heap.size, 0, none⟩ = some (.slice x_v4a n_v4a c_v4a) := C_g0.out.cell 0
    have c1_g0 : w11.cell? ⟨w5.heap.size, 1, none⟩ = some (.slice x_v4b n_v4b c_v4b) := C_g0.out.cell 1
    have c2_g0 : w11.cell? ⟨w5.heap.size, 2, none⟩ = some (.slice x_v4c n_v4c c_v4c) := C_g0.out.cell 2
    have c3_g0 : w11.cell? ⟨w5.heap.size, 3, none⟩ = some (.int .i64 (Row.sgD a0 (l1)).2.2.2.1) := C_g0.out.cell 3
    have c4_g0 : w11.cell? ⟨w5.heap.size, 4, none⟩ = some (.int .i64 (Row.sgD a0 (l1)).2.2.2.2) := C_g0.out.cell 4
    go_wp2_with fail
    clear c0_aX c1_aX c2_aX c3_aX c4_aX c0_w0 c1_w0 c2_w0 c3_w0 c4_w0 c0_x1 c1_x1 c2_x1 c3_x1 c4_x1 c0_g0 c1_g0 c2_g0 c3_g0 c4_g0
    refine (Row.heldDK _ _ (1) (Row.sgD a0 (l1)) (O_v4.out.at) (by first | omega | (simp; omega) | (simp [Row.marks_length, Sl.marks_length, Row.mkW]; omega)) (by first | omega | (simp; omega) | (simp [Row.marks_length, Sl.marks_length, Row.mkW]; omega)) (by first | omega | (simp; omega) | (simp [Row.marks_length, Sl.marks_length, Row.mkW]; omega))).mono ?_
    rintro e w12 ⟨rfl, hb⟩
    replace C_aX := Lib.hid (C_aX.out.on hb)
    replace C_w0 := Lib.hid (C_w0.out.on hb)
    replace C_x1 := Lib.hid (C_x1.out.on hb)
    replace C_g0 := Lib.hid (C_g0.out.on hb)
    replace O_v2 := Lib.hid (O_v2.out.on hb)
    replace O_v3 := Lib.hid (O_v3.out.on hb)
    replace O_v4 := Lib.hid (O_v4.out.on hb)
    replace BB := Lib.hid (BB.out.trans (hb.mono BB.out.size))
    have S16 := Lib.hid (show w11.heap.size ≤ w12.heap.size from (by have h := hb.size; exact h))
    clear hb
    have c0_aX : w12.cell? ⟨w.heap.size, 0, none⟩ = some (.slice x_q1a n_q1a c_q1a) := C_aX.out.cell 0
    have c1_aX : w12.cell? ⟨w.heap.size, 1, none⟩ = some (.slice x_q1b n_q1b c_q1b) := C_aX.out.cell 1
    have c2_aX : w12.cell? ⟨w.heap.size, 2, none⟩ = some (.slice x_q1c n_q1c c_q1c) := C_aX.out.cell 2
    have c3_aX : w12.cell? ⟨w.heap.size, 3, none⟩ = some (.int .i64 (l1).2.2.2.1) := C_aX.out.cell 3
    have c4_aX : w12.cell? ⟨w.heap.size, 4, none⟩ = some (.int .i64 (l1).2.2.2.2) := C_aX.out.cell 4
    have c0_w0 : w12.cell? ⟨w3.heap.size, 0, none⟩ = some (.slice x_v2a n_v2a c_v2a) := C_w0.out.cell 0
    have c1_w0 : w12.cell? ⟨w3.heap.size, 1, none⟩ = some (.slice x_v2b n_v2b c_v2b) := C_w0.out.cell 1
    have c2_w0 : w12.cell? ⟨w3.heap.size, 2, none⟩ = some (.slice x_v2c n_v2c c_v2c) := C_w0.out.cell 2
    have c3_w0 : w12.cell? ⟨w3.heap.size, 3, none⟩ = some (.int .i64 (Row.sgD a0 (l1)).2.2.2.1) := C_w0.out.cell 3
    have c4_w0 : w12.cell? ⟨w3.heap.size, 4, none⟩ = some (.int .i64 (Row.sgD a0 (l1)).2.2.2.2) := C_w0.out.cell 4
    have c0_x1 : w12.cell? ⟨w4.heap.size, 0, none⟩ = some (.slice x_v3a n_v3a c_v3a) := C_x1.out.cell 0
    have c1_x1 : w12.cell? ⟨w4.heap.size, 1, none⟩ = some (.slice x_v3b n_v3b c_v3b) := C_x1.out.cell 1
    have c2_x1 : w12.cell? ⟨w4.heap.size, 2, none⟩ = some (.slice x_v3c n_v3c c_v3c) := C_x1.out.cell 2
    have c3_x1 : w12.cell? ⟨w4.heap.size, 3, none⟩ = some (.int .i64 (l1).2.2.2.1) := C_x1.out.cell 3
    have c4_x1 : w12.cell? ⟨w4.heap.size, 4, none⟩ = some (.int .i64 (l1).2.2.2.2) := C_x1.out.cell 4
    have c0_g0 : w12.cell? ⟨w5.heap.size, 0, none⟩ = some (.slice x_v4a n_v4a c_v4a) := C_g0.out.cell 0
    have c1_g0 : w12.cell? ⟨w5.heap.size, 1, none⟩ = some (.slice x_v4b n_v4b c_v4b) := C_g0.out.cell 1
    have c2_g0 : w12.cell? ⟨w5.heap.size, 2, none⟩ = some (.slice x_v4c n_v4c c_v4c) := C_g0.out.cell 2
    have c3_g0 : w12.cell? ⟨w5.heap.size, 3, none⟩ = some (.int .i64 (Row.sgD a0 (l1)).2.2.2.1) := C_g0.out.cell 3
    have c4_g0 : w12.cell? ⟨w5.heap.size, 4, none⟩ = some (.int .i64 (Row.sgD a0 (l1)).2.2.2.2) := C_g0.out.cell 4
    go_wp2_with fail
    clear c0_aX c1_aX c2_aX c3_aX c4_aX c0_w0 c1_w0 c2_w0 c3_w0 c4_w0 c0_x1 c1_x1 c2_x1 c3_x1 c4_x1 c0_g0 c1_g0 c2_g0 c3_g0 c4_g0
    refine (Row.toDK _ l1 _ (Q1.out.on BB.out) (by omega)).mono ?_
    rintro e w13 ⟨v6, rfl, ho, hb⟩
    obtain ⟨x_v6a, n_v6a, c_v6a, x_v6b, n_v6b, c_v6b, x_v6c, n_v6c, c_v6c, rfl, ho⟩ := Row.kD_shape ho
    replace C_aX := Lib.hid (C_aX.out.on hb)
    replace C_w0 := Lib.hid (C_w0.out.on hb)
    replace C_x1 := Lib.hid (C_x1.out.on hb)
    replace C_g0 := Lib.hid (C_g0.out.on hb)
    replace O_v2 := Lib.hid (O_v2.out.on hb)
    replace O_v3 := Lib.hid (O_v3.out.on hb)
    replace O_v4 := Lib.hid (O_v4.out.on hb)
    replace BB := Lib.hid (BB.out.trans (hb.mono BB.out.size))
    have S17 := Lib.hid (show w12.heap.size ≤ w13.heap.size from (by have h := hb.size; exact h))
    have O_v6 := Lib.hid (show Row.kD.In w12.heap.size w13.heap.size w13 (.agg #[.slice x_v6a n_v6a c_v6a, .slice x_v6b n_v6b c_v6b, .slice x_v6c n_v6c c_v6c, .int .i64 (l1).2.2.2.1, .int .i64 (l1).2.2.2.2]) (l1) from ho); clear ho
    clear hb
    have c0_aX : w13.cell? ⟨w.heap.size, 0, none⟩ = some (.slice x_q1a n_q1a c_q1a) := C_aX.out.cell 0
    have c1_aX : w13.cell? ⟨w.heap.size, 1, none⟩ = some (.slice x_q1b n_q1b c_q1b) := C_aX.out.cell 1
    have c2_aX : w13.cell? ⟨w.heap.size, 2, none⟩ = some (.slice x_q1c n_q1c c_q1c) := C_aX.out.cell 2
    have c3_aX : w13.cell? ⟨w.heap.size, 3, none⟩ = some (.int .i64 (l1).2.2.2.1) := C_aX.out.cell 3
    have c4_aX : w13.cell? ⟨w.heap.size, 4, none⟩ = some (.int .i64 (l1).2.2.2.2) := C_aX.out.cell 4
    have c0_w0 : w13.cell? ⟨w3.heap.size, 0, none⟩ = some (.slice x_v2a n_v2a c_v2a) := C_w0.out.cell 0
    have c1_w0 : w13.cell? ⟨w3.heap.size, 1, none⟩ = some (.slice x_v2b n_v2b c_v2b) := C_w0.out.cell 1
    have c2_w0 : w13.cell? ⟨w3.heap.size, 2, none⟩ = some (.slice x_v2c n_v2c c_v2c) := C_w0.out.cell 2
    have c3_w0 : w13.cell? ⟨w3.heap.size, 3, none⟩ = some (.int .i64 (Row.sgD a0 (l1)).2.2.2.1) := C_w0.out.cell 3
    have c4_w0 : w13.cell? ⟨w3.heap.size, 4, none⟩ = some (.int .i64 (Row.sgD a0 (l1)).2.2.2.2) := C_w0.out.cell 4
    have c0_x1 : w13.cell? ⟨w4.heap.size, 0, none⟩ = some (.slice x_v3a n_v3a c_v3a) := C_x1.out.cell 0
    have c1_x1 : w13.cell? ⟨w4.heap.size, 1, none⟩ = some (.slice x_v3b n_v3b c_v3b) := C_x1.out.cell 1
    have c2_x1 : w13.cell? ⟨w4.heap.size, 2, none⟩ = some (.slice x_v3c n_v3c c_v3c) := C_x1.out.cell 2
    have c3_x1 : w13.cell? ⟨w4.heap.size, 3, none⟩ = some (.int .i64 (l1).2.2.2.1) := C_x1.out.cell 3
    have c4_x1 : w13.cell? ⟨w4.heap.size, 4, none⟩ = some (.int .i64 (l1).2.2.2.2) := C_x1.out.cell 4
    have c0_g0 : w13.cell? ⟨w5.heap.size, 0, none⟩ = some (.slice x_v4a n_v4a c_v4a) := C_g0.out.cell 0
    have c1_g0 : w13.cell? ⟨w5.heap.size, 1, none⟩ = some (.slice x_v4b n_v4b c_v4b) := C_g0.out.cell 1
    have c2_g0 : w13.cell? ⟨w5.heap.size, 2, none⟩ = some (.slice x_v4c n_v4c c_v4c) := C_g0.out.cell 2
    have c3_g0 : w13.cell? ⟨w5.heap.size, 3, none⟩ = some (.int .i64 (Row.sgD a0 (l1)).2.2.2.1) := C_g0.out.cell 3
    have c4_g0 : w13.cell? ⟨w5.heap.size, 4, none⟩ = some (.int .i64 (Row.sgD a0 (l1)).2.2.2.2) := C_g0.out.cell 4
    go_wp2_with fail
    clear c0_aX c1_aX c2_aX c3_aX c4_aX c0_w0 c1_w0 c2_w0 c3_w0 c4_w0 c0_x1 c1_x1 c2_x1 c3_x1 c4_x1 c0_g0 c1_g0 c2_g0 c3_g0 c4_g0
    have f3 := Row.sgD_adv a0 (l1)
    refine (Row.implSignDataK _ a0 (l1) _ (O_v6.out.at) N1.out (by omega)).mono ?_
    rintro e w14 ⟨v7, rfl, ho, hb⟩
    obtain ⟨x_v7a, n_v7a, c_v7a, x_v7b, n_v7b, c_v7b, x_v7c, n_v7c, c_v7c, rfl, ho⟩ := Row.kD_shape ho
    replace C_aX := Lib.hid (C_aX.out.on hb)
    replace C_w0 := Lib.hid (C_w0.out.on hb)
    replace C_x1 := Lib.hid (C_x1.out.on hb)
    replace C_g0 := Lib.hid (C_g0.out.on hb)
    replace O_v2 := Lib.hid (O_v2.out.on hb)
    replace O_v3 := Lib.hid (O_v3.out.on hb)
    replace O_v4 := Lib.hid (O_v4.out.on hb)
    replace O_v6 := Lib.hid (O_v6.out.on hb)
    replace BB := Lib.hid (BB.out.trans (hb.mono BB.out.size))
    have S18 := Lib.hid (show w13.heap.size ≤ w14.heap.size from (by have h := hb.size; exact h))
    have O_v7 := Lib.hid (show Row.kD.In w13.heap.size w14.heap.size w14 (.agg #[.slice x_v7a n_v7a c_v7a, .slice x_v7b n_v7b c_v7b, .slice x_v7c n_v7c c_v7c, .int .i64 (Row.sgD a0 (l1)).2.2.2.1, .int .i64 (Row.sgD a0 (l1)).2.2.2.2]) (Row.sgD a0 (l1)) from ho); clear ho
    clear hb
    have hal := (Below.refl w14.heap.size w14).alloc (Nat.le_refl _) (.cells #[.slice x_v7a n_v7a c_v7a, .slice x_v7b n_v7b c_v7b, .slice x_v7c n_v7c c_v7c, .int .i64 (Row.sgD a0 (l1)).2.2.2.1, .int .i64 (Row.sgD a0 (l1)).2.2.2.2] 32)
    replace C_aX := Lib.hid (C_aX.out.on hal)
    replace C_w0 := Lib.hid (C_w0.out.on hal)
    replace C_x1 := Lib.hid (C_x1.out.on hal)
    replace C_g0 := Lib.hid (C_g0.out.on hal)
    replace O_v2 := Lib.hid (O_v2.out.on hal)
    replace O_v3 := Lib.hid (O_v3.out.on hal)
    replace O_v4 := Lib.hid (O_v4.out.on hal)
    replace O_v6 := Lib.hid (O_v6.out.on hal)
    replace O_v7 := Lib.hid (O_v7.out.on hal)
    replace BB := Lib.hid (BB.out.trans (hal.mono BB.out.size))
    have S19 := Lib.hid (show (w14.alloc (.cells #[.slice x_v7a n_v7a c_v7a, .slice x_v7b n_v7b c_v7b, .slice x_v7c n_v7c c_v7c, .int .i64 (Row.sgD a0 (l1)).2.2.2.1, .int .i64 (Row.sgD a0 (l1)).2.2.2.2] 32)).heap.size = w14.heap.size + 1 from World.size_alloc _ _)
    have C_h0 := Lib.hid (Ret.Blk.new w14 #[.slice x_v7a n_v7a c_v7a, .slice x_v7b n_v7b c_v7b, .slice x_v7c n_v7c c_v7c, .int .i64 (Row.sgD a0 (l1)).2.2.2.1, .int .i64 (Row.sgD a0 (l1)).2.2.2.2] 32); clear hal
    have c0_aX : (w14.alloc (.cells #[.slice x_v7a n_v7a c_v7a, .slice x_v7b n_v7b c_v7b, .slice x_v7c n_v7c c_v7c, .int .i64 (Row.sgD a0 (l1)).2.2.2.1, .int .i64 (Row.sgD a0 (l1)).2.2.2.2] 32)).cell? ⟨w.heap.size, 0, none⟩ = some (.slice x_q1a n_q1a c_q1a) := C_aX.out.cell 0
    have c1_aX : (w14.alloc (.cells #[.slice x_v7a n_v7a c_v7a, .slice x_v7b n_v7b c_v7b, .slice x_v7c n_v7c c_v7c, .int .i64 (Row.sgD a0 (l1)).2.2.2.1, .int .i64 (Row.sgD a0 (l1)).2.2.2.2] 32)).cell? ⟨w.heap.size, 1, none⟩ = some (.slice x_q1b n_q1b c_q1b) := C_aX.out.cell 1
    have c2_aX : (w14.alloc (.cells #[.slice x_v7a n_v7a c_v7a, .slice x_v7b n_v7b c_v7b, .slice x_v7c n_v7c c_v7c, .int .i64 (Row.sgD a0 (l1)).2.2.2.1, .int .i64 (Row.sgD a0 (l1)).2.2.2.2] 32)).cell? ⟨w.heap.size, 2, none⟩ = some (.slice x_q1c n_q1c c_q1c) := C_aX.out.cell 2
    have c3_aX : (w14.alloc (.cells #[.slice x_v7a n_v7a c_v7a, .slice x_v7b n_v7b c_v7b, .slice x_v7c n_v7c c_v7c, .int .i64 (Row.sgD a0 (l1)).2.2.2.1, .int .i64 (Row.sgD a0 (l1)).2.2.2.2] 32)).cell? ⟨w.heap.size, 3, none⟩ = some (.int .i64 (l1).2.2.2.1) := C_aX.out.cell 3
    have c4_aX : (w14.alloc (.cells #[.slice x_v7a n_v7a c_v7a, .slice x_v7b n_v7b c_v7b, .slice x_v7c n_v7c c_v7c, .int .i64 (Row.sgD a0 (l1)).2.2.2.1, .int .i64 (Row.sgD a0 (l1)).2.2.2.2] 32)).cell? ⟨w.heap.size, 4, none⟩ = some (.int .i64 (l1).2.2.2.2) := C_aX.out.cell 4
    have c0_w0 : (w14.alloc (.cells #[.slice x_v7a n_v7a c_v7a, .slice x_v7b n_v7b c_v7b, .slice x_v7c n_v7c c_v7c, .int .i64 (Row.sgD a0 (l1)).2.2.2.1, .int .i64 (Row.sgD a0 (l1)).2.2.2.2] 32)).cell? ⟨w3.heap.size, 0, none⟩ = some (.slice x_v2a n_v2a c_v2a) := C_w0.out.cell 0
    have c1_w0 : (w14.alloc (.cells #[.slice x_v7a n_v7a c_v7a, .slice x_v7b n_v7b c_v7b, .slice x_v7c n_v7c c_v7c, .int .i64 (Row.sgD a0 (l1)).2.2.2.1, .int .i64 (Row.sgD a0 (l1)).2.2.2.2] 32)).cell? ⟨w3.heap.size, 1, none⟩ = some (.slice x_v2b n_v2b c_v2b) := C_w0.out.cell 1
    have c2_w0 : (w14.alloc (.cells #[.slice x_v7a n_v7a c_v7a, .slice x_v7b n_v7b c_v7b, .slice x_v7c n_v7c c_v7c, .int .i64 (Row.sgD a0 (l1)).2.2.2.1, .int .i64 (Row.sgD a0 (l1)).2.2.2.2] 32)).cell? ⟨w3.heap.size, 2, none⟩ = some (.slice x_v2c n_v2c c_v2c) := C_w0.out.cell 2
    have c3_w0 : (w14.alloc (.cells #[.slice x_v7a n_v7a c_v7a, .slice x_v7b n_v7b c_v7b, .slice x_v7c n_v7c c_v7c, .int .i64 (Row.sgD a0 (l1)).2.2.2.1, .int .i64 (Row.sgD a0 (l1)).2.2.2.2] 32)).cell? ⟨w3.heap.size, 3, none⟩ = some (.int .i64 (Row.sgD a0 (l1)).2.2.2.1) := C_w0.out.cell 3
    have c4_w0 : (w14.alloc (.cells #[.slice x_v7a n_v7a c_v7a, .slice x_v7b n_v7b c_v7b, .slice x_v7c n_v7c c_v7c, .int .i64 (Row.sgD a0 (l1)).2.2.2.1, .int .i64 (Row.sgD a0 (l1)).2.2.2.2] 32)).cell? ⟨w3.heap.size, 4, none⟩ = some (.int .i64 (Row.sgD a0 (l1)).2.2.2.2) := C_w0.out.cell 4
    have c0_x1 : (w14.alloc (.cells #[.slice x_v7a n_v7a c_v7a, .slice x_v7b n_v7b c_v7b, .slice x_v7c n_v7c c_v7c, .int .i64 (Row.sgD a0 (l1)).2.2.2.1, .int .i64 (Row.sgD a0 (l1)).2.2.2.2] 32)).cell? ⟨w4.heap.size, 0, none⟩ = some (.slice x_v3a n_v3a c_v3a) := C_x1.out.cell 0
    have c1_x1 : (w14.alloc (.cells #[.slice x_v7a n_v7a c_v7a, .slice x_v7b n_v7b c_v7b, .slice x_v7c n_v7c c_v7c, .int .i64 (Row.sgD a0 (l1)).2.2.2.1, .int .i64 (Row.sgD a0 (l1)).2.2.2.2] 32)).cell? ⟨w4.heap.size, 1, none⟩ = some (.slice x_v3b n_v3b c_v3b) := C_x1.out.cell 1
    have c2_x1 : (w14.alloc (.cells #[.slice x_v7a n_v7a c_v7a, .slice x_v7b n_v7b c_v7b, .slice x_v7c n_v7c c_v7c, .int .i64 (Row.sgD a0 (l1)).2.2.2.1, .int .i64 (Row.sgD a0 (l1)).2.2.2.2] 32)).cell? ⟨w4.heap.size, 2, none⟩ = some (.slice x_v3c n_v3c c_v3c) := C_x1.out.cell 2
    have c3_x1 : (w14.alloc (.cells #[.slice x_v7a n_v7a c_v7a, .slice x_v7b n_v7b c_v7b, .slice x_v7c n_v7c c_v7c, .int .i64 (Row.sgD a0 (l1)).2.2.2.1, .int .i64 (Row.sgD a0 (l1)).2.2.2.2] 32)).cell? ⟨w4.heap.size, 3, none⟩ = some (.int .i64 (l1).2.2.2.1) := C_x1.out.cell 3
    have c4_x1 : (w14.alloc (.cells #[.slice x_v7a n_v7a c_v7a, .slice x_v7b n_v7b c_v7b, .slice x_v7c n_v7c c_v7c, .int .i64 (Row.sgD a0 (l1)).2.2.2.1, .int .i64 (Row.sgD a0 (l1)).2.2.2.2] 32)).cell? ⟨w4.heap.size, 4, none⟩ = some (.int .i64 (l1).2.2.2.2) := C_x1.out.cell 4
    have c0_g0 : (w14.alloc (.cells #[.slice x_v7a n_v7a c_v7a, .slice x_v7b n_v7b c_v7b, .slice x_v7c n_v7c c_v7c, .int .i64 (Row.sgD a0 (l1)).2.2.2.1, .int .i64 (Row.sgD a0 (l1)).2.2.2.2] 32)).cell? ⟨w5.heap.size, 0, none⟩ = some (.slice x_v4a n_v4a c_v4a) := C_g0.out.cell 0
    have c1_g0 : (w14.alloc (.cells #[.slice x_v7a n_v7a c_v7a, .slice x_v7b n_v7b c_v7b, .slice x_v7c n_v7c c_v7c, .int .i64 (Row.sgD a0 (l1)).2.2.2.1, .int .i64 (Row.sgD a0 (l1)).2.2.2.2] 32)).cell? ⟨w5.heap.size, 1, none⟩ = some (.slice x_v4b n_v4b c_v4b) := C_g0.out.cell 1
    have c2_g0 : (w14.alloc (.cells #[.slice x_v7a n_v7a c_v7a, .slice x_v7b n_v7b c_v7b, .slice x_v7c n_v7c c_v7c, .int .i64 (Row.sgD a0 (l1)).2.2.2.1, .int .i64 (Row.sgD a0 (l1)).2.2.2.2] 32)).cell? ⟨w5.heap.size, 2, none⟩ = some (.slice x_v4c n_v4c c_v4c) := C_g0.out.cell 2
    have c3_g0 : (w14.alloc (.cells #[.slice x_v7a n_v7a c_v7a, .slice x_v7b n_v7b c_v7b, .slice x_v7c n_v7c c_v7c, .int .i64 (Row.sgD a0 (l1)).2.2.2.1, .int .i64 (Row.sgD a0 (l1)).2.2.2.2] 32)).cell? ⟨w5.heap.size, 3, none⟩ = some (.int .i64 (Row.sgD a0 (l1)).2.2.2.1) := C_g0.out.cell 3
    have c4_g0 : (w14.alloc (.cells #[.slice x_v7a n_v7a c_v7a, .slice x_v7b n_v7b c_v7b, .slice x_v7c n_v7c c_v7c, .int .i64 (Row.sgD a0 (l1)).2.2.2.1, .int .i64 (Row.sgD a0 (l1)).2.2.2.2] 32)).cell? ⟨w5.heap.size, 4, none⟩ = some (.int .i64 (Row.sgD a0 (l1)).2.2.2.2) := C_g0.out.cell 4
    have c0_h0 : (w14.alloc (.cells #[.slice x_v7a n_v7a c_v7a, .slice x_v7b n_v7b c_v7b, .slice x_v7c n_v7c c_v7c, .int .i64 (Row.sgD a0 (l1)).2.2.2.1, .int .i64 (Row.sgD a0 (l1)).2.2.2.2] 32)).cell? ⟨w14.heap.size, 0, none⟩ = some (.slice x_v7a n_v7a c_v7a) := C_h0.out.cell 0
    have c1_h0 : (w14.alloc (.cells #[.slice x_v7a n_v7a c_v7a, .slice x_v7b n_v7b c_v7b, .slice x_v7c n_v7c c_v7c, .int .i64 (Row.sgD a0 (l1)).2.2.2.1, .int .i64 (Row.sgD a0 (l1)).2.2.2.2] 32)).cell? ⟨w14.heap.size, 1, none⟩ = some (.slice x_v7b n_v7b c_v7b) := C_h0.out.cell 1
    have c2_h0 : (w14.alloc (.cells #[.slice x_v7a n_v7a c_v7a, .slice x_v7b n_v7b c_v7b, .slice x_v7c n_v7c c_v7c, .int .i64 (Row.sgD a0 (l1)).2.2.2.1, .int .i64 (Row.sgD a0 (l1)).2.2.2.2] 32)).cell? ⟨w14.heap.size, 2, none⟩ = some (.slice x_v7c n_v7c c_v7c) := C_h0.out.cell 2
    have c3_h0 : (w14.alloc (.cells #[.slice x_v7a n_v7a c_v7a, .slice x_v7b n_v7b c_v7b, .slice x_v7c n_v7c c_v7c, .int .i64 (Row.sgD a0 (l1)).2.2.2.1, .int .i64 (Row.sgD a0 (l1)).2.2.2.2] 32)).cell? ⟨w14.heap.size, 3, none⟩ = some (.int .i64 (Row.sgD a0 (l1)).2.2.2.1) := C_h0.out.cell 3
    have c4_h0 : (w14.alloc (.cells #[.slice x_v7a n_v7a c_v7a, .slice x_v7b n_v7b c_v7b, .slice x_v7c n_v7c c_v7c, .int .i64 (Row.sgD a0 (l1)).2.2.2.1, .int .i64 (Row.sgD a0 (l1)).2.2.2.2] 32)).cell? ⟨w14.heap.size, 4, none⟩ = some (.int .i64 (Row.sgD a0 (l1)).2.2.2.2) := C_h0.out.cell 4
    go_wp2_with fail
    clear c0_aX c1_aX c2_aX c3_aX c4_aX c0_w0 c1_w0 c2_w0 c3_w0 c4_w0 c0_x1 c1_x1 c2_x1 c3_x1 c4_x1 c0_g0 c1_g0 c2_g0 c3_g0 c4_g0 c0_h0 c1_h0 c2_h0 c3_h0 c4_h0
    clear O_v6
    refine (Row.sameDK _ _ (Row.sgD a0 (l1)) _ (O_v7.out.at) (O_v2.out.at) (by first | omega | (simp; omega) | (simp [Row.marks_length, Sl.marks_length, Row.mkW]; omega))).mono ?_
    rintro e w15 ⟨rfl, hb⟩
    replace C_aX := Lib.hid (C_aX.out.on hb)
    replace C_w0 := Lib.hid (C_w0.out.on hb)
    replace C_x1 := Lib.hid (C_x1.out.on hb)
    replace C_g0 := Lib.hid (C_g0.out.on hb)
    replace C_h0 := Lib.hid (C_h0.out.on hb)
    replace O_v2 := Lib.hid (O_v2.out.on hb)
    replace O_v3 := Lib.hid (O_v3.out.on hb)
    replace O_v4 := Lib.hid (O_v4.out.on hb)
    replace O_v7 := Lib.hid (O_v7.out.on hb)
    replace BB := Lib.hid (BB.out.trans (hb.mono BB.out.size))
    have S20 := Lib.hid (show (w14.alloc (.cells #[.slice x_v7a n_v7a c_v7a, .slice x_v7b n_v7b c_v7b, .slice x_v7c n_v7c c_v7c, .int .i64 (Row.sgD a0 (l1)).2.2.2.1, .int .i64 (Row.sgD a0 (l1)).2.2.2.2] 32)).heap.size ≤ w15.heap.size from (by have h := hb.size; exact h))
    clear hb
    have c0_aX : w15.cell? ⟨w.heap.size, 0, none⟩ = some (.slice x_q1a n_q1a c_q1a) := C_aX.out.cell 0
    have c1_aX : w15.cell? ⟨w.heap.size, 1, none⟩ = some (.slice x_q1b n_q1b c_q1b) := C_aX.out.cell 1
    have c2_aX : w15.cell? ⟨w.heap.size, 2, none⟩ = some (.slice x_q1c n_q1c c_q1c) := C_aX.out.cell 2
    have c3_aX : w15.cell? ⟨w.heap.size, 3, none⟩ = some (.int .i64 (l1).2.2.2.1) := C_aX.out.cell 3
    have c4_aX : w15.cell? ⟨w.heap.size, 4, none⟩ = some (.int .i64 (l1).2.2.2.2) := C_aX.out.cell 4
    have c0_w0 : w15.cell? ⟨w3.heap.size, 0, none⟩ = some (.slice x_v2a n_v2a c_v2a) := C_w0.out.cell 0
    have c1_w0 : w15.cell? ⟨w3.heap.size, 1, none⟩ = some (.slice x_v2b n_v2b c_v2b) := C_w0.out.cell 1
    have c2_w0 : w15.cell? ⟨w3.heap.size, 2, none⟩ = some (.slice x_v2c n_v2c c_v2c) := C_w0.out.cell 2
    have c3_w0 : w15.cell? ⟨w3.heap.size, 3, none⟩ = some (.int .i64 (Row.sgD a0 (l1)).2.2.2.1) := C_w0.out.cell 3
    have c4_w0 : w15.cell? ⟨w3.heap.size, 4, none⟩ = some (.int .i64 (Row.sgD a0 (l1)).2.2.2.2) := C_w0.out.cell 4
    have c0_x1 : w15.cell? ⟨w4.heap.size, 0, none⟩ = some (.slice x_v3a n_v3a c_v3a) := C_x1.out.cell 0
    have c1_x1 : w15.cell? ⟨w4.heap.size, 1, none⟩ = some (.slice x_v3b n_v3b c_v3b) := C_x1.out.cell 1
    have c2_x1 : w15.cell? ⟨w4.heap.size, 2, none⟩ = some (.slice x_v3c n_v3c c_v3c) := C_x1.out.cell 2
    have c3_x1 : w15.cell? ⟨w4.heap.size, 3, none⟩ = some (.int .i64 (l1).2.2.2.1) := C_x1.out.cell 3
    have c4_x1 : w15.cell? ⟨w4.heap.size, 4, none⟩ = some (.int .i64 (l1).2.2.2.2) := C_x1.out.cell 4
    have c0_g0 : w15.cell? ⟨w5.heap.size, 0, none⟩ = some (.slice x_v4a n_v4a c_v4a) := C_g0.out.cell 0
    have c1_g0 : w15.cell? ⟨w5.heap.size, 1, none⟩ = some (.slice x_v4b n_v4b c_v4b) := C_g0.out.cell 1
    have c2_g0 : w15.cell? ⟨w5.heap.size, 2, none⟩ = some (.slice x_v4c n_v4c c_v4c) := C_g0.out.cell 2
    have c3_g0 : w15.cell? ⟨w5.heap.size, 3, none⟩ = some (.int .i64 (Row.sgD a0 (l1)).2.2.2.1) := C_g0.out.cell 3
    have c4_g0 : w15.cell? ⟨w5.heap.size, 4, none⟩ = some (.int .i64 (Row.sgD a0 (l1)).2.2.2.2) := C_g0.out.cell 4
    have c0_h0 : w15.cell? ⟨w14.heap.size, 0, none⟩ = some (.slice x_v7a n_v7a c_v7a) := C_h0.out.cell 0
    have c1_h0 : w15.cell? ⟨w14.heap.size, 1, none⟩ = some (.slice x_v7b n_v7b c_v7b) := C_h0.out.cell 1
    have c2_h0 : w15.cell? ⟨w14.heap.size, 2, none⟩ = some (.slice x_v7c n_v7c c_v7c) := C_h0.out.cell 2
    have c3_h0 : w15.cell? ⟨w14.heap.size, 3, none⟩ = some (.int .i64 (Row.sgD a0 (l1)).2.2.2.1) := C_h0.out.cell 3
    have c4_h0 : w15.cell? ⟨w14.heap.size, 4, none⟩ = some (.int .i64 (Row.sgD a0 (l1)).2.2.2.2) := C_h0.out.cell 4
    go_wp2_with fail
    clear c0_aX c1_aX c2_aX c3_aX c4_aX c0_w0 c1_w0 c2_w0 c3_w0 c4_w0 c0_x1 c1_x1 c2_x1 c3_x1 c4_x1 c0_g0 c1_g0 c2_g0 c3_g0 c4_g0 c0_h0 c1_h0 c2_h0 c3_h0 c4_h0
    refine (Row.heldDK _ _ (1) (Row.sgD a0 (l1)) (O_v4.out.at) (by first | omega | (simp; omega) | (simp [Row.marks_length, Sl.marks_length, Row.mkW]; omega)) (by first | omega | (simp; omega) | (simp [Row.marks_length, Sl.marks_length, Row.mkW]; omega)) (by first | omega | (simp; omega) | (simp [Row.marks_length, Sl.marks_length, Row.mkW]; omega))).mono ?_
    rintro e w16 ⟨rfl, hb⟩
    replace C_aX := Lib.hid (C_aX.out.on hb)
    replace C_w0 := Lib.hid (C_w0.out.on hb)
    replace C_x1 := Lib.hid (C_x1.out.on hb)
    replace C_g0 := Lib.hid (C_g0.out.on hb)
    replace C_h0 := Lib.hid (C_h0.out.on hb)
    replace O_v2 := Lib.hid (O_v2.out.on hb)
    replace O_v3 := Lib.hid (O_v3.out.on hb)
    replace O_v4 := Lib.hid (O_v4.out.on hb)
    replace O_v7 := Lib.hid (O_v7.out.on hb)
    replace BB := Lib.hid (BB.out.trans (hb.mono BB.out.size))
    have S21 := Lib.hid (show w15.heap.size ≤ w16.heap.size from (by have h := hb.size; exact h))
    clear hb
    have c0_aX : w16.cell? ⟨w.heap.size, 0, none⟩ = some (.slice x_q1a n_q1a c_q1a) := C_aX.out.cell 0
    have c1_aX : w16.cell? ⟨w.heap.size, 1, none⟩ = some (.slice x_q1b n_q1b c_q1b) := C_aX.out.cell 1
    have c2_aX : w16.cell? ⟨w.heap.size, 2, none⟩ = some (.slice x_q1c n_q1c c_q1c) := C_aX.out.cell 2
    have c3_aX : w16.cell? ⟨w.heap.size, 3, none⟩ = some (.int .i64 (l1).2.2.2.1) := C_aX.out.cell 3
    have c4_aX : w16.cell? ⟨w.heap.size, 4, none⟩ = some (.int .i64 (l1).2.2.2.2) := C_aX.out.cell 4
    have c0_w0 : w16.cell? ⟨w3.heap.size, 0, none⟩ = some (.slice x_v2a n_v2a c_v2a) := C_w0.out.cell 0
    have c1_w0 : w16.cell? ⟨w3.heap.size, 1, none⟩ = some (.slice x_v2b n_v2b c_v2b) := C_w0.out.cell 1
    have c2_w0 : w16.cell? ⟨w3.heap.size, 2, none⟩ = some (.slice x_v2c n_v2c c_v2c) := C_w0.out.cell 2
    have c3_w0 : w16.cell? ⟨w3.heap.size, 3, none⟩ = some (.int .i64 (Row.sgD a0 (l1)).2.2.2.1) := C_w0.out.cell 3
    have c4_w0 : w16.cell? ⟨w3.heap.size, 4, none⟩ = some (.int .i64 (Row.sgD a0 (l1)).2.2.2.2) := C_w0.out.cell 4
    have c0_x1 : w16.cell? ⟨w4.heap.size, 0, none⟩ = some (.slice x_v3a n_v3a c_v3a) := C_x1.out.cell 0
    have c1_x1 : w16.cell? ⟨w4.heap.size, 1, none⟩ = some (.slice x_v3b n_v3b c_v3b) := C_x1.out.cell 1
    have c2_x1 : w16.cell? ⟨w4.heap.size, 2, none⟩ = some (.slice x_v3c n_v3c c_v3c) := C_x1.out.cell 2
    have c3_x1 : w16.cell? ⟨w4.heap.size, 3, none⟩ = some (.int .i64 (l1).2.2.2.1) := C_x1.out.cell 3
    have c4_x1 : w16.cell? ⟨w4.heap.size, 4, none⟩ = some (.int .i64 (l1).2.2.2.2) := C_x1.out.cell 4
    have c0_g0 : w16.cell? ⟨w5.heap.size, 0, none⟩ = some (.slice x_v4a n_v4a c_v4a) := C_g0.out.cell 0
    have c1_g0 : w16.cell? ⟨w5.heap.size, 1, none⟩ = some (.slice x_v4b n_v4b c_v4b) := C_g0.out.cell 1
    have c2_g0 : w16.cell? ⟨w5.heap.size, 2, none⟩ = some (.slice x_v4c n_v4c c_v4c) := C_g0.out.cell 2
    have c3_g0 : w16.cell? ⟨w5.heap.size, 3, none⟩ = some (.int .i64 (Row.sgD a0 (l1)).2.2.2.1) := C_g0.out.cell 3
    have c4_g0 : w16.cell? ⟨w5.heap.size, 4, none⟩ = some (.int .i64 (Row.sgD a0 (l1)).2.2.2.2) := C_g0.out.cell 4
    have c0_h0 : w16.cell? ⟨w14.heap.size, 0, none⟩ = some (.slice x_v7a n_v7a c_v7a) := C_h0.out.cell 0
    have c1_h0 : w16.cell? ⟨w14.heap.size, 1, none⟩ = some (.slice x_v7b n_v7b c_v7b) := C_h0.out.cell 1
    have c2_h0 : w16.cell? ⟨w14.heap.size, 2, none⟩ = some (.slice x_v7c n_v7c c_v7c) := C_h0.out.cell 2
    have c3_h0 : w16.cell? ⟨w14.heap.size, 3, none⟩ = some (.int .i64 (Row.sgD a0 (l1)).2.2.2.1) := C_h0.out.cell 3
    have c4_h0 : w16.cell? ⟨w14.heap.size, 4, none⟩ = some (.int .i64 (Row.sgD a0 (l1)).2.2.2.2) := C_h0.out.cell 4
    go_wp2_with fail
    clear c0_aX c1_aX c2_aX c3_aX c4_aX c0_w0 c1_w0 c2_w0 c3_w0 c4_w0 c0_x1 c1_x1 c2_x1 c3_x1 c4_x1 c0_g0 c1_g0 c2_g0 c3_g0 c4_g0 c0_h0 c1_h0 c2_h0 c3_h0 c4_h0
    go_ret
    exact ⟨rfl, BB.out⟩
  · -- out
    rw [Row.szD_not (by omega)]
    go_wp2
    go_ret
    exact ⟨rfl, BB.out⟩

set_option maxRecDepth 100000 in
theorem lifted (os : Os) (started : os.Started) (H : Type) (enc : TypeId × Value → H) :
    ReturnsInHanded {} Try.checked os 5 .any (Rows.fnExactSignDataSpec.pre6 enc Try.prog Try.f5 Rows.fnExactSignDataRow.domain false) (Rows.fnExactSignDataSpec.post enc Try.prog Try.f5 false true false false) := by
  refine returnsInHanded_of_change_sized (C := Try.checked) own started (by kernel_rfl) Try.func5
    (ChangeSpec.witness6 (enc := enc) (C := Try.checked) false ⟨#[], #[.int .i64 0, .agg #[.slice none 0 0, .slice none 0 0, .slice none 0 0, .int .i64 0, .int .i64 0]], []⟩ 8 (by kernel_rfl) (by kernel_rfl) (by kernel_rfl) (by kernel_rfl)) ?_
  intro W base args ds gs before hval0 hW _ hsz0 _
  have hval : ∀ (j : Nat) t v, Try.f5.params[j]? = some t → args[j]? = some v → Value.okWide Try.prog W .any base t v := hval0
  have hsz : (DataW.weightsEach Try.prog (Try.f5.params.toList ++ Rows.fnExactSignDataSpec.plain.varTypes Try.prog) (ds ++ gs)).all (· ≤ reachBytes) = true := hsz0
  clear hsz0
  have hW' := hW
  obtain ⟨p, q, hA0, hV, rfl, hfz, hnd⟩ := hW
  have hA : DataW.TrodAll enc Try.prog W 0 (fun _ => true) true Try.f5.params.toList args.toList ds p := hA0
  rw [Try.params5] at hA hval hsz
  obtain ⟨v0, vs0, d0, ds0, p0, q0, hargs, rfl, rfl, h0, r0⟩ := trodAll_cons hA
  obtain ⟨v1, vs1, d1, ds1, p1, q1, rfl, rfl, rfl, h1, r1⟩ := trodAll_cons r0
  obtain ⟨rfl, rfl, rfl⟩ := trodAll_nil r1
  obtain rfl : args = #[v0, v1] := by cases args; simp_all
  obtain ⟨rfl, rfl⟩ := trodVars_none hV
  obtain ⟨a0, rfl, rfl, rfl, w0⟩ := open_int Try.underlying3 (hval 0 3 v0 rfl rfl) h0
  obtain ⟨l1, q1, n1, m1⟩ := Row.open_data (t := 27) Try.underlying27 Try.underlying24 Try.underlying24 Try.underlying22 Try.underlying9 Try.underlying25 Try.underlying5 Try.underlying3 Try.underlying3 rfl rfl rfl rfl rfl rfl (by kernel_rfl) (by kernel_rfl) (by kernel_rfl) (by kernel_rfl) (by kernel_rfl) (by kernel_rfl) (by kernel_rfl) (by kernel_rfl) (by kernel_rfl) (hval 1 27 v1 rfl rfl) h1
  clear hA0 hval0
  refine (walk a0 w0 W _ _ q1 n1 m1).mono fun e W' ⟨he, hb⟩ => ?_
  subst he
  exact ⟨_, rfl, Frame.law_post laidOut (by kernel_rfl) rfl Try.underlying4 rfl rfl hW' hb⟩

theorem said : Rows.FnExactSignDataSaid :=
  OpenClaim.holds_of_wide 5 Try.f5 rfl rfl rfl rfl rfl rfl rfl ⟨rfl, rfl, rfl, rfl, rfl⟩ rfl rfl rfl rfl rfl (by kernel_rfl) Try.func5 (by kernel_rfl)
    (of_decide_eq_true (by kernel_rfl)) (by unfold Func.isWrapper; first | (rw [if_pos (by decide +kernel)]; kernel_rfl) | (rw [if_neg (by decide +kernel)]; exact ⟨rfl, rfl⟩))
    (fun os started H enc _ => lifted os started H enc)

#print axioms said
end Go.Proofs.Ytbooamnlocobfaa.fnExactSignData
