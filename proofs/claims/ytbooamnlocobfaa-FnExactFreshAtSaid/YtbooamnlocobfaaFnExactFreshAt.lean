/- FreshAt answers as its model for all data and times, and writes into no argument. No conditions. -/
import Derived.Test.YtbooamnlocobfaaRows
import Derived.WalkKit
import Derived.ProofKit
import Derived.OpenShut
import Derived.SizedLaws
import Derived.Test.YtbooamnlocobfaaB1
import Derived.Test.YtbooamnlocobfaaB9
namespace Go.Proofs.Ytbooamnlocobfaa.fnExactFreshAt
open Go.ChangeShapes Go.WideShapes Go.ChangeAt Go.RowKit
open Go.ChangeMaps (open_string shut_string)
set_option linter.unusedVariables false

theorem own : ownKnob Try.prog.godebug = none := by kernel_rfl
theorem laidOut : laidOutB Try.prog = true := by kernel_rfl

set_option maxRecDepth 100000 in
set_option maxHeartbeats 4000000 in
theorem walk (a1 : Int) (w1 : (Lit.int .i64 a1).wf = true) (w : World) (y0 : Value) (l0 : Row.Dt) (q0 : Row.kD.At w y0 l0) (n0 : Row.WfD l0) (m0 : l0.1.length ≤ 9223372036854775807 ∧ l0.2.1.length ≤ 9223372036854775807 ∧ l0.2.2.1.length ≤ 9223372036854775807) :
    Calls Try.prog 9 #[y0, .int .i64 a1] w fun e w' => e = .returned (.bool true) ∧ Below w.heap.size w w' := by
  obtain ⟨x_q0a, n_q0a, c_q0a, x_q0b, n_q0b, c_q0b, x_q0c, n_q0c, c_q0c, rfl, q0⟩ := Row.kD_shapeA q0
  have Q0 := Lib.hid q0; have N0 := Lib.hid n0; clear q0 n0
  have hal := (Below.refl w.heap.size w).alloc (Nat.le_refl _) (.cells #[.slice x_q0a n_q0a c_q0a, .slice x_q0b n_q0b c_q0b, .slice x_q0c n_q0c c_q0c, .int .i64 (l0).2.2.2.1, .int .i64 (l0).2.2.2.2] 27)
  have BB := Lib.hid hal
  have C_aX := Lib.hid (Ret.Blk.new' (w := w) #[.slice x_q0a n_q0a c_q0a, .slice x_q0b n_q0b c_q0b, .slice x_q0c n_q0c c_q0c, .int .i64 (l0).2.2.2.1, .int .i64 (l0).2.2.2.2] 27 (n := w.heap.size) (by first | rfl | simp)); clear hal
  have S1 := Lib.hid (show (w.alloc (.cells #[.slice x_q0a n_q0a c_q0a, .slice x_q0b n_q0b c_q0b, .slice x_q0c n_q0c c_q0c, .int .i64 (l0).2.2.2.1, .int .i64 (l0).2.2.2.2] 27)).heap.size = w.heap.size + 1 from World.size_alloc _ _)
  go_enter Try.func9, Try.ntmps9
  have c0_aX : (w.alloc (.cells #[.slice x_q0a n_q0a c_q0a, .slice x_q0b n_q0b c_q0b, .slice x_q0c n_q0c c_q0c, .int .i64 (l0).2.2.2.1, .int .i64 (l0).2.2.2.2] 27)).cell? ⟨w.heap.size, 0, none⟩ = some (.slice x_q0a n_q0a c_q0a) := C_aX.out.cell 0
  have c1_aX : (w.alloc (.cells #[.slice x_q0a n_q0a c_q0a, .slice x_q0b n_q0b c_q0b, .slice x_q0c n_q0c c_q0c, .int .i64 (l0).2.2.2.1, .int .i64 (l0).2.2.2.2] 27)).cell? ⟨w.heap.size, 1, none⟩ = some (.slice x_q0b n_q0b c_q0b) := C_aX.out.cell 1
  have c2_aX : (w.alloc (.cells #[.slice x_q0a n_q0a c_q0a, .slice x_q0b n_q0b c_q0b, .slice x_q0c n_q0c c_q0c, .int .i64 (l0).2.2.2.1, .int .i64 (l0).2.2.2.2] 27)).cell? ⟨w.heap.size, 2, none⟩ = some (.slice x_q0c n_q0c c_q0c) := C_aX.out.cell 2
  have c3_aX : (w.alloc (.cells #[.slice x_q0a n_q0a c_q0a, .slice x_q0b n_q0b c_q0b, .slice x_q0c n_q0c c_q0c, .int .i64 (l0).2.2.2.1, .int .i64 (l0).2.2.2.2] 27)).cell? ⟨w.heap.size, 3, none⟩ = some (.int .i64 (l0).2.2.2.1) := C_aX.out.cell 3
  have c4_aX : (w.alloc (.cells #[.slice x_q0a n_q0a c_q0a, .slice x_q0b n_q0b c_q0b, .slice x_q0c n_q0c c_q0c, .int .i64 (l0).2.2.2.1, .int .i64 (l0).2.2.2.2] 27)).cell? ⟨w.heap.size, 4, none⟩ = some (.int .i64 (l0).2.2.2.2) := C_aX.out.cell 4
  go_wp2_with fail
  clear c0_aX c1_aX c2_aX c3_aX c4_aX
  refine (Row.szDK _ l0 _ (1048576) (Q0.out.on BB.out) m0 N0.out (by omega) (by omega)).mono ?_
  rintro e w1 ⟨rfl, hb⟩
  replace C_aX := Lib.hid (C_aX.out.on hb)
  replace BB := Lib.hid (BB.out.trans (hb.mono BB.out.size))
  have S2 := Lib.hid (show (w.alloc (.cells #[.slice x_q0a n_q0a c_q0a, .slice x_q0b n_q0b c_q0b, .slice x_q0c n_q0c c_q0c, .int .i64 (l0).2.2.2.1, .int .i64 (l0).2.2.2.2] 27)).heap.size ≤ w1.heap.size from (by have h := hb.size; exact h))
  clear hb
  by_cases t0 : (Row.bulkD l0 : Int) ≤ 1048576
  · -- in
    rw [Row.szD_fit t0]
    have b0 : Row.bulkD l0 ≤ 1048576 := by omega
    have d0 : Row.advD l0 ≤ 1048576 := Row.advD_big b0
    have g0 : ¬ 1048576 - (Row.bulkD l0 : Int) < 0 := by omega
    have c0_aX : w1.cell? ⟨w.heap.size, 0, none⟩ = some (.slice x_q0a n_q0a c_q0a) := C_aX.out.cell 0
    have c1_aX : w1.cell? ⟨w.heap.size, 1, none⟩ = some (.slice x_q0b n_q0b c_q0b) := C_aX.out.cell 1
    have c2_aX : w1.cell? ⟨w.heap.size, 2, none⟩ = some (.slice x_q0c n_q0c c_q0c) := C_aX.out.cell 2
    have c3_aX : w1.cell? ⟨w.heap.size, 3, none⟩ = some (.int .i64 (l0).2.2.2.1) := C_aX.out.cell 3
    have c4_aX : w1.cell? ⟨w.heap.size, 4, none⟩ = some (.int .i64 (l0).2.2.2.2) := C_aX.out.cell 4
    go_wp2_with fail
    clear c0_aX c1_aX c2_aX c3_aX c4_aX
    refine (Row.toDK _ l0 _ (Q0.out.on BB.out) (by omega)).mono ?_
    rintro e w2 ⟨v1, rfl, ho, hb⟩
    obtain ⟨x_v1a, n_v1a, c_v1a, x_v1b, n_v1b, c_v1b, x_v1c, n_v1c, c_v1c, rfl, ho⟩ := Row.kD_shape ho
    replace C_aX := Lib.hid (C_aX.out.on hb)
    replace BB := Lib.hid (BB.out.trans (hb.mono BB.out.size))
    have S3 := Lib.hid (show w1.heap.size ≤ w2.heap.size from (by have h := hb.size; exact h))
    have O_v1 := Lib.hid (show Row.kD.In w1.heap.size w2.heap.size w2 (.agg #[.slice x_v1a n_v1a c_v1a, .slice x_v1b n_v1b c_v1b, .slice x_v1c n_v1c c_v1c, .int .i64 (l0).2.2.2.1, .int .i64 (l0).2.2.2.2]) (l0) from ho); clear ho
    clear hb
    have c0_aX : w2.cell? ⟨w.heap.size, 0, none⟩ = some (.slice x_q0a n_q0a c_q0a) := C_aX.out.cell 0
    have c1_aX : w2.cell? ⟨w.heap.size, 1, none⟩ = some (.slice x_q0b n_q0b c_q0b) := C_aX.out.cell 1
    have c2_aX : w2.cell? ⟨w.heap.size, 2, none⟩ = some (.slice x_q0c n_q0c c_q0c) := C_aX.out.cell 2
    have c3_aX : w2.cell? ⟨w.heap.size, 3, none⟩ = some (.int .i64 (l0).2.2.2.1) := C_aX.out.cell 3
    have c4_aX : w2.cell? ⟨w.heap.size, 4, none⟩ = some (.int .i64 (l0).2.2.2.2) := C_aX.out.cell 4
    go_wp2_with fail
    clear c0_aX c1_aX c2_aX c3_aX c4_aX
    refine (Row.specFreshAtK _ (l0) a1 _ (O_v1.out.at)).mono ?_
    rintro e w3 ⟨rfl, hb⟩
    replace C_aX := Lib.hid (C_aX.out.on hb)
    replace O_v1 := Lib.hid (O_v1.out.on hb)
    replace BB := Lib.hid (BB.out.trans (hb.mono BB.out.size))
    have S4 := Lib.hid (show w2.heap.size ≤ w3.heap.size from (by have h := hb.size; exact h))
    clear hb
    have c0_aX : w3.cell? ⟨w.heap.size, 0, none⟩ = some (.slice x_q0a n_q0a c_q0a) := C_aX.out.cell 0
    have c1_aX : w3.cell? ⟨w.heap.size, 1, none⟩ = some (.slice x_q0b n_q0b c_q0b) := C_aX.out.cell 1
    have c2_aX : w3.cell? ⟨w.heap.size, 2, none⟩ = some (.slice x_q0c n_q0c c_q0c) := C_aX.out.cell 2
    have c3_aX : w3.cell? ⟨w.heap.size, 3, none⟩ = some (.int .i64 (l0).2.2.2.1) := C_aX.out.cell 3
    have c4_aX : w3.cell? ⟨w.heap.size, 4, none⟩ = some (.int .i64 (l0).2.2.2.2) := C_aX.out.cell 4
    go_wp2_with fail
    clear c0_aX c1_aX c2_aX c3_aX c4_aX
    clear O_v1
    refine (Row.toDK _ l0 _ (Q0.out.on BB.out) (by omega)).mono ?_
    rintro e w4 ⟨v2, rfl, ho, hb⟩
    obtain ⟨x_v2a, n_v2a, c_v2a, x_v2b, n_v2b, c_v2b, x_v2c, n_v2c, c_v2c, rfl, ho⟩ := Row.kD_shape ho
    replace C_aX := Lib.hid (C_aX.out.on hb)
    replace BB := Lib.hid (BB.out.trans (hb.mono BB.out.size))
    have S5 := Lib.hid (show w3.heap.size ≤ w4.heap.size from (by have h := hb.size; exact h))
    have O_v2 := Lib.hid (show Row.kD.In w3.heap.size w4.heap.size w4 (.agg #[.slice x_v2a n_v2a c_v2a, .slice x_v2b n_v2b c_v2b, .slice x_v2c n_v2c c_v2c, .int .i64 (l0).2.2.2.1, .int .i64 (l0).2.2.2.2]) (l0) from ho); clear ho
    clear hb
    have hal := (Below.refl w4.heap.size w4).alloc (Nat.le_refl _) (.cells #[.slice x_v2a n_v2a c_v2a, .slice x_v2b n_v2b c_v2b, .slice x_v2c n_v2c c_v2c, .int .i64 (l0).2.2.2.1, .int .i64 (l0).2.2.2.2] 32)
    replace C_aX := Lib.hid (C_aX.out.on hal)
    replace O_v2 := Lib.hid (O_v2.out.on hal)
    replace BB := Lib.hid (BB.out.trans (hal.mono BB.out.size))
    have S6 := Lib.hid (show (w4.alloc (.cells #[.slice x_v2a n_v2a c_v2a, .slice x_v2b n_v2b c_v2b, .slice x_v2c n_v2c c_v2c, .int .i64 (l0).2.2.2.1, .int .i64 (l0).2.2.2.2] 32)).heap.size = w4.heap.size + 1 from World.size_alloc _ _)
    have C_x0 := Lib.hid (Ret.Blk.new w4 #[.slice x_v2a n_v2a c_v2a, .slice x_v2b n_v2b c_v2b, .slice x_v2c n_v2c c_v2c, .int .i64 (l0).2.2.2.1, .int .i64 (l0).2.2.2.2] 32); clear hal
    have c0_aX : (w4.alloc (.cells #[.slice x_v2a n_v2a c_v2a, .slice x_v2b n_v2b c_v2b, .slice x_v2c n_v2c c_v2c, .int .i64 (l0).2.2.2.1, .int .i64 (l0).2.2.2.2] 32)).cell? ⟨w.heap.size, 0, none⟩ = some (.slice x_q0a n_q0a c_q0a) := C_aX.out.cell 0
    have c1_aX : (w4.alloc (.cells #[.slice x_v2a n_v2a c_v2a, .slice x_v2b n_v2b c_v2b, .slice x_v2c n_v2c c_v2c, .int .i64 (l0).2.2.2.1, .int .i64 (l0).2.2.2.2] 32)).cell? ⟨w.heap.size, 1, none⟩ = some (.slice x_q0b n_q0b c_q0b) := C_aX.out.cell 1
    have c2_aX : (w4.alloc (.cells #[.slice x_v2a n_v2a c_v2a, .slice x_v2b n_v2b c_v2b, .slice x_v2c n_v2c c_v2c, .int .i64 (l0).2.2.2.1, .int .i64 (l0).2.2.2.2] 32)).cell? ⟨w.heap.size, 2, none⟩ = some (.slice x_q0c n_q0c c_q0c) := C_aX.out.cell 2
    have c3_aX : (w4.alloc (.cells #[.slice x_v2a n_v2a c_v2a, .slice x_v2b n_v2b c_v2b, .slice x_v2c n_v2c c_v2c, .int .i64 (l0).2.2.2.1, .int .i64 (l0).2.2.2.2] 32)).cell? ⟨w.heap.size, 3, none⟩ = some (.int .i64 (l0).2.2.2.1) := C_aX.out.cell 3
    have c4_aX : (w4.alloc (.cells #[.slice x_v2a n_v2a c_v2a, .slice x_v2b n_v2b c_v2b, .slice x_v2c n_v2c c_v2c, .int .i64 (l0).2.2.2.1, .int .i64 (l0).2.2.2.2] 32)).cell? ⟨w.heap.size, 4, none⟩ = some (.int .i64 (l0).2.2.2.2) := C_aX.out.cell 4
    have c0_x0 : (w4.alloc (.cells #[.slice x_v2a n_v2a c_v2a, .slice x_v2b n_v2b c_v2b, .slice x_v2c n_v2c c_v2c, .int .i64 (l0).2.2.2.1, .int .i64 (l0).2.2.2.2] 32)).cell? ⟨w4.heap.size, 0, none⟩ = some (.slice x_v2a n_v2a c_v2a) := C_x0.out.cell 0
    have c1_x0 : (w4.alloc (.cells #[.slice x_v2a n_v2a c_v2a, .slice x_v2b n_v2b c_v2b, .slice x_v2c n_v2c c_v2c, .int .i64 (l0).2.2.2.1, .int .i64 (l0).2.2.2.2] 32)).cell? ⟨w4.heap.size, 1, none⟩ = some (.slice x_v2b n_v2b c_v2b) := C_x0.out.cell 1
    have c2_x0 : (w4.alloc (.cells #[.slice x_v2a n_v2a c_v2a, .slice x_v2b n_v2b c_v2b, .slice x_v2c n_v2c c_v2c, .int .i64 (l0).2.2.2.1, .int .i64 (l0).2.2.2.2] 32)).cell? ⟨w4.heap.size, 2, none⟩ = some (.slice x_v2c n_v2c c_v2c) := C_x0.out.cell 2
    have c3_x0 : (w4.alloc (.cells #[.slice x_v2a n_v2a c_v2a, .slice x_v2b n_v2b c_v2b, .slice x_v2c n_v2c c_v2c, .int .i64 (l0).2.2.2.1, .int .i64 (l0).2.2.2.2] 32)).cell? ⟨w4.heap.size, 3, none⟩ = some (.int .i64 (l0).2.2.2.1) := C_x0.out.cell 3
    have c4_x0 : (w4.alloc (.cells #[.slice x_v2a n_v2a c_v2a, .slice x_v2b n_v2b c_v2b, .slice x_v2c n_v2c c_v2c, .int .i64 (l0).2.2.2.1, .int .i64 (l0).2.2.2.2] 32)).cell? ⟨w4.heap.size, 4, none⟩ = some (.int .i64 (l0).2.2.2.2) := C_x0.out.cell 4
    go_wp2_with fail
    clear c0_aX c1_aX c2_aX c3_aX c4_aX c0_x0 c1_x0 c2_x0 c3_x0 c4_x0
    refine (Row.implFreshAtK _ (l0) a1 _ (O_v2.out.at)).mono ?_
    rintro e w5 ⟨rfl, hb⟩
    replace C_aX := Lib.hid (C_aX.out.on hb)
    replace C_x0 := Lib.hid (C_x0.out.on hb)
    replace O_v2 := Lib.hid (O_v2.out.on hb)
    replace BB := Lib.hid (BB.out.trans (hb.mono BB.out.size))
    have S7 := Lib.hid (show (w4.alloc (.cells #[.slice x_v2a n_v2a c_v2a, .slice x_v2b n_v2b c_v2b, .slice x_v2c n_v2c c_v2c, .int .i64 (l0).2.2.2.1, .int .i64 (l0).2.2.2.2] 32)).heap.size ≤ w5.heap.size from (by have h := hb.size; exact h))
    clear hb
    have c0_aX : w5.cell? ⟨w.heap.size, 0, none⟩ = some (.slice x_q0a n_q0a c_q0a) := C_aX.out.cell 0
    have c1_aX : w5.cell? ⟨w.heap.size, 1, none⟩ = some (.slice x_q0b n_q0b c_q0b) := C_aX.out.cell 1
    have c2_aX : w5.cell? ⟨w.heap.size, 2, none⟩ = some (.slice x_q0c n_q0c c_q0c) := C_aX.out.cell 2
    have c3_aX : w5.cell? ⟨w.heap.size, 3, none⟩ = some (.int .i64 (l0).2.2.2.1) := C_aX.out.cell 3
    have c4_aX : w5.cell? ⟨w.heap.size, 4, none⟩ = some (.int .i64 (l0).2.2.2.2) := C_aX.out.cell 4
    have c0_x0 : w5.cell? ⟨w4.heap.size, 0, none⟩ = some (.slice x_v2a n_v2a c_v2a) := C_x0.out.cell 0
    have c1_x0 : w5.cell? ⟨w4.heap.size, 1, none⟩ = some (.slice x_v2b n_v2b c_v2b) := C_x0.out.cell 1
    have c2_x0 : w5.cell? ⟨w4.heap.size, 2, none⟩ = some (.slice x_v2c n_v2c c_v2c) := C_x0.out.cell 2
    have c3_x0 : w5.cell? ⟨w4.heap.size, 3, none⟩ = some (.int .i64 (l0).2.2.2.1) := C_x0.out.cell 3
    have c4_x0 : w5.cell? ⟨w4.heap.size, 4, none⟩ = some (.int .i64 (l0).2.2.2.2) := C_x0.out.cell 4
    go_wp2_with fail
    clear c0_aX c1_aX c2_aX c3_aX c4_aX c0_x0 c1_x0 c2_x0 c3_x0 c4_x0
    have hdr : Below w5.heap.size w5 w5.drew := (Below.refl _ _).drew
    replace C_aX := Lib.hid (C_aX.out.on hdr)
    replace C_x0 := Lib.hid (C_x0.out.on hdr)
    replace O_v2 := Lib.hid (O_v2.out.on hdr)
    replace BB := Lib.hid (BB.out.trans (hdr.mono BB.out.size))
    clear hdr
    have KS0 := Lib.hid (show w5.drew.cell? ⟨w4.heap.size, 0, none⟩ = some (.slice x_v2a n_v2a c_v2a) ∧ w5.drew.cell? ⟨w4.heap.size, 1, none⟩ = some (.slice x_v2b n_v2b c_v2b) ∧ w5.drew.cell? ⟨w4.heap.size, 2, none⟩ = some (.slice x_v2c n_v2c c_v2c) ∧ w5.drew.cell? ⟨w4.heap.size, 3, none⟩ = some (.int .i64 (l0).2.2.2.1) ∧ w5.drew.cell? ⟨w4.heap.size, 4, none⟩ = some (.int .i64 (l0).2.2.2.2) ∧ w5.drew.cell? ⟨w.heap.size, 0, none⟩ = some (.slice x_q0a n_q0a c_q0a) ∧ w5.drew.cell? ⟨w.heap.size, 1, none⟩ = some (.slice x_q0b n_q0b c_q0b) ∧ w5.drew.cell? ⟨w.heap.size, 2, none⟩ = some (.slice x_q0c n_q0c c_q0c) ∧ w5.drew.cell? ⟨w.heap.size, 3, none⟩ = some (.int .i64 (l0).2.2.2.1) ∧ w5.drew.cell? ⟨w.heap.size, 4, none⟩ = some (.int .i64 (l0).2.2.2.2) ∧ Below w.heap.size w w5.drew from ⟨C_x0.out.cell 0, C_x0.out.cell 1, C_x0.out.cell 2, C_x0.out.cell 3, C_x0.out.cell 4, C_aX.out.cell 0, C_aX.out.cell 1, C_aX.out.cell 2, C_aX.out.cell 3, C_aX.out.cell 4, BB.out⟩)
    go_region_held3 (fun w' => w'.cell? ⟨w4.heap.size, 0, none⟩ = some (.slice x_v2a n_v2a c_v2a) ∧ w'.cell? ⟨w4.heap.size, 1, none⟩ = some (.slice x_v2b n_v2b c_v2b) ∧ w'.cell? ⟨w4.heap.size, 2, none⟩ = some (.slice x_v2c n_v2c c_v2c) ∧ w'.cell? ⟨w4.heap.size, 3, none⟩ = some (.int .i64 (l0).2.2.2.1) ∧ w'.cell? ⟨w4.heap.size, 4, none⟩ = some (.int .i64 (l0).2.2.2.2) ∧ w'.cell? ⟨w.heap.size, 0, none⟩ = some (.slice x_q0a n_q0a c_q0a) ∧ w'.cell? ⟨w.heap.size, 1, none⟩ = some (.slice x_q0b n_q0b c_q0b) ∧ w'.cell? ⟨w.heap.size, 2, none⟩ = some (.slice x_q0c n_q0c c_q0c) ∧ w'.cell? ⟨w.heap.size, 3, none⟩ = some (.int .i64 (l0).2.2.2.1) ∧ w'.cell? ⟨w.heap.size, 4, none⟩ = some (.int .i64 (l0).2.2.2.2) ∧ Below w.heap.size w w') (first | exact KS0.out | exact KS1.out | exact KS2.out) ((first | (go_at_call 15; refine (Row.sameDK _ _ (l0) _ ((O_v2.out.at).on hba) hoa.at (by first | omega | (simp; omega) | (simp [Row.marks_length, Sl.marks_length, Row.mkW]; omega))).mono ?_; rintro e w7 ⟨rfl, hbb⟩; have KS2 := Lib.hid (show (fun w' => w'.cell? ⟨w4.heap.size, 0, none⟩ = some (.slice x_v2a n_v2a c_v2a) ∧ w'.cell? ⟨w4.heap.size, 1, none⟩ = some (.slice x_v2b n_v2b c_v2b) ∧ w'.cell? ⟨w4.heap.size, 2, none⟩ = some (.slice x_v2c n_v2c c_v2c) ∧ w'.cell? ⟨w4.heap.size, 3, none⟩ = some (.int .i64 (l0).2.2.2.1) ∧ w'.cell? ⟨w4.heap.size, 4, none⟩ = some (.int .i64 (l0).2.2.2.2) ∧ w'.cell? ⟨w.heap.size, 0, none⟩ = some (.slice x_q0a n_q0a c_q0a) ∧ w'.cell? ⟨w.heap.size, 1, none⟩ = some (.slice x_q0b n_q0b c_q0b) ∧ w'.cell? ⟨w.heap.size, 2, none⟩ = some (.slice x_q0c n_q0c c_q0c) ∧ w'.cell? ⟨w.heap.size, 3, none⟩ = some (.int .i64 (l0).2.2.2.1) ∧ w'.cell? ⟨w.heap.size, 4, none⟩ = some (.int .i64 (l0).2.2.2.2) ∧ Below w.heap.size w w') _ from ⟨Row.kc KS1.out.1 hbb, Row.kc KS1.out.2.1 hbb, Row.kc KS1.out.2.2.1 hbb, Row.kc KS1.out.2.2.2.1 hbb, Row.kc KS1.out.2.2.2.2.1 hbb, Row.kc KS1.out.2.2.2.2.2.1 hbb, Row.kc KS1.out.2.2.2.2.2.2.1 hbb, Row.kc KS1.out.2.2.2.2.2.2.2.1 hbb, Row.kc KS1.out.2.2.2.2.2.2.2.2.1 hbb, Row.kc KS1.out.2.2.2.2.2.2.2.2.2.1 hbb, KS1.out.2.2.2.2.2.2.2.2.2.2.trans (hbb.mono KS1.out.2.2.2.2.2.2.2.2.2.2.size)⟩)) | (go_at_call 13; refine (Row.toDK _ l0 _ (Q0.out.on BB.out) (by omega)).mono ?_; rintro e w6 ⟨v3, rfl, hoa, hba⟩; obtain ⟨x_v3a, n_v3a, c_v3a, x_v3b, n_v3b, c_v3b, x_v3c, n_v3c, c_v3c, rfl, hoa⟩ := Row.kD_shape hoa; have KS1 := Lib.hid (show (fun w' => w'.cell? ⟨w4.heap.size, 0, none⟩ = some (.slice x_v2a n_v2a c_v2a) ∧ w'.cell? ⟨w4.heap.size, 1, none⟩ = some (.slice x_v2b n_v2b c_v2b) ∧ w'.cell? ⟨w4.heap.size, 2, none⟩ = some (.slice x_v2c n_v2c c_v2c) ∧ w'.cell? ⟨w4.heap.size, 3, none⟩ = some (.int .i64 (l0).2.2.2.1) ∧ w'.cell? ⟨w4.heap.size, 4, none⟩ = some (.int .i64 (l0).2.2.2.2) ∧ w'.cell? ⟨w.heap.size, 0, none⟩ = some (.slice x_q0a n_q0a c_q0a) ∧ w'.cell? ⟨w.heap.size, 1, none⟩ = some (.slice x_q0b n_q0b c_q0b) ∧ w'.cell? ⟨w.heap.size, 2, none⟩ = some (.slice x_q0c n_q0c c_q0c) ∧ w'.cell? ⟨w.heap.size, 3, none⟩ = some (.int .i64 (l0).2.2.2.1) ∧ w'.cell? ⟨w.heap.size, 4, none⟩ = some (.int .i64 (l0).2.2.2.2) ∧ Below w.heap.size w w') _ from ⟨Row.kc KS0.out.1 hba, Row.kc KS0.out.2.1 hba, Row.kc KS0.out.2.2.1 hba, Row.kc KS0.out.2.2.2.1 hba, Row.kc KS0.out.2.2.2.2.1 hba, Row.kc KS0.out.2.2.2.2.2.1 hba, Row.kc KS0.out.2.2.2.2.2.2.1 hba, Row.kc KS0.out.2.2.2.2.2.2.2.1 hba, Row.kc KS0.out.2.2.2.2.2.2.2.2.1 hba, Row.kc KS0.out.2.2.2.2.2.2.2.2.2.1 hba, KS0.out.2.2.2.2.2.2.2.2.2.2.trans (hba.mono KS0.out.2.2.2.2.2.2.2.2.2.2.size)⟩))))
    clear KS0 KS1 KS2 hoa
    replace C_aX := Lib.hid (C_aX.out.on hba)
    replace C_x0 := Lib.hid (C_x0.out.on hba)
    replace O_v2 := Lib.hid (O_v2.out.on hba)
    replace BB := Lib.hid (BB.out.trans (hba.mono BB.out.size))
    have S8 := Lib.hid (show w5.heap.size ≤ w6.heap.size from (by have h := hba.size; exact h))
    replace C_aX := Lib.hid (C_aX.out.on hbb)
    replace C_x0 := Lib.hid (C_x0.out.on hbb)
    replace O_v2 := Lib.hid (O_v2.out.on hbb)
    replace BB := Lib.hid (BB.out.trans (hbb.mono BB.out.size))
    have S9 := Lib.hid (show w6.heap.size ≤ w7.heap.size from (by have h := hbb.size; exact h))
    clear hba hbb
    have c0_aX : w7.cell? ⟨w.heap.size, 0, none⟩ = some (.slice x_q0a n_q0a c_q0a) := C_aX.out.cell 0
    have c1_aX : w7.cell? ⟨w.heap.size, 1, none⟩ = some (.slice x_q0b n_q0b c_q0b) := C_aX.out.cell 1
    have c2_aX : w7.cell? ⟨w.heap.size, 2, none⟩ = some (.slice x_q0c n_q0c c_q0c) := C_aX.out.cell 2
    have c3_aX : w7.cell? ⟨w.heap.size, 3, none⟩ = some (.int .i64 (l0).2.2.2.1) := C_aX.out.cell 3
    have c4_aX : w7.cell? ⟨w.heap.size, 4, none⟩ = some (.int .i64 (l0).2.2.2.2) := C_aX.out.cell 4
    have c0_x0 : w7.cell? ⟨w4.heap.size, 0, none⟩ = some (.slice x_v2a n_v2a c_v2a) := C_x0.out.cell 0
    have c1_x0 : w7.cell? ⟨w4.heap.size, 1, none⟩ = some (.slice x_v2b n_v2b c_v2b) := C_x0.out.cell 1
    have c2_x0 : w7.cell? ⟨w4.heap.size, 2, none⟩ = some (.slice x_v2c n_v2c c_v2c) := C_x0.out.cell 2
    have c3_x0 : w7.cell? ⟨w4.heap.size, 3, none⟩ = some (.int .i64 (l0).2.2.2.1) := C_x0.out.cell 3
    have c4_x0 : w7.cell? ⟨w4.heap.size, 4, none⟩ = some (.int .i64 (l0).2.2.2.2) := C_x0.out.cell 4
    go_wp2_with fail
    clear c0_aX c1_aX c2_aX c3_aX c4_aX c0_x0 c1_x0 c2_x0 c3_x0 c4_x0
    go_ret
    exact ⟨rfl, BB.out⟩
  · -- out
    rw [Row.szD_not (by omega)]
    go_wp2
    go_ret
    exact ⟨rfl, BB.out⟩

set_option maxRecDepth 100000 in
theorem lifted (os : Os) (started : os.Started) (H : Type) (enc : TypeId × Value → H) :
    ReturnsInHanded {} Try.checked os 9 .any (Rows.fnExactFreshAtSpec.pre6 enc Try.prog Try.f9 Rows.fnExactFreshAtRow.domain false) (Rows.fnExactFreshAtSpec.post enc Try.prog Try.f9 false true false false) := by
  refine returnsInHanded_of_change_sized (C := Try.checked) own started (by kernel_rfl) Try.func9
    (ChangeSpec.witness6 (enc := enc) (C := Try.checked) false ⟨#[], #[.agg #[.slice none 0 0, .slice none 0 0, .slice none 0 0, .int .i64 0, .int .i64 0], .int .i64 0], []⟩ 8 (by kernel_rfl) (by kernel_rfl) (by kernel_rfl) (by kernel_rfl)) ?_
  intro W base args ds gs before hval0 hW _ hsz0 _
  have hval : ∀ (j : Nat) t v, Try.f9.params[j]? = some t → args[j]? = some v → Value.okWide Try.prog W .any base t v := hval0
  have hsz : (DataW.weightsEach Try.prog (Try.f9.params.toList ++ Rows.fnExactFreshAtSpec.plain.varTypes Try.prog) (ds ++ gs)).all (· ≤ reachBytes) = true := hsz0
  clear hsz0
  have hW' := hW
  obtain ⟨p, q, hA0, hV, rfl, hfz, hnd⟩ := hW
  have hA : DataW.TrodAll enc Try.prog W 0 (fun _ => true) true Try.f9.params.toList args.toList ds p := hA0
  rw [Try.params9] at hA hval hsz
  obtain ⟨v0, vs0, d0, ds0, p0, q0, hargs, rfl, rfl, h0, r0⟩ := trodAll_cons hA
  obtain ⟨v1, vs1, d1, ds1, p1, q1, rfl, rfl, rfl, h1, r1⟩ := trodAll_cons r0
  obtain ⟨rfl, rfl, rfl⟩ := trodAll_nil r1
  obtain rfl : args = #[v0, v1] := by cases args; simp_all
  obtain ⟨rfl, rfl⟩ := trodVars_none hV
  obtain ⟨l0, q0, n0, m0⟩ := Row.open_data (t := 27) Try.underlying27 Try.underlying24 Try.underlying24 Try.underlying22 Try.underlying9 Try.underlying25 Try.underlying5 Try.underlying3 Try.underlying3 rfl rfl rfl rfl rfl rfl (by kernel_rfl) (by kernel_rfl) (by kernel_rfl) (by kernel_rfl) (by kernel_rfl) (by kernel_rfl) (by kernel_rfl) (by kernel_rfl) (by kernel_rfl) (hval 0 27 v0 rfl rfl) h0
  obtain ⟨a1, rfl, rfl, rfl, w1⟩ := open_int Try.underlying3 (hval 1 3 v1 rfl rfl) h1
  clear hA0 hval0
  refine (walk a1 w1 W _ _ q0 n0 m0).mono fun e W' ⟨he, hb⟩ => ?_
  subst he
  exact ⟨_, rfl, Frame.law_post laidOut (by kernel_rfl) rfl Try.underlying4 rfl rfl hW' hb⟩

theorem said : Rows.FnExactFreshAtSaid :=
  OpenClaim.holds_of_wide 9 Try.f9 rfl rfl rfl rfl rfl rfl rfl ⟨rfl, rfl, rfl, rfl, rfl⟩ rfl rfl rfl rfl rfl (by kernel_rfl) Try.func9 (by kernel_rfl)
    (of_decide_eq_true (by kernel_rfl)) (by unfold Func.isWrapper; first | (rw [if_pos (by decide +kernel)]; kernel_rfl) | (rw [if_neg (by decide +kernel)]; exact ⟨rfl, rfl⟩))
    (fun os started H enc _ => lifted os started H enc)

#print axioms said
end Go.Proofs.Ytbooamnlocobfaa.fnExactFreshAt
