/- DecrementHops answers as its model for all interests, writes into no argument, and its answer owns its memory. No conditions. -/
import Derived.Test.YtnnhgcfelkcpfaaRows
import Derived.WalkKit
import Derived.ProofKit
import Derived.OpenShut
import Derived.SizedLaws
import Derived.Test.YtnnhgcfelkcpfaaFrame
import Derived.Test.YtnnhgcfelkcpfaaKFun7
namespace Go.Proofs.Ytnnhgcfelkcpfaa.fnExactDecrementHops
open Go.ChangeShapes Go.WideShapes Go.ChangeAt Go.RowKit
open Go.ChangeMaps (open_string shut_string)
set_option linter.unusedVariables false

theorem own : ownKnob Try.prog.godebug = none := by kernel_rfl
theorem laidOut : laidOutB Try.prog = true := by kernel_rfl

set_option maxRecDepth 100000 in
set_option maxHeartbeats 4000000 in
theorem walk (w : World) (y0 : Value) (l0 : Row.Wt) (q0 : Row.kW.At w y0 l0) (n0 : Row.WfW l0) (m0 : l0.1.length ≤ 9223372036854775807) :
    Calls Try.prog 8 #[y0] w fun e w' => e = .returned (.bool true) ∧ Below w.heap.size w w' := by
  obtain ⟨x_q0, n_q0, c_q0, rfl, q0⟩ := Row.kW_shapeA q0
  have Q0 := Lib.hid q0; have N0 := Lib.hid n0; clear q0 n0
  have hal := (Below.refl w.heap.size w).alloc (Nat.le_refl _) (.cells #[.slice x_q0 n_q0 c_q0, .int .i64 (l0).2.1, .int .i64 (l0).2.2.1, .int .i64 (l0).2.2.2] 26)
  have BB := Lib.hid hal
  have C_aW := Lib.hid (Ret.Blk.new' (w := w) #[.slice x_q0 n_q0 c_q0, .int .i64 (l0).2.1, .int .i64 (l0).2.2.1, .int .i64 (l0).2.2.2] 26 (n := w.heap.size) (by first | rfl | simp)); clear hal
  have S1 := Lib.hid (show (w.alloc (.cells #[.slice x_q0 n_q0 c_q0, .int .i64 (l0).2.1, .int .i64 (l0).2.2.1, .int .i64 (l0).2.2.2] 26)).heap.size = w.heap.size + 1 from World.size_alloc _ _)
  go_enter Try.func8, Try.ntmps8
  have c0_aW : (w.alloc (.cells #[.slice x_q0 n_q0 c_q0, .int .i64 (l0).2.1, .int .i64 (l0).2.2.1, .int .i64 (l0).2.2.2] 26)).cell? ⟨w.heap.size, 0, none⟩ = some (.slice x_q0 n_q0 c_q0) := C_aW.out.cell 0
  have c1_aW : (w.alloc (.cells #[.slice x_q0 n_q0 c_q0, .int .i64 (l0).2.1, .int .i64 (l0).2.2.1, .int .i64 (l0).2.2.2] 26)).cell? ⟨w.heap.size, 1, none⟩ = some (.int .i64 (l0).2.1) := C_aW.out.cell 1
  have c2_aW : (w.alloc (.cells #[.slice x_q0 n_q0 c_q0, .int .i64 (l0).2.1, .int .i64 (l0).2.2.1, .int .i64 (l0).2.2.2] 26)).cell? ⟨w.heap.size, 2, none⟩ = some (.int .i64 (l0).2.2.1) := C_aW.out.cell 2
  have c3_aW : (w.alloc (.cells #[.slice x_q0 n_q0 c_q0, .int .i64 (l0).2.1, .int .i64 (l0).2.2.1, .int .i64 (l0).2.2.2] 26)).cell? ⟨w.heap.size, 3, none⟩ = some (.int .i64 (l0).2.2.2) := C_aW.out.cell 3
  go_wp2_with fail
  clear c0_aW c1_aW c2_aW c3_aW
  refine (Row.szWK _ l0 _ (1048576) (Q0.out.on BB.out) m0 N0.out (by omega) (by omega)).mono ?_
  rintro e w1 ⟨rfl, hb⟩
  replace C_aW := Lib.hid (C_aW.out.on hb)
  replace BB := Lib.hid (BB.out.trans (hb.mono BB.out.size))
  have S2 := Lib.hid (show (w.alloc (.cells #[.slice x_q0 n_q0 c_q0, .int .i64 (l0).2.1, .int .i64 (l0).2.2.1, .int .i64 (l0).2.2.2] 26)).heap.size ≤ w1.heap.size from (by have h := hb.size; exact h))
  clear hb
  by_cases t0 : (Row.bulk (l0).1 : Int) ≤ 1048576
  · -- in
    rw [Row.szL_fit t0]
    have b0 : Row.bulk (l0).1 ≤ 1048576 := by omega
    have d0 : (l0).1.length ≤ 1048576 := Row.bigLen b0
    have g0 : ¬ 1048576 - (Row.bulk (l0).1 : Int) < 0 := by omega
    have c0_aW : w1.cell? ⟨w.heap.size, 0, none⟩ = some (.slice x_q0 n_q0 c_q0) := C_aW.out.cell 0
    have c1_aW : w1.cell? ⟨w.heap.size, 1, none⟩ = some (.int .i64 (l0).2.1) := C_aW.out.cell 1
    have c2_aW : w1.cell? ⟨w.heap.size, 2, none⟩ = some (.int .i64 (l0).2.2.1) := C_aW.out.cell 2
    have c3_aW : w1.cell? ⟨w.heap.size, 3, none⟩ = some (.int .i64 (l0).2.2.2) := C_aW.out.cell 3
    go_wp2_with fail
    clear c0_aW c1_aW c2_aW c3_aW
    refine (Row.toWK _ l0 _ (Q0.out.on BB.out) (by omega)).mono ?_
    rintro e w2 ⟨v1, rfl, ho, hb⟩
    obtain ⟨x_v1, n_v1, c_v1, rfl, ho⟩ := Row.kW_shape ho
    replace C_aW := Lib.hid (C_aW.out.on hb)
    replace BB := Lib.hid (BB.out.trans (hb.mono BB.out.size))
    have S3 := Lib.hid (show w1.heap.size ≤ w2.heap.size from (by have h := hb.size; exact h))
    have O_v1 := Lib.hid (show Row.kW.In w1.heap.size w2.heap.size w2 (.agg #[.slice x_v1 n_v1 c_v1, .int .i64 (l0).2.1, .int .i64 (l0).2.2.1, .int .i64 (l0).2.2.2]) (l0) from ho); clear ho
    clear hb
    have c0_aW : w2.cell? ⟨w.heap.size, 0, none⟩ = some (.slice x_q0 n_q0 c_q0) := C_aW.out.cell 0
    have c1_aW : w2.cell? ⟨w.heap.size, 1, none⟩ = some (.int .i64 (l0).2.1) := C_aW.out.cell 1
    have c2_aW : w2.cell? ⟨w.heap.size, 2, none⟩ = some (.int .i64 (l0).2.2.1) := C_aW.out.cell 2
    have c3_aW : w2.cell? ⟨w.heap.size, 3, none⟩ = some (.int .i64 (l0).2.2.2) := C_aW.out.cell 3
    go_wp2_with fail
    clear c0_aW c1_aW c2_aW c3_aW
    have f1 := Row.decW_len (l0)
    refine (Row.specDecrementHopsK _ (l0) _ (O_v1.out.at) (by omega) (Row.WfW.hop N0.out)).mono ?_
    rintro e w3 ⟨v2, rfl, ho, hb⟩
    obtain ⟨x_v2, n_v2, c_v2, rfl, ho⟩ := Row.kW_shape ho
    replace C_aW := Lib.hid (C_aW.out.on hb)
    replace O_v1 := Lib.hid (O_v1.out.on hb)
    replace BB := Lib.hid (BB.out.trans (hb.mono BB.out.size))
    have S4 := Lib.hid (show w2.heap.size ≤ w3.heap.size from (by have h := hb.size; exact h))
    have O_v2 := Lib.hid (show Row.kW.In w2.heap.size w3.heap.size w3 (.agg #[.slice x_v2 n_v2 c_v2, .int .i64 (Row.decW (l0)).2.1, .int .i64 (Row.decW (l0)).2.2.1, .int .i64 (Row.decW (l0)).2.2.2]) (Row.decW (l0)) from ho); clear ho
    clear hb
    have hal := (Below.refl w3.heap.size w3).alloc (Nat.le_refl _) (.cells #[.slice x_v2 n_v2 c_v2, .int .i64 (Row.decW (l0)).2.1, .int .i64 (Row.decW (l0)).2.2.1, .int .i64 (Row.decW (l0)).2.2.2] 31)
    replace C_aW := Lib.hid (C_aW.out.on hal)
    replace O_v1 := Lib.hid (O_v1.out.on hal)
    replace O_v2 := Lib.hid (O_v2.out.on hal)
    replace BB := Lib.hid (BB.out.trans (hal.mono BB.out.size))
    have S5 := Lib.hid (show (w3.alloc (.cells #[.slice x_v2 n_v2 c_v2, .int .i64 (Row.decW (l0)).2.1, .int .i64 (Row.decW (l0)).2.2.1, .int .i64 (Row.decW (l0)).2.2.2] 31)).heap.size = w3.heap.size + 1 from World.size_alloc _ _)
    have C_w0 := Lib.hid (Ret.Blk.new w3 #[.slice x_v2 n_v2 c_v2, .int .i64 (Row.decW (l0)).2.1, .int .i64 (Row.decW (l0)).2.2.1, .int .i64 (Row.decW (l0)).2.2.2] 31); clear hal
    have c0_aW : (w3.alloc (.cells #[.slice x_v2 n_v2 c_v2, .int .i64 (Row.decW (l0)).2.1, .int .i64 (Row.decW (l0)).2.2.1, .int .i64 (Row.decW (l0)).2.2.2] 31)).cell? ⟨w.heap.size, 0, none⟩ = some (.slice x_q0 n_q0 c_q0) := C_aW.out.cell 0
    have c1_aW : (w3.alloc (.cells #[.slice x_v2 n_v2 c_v2, .int .i64 (Row.decW (l0)).2.1, .int .i64 (Row.decW (l0)).2.2.1, .int .i64 (Row.decW (l0)).2.2.2] 31)).cell? ⟨w.heap.size, 1, none⟩ = some (.int .i64 (l0).2.1) := C_aW.out.cell 1
    have c2_aW : (w3.alloc (.cells #[.slice x_v2 n_v2 c_v2, .int .i64 (Row.decW (l0)).2.1, .int .i64 (Row.decW (l0)).2.2.1, .int .i64 (Row.decW (l0)).2.2.2] 31)).cell? ⟨w.heap.size, 2, none⟩ = some (.int .i64 (l0).2.2.1) := C_aW.out.cell 2
    have c3_aW : (w3.alloc (.cells #[.slice x_v2 n_v2 c_v2, .int .i64 (Row.decW (l0)).2.1, .int .i64 (Row.decW (l0)).2.2.1, .int .i64 (Row.decW (l0)).2.2.2] 31)).cell? ⟨w.heap.size, 3, none⟩ = some (.int .i64 (l0).2.2.2) := C_aW.out.cell 3
    have c0_w0 : (w3.alloc (.cells #[.slice x_v2 n_v2 c_v2, .int .i64 (Row.decW (l0)).2.1, .int .i64 (Row.decW (l0)).2.2.1, .int .i64 (Row.decW (l0)).2.2.2] 31)).cell? ⟨w3.heap.size, 0, none⟩ = some (.slice x_v2 n_v2 c_v2) := C_w0.out.cell 0
    have c1_w0 : (w3.alloc (.cells #[.slice x_v2 n_v2 c_v2, .int .i64 (Row.decW (l0)).2.1, .int .i64 (Row.decW (l0)).2.2.1, .int .i64 (Row.decW (l0)).2.2.2] 31)).cell? ⟨w3.heap.size, 1, none⟩ = some (.int .i64 (Row.decW (l0)).2.1) := C_w0.out.cell 1
    have c2_w0 : (w3.alloc (.cells #[.slice x_v2 n_v2 c_v2, .int .i64 (Row.decW (l0)).2.1, .int .i64 (Row.decW (l0)).2.2.1, .int .i64 (Row.decW (l0)).2.2.2] 31)).cell? ⟨w3.heap.size, 2, none⟩ = some (.int .i64 (Row.decW (l0)).2.2.1) := C_w0.out.cell 2
    have c3_w0 : (w3.alloc (.cells #[.slice x_v2 n_v2 c_v2, .int .i64 (Row.decW (l0)).2.1, .int .i64 (Row.decW (l0)).2.2.1, .int .i64 (Row.decW (l0)).2.2.2] 31)).cell? ⟨w3.heap.size, 3, none⟩ = some (.int .i64 (Row.decW (l0)).2.2.2) := C_w0.out.cell 3
    go_wp2_with fail
    clear c0_aW c1_aW c2_aW c3_aW c0_w0 c1_w0 c2_w0 c3_w0
    clear O_v1
    refine (Row.toWK _ l0 _ (Q0.out.on BB.out) (by omega)).mono ?_
    rintro e w4 ⟨v3, rfl, ho, hb⟩
    obtain ⟨x_v3, n_v3, c_v3, rfl, ho⟩ := Row.kW_shape ho
    replace C_aW := Lib.hid (C_aW.out.on hb)
    replace C_w0 := Lib.hid (C_w0.out.on hb)
    replace O_v2 := Lib.hid (O_v2.out.on hb)
    replace BB := Lib.hid (BB.out.trans (hb.mono BB.out.size))
    have S6 := Lib.hid (show (w3.alloc (.cells #[.slice x_v2 n_v2 c_v2, .int .i64 (Row.decW (l0)).2.1, .int .i64 (Row.decW (l0)).2.2.1, .int .i64 (Row.decW (l0)).2.2.2] 31)).heap.size ≤ w4.heap.size from (by have h := hb.size; exact h))
    have O_v3 := Lib.hid (show Row.kW.In (w3.alloc (.cells #[.slice x_v2 n_v2 c_v2, .int .i64 (Row.decW (l0)).2.1, .int .i64 (Row.decW (l0)).2.2.1, .int .i64 (Row.decW (l0)).2.2.2] 31)).heap.size w4.heap.size w4 (.agg #[.slice x_v3 n_v3 c_v3, .int .i64 (l0).2.1, .int .i64 (l0).2.2.1, .int .i64 (l0).2.2.2]) (l0) from ho); clear ho
    clear hb
    have hal := (Below.refl w4.heap.size w4).alloc (Nat.le_refl _) (.cells #[.slice x_v3 n_v3 c_v3, .int .i64 (l0).2.1, .int .i64 (l0).2.2.1, .int .i64 (l0).2.2.2] 31)
    replace C_aW := Lib.hid (C_aW.out.on hal)
    replace C_w0 := Lib.hid (C_w0.out.on hal)
    replace O_v2 := Lib.hid (O_v2.out.on hal)
    replace O_v3 := Lib.hid (O_v3.out.on hal)
    replace BB := Lib.hid (BB.out.trans (hal.mono BB.out.size))
    have S7 := Lib.hid (show (w4.alloc (.cells #[.slice x_v3 n_v3 c_v3, .int .i64 (l0).2.1, .int .i64 (l0).2.2.1, .int .i64 (l0).2.2.2] 31)).heap.size = w4.heap.size + 1 from World.size_alloc _ _)
    have C_x0 := Lib.hid (Ret.Blk.new w4 #[.slice x_v3 n_v3 c_v3, .int .i64 (l0).2.1, .int .i64 (l0).2.2.1, .int .i64 (l0).2.2.2] 31); clear hal
    have c0_aW : (w4.alloc (.cells #[.slice x_v3 n_v3 c_v3, .int .i64 (l0).2.1, .int .i64 (l0).2.2.1, .int .i64 (l0).2.2.2] 31)).cell? ⟨w.heap.size, 0, none⟩ = some (.slice x_q0 n_q0 c_q0) := C_aW.out.cell 0
    have c1_aW : (w4.alloc (.cells #[.slice x_v3 n_v3 c_v3, .int .i64 (l0).2.1, .int .i64 (l0).2.2.1, .int .i64 (l0).2.2.2] 31)).cell? ⟨w.heap.size, 1, none⟩ = some (.int .i64 (l0).2.1) := C_aW.out.cell 1
    have c2_aW : (w4.alloc (.cells #[.slice x_v3 n_v3 c_v3, .int .i64 (l0).2.1, .int .i64 (l0).2.2.1, .int .i64 (l0).2.2.2] 31)).cell? ⟨w.heap.size, 2, none⟩ = some (.int .i64 (l0).2.2.1) := C_aW.out.cell 2
    have c3_aW : (w4.alloc (.cells #[.slice x_v3 n_v3 c_v3, .int .i64 (l0).2.1, .int .i64 (l0).2.2.1, .int .i64 (l0).2.2.2] 31)).cell? ⟨w.heap.size, 3, none⟩ = some (.int .i64 (l0).2.2.2) := C_aW.out.cell 3
    have c0_w0 : (w4.alloc (.cells #[.slice x_v3 n_v3 c_v3, .int .i64 (l0).2.1, .int .i64 (l0).2.2.1, .int .i64 (l0).2.2.2] 31)).cell? ⟨w3.heap.size, 0, none⟩ = some (.slice x_v2 n_v2 c_v2) := C_w0.out.cell 0
    have c1_w0 : (w4.alloc (.cells #[.slice x_v3 n_v3 c_v3, .int .i64 (l0).2.1, .int .i64 (l0).2.2.1, .int .i64 (l0).2.2.2] 31)).cell? ⟨w3.heap.size, 1, none⟩ = some (.int .i64 (Row.decW (l0)).2.1) := C_w0.out.cell 1
    have c2_w0 : (w4.alloc (.cells #[.slice x_v3 n_v3 c_v3, .int .i64 (l0).2.1, .int .i64 (l0).2.2.1, .int .i64 (l0).2.2.2] 31)).cell? ⟨w3.heap.size, 2, none⟩ = some (.int .i64 (Row.decW (l0)).2.2.1) := C_w0.out.cell 2
    have c3_w0 : (w4.alloc (.cells #[.slice x_v3 n_v3 c_v3, .int .i64 (l0).2.1, .int .i64 (l0).2.2.1, .int .i64 (l0).2.2.2] 31)).cell? ⟨w3.heap.size, 3, none⟩ = some (.int .i64 (Row.decW (l0)).2.2.2) := C_w0.out.cell 3
    have c0_x0 : (w4.alloc (.cells #[.slice x_v3 n_v3 c_v3, .int .i64 (l0).2.1, .int .i64 (l0).2.2.1, .int .i64 (l0).2.2.2] 31)).cell? ⟨w4.heap.size, 0, none⟩ = some (.slice x_v3 n_v3 c_v3) := C_x0.out.cell 0
    have c1_x0 : (w4.alloc (.cells #[.slice x_v3 n_v3 c_v3, .int .i64 (l0).2.1, .int .i64 (l0).2.2.1, .int .i64 (l0).2.2.2] 31)).cell? ⟨w4.heap.size, 1, none⟩ = some (.int .i64 (l0).2.1) := C_x0.out.cell 1
    have c2_x0 : (w4.alloc (.cells #[.slice x_v3 n_v3 c_v3, .int .i64 (l0).2.1, .int .i64 (l0).2.2.1, .int .i64 (l0).2.2.2] 31)).cell? ⟨w4.heap.size, 2, none⟩ = some (.int .i64 (l0).2.2.1) := C_x0.out.cell 2
    have c3_x0 : (w4.alloc (.cells #[.slice x_v3 n_v3 c_v3, .int .i64 (l0).2.1, .int .i64 (l0).2.2.1, .int .i64 (l0).2.2.2] 31)).cell? ⟨w4.heap.size, 3, none⟩ = some (.int .i64 (l0).2.2.2) := C_x0.out.cell 3
    go_wp2_with fail
    clear c0_aW c1_aW c2_aW c3_aW c0_w0 c1_w0 c2_w0 c3_w0 c0_x0 c1_x0 c2_x0 c3_x0
    have f2 := Row.decW_len (l0)
    refine (Row.implDecrementHopsK _ (l0) _ (O_v3.out.at) (by omega) (Row.WfW.hop N0.out)).mono ?_
    rintro e w5 ⟨v4, rfl, ho, hb⟩
    obtain ⟨x_v4, n_v4, c_v4, rfl, ho⟩ := Row.kW_shape ho
    replace C_aW := Lib.hid (C_aW.out.on hb)
    replace C_w0 := Lib.hid (C_w0.out.on hb)
    replace C_x0 := Lib.hid (C_x0.out.on hb)
    replace O_v2 := Lib.hid (O_v2.out.on hb)
    replace O_v3 := Lib.hid (O_v3.out.on hb)
    replace BB := Lib.hid (BB.out.trans (hb.mono BB.out.size))
    have S8 := Lib.hid (show (w4.alloc (.cells #[.slice x_v3 n_v3 c_v3, .int .i64 (l0).2.1, .int .i64 (l0).2.2.1, .int .i64 (l0).2.2.2] 31)).heap.size ≤ w5.heap.size from (by have h := hb.size; exact h))
    have O_v4 := Lib.hid (show Row.kW.In (w4.alloc (.cells #[.slice x_v3 n_v3 c_v3, .int .i64 (l0).2.1, .int .i64 (l0).2.2.1, .int .i64 (l0).2.2.2] 31)).heap.size w5.heap.size w5 (.agg #[.slice x_v4 n_v4 c_v4, .int .i64 (Row.decW (l0)).2.1, .int .i64 (Row.decW (l0)).2.2.1, .int .i64 (Row.decW (l0)).2.2.2]) (Row.decW (l0)) from ho); clear ho
    clear hb
    have hal := (Below.refl w5.heap.size w5).alloc (Nat.le_refl _) (.cells #[.slice x_v4 n_v4 c_v4, .int .i64 (Row.decW (l0)).2.1, .int .i64 (Row.decW (l0)).2.2.1, .int .i64 (Row.decW (l0)).2.2.2] 31)
    replace C_aW := Lib.hid (C_aW.out.on hal)
    replace C_w0 := Lib.hid (C_w0.out.on hal)
    replace C_x0 := Lib.hid (C_x0.out.on hal)
    replace O_v2 := Lib.hid (O_v2.out.on hal)
    replace O_v3 := Lib.hid (O_v3.out.on hal)
    replace O_v4 := Lib.hid (O_v4.out.on hal)
    replace BB := Lib.hid (BB.out.trans (hal.mono BB.out.size))
    have S9 := Lib.hid (show (w5.alloc (.cells #[.slice x_v4 n_v4 c_v4, .int .i64 (Row.decW (l0)).2.1, .int .i64 (Row.decW (l0)).2.2.1, .int .i64 (Row.decW (l0)).2.2.2] 31)).heap.size = w5.heap.size + 1 from World.size_alloc _ _)
    have C_g0 := Lib.hid (Ret.Blk.new w5 #[.slice x_v4 n_v4 c_v4, .int .i64 (Row.decW (l0)).2.1, .int .i64 (Row.decW (l0)).2.2.1, .int .i64 (Row.decW (l0)).2.2.2] 31); clear hal
    have c0_aW : (w5.alloc (.cells #[.slice x_v4 n_v4 c_v4, .int .i64 (Row.decW (l0)).2.1, .int .i64 (Row.decW (l0)).2.2.1, .int .i64 (Row.decW (l0)).2.2.2] 31)).cell? ⟨w.heap.size, 0, none⟩ = some (.slice x_q0 n_q0 c_q0) := C_aW.out.cell 0
    have c1_aW : (w5.alloc (.cells #[.slice x_v4 n_v4 c_v4, .int .i64 (Row.decW (l0)).2.1, .int .i64 (Row.decW (l0)).2.2.1, .int .i64 (Row.decW (l0)).2.2.2] 31)).cell? ⟨w.heap.size, 1, none⟩ = some (.int .i64 (l0).2.1) := C_aW.out.cell 1
    have c2_aW : (w5.alloc (.cells #[.slice x_v4 n_v4 c_v4, .int .i64 (Row.decW (l0)).2.1, .int .i64 (Row.decW (l0)).2.2.1, .int .i64 (Row.decW (l0)).2.2.2] 31)).cell? ⟨w.heap.size, 2, none⟩ = some (.int .i64 (l0).2.2.1) := C_aW.out.cell 2
    have c3_aW : (w5.alloc (.cells #[.slice x_v4 n_v4 c_v4, .int .i64 (Row.decW (l0)).2.1, .int .i64 (Row.decW (l0)).2.2.1, .int .i64 (Row.decW (l0)).2.2.2] 31)).cell? ⟨w.heap.size, 3, none⟩ = some (.int .i64 (l0).2.2.2) := C_aW.out.cell 3
    have c0_w0 : (w5.alloc (.cells #[.slice x_v4 n_v4 c_v4, .int .i64 (Row.decW (l0)).2.1, .int .i64 (Row.decW (l0)).2.2.1, .int .i64 (Row.decW (l0)).2.2.2] 31)).cell? ⟨w3.heap.size, 0, none⟩ = some (.slice x_v2 n_v2 c_v2) := C_w0.out.cell 0
    have c1_w0 : (w5.alloc (.cells #[.slice x_v4 n_v4 c_v4, .int .i64 (Row.decW (l0)).2.1, .int .i64 (Row.decW (l0)).2.2.1, .int .i64 (Row.decW (l0)).2.2.2] 31)).cell? ⟨w3.heap.size, 1, none⟩ = some (.int .i64 (Row.decW (l0)).2.1) := C_w0.out.cell 1
    have c2_w0 : (w5.alloc (.cells #[.slice x_v4 n_v4 c_v4, .int .i64 (Row.decW (l0)).2.1, .int .i64 (Row.decW (l0)).2.2.1, .int .i64 (Row.decW (l0)).2.2.2] 31)).cell? ⟨w3.heap.size, 2, none⟩ = some (.int .i64 (Row.decW (l0)).2.2.1) := C_w0.out.cell 2
    have c3_w0 : (w5.alloc (.cells #[.slice x_v4 n_v4 c_v4, .int .i64 (Row.decW (l0)).2.1, .int .i64 (Row.decW (l0)).2.2.1, .int .i64 (Row.decW (l0)).2.2.2] 31)).cell? ⟨w3.heap.size, 3, none⟩ = some (.int .i64 (Row.decW (l0)).2.2.2) := C_w0.out.cell 3
    have c0_x0 : (w5.alloc (.cells #[.slice x_v4 n_v4 c_v4, .int .i64 (Row.decW (l0)).2.1, .int .i64 (Row.decW (l0)).2.2.1, .int .i64 (Row.decW (l0)).2.2.2] 31)).cell? ⟨w4.heap.size, 0, none⟩ = some (.slice x_v3 n_v3 c_v3) := C_x0.out.cell 0
    have c1_x0 : (w5.alloc (.cells #[.slice x_v4 n_v4 c_v4, .int .i64 (Row.decW (l0)).2.1, .int .i64 (Row.decW (l0)).2.2.1, .int .i64 (Row.decW (l0)).2.2.2] 31)).cell? ⟨w4.heap.size, 1, none⟩ = some (.int .i64 (l0).2.1) := C_x0.out.cell 1
    have c2_x0 : (w5.alloc (.cells #[.slice x_v4 n_v4 c_v4, .int .i64 (Row.decW (l0)).2.1, .int .i64 (Row.decW (l0)).2.2.1, .int .i64 (Row.decW (l0)).2.2.2] 31)).cell? ⟨w4.heap.size, 2, none⟩ = some (.int .i64 (l0).2.2.1) := C_x0.out.cell 2
    have c3_x0 : (w5.alloc (.cells #[.slice x_v4 n_v4 c_v4, .int .i64 (Row.decW (l0)).2.1, .int .i64 (Row.decW (l0)).2.2.1, .int .i64 (Row.decW (l0)).2.2.2] 31)).cell? ⟨w4.heap.size, 3, none⟩ = some (.int .i64 (l0).2.2.2) := C_x0.out.cell 3
    have c0_g0 : (w5.alloc (.cells #[.slice x_v4 n_v4 c_v4, .int .i64 (Row.decW (l0)).2.1, .int .i64 (Row.decW (l0)).2.2.1, .int .i64 (Row.decW (l0)).2.2.2] 31)).cell? ⟨w5.heap.size, 0, none⟩ = some (.slice x_v4 n_v4 c_v4) := C_g0.out.cell 0
    have c1_g0 : (w5.alloc (.cells #[.slice x_v4 n_v4 c_v4, .int .i64 (Row.decW (l0)).2.1, .int .i64 (Row.decW (l0)).2.2.1, .int .i64 (Row.decW (l0)).2.2.2] 31)).cell? ⟨w5.heap.size, 1, none⟩ = some (.int .i64 (Row.decW (l0)).2.1) := C_g0.out.cell 1
    have c2_g0 : (w5.alloc (.cells #[.slice x_v4 n_v4 c_v4, .int .i64 (Row.decW (l0)).2.1, .int .i64 (Row.decW (l0)).2.2.1, .int .i64 (Row.decW (l0)).2.2.2] 31)).cell? ⟨w5.heap.size, 2, none⟩ = some (.int .i64 (Row.decW (l0)).2.2.1) := C_g0.out.cell 2
    have c3_g0 : (w5.alloc (.cells #[.slice x_v4 n_v4 c_v4, .int .i64 (Row.decW (l0)).2.1, .int .i64 (Row.decW (l0)).2.2.1, .int .i64 (Row.decW (l0)).2.2.2] 31)).cell? ⟨w5.heap.size, 3, none⟩ = some (.int .i64 (Row.decW (l0)).2.2.2) := C_g0.out.cell 3
    go_wp2_with fail
    clear c0_aW c1_aW c2_aW c3_aW c0_w0 c1_w0 c2_w0 c3_w0 c0_x0 c1_x0 c2_x0 c3_x0 c0_g0 c1_g0 c2_g0 c3_g0
    refine (Row.sameWK _ _ (Row.decW (l0)) _ (O_v4.out.at) (O_v2.out.at) (by first | omega | (simp; omega) | (simp [Row.marks_length, Sl.marks_length, Row.mkW]; omega))).mono ?_
    rintro e w6 ⟨rfl, hb⟩
    replace C_aW := Lib.hid (C_aW.out.on hb)
    replace C_w0 := Lib.hid (C_w0.out.on hb)
    replace C_x0 := Lib.hid (C_x0.out.on hb)
    replace C_g0 := Lib.hid (C_g0.out.on hb)
    replace O_v2 := Lib.hid (O_v2.out.on hb)
    replace O_v3 := Lib.hid (O_v3.out.on hb)
    replace O_v4 := Lib.hid (O_v4.out.on hb)
    replace BB := Lib.hid (BB.out.trans (hb.mono BB.out.size))
    have S10 := Lib.hid (show (w5.alloc (.cells #[.slice x_v4 n_v4 c_v4, .int .i64 (Row.decW (l0)).2.1, .int .i64 (Row.decW (l0)).2.2.1, .int .i64 (Row.decW (l0)).2.2.2] 31)).heap.size ≤ w6.heap.size from (by have h := hb.size; exact h))
    clear hb
    have c0_aW : w6.cell? ⟨w.heap.size, 0, none⟩ = some (.slice x_q0 n_q0 c_q0) := C_aW.out.cell 0
    have c1_aW : w6.cell? ⟨w.heap.size, 1, none⟩ = some (.int .i64 (l0).2.1) := C_aW.out.cell 1
    have c2_aW : w6.cell? ⟨w.heap.size, 2, none⟩ = some (.int .i64 (l0).2.2.1) := C_aW.out.cell 2
    have c3_aW : w6.cell? ⟨w.heap.size, 3, none⟩ = some (.int .i64 (l0).2.2.2) := C_aW.out.cell 3
    have c0_w0 : w6.cell? ⟨w3.heap.size, 0, none⟩ = some (.slice x_v2 n_v2 c_v2) := C_w0.out.cell 0
    have c1_w0 : w6.cell? ⟨w3.heap.size, 1, none⟩ = some (.int .i64 (Row.decW (l0)).2.1) := C_w0.out.cell 1
    have c2_w0 : w6.cell? ⟨w3.heap.size, 2, none⟩ = some (.int .i64 (Row.decW (l0)).2.2.1) := C_w0.out.cell 2
    have c3_w0 : w6.cell? ⟨w3.heap.size, 3, none⟩ = some (.int .i64 (Row.decW (l0)).2.2.2) := C_w0.out.cell 3
    have c0_x0 : w6.cell? ⟨w4.heap.size, 0, none⟩ = some (.slice x_v3 n_v3 c_v3) := C_x0.out.cell 0
    have c1_x0 : w6.cell? ⟨w4.heap.size, 1, none⟩ = some (.int .i64 (l0).2.1) := C_x0.out.cell 1
    have c2_x0 : w6.cell? ⟨w4.heap.size, 2, none⟩ = some (.int .i64 (l0).2.2.1) := C_x0.out.cell 2
    have c3_x0 : w6.cell? ⟨w4.heap.size, 3, none⟩ = some (.int .i64 (l0).2.2.2) := C_x0.out.cell 3
    have c0_g0 : w6.cell? ⟨w5.heap.size, 0, none⟩ = some (.slice x_v4 n_v4 c_v4) := C_g0.out.cell 0
    have c1_g0 : w6.cell? ⟨w5.heap.size, 1, none⟩ = some (.int .i64 (Row.decW (l0)).2.1) := C_g0.out.cell 1
    have c2_g0 : w6.cell? ⟨w5.heap.size, 2, none⟩ = some (.int .i64 (Row.decW (l0)).2.2.1) := C_g0.out.cell 2
    have c3_g0 : w6.cell? ⟨w5.heap.size, 3, none⟩ = some (.int .i64 (Row.decW (l0)).2.2.2) := C_g0.out.cell 3
    go_wp2_with fail
    clear c0_aW c1_aW c2_aW c3_aW c0_w0 c1_w0 c2_w0 c3_w0 c0_x0 c1_x0 c2_x0 c3_x0 c0_g0 c1_g0 c2_g0 c3_g0
    have hdr : Below w6.heap.size w6 w6.drew := (Below.refl _ _).drew
    replace C_aW := Lib.hid (C_aW.out.on hdr)
    replace C_w0 := Lib.hid (C_w0.out.on hdr)
    replace C_x0 := Lib.hid (C_x0.out.on hdr)
    replace C_g0 := Lib.hid (C_g0.out.on hdr)
    replace O_v2 := Lib.hid (O_v2.out.on hdr)
    replace O_v3 := Lib.hid (O_v3.out.on hdr)
    replace O_v4 := Lib.hid (O_v4.out.on hdr)
    replace BB := Lib.hid (BB.out.trans (hdr.mono BB.out.size))
    clear hdr
    have KS0 := Lib.hid (show w6.drew.cell? ⟨w4.heap.size, 0, none⟩ = some (.slice x_v3 n_v3 c_v3) ∧ w6.drew.cell? ⟨w4.heap.size, 1, none⟩ = some (.int .i64 (l0).2.1) ∧ w6.drew.cell? ⟨w4.heap.size, 2, none⟩ = some (.int .i64 (l0).2.2.1) ∧ w6.drew.cell? ⟨w4.heap.size, 3, none⟩ = some (.int .i64 (l0).2.2.2) ∧ w6.drew.cell? ⟨w.heap.size, 0, none⟩ = some (.slice x_q0 n_q0 c_q0) ∧ w6.drew.cell? ⟨w.heap.size, 1, none⟩ = some (.int .i64 (l0).2.1) ∧ w6.drew.cell? ⟨w.heap.size, 2, none⟩ = some (.int .i64 (l0).2.2.1) ∧ w6.drew.cell? ⟨w.heap.size, 3, none⟩ = some (.int .i64 (l0).2.2.2) ∧ Below w.heap.size w w6.drew from ⟨C_x0.out.cell 0, C_x0.out.cell 1, C_x0.out.cell 2, C_x0.out.cell 3, C_aW.out.cell 0, C_aW.out.cell 1, C_aW.out.cell 2, C_aW.out.cell 3, BB.out⟩)
    go_region_held3 (fun w' => w'.cell? ⟨w4.heap.size, 0, none⟩ = some (.slice x_v3 n_v3 c_v3) ∧ w'.cell? ⟨w4.heap.size, 1, none⟩ = some (.int .i64 (l0).2.1) ∧ w'.cell? ⟨w4.heap.size, 2, none⟩ = some (.int .i64 (l0).2.2.1) ∧ w'.cell? ⟨w4.heap.size, 3, none⟩ = some (.int .i64 (l0).2.2.2) ∧ w'.cell? ⟨w.heap.size, 0, none⟩ = some (.slice x_q0 n_q0 c_q0) ∧ w'.cell? ⟨w.heap.size, 1, none⟩ = some (.int .i64 (l0).2.1) ∧ w'.cell? ⟨w.heap.size, 2, none⟩ = some (.int .i64 (l0).2.2.1) ∧ w'.cell? ⟨w.heap.size, 3, none⟩ = some (.int .i64 (l0).2.2.2) ∧ Below w.heap.size w w') (first | exact KS0.out | exact KS1.out | exact KS2.out) ((first | (go_at_call 14; refine (Row.sameWK _ _ (l0) _ ((O_v3.out.at).on hba) hoa.at (by first | omega | (simp; omega) | (simp [Row.marks_length, Sl.marks_length, Row.mkW]; omega))).mono ?_; rintro e w8 ⟨rfl, hbb⟩; have KS2 := Lib.hid (show (fun w' => w'.cell? ⟨w4.heap.size, 0, none⟩ = some (.slice x_v3 n_v3 c_v3) ∧ w'.cell? ⟨w4.heap.size, 1, none⟩ = some (.int .i64 (l0).2.1) ∧ w'.cell? ⟨w4.heap.size, 2, none⟩ = some (.int .i64 (l0).2.2.1) ∧ w'.cell? ⟨w4.heap.size, 3, none⟩ = some (.int .i64 (l0).2.2.2) ∧ w'.cell? ⟨w.heap.size, 0, none⟩ = some (.slice x_q0 n_q0 c_q0) ∧ w'.cell? ⟨w.heap.size, 1, none⟩ = some (.int .i64 (l0).2.1) ∧ w'.cell? ⟨w.heap.size, 2, none⟩ = some (.int .i64 (l0).2.2.1) ∧ w'.cell? ⟨w.heap.size, 3, none⟩ = some (.int .i64 (l0).2.2.2) ∧ Below w.heap.size w w') _ from ⟨Row.kc KS1.out.1 hbb, Row.kc KS1.out.2.1 hbb, Row.kc KS1.out.2.2.1 hbb, Row.kc KS1.out.2.2.2.1 hbb, Row.kc KS1.out.2.2.2.2.1 hbb, Row.kc KS1.out.2.2.2.2.2.1 hbb, Row.kc KS1.out.2.2.2.2.2.2.1 hbb, Row.kc KS1.out.2.2.2.2.2.2.2.1 hbb, KS1.out.2.2.2.2.2.2.2.2.trans (hbb.mono KS1.out.2.2.2.2.2.2.2.2.size)⟩)) | (go_at_call 12; refine (Row.toWK _ l0 _ (Q0.out.on BB.out) (by omega)).mono ?_; rintro e w7 ⟨v5, rfl, hoa, hba⟩; obtain ⟨x_v5, n_v5, c_v5, rfl, hoa⟩ := Row.kW_shape hoa; have KS1 := Lib.hid (show (fun w' => w'.cell? ⟨w4.heap.size, 0, none⟩ = some (.slice x_v3 n_v3 c_v3) ∧ w'.cell? ⟨w4.heap.size, 1, none⟩ = some (.int .i64 (l0).2.1) ∧ w'.cell? ⟨w4.heap.size, 2, none⟩ = some (.int .i64 (l0).2.2.1) ∧ w'.cell? ⟨w4.heap.size, 3, none⟩ = some (.int .i64 (l0).2.2.2) ∧ w'.cell? ⟨w.heap.size, 0, none⟩ = some (.slice x_q0 n_q0 c_q0) ∧ w'.cell? ⟨w.heap.size, 1, none⟩ = some (.int .i64 (l0).2.1) ∧ w'.cell? ⟨w.heap.size, 2, none⟩ = some (.int .i64 (l0).2.2.1) ∧ w'.cell? ⟨w.heap.size, 3, none⟩ = some (.int .i64 (l0).2.2.2) ∧ Below w.heap.size w w') _ from ⟨Row.kc KS0.out.1 hba, Row.kc KS0.out.2.1 hba, Row.kc KS0.out.2.2.1 hba, Row.kc KS0.out.2.2.2.1 hba, Row.kc KS0.out.2.2.2.2.1 hba, Row.kc KS0.out.2.2.2.2.2.1 hba, Row.kc KS0.out.2.2.2.2.2.2.1 hba, Row.kc KS0.out.2.2.2.2.2.2.2.1 hba, KS0.out.2.2.2.2.2.2.2.2.trans (hba.mono KS0.out.2.2.2.2.2.2.2.2.size)⟩))))
    clear KS0 KS1 KS2 hoa
    replace C_aW := Lib.hid (C_aW.out.on hba)
    replace C_w0 := Lib.hid (C_w0.out.on hba)
    replace C_x0 := Lib.hid (C_x0.out.on hba)
    replace C_g0 := Lib.hid (C_g0.out.on hba)
    replace O_v2 := Lib.hid (O_v2.out.on hba)
    replace O_v3 := Lib.hid (O_v3.out.on hba)
    replace O_v4 := Lib.hid (O_v4.out.on hba)
    replace BB := Lib.hid (BB.out.trans (hba.mono BB.out.size))
    have S11 := Lib.hid (show w6.heap.size ≤ w7.heap.size from (by have h := hba.size; exact h))
    replace C_aW := Lib.hid (C_aW.out.on hbb)
    replace C_w0 := Lib.hid (C_w0.out.on hbb)
    replace C_x0 := Lib.hid (C_x0.out.on hbb)
    replace C_g0 := Lib.hid (C_g0.out.on hbb)
    replace O_v2 := Lib.hid (O_v2.out.on hbb)
    replace O_v3 := Lib.hid (O_v3.out.on hbb)
    replace O_v4 := Lib.hid (O_v4.out.on hbb)
    replace BB := Lib.hid (BB.out.trans (hbb.mono BB.out.size))
    have S12 := Lib.hid (show w7.heap.size ≤ w8.heap.size from (by have h := hbb.size; exact h))
    clear hba hbb
    have c0_aW : w8.cell? ⟨w.heap.size, 0, none⟩ = some (.slice x_q0 n_q0 c_q0) := C_aW.out.cell 0
    have c1_aW : w8.cell? ⟨w.heap.size, 1, none⟩ = some (.int .i64 (l0).2.1) := C_aW.out.cell 1
    have c2_aW : w8.cell? ⟨w.heap.size, 2, none⟩ = some (.int .i64 (l0).2.2.1) := C_aW.out.cell 2
    have c3_aW : w8.cell? ⟨w.heap.size, 3, none⟩ = some (.int .i64 (l0).2.2.2) := C_aW.out.cell 3
    have c0_w0 : w8.cell? ⟨w3.heap.size, 0, none⟩ = some (.slice x_v2 n_v2 c_v2) := C_w0.out.cell 0
    have c1_w0 : w8.cell? ⟨w3.heap.size, 1, none⟩ = some (.int .i64 (Row.decW (l0)).2.1) := C_w0.out.cell 1
    have c2_w0 : w8.cell? ⟨w3.heap.size, 2, none⟩ = some (.int .i64 (Row.decW (l0)).2.2.1) := C_w0.out.cell 2
    have c3_w0 : w8.cell? ⟨w3.heap.size, 3, none⟩ = some (.int .i64 (Row.decW (l0)).2.2.2) := C_w0.out.cell 3
    have c0_x0 : w8.cell? ⟨w4.heap.size, 0, none⟩ = some (.slice x_v3 n_v3 c_v3) := C_x0.out.cell 0
    have c1_x0 : w8.cell? ⟨w4.heap.size, 1, none⟩ = some (.int .i64 (l0).2.1) := C_x0.out.cell 1
    have c2_x0 : w8.cell? ⟨w4.heap.size, 2, none⟩ = some (.int .i64 (l0).2.2.1) := C_x0.out.cell 2
    have c3_x0 : w8.cell? ⟨w4.heap.size, 3, none⟩ = some (.int .i64 (l0).2.2.2) := C_x0.out.cell 3
    have c0_g0 : w8.cell? ⟨w5.heap.size, 0, none⟩ = some (.slice x_v4 n_v4 c_v4) := C_g0.out.cell 0
    have c1_g0 : w8.cell? ⟨w5.heap.size, 1, none⟩ = some (.int .i64 (Row.decW (l0)).2.1) := C_g0.out.cell 1
    have c2_g0 : w8.cell? ⟨w5.heap.size, 2, none⟩ = some (.int .i64 (Row.decW (l0)).2.2.1) := C_g0.out.cell 2
    have c3_g0 : w8.cell? ⟨w5.heap.size, 3, none⟩ = some (.int .i64 (Row.decW (l0)).2.2.2) := C_g0.out.cell 3
    go_wp2_with fail
    clear c0_aW c1_aW c2_aW c3_aW c0_w0 c1_w0 c2_w0 c3_w0 c0_x0 c1_x0 c2_x0 c3_x0 c0_g0 c1_g0 c2_g0 c3_g0
    refine (Row.markWK _ _ _ (l0) _ (1) O_v3.out (by first | omega | (simp; omega) | (simp [Row.marks_length, Sl.marks_length, Row.mkW]; omega)) (by first | omega | (simp; omega) | (simp [Row.marks_length, Sl.marks_length, Row.mkW]; omega)) (by first | omega | (simp; omega) | (simp [Row.marks_length, Sl.marks_length, Row.mkW]; omega))).mono ?_
    rintro e w9 ⟨rfl, ho, hg⟩
    replace C_aW := Lib.hid (hg.blk C_aW.out (by have := S1.out; have := S2.out; have := S3.out; have := S4.out; have := S5.out; have := S6.out; have := S7.out; have := S8.out; have := S9.out; have := S10.out; have := S11.out; have := S12.out; omega))
    replace C_w0 := Lib.hid (hg.blk C_w0.out (by have := S1.out; have := S2.out; have := S3.out; have := S4.out; have := S5.out; have := S6.out; have := S7.out; have := S8.out; have := S9.out; have := S10.out; have := S11.out; have := S12.out; omega))
    replace C_x0 := Lib.hid (hg.blk C_x0.out (by have := S1.out; have := S2.out; have := S3.out; have := S4.out; have := S5.out; have := S6.out; have := S7.out; have := S8.out; have := S9.out; have := S10.out; have := S11.out; have := S12.out; omega))
    replace C_g0 := Lib.hid (hg.blk C_g0.out (by have := S1.out; have := S2.out; have := S3.out; have := S4.out; have := S5.out; have := S6.out; have := S7.out; have := S8.out; have := S9.out; have := S10.out; have := S11.out; have := S12.out; omega))
    replace O_v2 := Lib.hid (O_v2.out.wrote hg (by have := S1.out; have := S2.out; have := S3.out; have := S4.out; have := S5.out; have := S6.out; have := S7.out; have := S8.out; have := S9.out; have := S10.out; have := S11.out; have := S12.out; omega))
    replace O_v4 := Lib.hid (O_v4.out.wrote hg (by have := S1.out; have := S2.out; have := S3.out; have := S4.out; have := S5.out; have := S6.out; have := S7.out; have := S8.out; have := S9.out; have := S10.out; have := S11.out; have := S12.out; omega))
    replace BB := Lib.hid (hg.below BB.out BB.out.size (by have := S1.out; have := S2.out; have := S3.out; have := S4.out; have := S5.out; have := S6.out; have := S7.out; have := S8.out; have := S9.out; have := S10.out; have := S11.out; have := S12.out; omega))
    have S13 := Lib.hid (show w8.heap.size ≤ w9.heap.size from hg.size)
    replace O_v3 := Lib.hid ho; clear ho hg
    have c0_aW : w9.cell? ⟨w.heap.size, 0, none⟩ = some (.slice x_q0 n_q0 c_q0) := C_aW.out.cell 0
    have c1_aW : w9.cell? ⟨w.heap.size, 1, none⟩ = some (.int .i64 (l0).2.1) := C_aW.out.cell 1
    have c2_aW : w9.cell? ⟨w.heap.size, 2, none⟩ = some (.int .i64 (l0).2.2.1) := C_aW.out.cell 2
    have c3_aW : w9.cell? ⟨w.heap.size, 3, none⟩ = some (.int .i64 (l0).2.2.2) := C_aW.out.cell 3
    have c0_w0 : w9.cell? ⟨w3.heap.size, 0, none⟩ = some (.slice x_v2 n_v2 c_v2) := C_w0.out.cell 0
    have c1_w0 : w9.cell? ⟨w3.heap.size, 1, none⟩ = some (.int .i64 (Row.decW (l0)).2.1) := C_w0.out.cell 1
    have c2_w0 : w9.cell? ⟨w3.heap.size, 2, none⟩ = some (.int .i64 (Row.decW (l0)).2.2.1) := C_w0.out.cell 2
    have c3_w0 : w9.cell? ⟨w3.heap.size, 3, none⟩ = some (.int .i64 (Row.decW (l0)).2.2.2) := C_w0.out.cell 3
    have c0_x0 : w9.cell? ⟨w4.heap.size, 0, none⟩ = some (.slice x_v3 n_v3 c_v3) := C_x0.out.cell 0
    have c1_x0 : w9.cell? ⟨w4.heap.size, 1, none⟩ = some (.int .i64 (l0).2.1) := C_x0.out.cell 1
    have c2_x0 : w9.cell? ⟨w4.heap.size, 2, none⟩ = some (.int .i64 (l0).2.2.1) := C_x0.out.cell 2
    have c3_x0 : w9.cell? ⟨w4.heap.size, 3, none⟩ = some (.int .i64 (l0).2.2.2) := C_x0.out.cell 3
    have c0_g0 : w9.cell? ⟨w5.heap.size, 0, none⟩ = some (.slice x_v4 n_v4 c_v4) := C_g0.out.cell 0
    have c1_g0 : w9.cell? ⟨w5.heap.size, 1, none⟩ = some (.int .i64 (Row.decW (l0)).2.1) := C_g0.out.cell 1
    have c2_g0 : w9.cell? ⟨w5.heap.size, 2, none⟩ = some (.int .i64 (Row.decW (l0)).2.2.1) := C_g0.out.cell 2
    have c3_g0 : w9.cell? ⟨w5.heap.size, 3, none⟩ = some (.int .i64 (Row.decW (l0)).2.2.2) := C_g0.out.cell 3
    go_wp2_with fail
    clear c0_aW c1_aW c2_aW c3_aW c0_w0 c1_w0 c2_w0 c3_w0 c0_x0 c1_x0 c2_x0 c3_x0 c0_g0 c1_g0 c2_g0 c3_g0
    refine (Row.sameWK _ _ (Row.decW (l0)) _ (O_v4.out.at) (O_v2.out.at) (by first | omega | (simp; omega) | (simp [Row.marks_length, Sl.marks_length, Row.mkW]; omega))).mono ?_
    rintro e w10 ⟨rfl, hb⟩
    replace C_aW := Lib.hid (C_aW.out.on hb)
    replace C_w0 := Lib.hid (C_w0.out.on hb)
    replace C_x0 := Lib.hid (C_x0.out.on hb)
    replace C_g0 := Lib.hid (C_g0.out.on hb)
    replace O_v2 := Lib.hid (O_v2.out.on hb)
    replace O_v3 := Lib.hid (O_v3.out.on hb)
    replace O_v4 := Lib.hid (O_v4.out.on hb)
    replace BB := Lib.hid (BB.out.trans (hb.mono BB.out.size))
    have S14 := Lib.hid (show w9.heap.size ≤ w10.heap.size from (by have h := hb.size; exact h))
    clear hb
    have c0_aW : w10.cell? ⟨w.heap.size, 0, none⟩ = some (.slice x_q0 n_q0 c_q0) := C_aW.out.cell 0
    have c1_aW : w10.cell? ⟨w.heap.size, 1, none⟩ = some (.int .i64 (l0).2.1) := C_aW.out.cell 1
    have c2_aW : w10.cell? ⟨w.heap.size, 2, none⟩ = some (.int .i64 (l0).2.2.1) := C_aW.out.cell 2
    have c3_aW : w10.cell? ⟨w.heap.size, 3, none⟩ = some (.int .i64 (l0).2.2.2) := C_aW.out.cell 3
    have c0_w0 : w10.cell? ⟨w3.heap.size, 0, none⟩ = some (.slice x_v2 n_v2 c_v2) := C_w0.out.cell 0
    have c1_w0 : w10.cell? ⟨w3.heap.size, 1, none⟩ = some (.int .i64 (Row.decW (l0)).2.1) := C_w0.out.cell 1
    have c2_w0 : w10.cell? ⟨w3.heap.size, 2, none⟩ = some (.int .i64 (Row.decW (l0)).2.2.1) := C_w0.out.cell 2
    have c3_w0 : w10.cell? ⟨w3.heap.size, 3, none⟩ = some (.int .i64 (Row.decW (l0)).2.2.2) := C_w0.out.cell 3
    have c0_x0 : w10.cell? ⟨w4.heap.size, 0, none⟩ = some (.slice x_v3 n_v3 c_v3) := C_x0.out.cell 0
    have c1_x0 : w10.cell? ⟨w4.heap.size, 1, none⟩ = some (.int .i64 (l0).2.1) := C_x0.out.cell 1
    have c2_x0 : w10.cell? ⟨w4.heap.size, 2, none⟩ = some (.int .i64 (l0).2.2.1) := C_x0.out.cell 2
    have c3_x0 : w10.cell? ⟨w4.heap.size, 3, none⟩ = some (.int .i64 (l0).2.2.2) := C_x0.out.cell 3
    have c0_g0 : w10.cell? ⟨w5.heap.size, 0, none⟩ = some (.slice x_v4 n_v4 c_v4) := C_g0.out.cell 0
    have c1_g0 : w10.cell? ⟨w5.heap.size, 1, none⟩ = some (.int .i64 (Row.decW (l0)).2.1) := C_g0.out.cell 1
    have c2_g0 : w10.cell? ⟨w5.heap.size, 2, none⟩ = some (.int .i64 (Row.decW (l0)).2.2.1) := C_g0.out.cell 2
    have c3_g0 : w10.cell? ⟨w5.heap.size, 3, none⟩ = some (.int .i64 (Row.decW (l0)).2.2.2) := C_g0.out.cell 3
    go_wp2_with fail
    clear c0_aW c1_aW c2_aW c3_aW c0_w0 c1_w0 c2_w0 c3_w0 c0_x0 c1_x0 c2_x0 c3_x0 c0_g0 c1_g0 c2_g0 c3_g0
    refine (Row.markWK _ _ _ (Row.decW (l0)) _ (1) O_v4.out (by first | omega | (simp; omega) | (simp [Row.marks_length, Sl.marks_length, Row.mkW]; omega)) (by first | omega | (simp; omega) | (simp [Row.marks_length, Sl.marks_length, Row.mkW]; omega)) (by first | omega | (simp; omega) | (simp [Row.marks_length, Sl.marks_length, Row.mkW]; omega))).mono ?_
    rintro e w11 ⟨rfl, ho, hg⟩
    replace C_aW := Lib.hid (hg.blk C_aW.out (by have := S1.out; have := S2.out; have := S3.out; have := S4.out; have := S5.out; have := S6.out; have := S7.out; have := S8.out; have := S9.out; have := S10.out; have := S11.out; have := S12.out; have := S13.out; have := S14.out; omega))
    replace C_w0 := Lib.hid (hg.blk C_w0.out (by have := S1.out; have := S2.out; have := S3.out; have := S4.out; have := S5.out; have := S6.out; have := S7.out; have := S8.out; have := S9.out; have := S10.out; have := S11.out; have := S12.out; have := S13.out; have := S14.out; omega))
    replace C_x0 := Lib.hid (hg.blk C_x0.out (by have := S1.out; have := S2.out; have := S3.out; have := S4.out; have := S5.out; have := S6.out; have := S7.out; have := S8.out; have := S9.out; have := S10.out; have := S11.out; have := S12.out; have := S13.out; have := S14.out; omega))
    replace C_g0 := Lib.hid (hg.blk C_g0.out (by have := S1.out; have := S2.out; have := S3.out; have := S4.out; have := S5.out; have := S6.out; have := S7.out; have := S8.out; have := S9.out; have := S10.out; have := S11.out; have := S12.out; have := S13.out; have := S14.out; omega))
    replace O_v2 := Lib.hid (O_v2.out.wrote hg (by have := S1.out; have := S2.out; have := S3.out; have := S4.out; have := S5.out; have := S6.out; have := S7.out; have := S8.out; have := S9.out; have := S10.out; have := S11.out; have := S12.out; have := S13.out; have := S14.out; omega))
    replace O_v3 := Lib.hid (O_v3.out.wrote hg (by have := S1.out; have := S2.out; have := S3.out; have := S4.out; have := S5.out; have := S6.out; have := S7.out; have := S8.out; have := S9.out; have := S10.out; have := S11.out; have := S12.out; have := S13.out; have := S14.out; omega))
    replace BB := Lib.hid (hg.below BB.out BB.out.size (by have := S1.out; have := S2.out; have := S3.out; have := S4.out; have := S5.out; have := S6.out; have := S7.out; have := S8.out; have := S9.out; have := S10.out; have := S11.out; have := S12.out; have := S13.out; have := S14.out; omega))
    have S15 := Lib.hid (show w10.heap.size ≤ w11.heap.size from hg.size)
    replace O_v4 := Lib.hid ho; clear ho hg
    have c0_aW : w11.cell? ⟨w.heap.size, 0, none⟩ = some (.slice x_q0 n_q0 c_q0) := C_aW.out.cell 0
    have c1_aW : w11.cell? ⟨w.heap.size, 1, none⟩ = some (.int .i64 (l0).2.1) := C_aW.out.cell 1
    have c2_aW : w11.cell? ⟨w.heap.size, 2, none⟩ = some (.int .i64 (l0).2.2.1) := C_aW.out.cell 2
    have c3_aW : w11.cell? ⟨w.heap.size, 3, none⟩ = some (.int .i64 (l0).2.2.2) := C_aW.out.cell 3
    have c0_w0 : w11.cell? ⟨w3.heap.size, 0, none⟩ = some (.slice x_v2 n_v2 c_v2) := C_w0.out.cell 0
    have c1_w0 : w11.cell? ⟨w3.heap.size, 1, none⟩ = some (.int .i64 (Row.decW (l0)).2.1) := C_w0.out.cell 1
    have c2_w0 : w11.cell? ⟨w3.heap.size, 2, none⟩ = some (.int .i64 (Row.decW (l0)).2.2.1) := C_w0.out.cell 2
    have c3_w0 : w11.cell? ⟨w3.heap.size, 3, none⟩ = some (.int .i64 (Row.decW (l0)).2.2.2) := C_w0.out.cell 3
    have c0_x0 : w11.cell? ⟨w4.heap.size, 0, none⟩ = some (.slice x_v3 n_v3 c_v3) := C_x0.out.cell 0
    have c1_x0 : w11.cell? ⟨w4.heap.size, 1, none⟩ = some (.int .i64 (l0).2.1) := C_x0.out.cell 1
    have c2_x0 : w11.cell? ⟨w4.heap.size, 2, none⟩ = some (.int .i64 (l0).2.2.1) := C_x0.out.cell 2
    have c3_x0 : w11.cell? ⟨w4.heap.size, 3, none⟩ = some (.int .i64 (l0).2.2.2) := C_x0.out.cell 3
    have c0_g0 : w11.cell? ⟨w5.heap.size, 0, none⟩ = some (.slice x_v4 n_v4 c_v4) := C_g0.out.cell 0
    have c1_g0 : w11.cell? ⟨w5.heap.size, 1, none⟩ = some (.int .i64 (Row.decW (l0)).2.1) := C_g0.out.cell 1
    have c2_g0 : w11.cell? ⟨w5.heap.size, 2, none⟩ = some (.int .i64 (Row.decW (l0)).2.2.1) := C_g0.out.cell 2
    have c3_g0 : w11.cell? ⟨w5.heap.size, 3, none⟩ = some (.int .i64 (Row.decW (l0)).2.2.2) := C_g0.out.cell 3
    go_wp2_with fail
    clear c0_aW c1_aW c2_aW c3_aW c0_w0 c1_w0 c2_w0 c3_w0 c0_x0 c1_x0 c2_x0 c3_x0 c0_g0 c1_g0 c2_g0 c3_g0
    refine (Row.heldWK _ _ (1) (Row.decW (l0)) (O_v4.out.at) (by first | omega | (simp; omega) | (simp [Row.marks_length, Sl.marks_length, Row.mkW]; omega)) (by first | omega | (simp; omega) | (simp [Row.marks_length, Sl.marks_length, Row.mkW]; omega)) (by first | omega | (simp; omega) | (simp [Row.marks_length, Sl.marks_length, Row.mkW]; omega))).mono ?_
    rintro e w12 ⟨rfl, hb⟩
    replace C_aW := Lib.hid (C_aW.out.on hb)
    replace C_w0 := Lib.hid (C_w0.out.on hb)
    replace C_x0 := Lib.hid (C_x0.out.on hb)
    replace C_g0 := Lib.hid (C_g0.out.on hb)
    replace O_v2 := Lib.hid (O_v2.out.on hb)
    replace O_v3 := Lib.hid (O_v3.out.on hb)
    replace O_v4 := Lib.hid (O_v4.out.on hb)
    replace BB := Lib.hid (BB.out.trans (hb.mono BB.out.size))
    have S16 := Lib.hid (show w11.heap.size ≤ w12.heap.size from (by have h := hb.size; exact h))
    clear hb
    have c0_aW : w12.cell? ⟨w.heap.size, 0, none⟩ = some (.slice x_q0 n_q0 c_q0) := C_aW.out.cell 0
    have c1_aW : w12.cell? ⟨w.heap.size, 1, none⟩ = some (.int .i64 (l0).2.1) := C_aW.out.cell 1
    have c2_aW : w12.cell? ⟨w.heap.size, 2, none⟩ = some (.int .i64 (l0).2.2.1) := C_aW.out.cell 2
    have c3_aW : w12.cell? ⟨w.heap.size, 3, none⟩ = some (.int .i64 (l0).2.2.2) := C_aW.out.cell 3
    have c0_w0 : w12.cell? ⟨w3.heap.size, 0, none⟩ = some (.slice x_v2 n_v2 c_v2) := C_w0.out.cell 0
    have c1_w0 : w12.cell? ⟨w3.heap.size, 1, none⟩ = some (.int .i64 (Row.decW (l0)).2.1) := C_w0.out.cell 1
    have c2_w0 : w12.cell? ⟨w3.heap.size, 2, none⟩ = some (.int .i64 (Row.decW (l0)).2.2.1) := C_w0.out.cell 2
    have c3_w0 : w12.cell? ⟨w3.heap.size, 3, none⟩ = some (.int .i64 (Row.decW (l0)).2.2.2) := C_w0.out.cell 3
    have c0_x0 : w12.cell? ⟨w4.heap.size, 0, none⟩ = some (.slice x_v3 n_v3 c_v3) := C_x0.out.cell 0
    have c1_x0 : w12.cell? ⟨w4.heap.size, 1, none⟩ = some (.int .i64 (l0).2.1) := C_x0.out.cell 1
    have c2_x0 : w12.cell? ⟨w4.heap.size, 2, none⟩ = some (.int .i64 (l0).2.2.1) := C_x0.out.cell 2
    have c3_x0 : w12.cell? ⟨w4.heap.size, 3, none⟩ = some (.int .i64 (l0).2.2.2) := C_x0.out.cell 3
    have c0_g0 : w12.cell? ⟨w5.heap.size, 0, none⟩ = some (.slice x_v4 n_v4 c_v4) := C_g0.out.cell 0
    have c1_g0 : w12.cell? ⟨w5.heap.size, 1, none⟩ = some (.int .i64 (Row.decW (l0)).2.1) := C_g0.out.cell 1
    have c2_g0 : w12.cell? ⟨w5.heap.size, 2, none⟩ = some (.int .i64 (Row.decW (l0)).2.2.1) := C_g0.out.cell 2
    have c3_g0 : w12.cell? ⟨w5.heap.size, 3, none⟩ = some (.int .i64 (Row.decW (l0)).2.2.2) := C_g0.out.cell 3
    go_wp2_with fail
    clear c0_aW c1_aW c2_aW c3_aW c0_w0 c1_w0 c2_w0 c3_w0 c0_x0 c1_x0 c2_x0 c3_x0 c0_g0 c1_g0 c2_g0 c3_g0
    refine (Row.toWK _ l0 _ (Q0.out.on BB.out) (by omega)).mono ?_
    rintro e w13 ⟨v6, rfl, ho, hb⟩
    obtain ⟨x_v6, n_v6, c_v6, rfl, ho⟩ := Row.kW_shape ho
    replace C_aW := Lib.hid (C_aW.out.on hb)
    replace C_w0 := Lib.hid (C_w0.out.on hb)
    replace C_x0 := Lib.hid (C_x0.out.on hb)
    replace C_g0 := Lib.hid (C_g0.out.on hb)
    replace O_v2 := Lib.hid (O_v2.out.on hb)
    replace O_v3 := Lib.hid (O_v3.out.on hb)
    replace O_v4 := Lib.hid (O_v4.out.on hb)
    replace BB := Lib.hid (BB.out.trans (hb.mono BB.out.size))
    have S17 := Lib.hid (show w12.heap.size ≤ w13.heap.size from (by have h := hb.size; exact h))
    have O_v6 := Lib.hid (show Row.kW.In w12.heap.size w13.heap.size w13 (.agg #[.slice x_v6 n_v6 c_v6, .int .i64 (l0).2.1, .int .i64 (l0).2.2.1, .int .i64 (l0).2.2.2]) (l0) from ho); clear ho
    clear hb
    have c0_aW : w13.cell? ⟨w.heap.size, 0, none⟩ = some (.slice x_q0 n_q0 c_q0) := C_aW.out.cell 0
    have c1_aW : w13.cell? ⟨w.heap.size, 1, none⟩ = some (.int .i64 (l0).2.1) := C_aW.out.cell 1
    have c2_aW : w13.cell? ⟨w.heap.size, 2, none⟩ = some (.int .i64 (l0).2.2.1) := C_aW.out.cell 2
    have c3_aW : w13.cell? ⟨w.heap.size, 3, none⟩ = some (.int .i64 (l0).2.2.2) := C_aW.out.cell 3
    have c0_w0 : w13.cell? ⟨w3.heap.size, 0, none⟩ = some (.slice x_v2 n_v2 c_v2) := C_w0.out.cell 0
    have c1_w0 : w13.cell? ⟨w3.heap.size, 1, none⟩ = some (.int .i64 (Row.decW (l0)).2.1) := C_w0.out.cell 1
    have c2_w0 : w13.cell? ⟨w3.heap.size, 2, none⟩ = some (.int .i64 (Row.decW (l0)).2.2.1) := C_w0.out.cell 2
    have c3_w0 : w13.cell? ⟨w3.heap.size, 3, none⟩ = some (.int .i64 (Row.decW (l0)).2.2.2) := C_w0.out.cell 3
    have c0_x0 : w13.cell? ⟨w4.heap.size, 0, none⟩ = some (.slice x_v3 n_v3 c_v3) := C_x0.out.cell 0
    have c1_x0 : w13.cell? ⟨w4.heap.size, 1, none⟩ = some (.int .i64 (l0).2.1) := C_x0.out.cell 1
    have c2_x0 : w13.cell? ⟨w4.heap.size, 2, none⟩ = some (.int .i64 (l0).2.2.1) := C_x0.out.cell 2
    have c3_x0 : w13.cell? ⟨w4.heap.size, 3, none⟩ = some (.int .i64 (l0).2.2.2) := C_x0.out.cell 3
    have c0_g0 : w13.cell? ⟨w5.heap.size, 0, none⟩ = some (.slice x_v4 n_v4 c_v4) := C_g0.out.cell 0
    have c1_g0 : w13.cell? ⟨w5.heap.size, 1, none⟩ = some (.int .i64 (Row.decW (l0)).2.1) := C_g0.out.cell 1
    have c2_g0 : w13.cell? ⟨w5.heap.size, 2, none⟩ = some (.int .i64 (Row.decW (l0)).2.2.1) := C_g0.out.cell 2
    have c3_g0 : w13.cell? ⟨w5.heap.size, 3, none⟩ = some (.int .i64 (Row.decW (l0)).2.2.2) := C_g0.out.cell 3
    go_wp2_with fail
    clear c0_aW c1_aW c2_aW c3_aW c0_w0 c1_w0 c2_w0 c3_w0 c0_x0 c1_x0 c2_x0 c3_x0 c0_g0 c1_g0 c2_g0 c3_g0
    have f3 := Row.decW_len (l0)
    refine (Row.implDecrementHopsK _ (l0) _ (O_v6.out.at) (by omega) (Row.WfW.hop N0.out)).mono ?_
    rintro e w14 ⟨v7, rfl, ho, hb⟩
    obtain ⟨x_v7, n_v7, c_v7, rfl, ho⟩ := Row.kW_shape ho
    replace C_aW := Lib.hid (C_aW.out.on hb)
    replace C_w0 := Lib.hid (C_w0.out.on hb)
    replace C_x0 := Lib.hid (C_x0.out.on hb)
    replace C_g0 := Lib.hid (C_g0.out.on hb)
    replace O_v2 := Lib.hid (O_v2.out.on hb)
    replace O_v3 := Lib.hid (O_v3.out.on hb)
    replace O_v4 := Lib.hid (O_v4.out.on hb)
    replace O_v6 := Lib.hid (O_v6.out.on hb)
    replace BB := Lib.hid (BB.out.trans (hb.mono BB.out.size))
    have S18 := Lib.hid (show w13.heap.size ≤ w14.heap.size from (by have h := hb.size; exact h))
    have O_v7 := Lib.hid (show Row.kW.In w13.heap.size w14.heap.size w14 (.agg #[.slice x_v7 n_v7 c_v7, .int .i64 (Row.decW (l0)).2.1, .int .i64 (Row.decW (l0)).2.2.1, .int .i64 (Row.decW (l0)).2.2.2]) (Row.decW (l0)) from ho); clear ho
    clear hb
    have hal := (Below.refl w14.heap.size w14).alloc (Nat.le_refl _) (.cells #[.slice x_v7 n_v7 c_v7, .int .i64 (Row.decW (l0)).2.1, .int .i64 (Row.decW (l0)).2.2.1, .int .i64 (Row.decW (l0)).2.2.2] 31)
    replace C_aW := Lib.hid (C_aW.out.on hal)
    replace C_w0 := Lib.hid (C_w0.out.on hal)
    replace C_x0 := Lib.hid (C_x0.out.on hal)
    replace C_g0 := Lib.hid (C_g0.out.on hal)
    replace O_v2 := Lib.hid (O_v2.out.on hal)
    replace O_v3 := Lib.hid (O_v3.out.on hal)
    replace O_v4 := Lib.hid (O_v4.out.on hal)
    replace O_v6 := Lib.hid (O_v6.out.on hal)
    replace O_v7 := Lib.hid (O_v7.out.on hal)
    replace BB := Lib.hid (BB.out.trans (hal.mono BB.out.size))
    have S19 := Lib.hid (show (w14.alloc (.cells #[.slice x_v7 n_v7 c_v7, .int .i64 (Row.decW (l0)).2.1, .int .i64 (Row.decW (l0)).2.2.1, .int .i64 (Row.decW (l0)).2.2.2] 31)).heap.size = w14.heap.size + 1 from World.size_alloc _ _)
    have C_h0 := Lib.hid (Ret.Blk.new w14 #[.slice x_v7 n_v7 c_v7, .int .i64 (Row.decW (l0)).2.1, .int .i64 (Row.decW (l0)).2.2.1, .int .i64 (Row.decW (l0)).2.2.2] 31); clear hal
    have c0_aW : (w14.alloc (.cells #[.slice x_v7 n_v7 c_v7, .int .i64 (Row.decW (l0)).2.1, .int .i64 (Row.decW (l0)).2.2.1, .int .i64 (Row.decW (l0)).2.2.2] 31)).cell? ⟨w.heap.size, 0, none⟩ = some (.slice x_q0 n_q0 c_q0) := C_aW.out.cell 0
    have c1_aW : (w14.alloc (.cells #[.slice x_v7 n_v7 c_v7, .int .i64 (Row.decW (l0)).2.1, .int .i64 (Row.decW (l0)).2.2.1, .int .i64 (Row.decW (l0)).2.2.2] 31)).cell? ⟨w.heap.size, 1, none⟩ = some (.int .i64 (l0).2.1) := C_aW.out.cell 1
    have c2_aW : (w14.alloc (.cells #[.slice x_v7 n_v7 c_v7, .int .i64 (Row.decW (l0)).2.1, .int .i64 (Row.decW (l0)).2.2.1, .int .i64 (Row.decW (l0)).2.2.2] 31)).cell? ⟨w.heap.size, 2, none⟩ = some (.int .i64 (l0).2.2.1) := C_aW.out.cell 2
    have c3_aW : (w14.alloc (.cells #[.slice x_v7 n_v7 c_v7, .int .i64 (Row.decW (l0)).2.1, .int .i64 (Row.decW (l0)).2.2.1, .int .i64 (Row.decW (l0)).2.2.2] 31)).cell? ⟨w.heap.size, 3, none⟩ = some (.int .i64 (l0).2.2.2) := C_aW.out.cell 3
    have c0_w0 : (w14.alloc (.cells #[.slice x_v7 n_v7 c_v7, .int .i64 (Row.decW (l0)).2.1, .int .i64 (Row.decW (l0)).2.2.1, .int .i64 (Row.decW (l0)).2.2.2] 31)).cell? ⟨w3.heap.size, 0, none⟩ = some (.slice x_v2 n_v2 c_v2) := C_w0.out.cell 0
    have c1_w0 : (w14.alloc (.cells #[.slice x_v7 n_v7 c_v7, .int .i64 (Row.decW (l0)).2.1, .int .i64 (Row.decW (l0)).2.2.1, .int .i64 (Row.decW (l0)).2.2.2] 31)).cell? ⟨w3.heap.size, 1, none⟩ = some (.int .i64 (Row.decW (l0)).2.1) := C_w0.out.cell 1
    have c2_w0 : (w14.alloc (.cells #[.slice x_v7 n_v7 c_v7, .int .i64 (Row.decW (l0)).2.1, .int .i64 (Row.decW (l0)).2.2.1, .int .i64 (Row.decW (l0)).2.2.2] 31)).cell? ⟨w3.heap.size, 2, none⟩ = some (.int .i64 (Row.decW (l0)).2.2.1) := C_w0.out.cell 2
    have c3_w0 : (w14.alloc (.cells #[.slice x_v7 n_v7 c_v7, .int .i64 (Row.decW (l0)).2.1, .int .i64 (Row.decW (l0)).2.2.1, .int .i64 (Row.decW (l0)).2.2.2] 31)).cell? ⟨w3.heap.size, 3, none⟩ = some (.int .i64 (Row.decW (l0)).2.2.2) := C_w0.out.cell 3
    have c0_x0 : (w14.alloc (.cells #[.slice x_v7 n_v7 c_v7, .int .i64 (Row.decW (l0)).2.1, .int .i64 (Row.decW (l0)).2.2.1, .int .i64 (Row.decW (l0)).2.2.2] 31)).cell? ⟨w4.heap.size, 0, none⟩ = some (.slice x_v3 n_v3 c_v3) := C_x0.out.cell 0
    have c1_x0 : (w14.alloc (.cells #[.slice x_v7 n_v7 c_v7, .int .i64 (Row.decW (l0)).2.1, .int .i64 (Row.decW (l0)).2.2.1, .int .i64 (Row.decW (l0)).2.2.2] 31)).cell? ⟨w4.heap.size, 1, none⟩ = some (.int .i64 (l0).2.1) := C_x0.out.cell 1
    have c2_x0 : (w14.alloc (.cells #[.slice x_v7 n_v7 c_v7, .int .i64 (Row.decW (l0)).2.1, .int .i64 (Row.decW (l0)).2.2.1, .int .i64 (Row.decW (l0)).2.2.2] 31)).cell? ⟨w4.heap.size, 2, none⟩ = some (.int .i64 (l0).2.2.1) := C_x0.out.cell 2
    have c3_x0 : (w14.alloc (.cells #[.slice x_v7 n_v7 c_v7, .int .i64 (Row.decW (l0)).2.1, .int .i64 (Row.decW (l0)).2.2.1, .int .i64 (Row.decW (l0)).2.2.2] 31)).cell? ⟨w4.heap.size, 3, none⟩ = some (.int .i64 (l0).2.2.2) := C_x0.out.cell 3
    have c0_g0 : (w14.alloc (.cells #[.slice x_v7 n_v7 c_v7, .int .i64 (Row.decW (l0)).2.1, .int .i64 (Row.decW (l0)).2.2.1, .int .i64 (Row.decW (l0)).2.2.2] 31)).cell? ⟨w5.heap.size, 0, none⟩ = some (.slice x_v4 n_v4 c_v4) := C_g0.out.cell 0
    have c1_g0 : (w14.alloc (.cells #[.slice x_v7 n_v7 c_v7, .int .i64 (Row.decW (l0)).2.1, .int .i64 (Row.decW (l0)).2.2.1, .int .i64 (Row.decW (l0)).2.2.2] 31)).cell? ⟨w5.heap.size, 1, none⟩ = some (.int .i64 (Row.decW (l0)).2.1) := C_g0.out.cell 1
    have c2_g0 : (w14.alloc (.cells #[.slice x_v7 n_v7 c_v7, .int .i64 (Row.decW (l0)).2.1, .int .i64 (Row.decW (l0)).2.2.1, .int .i64 (Row.decW (l0)).2.2.2] 31)).cell? ⟨w5.heap.size, 2, none⟩ = some (.int .i64 (Row.decW (l0)).2.2.1) := C_g0.out.cell 2
    have c3_g0 : (w14.alloc (.cells #[.slice x_v7 n_v7 c_v7, .int .i64 (Row.decW (l0)).2.1, .int .i64 (Row.decW (l0)).2.2.1, .int .i64 (Row.decW (l0)).2.2.2] 31)).cell? ⟨w5.heap.size, 3, none⟩ = some (.int .i64 (Row.decW (l0)).2.2.2) := C_g0.out.cell 3
    have c0_h0 : (w14.alloc (.cells #[.slice x_v7 n_v7 c_v7, .int .i64 (Row.decW (l0)).2.1, .int .i64 (Row.decW (l0)).2.2.1, .int .i64 (Row.decW (l0)).2.2.2] 31)).cell? ⟨w14.heap.size, 0, none⟩ = some (.slice x_v7 n_v7 c_v7) := C_h0.out.cell 0
    have c1_h0 : (w14.alloc (.cells #[.slice x_v7 n_v7 c_v7, .int .i64 (Row.decW (l0)).2.1, .int .i64 (Row.decW (l0)).2.2.1, .int .i64 (Row.decW (l0)).2.2.2] 31)).cell? ⟨w14.heap.size, 1, none⟩ = some (.int .i64 (Row.decW (l0)).2.1) := C_h0.out.cell 1
    have c2_h0 : (w14.alloc (.cells #[.slice x_v7 n_v7 c_v7, .int .i64 (Row.decW (l0)).2.1, .int .i64 (Row.decW (l0)).2.2.1, .int .i64 (Row.decW (l0)).2.2.2] 31)).cell? ⟨w14.heap.size, 2, none⟩ = some (.int .i64 (Row.decW (l0)).2.2.1) := C_h0.out.cell 2
    have c3_h0 : (w14.alloc (.cells #[.slice x_v7 n_v7 c_v7, .int .i64 (Row.decW (l0)).2.1, .int .i64 (Row.decW (l0)).2.2.1, .int .i64 (Row.decW (l0)).2.2.2] 31)).cell? ⟨w14.heap.size, 3, none⟩ = some (.int .i64 (Row.decW (l0)).2.2.2) := C_h0.out.cell 3
    go_wp2_with fail
    clear c0_aW c1_aW c2_aW c3_aW c0_w0 c1_w0 c2_w0 c3_w0 c0_x0 c1_x0 c2_x0 c3_x0 c0_g0 c1_g0 c2_g0 c3_g0 c0_h0 c1_h0 c2_h0 c3_h0
    clear O_v6
    refine (Row.sameWK _ _ (Row.decW (l0)) _ (O_v7.out.at) (O_v2.out.at) (by first | omega | (simp; omega) | (simp [Row.marks_length, Sl.marks_length, Row.mkW]; omega))).mono ?_
    rintro e w15 ⟨rfl, hb⟩
    replace C_aW := Lib.hid (C_aW.out.on hb)
    replace C_w0 := Lib.hid (C_w0.out.on hb)
    replace C_x0 := Lib.hid (C_x0.out.on hb)
    replace C_g0 := Lib.hid (C_g0.out.on hb)
    replace C_h0 := Lib.hid (C_h0.out.on hb)
    replace O_v2 := Lib.hid (O_v2.out.on hb)
    replace O_v3 := Lib.hid (O_v3.out.on hb)
    replace O_v4 := Lib.hid (O_v4.out.on hb)
    replace O_v7 := Lib.hid (O_v7.out.on hb)
    replace BB := Lib.hid (BB.out.trans (hb.mono BB.out.size))
    have S20 := Lib.hid (show (w14.alloc (.cells #[.slice x_v7 n_v7 c_v7, .int .i64 (Row.decW (l0)).2.1, .int .i64 (Row.decW (l0)).2.2.1, .int .i64 (Row.decW (l0)).2.2.2] 31)).heap.size ≤ w15.heap.size from (by have h := hb.size; exact h))
    clear hb
    have c0_aW : w15.cell? ⟨w.heap.size, 0, none⟩ = some (.slice x_q0 n_q0 c_q0) := C_aW.out.cell 0
    have c1_aW : w15.cell? ⟨w.heap.size, 1, none⟩ = some (.int .i64 (l0).2.1) := C_aW.out.cell 1
    have c2_aW : w15.cell? ⟨w.heap.size, 2, none⟩ = some (.int .i64 (l0).2.2.1) := C_aW.out.cell 2
    have c3_aW : w15.cell? ⟨w.heap.size, 3, none⟩ = some (.int .i64 (l0).2.2.2) := C_aW.out.cell 3
    have c0_w0 : w15.cell? ⟨w3.heap.size, 0, none⟩ = some (.slice x_v2 n_v2 c_v2) := C_w0.out.cell 0
    have c1_w0 : w15.cell? ⟨w3.heap.size, 1, none⟩ = some (.int .i64 (Row.decW (l0)).2.1) := C_w0.out.cell 1
    have c2_w0 : w15.cell? ⟨w3.heap.size, 2, none⟩ = some (.int .i64 (Row.decW (l0)).2.2.1) := C_w0.out.cell 2
    have c3_w0 : w15.cell? ⟨w3.heap.size, 3, none⟩ = some (.int .i64 (Row.decW (l0)).2.2.2) := C_w0.out.cell 3
    have c0_x0 : w15.cell? ⟨w4.heap.size, 0, none⟩ = some (.slice x_v3 n_v3 c_v3) := C_x0.out.cell 0
    have c1_x0 : w15.cell? ⟨w4.heap.size, 1, none⟩ = some (.int .i64 (l0).2.1) := C_x0.out.cell 1
    have c2_x0 : w15.cell? ⟨w4.heap.size, 2, none⟩ = some (.int .i64 (l0).2.2.1) := C_x0.out.cell 2
    have c3_x0 : w15.cell? ⟨w4.heap.size, 3, none⟩ = some (.int .i64 (l0).2.2.2) := C_x0.out.cell 3
    have c0_g0 : w15.cell? ⟨w5.heap.size, 0, none⟩ = some (.slice x_v4 n_v4 c_v4) := C_g0.out.cell 0
    have c1_g0 : w15.cell? ⟨w5.heap.size, 1, none⟩ = some (.int .i64 (Row.decW (l0)).2.1) := C_g0.out.cell 1
    have c2_g0 : w15.cell? ⟨w5.heap.size, 2, none⟩ = some (.int .i64 (Row.decW (l0)).2.2.1) := C_g0.out.cell 2
    have c3_g0 : w15.cell? ⟨w5.heap.size, 3, none⟩ = some (.int .i64 (Row.decW (l0)).2.2.2) := C_g0.out.cell 3
    have c0_h0 : w15.cell? ⟨w14.heap.size, 0, none⟩ = some (.slice x_v7 n_v7 c_v7) := C_h0.out.cell 0
    have c1_h0 : w15.cell? ⟨w14.heap.size, 1, none⟩ = some (.int .i64 (Row.decW (l0)).2.1) := C_h0.out.cell 1
    have c2_h0 : w15.cell? ⟨w14.heap.size, 2, none⟩ = some (.int .i64 (Row.decW (l0)).2.2.1) := C_h0.out.cell 2
    have c3_h0 : w15.cell? ⟨w14.heap.size, 3, none⟩ = some (.int .i64 (Row.decW (l0)).2.2.2) := C_h0.out.cell 3
    go_wp2_with fail
    clear c0_aW c1_aW c2_aW c3_aW c0_w0 c1_w0 c2_w0 c3_w0 c0_x0 c1_x0 c2_x0 c3_x0 c0_g0 c1_g0 c2_g0 c3_g0 c0_h0 c1_h0 c2_h0 c3_h0
    refine (Row.heldWK _ _ (1) (Row.decW (l0)) (O_v4.out.at) (by first | omega | (simp; omega) | (simp [Row.marks_length, Sl.marks_length, Row.mkW]; omega)) (by first | omega | (simp; omega) | (simp [Row.marks_length, Sl.marks_length, Row.mkW]; omega)) (by first | omega | (simp; omega) | (simp [Row.marks_length, Sl.marks_length, Row.mkW]; omega))).mono ?_
    rintro e w16 ⟨rfl, hb⟩
    replace C_aW := Lib.hid (C_aW.out.on hb)
    replace C_w0 := Lib.hid (C_w0.out.on hb)
    replace C_x0 := Lib.hid (C_x0.out.on hb)
    replace C_g0 := Lib.hid (C_g0.out.on hb)
    replace C_h0 := Lib.hid (C_h0.out.on hb)
    replace O_v2 := Lib.hid (O_v2.out.on hb)
    replace O_v3 := Lib.hid (O_v3.out.on hb)
    replace O_v4 := Lib.hid (O_v4.out.on hb)
    replace O_v7 := Lib.hid (O_v7.out.on hb)
    replace BB := Lib.hid (BB.out.trans (hb.mono BB.out.size))
    have S21 := Lib.hid (show w15.heap.size ≤ w16.heap.size from (by have h := hb.size; exact h))
    clear hb
    have c0_aW : w16.cell? ⟨w.heap.size, 0, none⟩ = some (.slice x_q0 n_q0 c_q0) := C_aW.out.cell 0
    have c1_aW : w16.cell? ⟨w.heap.size, 1, none⟩ = some (.int .i64 (l0).2.1) := C_aW.out.cell 1
    have c2_aW : w16.cell? ⟨w.heap.size, 2, none⟩ = some (.int .i64 (l0).2.2.1) := C_aW.out.cell 2
    have c3_aW : w16.cell? ⟨w.heap.size, 3, none⟩ = some (.int .i64 (l0).2.2.2) := C_aW.out.cell 3
    have c0_w0 : w16.cell? ⟨w3.heap.size, 0, none⟩ = some (.slice x_v2 n_v2 c_v2) := C_w0.out.cell 0
    have c1_w0 : w16.cell? ⟨w3.heap.size, 1, none⟩ = some (.int .i64 (Row.decW (l0)).2.1) := C_w0.out.cell 1
    have c2_w0 : w16.cell? ⟨w3.heap.size, 2, none⟩ = some (.int .i64 (Row.decW (l0)).2.2.1) := C_w0.out.cell 2
    have c3_w0 : w16.cell? ⟨w3.heap.size, 3, none⟩ = some (.int .i64 (Row.decW (l0)).2.2.2) := C_w0.out.cell 3
    have c0_x0 : w16.cell? ⟨w4.heap.size, 0, none⟩ = some (.slice x_v3 n_v3 c_v3) := C_x0.out.cell 0
    have c1_x0 : w16.cell? ⟨w4.heap.size, 1, none⟩ = some (.int .i64 (l0).2.1) := C_x0.out.cell 1
    have c2_x0 : w16.cell? ⟨w4.heap.size, 2, none⟩ = some (.int .i64 (l0).2.2.1) := C_x0.out.cell 2
    have c3_x0 : w16.cell? ⟨w4.heap.size, 3, none⟩ = some (.int .i64 (l0).2.2.2) := C_x0.out.cell 3
    have c0_g0 : w16.cell? ⟨w5.heap.size, 0, none⟩ = some (.slice x_v4 n_v4 c_v4) := C_g0.out.cell 0
    have c1_g0 : w16.cell? ⟨w5.heap.size, 1, none⟩ = some (.int .i64 (Row.decW (l0)).2.1) := C_g0.out.cell 1
    have c2_g0 : w16.cell? ⟨w5.heap.size, 2, none⟩ = some (.int .i64 (Row.decW (l0)).2.2.1) := C_g0.out.cell 2
    have c3_g0 : w16.cell? ⟨w5.heap.size, 3, none⟩ = some (.int .i64 (Row.decW (l0)).2.2.2) := C_g0.out.cell 3
    have c0_h0 : w16.cell? ⟨w14.heap.size, 0, none⟩ = some (.slice x_v7 n_v7 c_v7) := C_h0.out.cell 0
    have c1_h0 : w16.cell? ⟨w14.heap.size, 1, none⟩ = some (.int .i64 (Row.decW (l0)).2.1) := C_h0.out.cell 1
    have c2_h0 : w16.cell? ⟨w14.heap.size, 2, none⟩ = some (.int .i64 (Row.decW (l0)).2.2.1) := C_h0.out.cell 2
    have c3_h0 : w16.cell? ⟨w14.heap.size, 3, none⟩ = some (.int .i64 (Row.decW (l0)).2.2.2) := C_h0.out.cell 3
    go_wp2_with fail
    clear c0_aW c1_aW c2_aW c3_aW c0_w0 c1_w0 c2_w0 c3_w0 c0_x0 c1_x0 c2_x0 c3_x0 c0_g0 c1_g0 c2_g0 c3_g0 c0_h0 c1_h0 c2_h0 c3_h0
    go_ret
    exact ⟨rfl, BB.out⟩
  · -- out
    rw [Row.szL_not (by omega)]
    go_wp2
    go_ret
    exact ⟨rfl, BB.out⟩

set_option maxRecDepth 100000 in
theorem lifted (os : Os) (started : os.Started) (H : Type) (enc : TypeId × Value → H) :
    ReturnsInHanded {} Try.checked os 8 .any (Rows.fnExactDecrementHopsSpec.pre6 enc Try.prog Try.f8 Rows.fnExactDecrementHopsRow.domain false) (Rows.fnExactDecrementHopsSpec.post enc Try.prog Try.f8 false true false false) := by
  refine returnsInHanded_of_change_sized (C := Try.checked) own started (by kernel_rfl) Try.func8
    (ChangeSpec.witness6 (enc := enc) (C := Try.checked) false ⟨#[], #[.agg #[.slice none 0 0, .int .i64 0, .int .i64 0, .int .i64 0]], []⟩ 8 (by kernel_rfl) (by kernel_rfl) (by kernel_rfl) (by kernel_rfl)) ?_
  intro W base args ds gs before hval0 hW _ hsz0 _
  have hval : ∀ (j : Nat) t v, Try.f8.params[j]? = some t → args[j]? = some v → Value.okWide Try.prog W .any base t v := hval0
  have hsz : (DataW.weightsEach Try.prog (Try.f8.params.toList ++ Rows.fnExactDecrementHopsSpec.plain.varTypes Try.prog) (ds ++ gs)).all (· ≤ reachBytes) = true := hsz0
  clear hsz0
  have hW' := hW
  obtain ⟨p, q, hA0, hV, rfl, hfz, hnd⟩ := hW
  have hA : DataW.TrodAll enc Try.prog W 0 (fun _ => true) true Try.f8.params.toList args.toList ds p := hA0
  rw [Try.params8] at hA hval hsz
  obtain ⟨v0, vs0, d0, ds0, p0, q0, hargs, rfl, rfl, h0, r0⟩ := trodAll_cons hA
  obtain ⟨rfl, rfl, rfl⟩ := trodAll_nil r0
  obtain rfl : args = #[v0] := by cases args; simp_all
  obtain ⟨rfl, rfl⟩ := trodVars_none hV
  obtain ⟨l0, q0, n0, m0⟩ := Row.open_want (t := 26) Try.underlying26 Try.underlying24 Try.underlying22 Try.underlying9 Try.underlying3 Try.underlying3 Try.underlying3 rfl rfl rfl rfl rfl (by kernel_rfl) (by kernel_rfl) (by kernel_rfl) (by kernel_rfl) (by kernel_rfl) (by kernel_rfl) (by kernel_rfl) (hval 0 26 v0 rfl rfl) h0
  clear hA0 hval0
  refine (walk W _ _ q0 n0 m0).mono fun e W' ⟨he, hb⟩ => ?_
  subst he
  exact ⟨_, rfl, Frame.law_post laidOut (by kernel_rfl) rfl Try.underlying4 rfl rfl hW' hb⟩

theorem said : Rows.FnExactDecrementHopsSaid :=
  OpenClaim.holds_of_wide 8 Try.f8 rfl rfl rfl rfl rfl rfl rfl ⟨rfl, rfl, rfl, rfl, rfl⟩ rfl rfl rfl rfl rfl (by kernel_rfl) Try.func8 (by kernel_rfl)
    (of_decide_eq_true (by kernel_rfl)) (by unfold Func.isWrapper; first | (rw [if_pos (by decide +kernel)]; kernel_rfl) | (rw [if_neg (by decide +kernel)]; exact ⟨rfl, rfl⟩))
    (fun os started H enc _ => lifted os started H enc)

#print axioms said
end Go.Proofs.Ytnnhgcfelkcpfaa.fnExactDecrementHops
