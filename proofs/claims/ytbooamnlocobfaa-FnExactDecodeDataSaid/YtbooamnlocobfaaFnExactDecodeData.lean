/- DecodeData answers as its model for all bytes, writes into no argument, and its answer owns its memory. No conditions. -/
import Derived.Test.YtbooamnlocobfaaRows
import Derived.WalkKit
import Derived.ProofKit
import Derived.OpenShut
import Derived.SizedLaws
import Derived.Test.YtbooamnlocobfaaB1
import Derived.Test.YtbooamnlocobfaaB9
namespace Go.Proofs.Ytbooamnlocobfaa.fnExactDecodeData
open Go.ChangeShapes Go.WideShapes Go.ChangeAt Go.RowKit
open Go.ChangeMaps (open_string shut_string)
set_option linter.unusedVariables false

theorem own : ownKnob Try.prog.godebug = none := by kernel_rfl
theorem laidOut : laidOutB Try.prog = true := by kernel_rfl

set_option maxRecDepth 100000 in
set_option maxHeartbeats 4000000 in
theorem walk (w : World) (y0 : Value) (l0 : List Int) (q0 : Sl.Holds .u8 w y0 l0) (n0 : ∀ x ∈ l0, (Lit.int .u8 x).wf = true) (m0 : l0.length ≤ 140737488351232) :
    Calls Try.prog 8 #[y0] w fun e w' => e = .returned (.bool true) ∧ Below w.heap.size w w' := by
  replace q0 := Row.kB_of q0
  obtain ⟨x_q0, n_q0, c_q0, rfl, q0⟩ := Row.kB_shapeA q0
  obtain rfl : n_q0 = l0.length := by have h := Row.kS_at q0; exact h.lenEq
  have Q0 := Lib.hid q0; have N0 := Lib.hid n0; clear q0 n0
  by_cases t0 : l0.length ≤ 1048576
  · -- in
    have BB := Lib.hid (Below.refl w.heap.size w)
    go_enter Try.func8, Try.ntmps8
    go_wp2_with fail
    refine (Row.toB _ l0 _ (Q0.out.on BB.out) (by omega)).mono ?_
    rintro e w1 ⟨v1, rfl, ho, hb⟩
    obtain ⟨x_v1, n_v1, c_v1, rfl, ho⟩ := Row.kB_shape ho
    replace BB := Lib.hid (BB.out.trans (hb.mono BB.out.size))
    have S1 := Lib.hid (show w.heap.size ≤ w1.heap.size from (by have h := hb.size; exact h))
    have O_v1 := Lib.hid (show Row.kB.In w.heap.size w1.heap.size w1 (.slice x_v1 n_v1 c_v1) (l0) from ho); clear ho
    clear hb
    go_wp2_with fail
    have f1 := Row.dcD_adv (l0)
    refine (Row.specDecodeDataK _ (l0) _ (O_v1.out.at) (Sl.byt_of_wf N0.out) (by omega)).mono ?_
    rintro e w2 ⟨v2, rfl, ho, hb⟩
    obtain ⟨x_v2a, n_v2a, c_v2a, x_v2b, n_v2b, c_v2b, x_v2c, n_v2c, c_v2c, rfl, ho⟩ := Row.kD_shape ho
    replace O_v1 := Lib.hid (O_v1.out.on hb)
    replace BB := Lib.hid (BB.out.trans (hb.mono BB.out.size))
    have S2 := Lib.hid (show w1.heap.size ≤ w2.heap.size from (by have h := hb.size; exact h))
    have O_v2 := Lib.hid (show Row.kD.In w1.heap.size w2.heap.size w2 (.agg #[.slice x_v2a n_v2a c_v2a, .slice x_v2b n_v2b c_v2b, .slice x_v2c n_v2c c_v2c, .int .i64 ((Row.dcD (l0)).1).2.2.2.1, .int .i64 ((Row.dcD (l0)).1).2.2.2.2]) ((Row.dcD (l0)).1) from ho); clear ho
    clear hb
    have hal := (Below.refl w2.heap.size w2).alloc (Nat.le_refl _) (.cells #[.slice x_v2a n_v2a c_v2a, .slice x_v2b n_v2b c_v2b, .slice x_v2c n_v2c c_v2c, .int .i64 ((Row.dcD (l0)).1).2.2.2.1, .int .i64 ((Row.dcD (l0)).1).2.2.2.2] 32)
    replace O_v1 := Lib.hid (O_v1.out.on hal)
    replace O_v2 := Lib.hid (O_v2.out.on hal)
    replace BB := Lib.hid (BB.out.trans (hal.mono BB.out.size))
    have S3 := Lib.hid (show (w2.alloc (.cells #[.slice x_v2a n_v2a c_v2a, .slice x_v2b n_v2b c_v2b, .slice x_v2c n_v2c c_v2c, .int .i64 ((Row.dcD (l0)).1).2.2.2.1, .int .i64 ((Row.dcD (l0)).1).2.2.2.2] 32)).heap.size = w2.heap.size + 1 from World.size_alloc _ _)
    have C_w0 := Lib.hid (Ret.Blk.new w2 #[.slice x_v2a n_v2a c_v2a, .slice x_v2b n_v2b c_v2b, .slice x_v2c n_v2c c_v2c, .int .i64 ((Row.dcD (l0)).1).2.2.2.1, .int .i64 ((Row.dcD (l0)).1).2.2.2.2] 32); clear hal
    have c0_w0 : (w2.alloc (.cells #[.slice x_v2a n_v2a c_v2a, .slice x_v2b n_v2b c_v2b, .slice x_v2c n_v2c c_v2c, .int .i64 ((Row.dcD (l0)).1).2.2.2.1, .int .i64 ((Row.dcD (l0)).1).2.2.2.2] 32)).cell? ⟨w2.heap.size, 0, none⟩ = some (.slice x_v2a n_v2a c_v2a) := C_w0.out.cell 0
    have c1_w0 : (w2.alloc (.cells #[.slice x_v2a n_v2a c_v2a, .slice x_v2b n_v2b c_v2b, .slice x_v2c n_v2c c_v2c, .int .i64 ((Row.dcD (l0)).1).2.2.2.1, .int .i64 ((Row.dcD (l0)).1).2.2.2.2] 32)).cell? ⟨w2.heap.size, 1, none⟩ = some (.slice x_v2b n_v2b c_v2b) := C_w0.out.cell 1
    have c2_w0 : (w2.alloc (.cells #[.slice x_v2a n_v2a c_v2a, .slice x_v2b n_v2b c_v2b, .slice x_v2c n_v2c c_v2c, .int .i64 ((Row.dcD (l0)).1).2.2.2.1, .int .i64 ((Row.dcD (l0)).1).2.2.2.2] 32)).cell? ⟨w2.heap.size, 2, none⟩ = some (.slice x_v2c n_v2c c_v2c) := C_w0.out.cell 2
    have c3_w0 : (w2.alloc (.cells #[.slice x_v2a n_v2a c_v2a, .slice x_v2b n_v2b c_v2b, .slice x_v2c n_v2c c_v2c, .int .i64 ((Row.dcD (l0)).1).2.2.2.1, .int .i64 ((Row.dcD (l0)).1).2.2.2.2] 32)).cell? ⟨w2.heap.size, 3, none⟩ = some (.int .i64 ((Row.dcD (l0)).1).2.2.2.1) := C_w0.out.cell 3
    have c4_w0 : (w2.alloc (.cells #[.slice x_v2a n_v2a c_v2a, .slice x_v2b n_v2b c_v2b, .slice x_v2c n_v2c c_v2c, .int .i64 ((Row.dcD (l0)).1).2.2.2.1, .int .i64 ((Row.dcD (l0)).1).2.2.2.2] 32)).cell? ⟨w2.heap.size, 4, none⟩ = some (.int .i64 ((Row.dcD (l0)).1).2.2.2.2) := C_w0.out.cell 4
    go_wp2_with fail
    clear c0_w0 c1_w0 c2_w0 c3_w0 c4_w0
    clear O_v1
    refine (Row.toB _ l0 _ (Q0.out.on BB.out) (by omega)).mono ?_
    rintro e w3 ⟨v3, rfl, ho, hb⟩
    obtain ⟨x_v3, n_v3, c_v3, rfl, ho⟩ := Row.kB_shape ho
    replace C_w0 := Lib.hid (C_w0.out.on hb)
    replace O_v2 := Lib.hid (O_v2.out.on hb)
    replace BB := Lib.hid (BB.out.trans (hb.mono BB.out.size))
    have S4 := Lib.hid (show (w2.alloc (.cells #[.slice x_v2a n_v2a c_v2a, .slice x_v2b n_v2b c_v2b, .slice x_v2c n_v2c c_v2c, .int .i64 ((Row.dcD (l0)).1).2.2.2.1, .int .i64 ((Row.dcD (l0)).1).2.2.2.2] 32)).heap.size ≤ w3.heap.size from (by have h := hb.size; exact h))
    have O_v3 := Lib.hid (show Row.kB.In (w2.alloc (.cells #[.slice x_v2a n_v2a c_v2a, .slice x_v2b n_v2b c_v2b, .slice x_v2c n_v2c c_v2c, .int .i64 ((Row.dcD (l0)).1).2.2.2.1, .int .i64 ((Row.dcD (l0)).1).2.2.2.2] 32)).heap.size w3.heap.size w3 (.slice x_v3 n_v3 c_v3) (l0) from ho); clear ho
    clear hb
    have c0_w0 : w3.cell? ⟨w2.heap.size, 0, none⟩ = some (.slice x_v2a n_v2a c_v2a) := C_w0.out.cell 0
    have c1_w0 : w3.cell? ⟨w2.heap.size, 1, none⟩ = some (.slice x_v2b n_v2b c_v2b) := C_w0.out.cell 1
    have c2_w0 : w3.cell? ⟨w2.heap.size, 2, none⟩ = some (.slice x_v2c n_v2c c_v2c) := C_w0.out.cell 2
    have c3_w0 : w3.cell? ⟨w2.heap.size, 3, none⟩ = some (.int .i64 ((Row.dcD (l0)).1).2.2.2.1) := C_w0.out.cell 3
    have c4_w0 : w3.cell? ⟨w2.heap.size, 4, none⟩ = some (.int .i64 ((Row.dcD (l0)).1).2.2.2.2) := C_w0.out.cell 4
    go_wp2_with fail
    clear c0_w0 c1_w0 c2_w0 c3_w0 c4_w0
    have f2 := Row.dcD_adv (l0)
    refine (Row.implDecodeDataK _ (l0) _ (O_v3.out.at) (Sl.byt_of_wf N0.out) (by omega)).mono ?_
    rintro e w4 ⟨v4, rfl, ho, hb⟩
    obtain ⟨x_v4a, n_v4a, c_v4a, x_v4b, n_v4b, c_v4b, x_v4c, n_v4c, c_v4c, rfl, ho⟩ := Row.kD_shape ho
    replace C_w0 := Lib.hid (C_w0.out.on hb)
    replace O_v2 := Lib.hid (O_v2.out.on hb)
    replace O_v3 := Lib.hid (O_v3.out.on hb)
    replace BB := Lib.hid (BB.out.trans (hb.mono BB.out.size))
    have S5 := Lib.hid (show w3.heap.size ≤ w4.heap.size from (by have h := hb.size; exact h))
    have O_v4 := Lib.hid (show Row.kD.In w3.heap.size w4.heap.size w4 (.agg #[.slice x_v4a n_v4a c_v4a, .slice x_v4b n_v4b c_v4b, .slice x_v4c n_v4c c_v4c, .int .i64 ((Row.dcD (l0)).1).2.2.2.1, .int .i64 ((Row.dcD (l0)).1).2.2.2.2]) ((Row.dcD (l0)).1) from ho); clear ho
    clear hb
    have hal := (Below.refl w4.heap.size w4).alloc (Nat.le_refl _) (.cells #[.slice x_v4a n_v4a c_v4a, .slice x_v4b n_v4b c_v4b, .slice x_v4c n_v4c c_v4c, .int .i64 ((Row.dcD (l0)).1).2.2.2.1, .int .i64 ((Row.dcD (l0)).1).2.2.2.2] 32)
    replace C_w0 := Lib.hid (C_w0.out.on hal)
    replace O_v2 := Lib.hid (O_v2.out.on hal)
    replace O_v3 := Lib.hid (O_v3.out.on hal)
    replace O_v4 := Lib.hid (O_v4.out.on hal)
    replace BB := Lib.hid (BB.out.trans (hal.mono BB.out.size))
    have S6 := Lib.hid (show (w4.alloc (.cells #[.slice x_v4a n_v4a c_v4a, .slice x_v4b n_v4b c_v4b, .slice x_v4c n_v4c c_v4c, .int .i64 ((Row.dcD (l0)).1).2.2.2.1, .int .i64 ((Row.dcD (l0)).1).2.2.2.2] 32)).heap.size = w4.heap.size + 1 from World.size_alloc _ _)
    have C_g0 := Lib.hid (Ret.Blk.new w4 #[.slice x_v4a n_v4a c_v4a, .slice x_v4b n_v4b c_v4b, .slice x_v4c n_v4c c_v4c, .int .i64 ((Row.dcD (l0)).1).2.2.2.1, .int .i64 ((Row.dcD (l0)).1).2.2.2.2] 32); clear hal
    have c0_w0 : (w4.alloc (.cells #[.slice x_v4a n_v4a c_v4a, .slice x_v4b n_v4b c_v4b, .slice x_v4c n_v4c c_v4c, .int .i64 ((Row.dcD (l0)).1).2.2.2.1, .int .i64 ((Row.dcD (l0)).1).2.2.2.2] 32)).cell? ⟨w2.heap.size, 0, none⟩ = some (.slice x_v2a n_v2a c_v2a) := C_w0.out.cell 0
    have c1_w0 : (w4.alloc (.cells #[.slice x_v4a n_v4a c_v4a, .slice x_v4b n_v4b c_v4b, .slice x_v4c n_v4c c_v4c, .int .i64 ((Row.dcD (l0)).1).2.2.2.1, .int .i64 ((Row.dcD (l0)).1).2.2.2.2] 32)).cell? ⟨w2.heap.size, 1, none⟩ = some (.slice x_v2b n_v2b c_v2b) := C_w0.out.cell 1
    have c2_w0 : (w4.alloc (.cells #[.slice x_v4a n_v4a c_v4a, .slice x_v4b n_v4b c_v4b, .slice x_v4c n_v4c c_v4c, .int .i64 ((Row.dcD (l0)).1).2.2.2.1, .int .i64 ((Row.dcD (l0)).1).2.2.2.2] 32)).cell? ⟨w2.heap.size, 2, none⟩ = some (.slice x_v2c n_v2c c_v2c) := C_w0.out.cell 2
    have c3_w0 : (w4.alloc (.cells #[.slice x_v4a n_v4a c_v4a, .slice x_v4b n_v4b c_v4b, .slice x_v4c n_v4c c_v4c, .int .i64 ((Row.dcD (l0)).1).2.2.2.1, .int .i64 ((Row.dcD (l0)).1).2.2.2.2] 32)).cell? ⟨w2.heap.size, 3, none⟩ = some (.int .i64 ((Row.dcD (l0)).1).2.2.2.1) := C_w0.out.cell 3
    have c4_w0 : (w4.alloc (.cells #[.slice x_v4a n_v4a c_v4a, .slice x_v4b n_v4b c_v4b, .slice x_v4c n_v4c c_v4c, .int .i64 ((Row.dcD (l0)).1).2.2.2.1, .int .i64 ((Row.dcD (l0)).1).2.2.2.2] 32)).cell? ⟨w2.heap.size, 4, none⟩ = some (.int .i64 ((Row.dcD (l0)).1).2.2.2.2) := C_w0.out.cell 4
    have c0_g0 : (w4.alloc (.cells #[.slice x_v4a n_v4a c_v4a, .slice x_v4b n_v4b c_v4b, .slice x_v4c n_v4c c_v4c, .int .i64 ((Row.dcD (l0)).1).2.2.2.1, .int .i64 ((Row.dcD (l0)).1).2.2.2.2] 32)).cell? ⟨w4.heap.size, 0, none⟩ = some (.slice x_v4a n_v4a c_v4a) := C_g0.out.cell 0
    have c1_g0 : (w4.alloc (.cells #[.slice x_v4a n_v4a c_v4a, .slice x_v4b n_v4b c_v4b, .slice x_v4c n_v4c c_v4c, .int .i64 ((Row.dcD (l0)).1).2.2.2.1, .int .i64 ((Row.dcD (l0)).1).2.2.2.2] 32)).cell? ⟨w4.heap.size, 1, none⟩ = some (.slice x_v4b n_v4b c_v4b) := C_g0.out.cell 1
    have c2_g0 : (w4.alloc (.cells #[.slice x_v4a n_v4a c_v4a, .slice x_v4b n_v4b c_v4b, .slice x_v4c n_v4c c_v4c, .int .i64 ((Row.dcD (l0)).1).2.2.2.1, .int .i64 ((Row.dcD (l0)).1).2.2.2.2] 32)).cell? ⟨w4.heap.size, 2, none⟩ = some (.slice x_v4c n_v4c c_v4c) := C_g0.out.cell 2
    have c3_g0 : (w4.alloc (.cells #[.slice x_v4a n_v4a c_v4a, .slice x_v4b n_v4b c_v4b, .slice x_v4c n_v4c c_v4c, .int .i64 ((Row.dcD (l0)).1).2.2.2.1, .int .i64 ((Row.dcD (l0)).1).2.2.2.2] 32)).cell? ⟨w4.heap.size, 3, none⟩ = some (.int .i64 ((Row.dcD (l0)).1).2.2.2.1) := C_g0.out.cell 3
    have c4_g0 : (w4.alloc (.cells #[.slice x_v4a n_v4a c_v4a, .slice x_v4b n_v4b c_v4b, .slice x_v4c n_v4c c_v4c, .int .i64 ((Row.dcD (l0)).1).2.2.2.1, .int .i64 ((Row.dcD (l0)).1).2.2.2.2] 32)).cell? ⟨w4.heap.size, 4, none⟩ = some (.int .i64 ((Row.dcD (l0)).1).2.2.2.2) := C_g0.out.cell 4
    go_wp2_with fail
    clear c0_w0 c1_w0 c2_w0 c3_w0 c4_w0 c0_g0 c1_g0 c2_g0 c3_g0 c4_g0
    refine (Row.sameDK _ _ ((Row.dcD (l0)).1) _ (O_v4.out.at) (O_v2.out.at) (by first | omega | (simp; omega) | (simp [Row.marks_length, Sl.marks_length, Row.mkW]; omega))).mono ?_
    rintro e w5 ⟨rfl, hb⟩
    replace C_w0 := Lib.hid (C_w0.out.on hb)
    replace C_g0 := Lib.hid (C_g0.out.on hb)
    replace O_v2 := Lib.hid (O_v2.out.on hb)
    replace O_v3 := Lib.hid (O_v3.out.on hb)
    replace O_v4 := Lib.hid (O_v4.out.on hb)
    replace BB := Lib.hid (BB.out.trans (hb.mono BB.out.size))
    have S7 := Lib.hid (show (w4.alloc (.cells #[.slice x_v4a n_v4a c_v4a, .slice x_v4b n_v4b c_v4b, .slice x_v4c n_v4c c_v4c, .int .i64 ((Row.dcD (l0)).1).2.2.2.1, .int .i64 ((Row.dcD (l0)).1).2.2.2.2] 32)).heap.size ≤ w5.heap.size from (by have h := hb.size; exact h))
    clear hb
    have c0_w0 : w5.cell? ⟨w2.heap.size, 0, none⟩ = some (.slice x_v2a n_v2a c_v2a) := C_w0.out.cell 0
    have c1_w0 : w5.cell? ⟨w2.heap.size, 1, none⟩ = some (.slice x_v2b n_v2b c_v2b) := C_w0.out.cell 1
    have c2_w0 : w5.cell? ⟨w2.heap.size, 2, none⟩ = some (.slice x_v2c n_v2c c_v2c) := C_w0.out.cell 2
    have c3_w0 : w5.cell? ⟨w2.heap.size, 3, none⟩ = some (.int .i64 ((Row.dcD (l0)).1).2.2.2.1) := C_w0.out.cell 3
    have c4_w0 : w5.cell? ⟨w2.heap.size, 4, none⟩ = some (.int .i64 ((Row.dcD (l0)).1).2.2.2.2) := C_w0.out.cell 4
    have c0_g0 : w5.cell? ⟨w4.heap.size, 0, none⟩ = some (.slice x_v4a n_v4a c_v4a) := C_g0.out.cell 0
    have c1_g0 : w5.cell? ⟨w4.heap.size, 1, none⟩ = some (.slice x_v4b n_v4b c_v4b) := C_g0.out.cell 1
    have c2_g0 : w5.cell? ⟨w4.heap.size, 2, none⟩ = some (.slice x_v4c n_v4c c_v4c) := C_g0.out.cell 2
    have c3_g0 : w5.cell? ⟨w4.heap.size, 3, none⟩ = some (.int .i64 ((Row.dcD (l0)).1).2.2.2.1) := C_g0.out.cell 3
    have c4_g0 : w5.cell? ⟨w4.heap.size, 4, none⟩ = some (.int .i64 ((Row.dcD (l0)).1).2.2.2.2) := C_g0.out.cell 4
    go_wp2_with fail
    clear c0_w0 c1_w0 c2_w0 c3_w0 c4_w0 c0_g0 c1_g0 c2_g0 c3_g0 c4_g0
    refine (Row.toB _ l0 _ (Q0.out.on BB.out) (by omega)).mono ?_
    rintro e w6 ⟨v5, rfl, ho, hb⟩
    obtain ⟨x_v5, n_v5, c_v5, rfl, ho⟩ := Row.kB_shape ho
    replace C_w0 := Lib.hid (C_w0.out.on hb)
    replace C_g0 := Lib.hid (C_g0.out.on hb)
    replace O_v2 := Lib.hid (O_v2.out.on hb)
    replace O_v3 := Lib.hid (O_v3.out.on hb)
    replace O_v4 := Lib.hid (O_v4.out.on hb)
    replace BB := Lib.hid (BB.out.trans (hb.mono BB.out.size))
    have S8 := Lib.hid (show w5.heap.size ≤ w6.heap.size from (by have h := hb.size; exact h))
    have O_v5 := Lib.hid (show Row.kB.In w5.heap.size w6.heap.size w6 (.slice x_v5 n_v5 c_v5) (l0) from ho); clear ho
    clear hb
    have c0_w0 : w6.cell? ⟨w2.heap.size, 0, none⟩ = some (.slice x_v2a n_v2a c_v2a) := C_w0.out.cell 0
    have c1_w0 : w6.cell? ⟨w2.heap.size, 1, none⟩ = some (.slice x_v2b n_v2b c_v2b) := C_w0.out.cell 1
    have c2_w0 : w6.cell? ⟨w2.heap.size, 2, none⟩ = some (.slice x_v2c n_v2c c_v2c) := C_w0.out.cell 2
    have c3_w0 : w6.cell? ⟨w2.heap.size, 3, none⟩ = some (.int .i64 ((Row.dcD (l0)).1).2.2.2.1) := C_w0.out.cell 3
    have c4_w0 : w6.cell? ⟨w2.heap.size, 4, none⟩ = some (.int .i64 ((Row.dcD (l0)).1).2.2.2.2) := C_w0.out.cell 4
    have c0_g0 : w6.cell? ⟨w4.heap.size, 0, none⟩ = some (.slice x_v4a n_v4a c_v4a) := C_g0.out.cell 0
    have c1_g0 : w6.cell? ⟨w4.heap.size, 1, none⟩ = some (.slice x_v4b n_v4b c_v4b) := C_g0.out.cell 1
    have c2_g0 : w6.cell? ⟨w4.heap.size, 2, none⟩ = some (.slice x_v4c n_v4c c_v4c) := C_g0.out.cell 2
    have c3_g0 : w6.cell? ⟨w4.heap.size, 3, none⟩ = some (.int .i64 ((Row.dcD (l0)).1).2.2.2.1) := C_g0.out.cell 3
    have c4_g0 : w6.cell? ⟨w4.heap.size, 4, none⟩ = some (.int .i64 ((Row.dcD (l0)).1).2.2.2.2) := C_g0.out.cell 4
    go_wp2_with fail
    clear c0_w0 c1_w0 c2_w0 c3_w0 c4_w0 c0_g0 c1_g0 c2_g0 c3_g0 c4_g0
    refine (Row.sameB' _ _ (l0) _ (O_v3.out.at) (O_v5.out.at) (by first | omega | (simp; omega) | (simp [Row.marks_length, Sl.marks_length, Row.mkW]; omega))).mono ?_
    rintro e w7 ⟨rfl, hb⟩
    replace C_w0 := Lib.hid (C_w0.out.on hb)
    replace C_g0 := Lib.hid (C_g0.out.on hb)
    replace O_v2 := Lib.hid (O_v2.out.on hb)
    replace O_v3 := Lib.hid (O_v3.out.on hb)
    replace O_v4 := Lib.hid (O_v4.out.on hb)
    replace O_v5 := Lib.hid (O_v5.out.on hb)
    replace BB := Lib.hid (BB.out.trans (hb.mono BB.out.size))
    have S9 := Lib.hid (show w6.heap.size ≤ w7.heap.size from (by have h := hb.size; exact h))
    clear hb
    have c0_w0 : w7.cell? ⟨w2.heap.size, 0, none⟩ = some (.slice x_v2a n_v2a c_v2a) := C_w0.out.cell 0
    have c1_w0 : w7.cell? ⟨w2.heap.size, 1, none⟩ = some (.slice x_v2b n_v2b c_v2b) := C_w0.out.cell 1
    have c2_w0 : w7.cell? ⟨w2.heap.size, 2, none⟩ = some (.slice x_v2c n_v2c c_v2c) := C_w0.out.cell 2
    have c3_w0 : w7.cell? ⟨w2.heap.size, 3, none⟩ = some (.int .i64 ((Row.dcD (l0)).1).2.2.2.1) := C_w0.out.cell 3
    have c4_w0 : w7.cell? ⟨w2.heap.size, 4, none⟩ = some (.int .i64 ((Row.dcD (l0)).1).2.2.2.2) := C_w0.out.cell 4
    have c0_g0 : w7.cell? ⟨w4.heap.size, 0, none⟩ = some (.slice x_v4a n_v4a c_v4a) := C_g0.out.cell 0
    have c1_g0 : w7.cell? ⟨w4.heap.size, 1, none⟩ = some (.slice x_v4b n_v4b c_v4b) := C_g0.out.cell 1
    have c2_g0 : w7.cell? ⟨w4.heap.size, 2, none⟩ = some (.slice x_v4c n_v4c c_v4c) := C_g0.out.cell 2
    have c3_g0 : w7.cell? ⟨w4.heap.size, 3, none⟩ = some (.int .i64 ((Row.dcD (l0)).1).2.2.2.1) := C_g0.out.cell 3
    have c4_g0 : w7.cell? ⟨w4.heap.size, 4, none⟩ = some (.int .i64 ((Row.dcD (l0)).1).2.2.2.2) := C_g0.out.cell 4
    go_wp2_with fail
    clear c0_w0 c1_w0 c2_w0 c3_w0 c4_w0 c0_g0 c1_g0 c2_g0 c3_g0 c4_g0
    clear O_v5
    refine (Row.markB _ _ _ (l0) _ (1) O_v3.out (by first | omega | (simp; omega) | (simp [Row.marks_length, Sl.marks_length, Row.mkW]; omega)) (by first | omega | (simp; omega) | (simp [Row.marks_length, Sl.marks_length, Row.mkW]; omega)) (by first | omega | (simp; omega) | (simp [Row.marks_length, Sl.marks_length, Row.mkW]; omega))).mono ?_
    rintro e w8 ⟨rfl, ho, hg⟩
    replace C_w0 := Lib.hid (hg.blk C_w0.out (by have := S1.out; have := S2.out; have := S3.out; have := S4.out; have := S5.out; have := S6.out; have := S7.out; have := S8.out; have := S9.out; omega))
    replace C_g0 := Lib.hid (hg.blk C_g0.out (by have := S1.out; have := S2.out; have := S3.out; have := S4.out; have := S5.out; have := S6.out; have := S7.out; have := S8.out; have := S9.out; omega))
    replace O_v2 := Lib.hid (O_v2.out.wrote hg (by have := S1.out; have := S2.out; have := S3.out; have := S4.out; have := S5.out; have := S6.out; have := S7.out; have := S8.out; have := S9.out; omega))
    replace O_v4 := Lib.hid (O_v4.out.wrote hg (by have := S1.out; have := S2.out; have := S3.out; have := S4.out; have := S5.out; have := S6.out; have := S7.out; have := S8.out; have := S9.out; omega))
    replace BB := Lib.hid (hg.below BB.out BB.out.size (by have := S1.out; have := S2.out; have := S3.out; have := S4.out; have := S5.out; have := S6.out; have := S7.out; have := S8.out; have := S9.out; omega))
    have S10 := Lib.hid (show w7.heap.size ≤ w8.heap.size from hg.size)
    replace O_v3 := Lib.hid ho; clear ho hg
    have c0_w0 : w8.cell? ⟨w2.heap.size, 0, none⟩ = some (.slice x_v2a n_v2a c_v2a) := C_w0.out.cell 0
    have c1_w0 : w8.cell? ⟨w2.heap.size, 1, none⟩ = some (.slice x_v2b n_v2b c_v2b) := C_w0.out.cell 1
    have c2_w0 : w8.cell? ⟨w2.heap.size, 2, none⟩ = some (.slice x_v2c n_v2c c_v2c) := C_w0.out.cell 2
    have c3_w0 : w8.cell? ⟨w2.heap.size, 3, none⟩ = some (.int .i64 ((Row.dcD (l0)).1).2.2.2.1) := C_w0.out.cell 3
    have c4_w0 : w8.cell? ⟨w2.heap.size, 4, none⟩ = some (.int .i64 ((Row.dcD (l0)).1).2.2.2.2) := C_w0.out.cell 4
    have c0_g0 : w8.cell? ⟨w4.heap.size, 0, none⟩ = some (.slice x_v4a n_v4a c_v4a) := C_g0.out.cell 0
    have c1_g0 : w8.cell? ⟨w4.heap.size, 1, none⟩ = some (.slice x_v4b n_v4b c_v4b) := C_g0.out.cell 1
    have c2_g0 : w8.cell? ⟨w4.heap.size, 2, none⟩ = some (.slice x_v4c n_v4c c_v4c) := C_g0.out.cell 2
    have c3_g0 : w8.cell? ⟨w4.heap.size, 3, none⟩ = some (.int .i64 ((Row.dcD (l0)).1).2.2.2.1) := C_g0.out.cell 3
    have c4_g0 : w8.cell? ⟨w4.heap.size, 4, none⟩ = some (.int .i64 ((Row.dcD (l0)).1).2.2.2.2) := C_g0.out.cell 4
    go_wp2_with fail
    clear c0_w0 c1_w0 c2_w0 c3_w0 c4_w0 c0_g0 c1_g0 c2_g0 c3_g0 c4_g0
    refine (Row.sameDK _ _ ((Row.dcD (l0)).1) _ (O_v4.out.at) (O_v2.out.at) (by first | omega | (simp; omega) | (simp [Row.marks_length, Sl.marks_length, Row.mkW]; omega))).mono ?_
    rintro e w9 ⟨rfl, hb⟩
    replace C_w0 := Lib.hid (C_w0.out.on hb)
    replace C_g0 := Lib.hid (C_g0.out.on hb)
    replace O_v2 := Lib.hid (O_v2.out.on hb)
    replace O_v3 := Lib.hid (O_v3.out.on hb)
    replace O_v4 := Lib.hid (O_v4.out.on hb)
    replace BB := Lib.hid (BB.out.trans (hb.mono BB.out.size))
    have S11 := Lib.hid (show w8.heap.size ≤ w9.heap.size from (by have h := hb.size; exact h))
    clear hb
    have c0_w0 : w9.cell? ⟨w2.heap.size, 0, none⟩ = some (.slice x_v2a n_v2a c_v2a) := C_w0.out.cell 0
    have c1_w0 : w9.cell? ⟨w2.heap.size, 1, none⟩ = some (.slice x_v2b n_v2b c_v2b) := C_w0.out.cell 1
    have c2_w0 : w9.cell? ⟨w2.heap.size, 2, none⟩ = some (.slice x_v2c n_v2c c_v2c) := C_w0.out.cell 2
    have c3_w0 : w9.cell? ⟨w2.heap.size, 3, none⟩ = some (.int .i64 ((Row.dcD (l0)).1).2.2.2.1) := C_w0.out.cell 3
    have c4_w0 : w9.cell? ⟨w2.heap.size, 4, none⟩ = some (.int .i64 ((Row.dcD (l0)).1).2.2.2.2) := C_w0.out.cell 4
    have c0_g0 : w9.cell? ⟨w4.heap.size, 0, none⟩ = some (.slice x_v4a n_v4a c_v4a) := C_g0.out.cell 0
    have c1_g0 : w9.cell? ⟨w4.heap.size, 1, none⟩ = some (.slice x_v4b n_v4b c_v4b) := C_g0.out.cell 1
    have c2_g0 : w9.cell? ⟨w4.heap.size, 2, none⟩ = some (.slice x_v4c n_v4c c_v4c) := C_g0.out.cell 2
    have c3_g0 : w9.cell? ⟨w4.heap.size, 3, none⟩ = some (.int .i64 ((Row.dcD (l0)).1).2.2.2.1) := C_g0.out.cell 3
    have c4_g0 : w9.cell? ⟨w4.heap.size, 4, none⟩ = some (.int .i64 ((Row.dcD (l0)).1).2.2.2.2) := C_g0.out.cell 4
    go_wp2_with fail
    clear c0_w0 c1_w0 c2_w0 c3_w0 c4_w0 c0_g0 c1_g0 c2_g0 c3_g0 c4_g0
    refine (Row.markDK _ _ _ ((Row.dcD (l0)).1) _ (1) O_v4.out (by first | omega | (simp; omega) | (simp [Row.marks_length, Sl.marks_length, Row.mkW]; omega)) (by first | omega | (simp; omega) | (simp [Row.marks_length, Sl.marks_length, Row.mkW]; omega)) (by first | omega | (simp; omega) | (simp [Row.marks_length, Sl.marks_length, Row.mkW]; omega))).mono ?_
    rintro e w10 ⟨rfl, ho, hg⟩
    replace C_w0 := Lib.hid (hg.blk C_w0.out (by have := S1.out; have := S2.out; have := S3.out; have := S4.out; have := S5.out; have := S6.out; have := S7.out; have := S8.out; have := S9.out; have := S10.out; have := S11.out; omega))
    replace C_g0 := Lib.hid (hg.blk C_g0.out (by have := S1.out; have := S2.out; have := S3.out; have := S4.out; have := S5.out; have := S6.out; have := S7.out; have := S8.out; have := S9.out; have := S10.out; have := S11.out; omega))
    replace O_v2 := Lib.hid (O_v2.out.wrote hg (by have := S1.out; have := S2.out; have := S3.out; have := S4.out; have := S5.out; have := S6.out; have := S7.out; have := S8.out; have := S9.out; have := S10.out; have := S11.out; omega))
    replace O_v3 := Lib.hid (O_v3.out.wrote hg (by have := S1.out; have := S2.out; have := S3.out; have := S4.out; have := S5.out; have := S6.out; have := S7.out; have := S8.out; have := S9.out; have := S10.out; have := S11.out; omega))
    replace BB := Lib.hid (hg.below BB.out BB.out.size (by have := S1.out; have := S2.out; have := S3.out; have := S4.out; have := S5.out; have := S6.out; have := S7.out; have := S8.out; have := S9.out; have := S10.out; have := S11.out; omega))
    have S12 := Lib.hid (show w9.heap.size ≤ w10.heap.size from hg.size)
    replace O_v4 := Lib.hid ho; clear ho hg
    have c0_w0 : w10.cell? ⟨w2.heap.size, 0, none⟩ = some (.slice x_v2a n_v2a c_v2a) := C_w0.out.cell 0
    have c1_w0 : w10.cell? ⟨w2.heap.size, 1, none⟩ = some (.slice x_v2b n_v2b c_v2b) := C_w0.out.cell 1
    have c2_w0 : w10.cell? ⟨w2.heap.size, 2, none⟩ = some (.slice x_v2c n_v2c c_v2c) := C_w0.out.cell 2
    have c3_w0 : w10.cell? ⟨w2.heap.size, 3, none⟩ = some (.int .i64 ((Row.dcD (l0)).1).2.2.2.1) := C_w0.out.cell 3
    have c4_w0 : w10.cell? ⟨w2.heap.size, 4, none⟩ = some (.int .i64 ((Row.dcD (l0)).1).2.2.2.2) := C_w0.out.cell 4
    have c0_g0 : w10.cell? ⟨w4.heap.size, 0, none⟩ = some (.slice x_v4a n_v4a c_v4a) := C_g0.out.cell 0
    have c1_g0 : w10.cell? ⟨w4.heap.size, 1, none⟩ = some (.slice x_v4b n_v4b c_v4b) := C_g0.out.cell 1
    have c2_g0 : w10.cell? ⟨w4.heap.size, 2, none⟩ = some (.slice x_v4c n_v4c c_v4c) := C_g0.out.cell 2
    have c3_g0 : w10.cell? ⟨w4.heap.size, 3, none⟩ = some (.int .i64 ((Row.dcD (l0)).1).2.2.2.1) := C_g0.out.cell 3
    have c4_g0 : w10.cell? ⟨w4.heap.size, 4, none⟩ = some (.int .i64 ((Row.dcD (l0)).1).2.2.2.2) := C_g0.out.cell 4
    go_wp2_with fail
    clear c0_w0 c1_w0 c2_w0 c3_w0 c4_w0 c0_g0 c1_g0 c2_g0 c3_g0 c4_g0
    refine (Row.heldDK _ _ (1) ((Row.dcD (l0)).1) (O_v4.out.at) (by first | omega | (simp; omega) | (simp [Row.marks_length, Sl.marks_length, Row.mkW]; omega)) (by first | omega | (simp; omega) | (simp [Row.marks_length, Sl.marks_length, Row.mkW]; omega)) (by first | omega | (simp; omega) | (simp [Row.marks_length, Sl.marks_length, Row.mkW]; omega))).mono ?_
    rintro e w11 ⟨rfl, hb⟩
    replace C_w0 := Lib.hid (C_w0.out.on hb)
    replace C_g0 := Lib.hid (C_g0.out.on hb)
    replace O_v2 := Lib.hid (O_v2.out.on hb)
    replace O_v3 := Lib.hid (O_v3.out.on hb)
    replace O_v4 := Lib.hid (O_v4.out.on hb)
    replace BB := Lib.hid (BB.out.trans (hb.mono BB.out.size))
    have S13 := Lib.hid (show w10.heap.size ≤ w11.heap.size from (by have h := hb.size; exact h))
    clear hb
    have c0_w0 : w11.cell? ⟨w2.heap.size, 0, none⟩ = some (.slice x_v2a n_v2a c_v2a) := C_w0.out.cell 0
    have c1_w0 : w11.cell? ⟨w2.heap.size, 1, none⟩ = some (.slice x_v2b n_v2b c_v2b) := C_w0.out.cell 1
    have c2_w0 : w11.cell? ⟨w2.heap.size, 2, none⟩ = some (.slice x_v2c n_v2c c_v2c) := C_w0.out.cell 2
    have c3_w0 : w11.cell? ⟨w2.heap.size, 3, none⟩ = some (.int .i64 ((Row.dcD (l0)).1).2.2.2.1) := C_w0.out.cell 3
    have c4_w0 : w11.cell? ⟨w2.heap.size, 4, none⟩ = some (.int .i64 ((Row.dcD (l0)).1).2.2.2.2) := C_w0.out.cell 4
    have c0_g0 : w11.cell? ⟨w4.heap.size, 0, none⟩ = some (.slice x_v4a n_v4a c_v4a) := C_g0.out.cell 0
    have c1_g0 : w11.cell? ⟨w4.heap.size, 1, none⟩ = some (.slice x_v4b n_v4b c_v4b) := C_g0.out.cell 1
    have c2_g0 : w11.cell? ⟨w4.heap.size, 2, none⟩ = some (.slice x_v4c n_v4c c_v4c) := C_g0.out.cell 2
    have c3_g0 : w11.cell? ⟨w4.heap.size, 3, none⟩ = some (.int .i64 ((Row.dcD (l0)).1).2.2.2.1) := C_g0.out.cell 3
    have c4_g0 : w11.cell? ⟨w4.heap.size, 4, none⟩ = some (.int .i64 ((Row.dcD (l0)).1).2.2.2.2) := C_g0.out.cell 4
    go_wp2_with fail
    clear c0_w0 c1_w0 c2_w0 c3_w0 c4_w0 c0_g0 c1_g0 c2_g0 c3_g0 c4_g0
    refine (Row.toB _ l0 _ (Q0.out.on BB.out) (by omega)).mono ?_
    rintro e w12 ⟨v6, rfl, ho, hb⟩
    obtain ⟨x_v6, n_v6, c_v6, rfl, ho⟩ := Row.kB_shape ho
    replace C_w0 := Lib.hid (C_w0.out.on hb)
    replace C_g0 := Lib.hid (C_g0.out.on hb)
    replace O_v2 := Lib.hid (O_v2.out.on hb)
    replace O_v3 := Lib.hid (O_v3.out.on hb)
    replace O_v4 := Lib.hid (O_v4.out.on hb)
    replace BB := Lib.hid (BB.out.trans (hb.mono BB.out.size))
    have S14 := Lib.hid (show w11.heap.size ≤ w12.heap.size from (by have h := hb.size; exact h))
    have O_v6 := Lib.hid (show Row.kB.In w11.heap.size w12.heap.size w12 (.slice x_v6 n_v6 c_v6) (l0) from ho); clear ho
    clear hb
    have c0_w0 : w12.cell? ⟨w2.heap.size, 0, none⟩ = some (.slice x_v2a n_v2a c_v2a) := C_w0.out.cell 0
    have c1_w0 : w12.cell? ⟨w2.heap.size, 1, none⟩ = some (.slice x_v2b n_v2b c_v2b) := C_w0.out.cell 1
    have c2_w0 : w12.cell? ⟨w2.heap.size, 2, none⟩ = some (.slice x_v2c n_v2c c_v2c) := C_w0.out.cell 2
    have c3_w0 : w12.cell? ⟨w2.heap.size, 3, none⟩ = some (.int .i64 ((Row.dcD (l0)).1).2.2.2.1) := C_w0.out.cell 3
    have c4_w0 : w12.cell? ⟨w2.heap.size, 4, none⟩ = some (.int .i64 ((Row.dcD (l0)).1).2.2.2.2) := C_w0.out.cell 4
    have c0_g0 : w12.cell? ⟨w4.heap.size, 0, none⟩ = some (.slice x_v4a n_v4a c_v4a) := C_g0.out.cell 0
    have c1_g0 : w12.cell? ⟨w4.heap.size, 1, none⟩ = some (.slice x_v4b n_v4b c_v4b) := C_g0.out.cell 1
    have c2_g0 : w12.cell? ⟨w4.heap.size, 2, none⟩ = some (.slice x_v4c n_v4c c_v4c) := C_g0.out.cell 2
    have c3_g0 : w12.cell? ⟨w4.heap.size, 3, none⟩ = some (.int .i64 ((Row.dcD (l0)).1).2.2.2.1) := C_g0.out.cell 3
    have c4_g0 : w12.cell? ⟨w4.heap.size, 4, none⟩ = some (.int .i64 ((Row.dcD (l0)).1).2.2.2.2) := C_g0.out.cell 4
    go_wp2_with fail
    clear c0_w0 c1_w0 c2_w0 c3_w0 c4_w0 c0_g0 c1_g0 c2_g0 c3_g0 c4_g0
    have f3 := Row.dcD_adv (l0)
    refine (Row.implDecodeDataK _ (l0) _ (O_v6.out.at) (Sl.byt_of_wf N0.out) (by omega)).mono ?_
    rintro e w13 ⟨v7, rfl, ho, hb⟩
    obtain ⟨x_v7a, n_v7a, c_v7a, x_v7b, n_v7b, c_v7b, x_v7c, n_v7c, c_v7c, rfl, ho⟩ := Row.kD_shape ho
    replace C_w0 := Lib.hid (C_w0.out.on hb)
    replace C_g0 := Lib.hid (C_g0.out.on hb)
    replace O_v2 := Lib.hid (O_v2.out.on hb)
    replace O_v3 := Lib.hid (O_v3.out.on hb)
    replace O_v4 := Lib.hid (O_v4.out.on hb)
    replace O_v6 := Lib.hid (O_v6.out.on hb)
    replace BB := Lib.hid (BB.out.trans (hb.mono BB.out.size))
    have S15 := Lib.hid (show w12.heap.size ≤ w13.heap.size from (by have h := hb.size; exact h))
    have O_v7 := Lib.hid (show Row.kD.In w12.heap.size w13.heap.size w13 (.agg #[.slice x_v7a n_v7a c_v7a, .slice x_v7b n_v7b c_v7b, .slice x_v7c n_v7c c_v7c, .int .i64 ((Row.dcD (l0)).1).2.2.2.1, .int .i64 ((Row.dcD (l0)).1).2.2.2.2]) ((Row.dcD (l0)).1) from ho); clear ho
    clear hb
    have hal := (Below.refl w13.heap.size w13).alloc (Nat.le_refl _) (.cells #[.slice x_v7a n_v7a c_v7a, .slice x_v7b n_v7b c_v7b, .slice x_v7c n_v7c c_v7c, .int .i64 ((Row.dcD (l0)).1).2.2.2.1, .int .i64 ((Row.dcD (l0)).1).2.2.2.2] 32)
    replace C_w0 := Lib.hid (C_w0.out.on hal)
    replace C_g0 := Lib.hid (C_g0.out.on hal)
    replace O_v2 := Lib.hid (O_v2.out.on hal)
    replace O_v3 := Lib.hid (O_v3.out.on hal)
    replace O_v4 := Lib.hid (O_v4.out.on hal)
    replace O_v6 := Lib.hid (O_v6.out.on hal)
    replace O_v7 := Lib.hid (O_v7.out.on hal)
    replace BB := Lib.hid (BB.out.trans (hal.mono BB.out.size))
    have S16 := Lib.hid (show (w13.alloc (.cells #[.slice x_v7a n_v7a c_v7a, .slice x_v7b n_v7b c_v7b, .slice x_v7c n_v7c c_v7c, .int .i64 ((Row.dcD (l0)).1).2.2.2.1, .int .i64 ((Row.dcD (l0)).1).2.2.2.2] 32)).heap.size = w13.heap.size + 1 from World.size_alloc _ _)
    have C_h0 := Lib.hid (Ret.Blk.new w13 #[.slice x_v7a n_v7a c_v7a, .slice x_v7b n_v7b c_v7b, .slice x_v7c n_v7c c_v7c, .int .i64 ((Row.dcD (l0)).1).2.2.2.1, .int .i64 ((Row.dcD (l0)).1).2.2.2.2] 32); clear hal
    have c0_w0 : (w13.alloc (.cells #[.slice x_v7a n_v7a c_v7a, .slice x_v7b n_v7b c_v7b, .slice x_v7c n_v7c c_v7c, .int .i64 ((Row.dcD (l0)).1).2.2.2.1, .int .i64 ((Row.dcD (l0)).1).2.2.2.2] 32)).cell? ⟨w2.heap.size, 0, none⟩ = some (.slice x_v2a n_v2a c_v2a) := C_w0.out.cell 0
    have c1_w0 : (w13.alloc (.cells #[.slice x_v7a n_v7a c_v7a, .slice x_v7b n_v7b c_v7b, .slice x_v7c n_v7c c_v7c, .int .i64 ((Row.dcD (l0)).1).2.2.2.1, .int .i64 ((Row.dcD (l0)).1).2.2.2.2] 32)).cell? ⟨w2.heap.size, 1, none⟩ = some (.slice x_v2b n_v2b c_v2b) := C_w0.out.cell 1
    have c2_w0 : (w13.alloc (.cells #[.slice x_v7a n_v7a c_v7a, .slice x_v7b n_v7b c_v7b, .slice x_v7c n_v7c c_v7c, .int .i64 ((Row.dcD (l0)).1).2.2.2.1, .int .i64 ((Row.dcD (l0)).1).2.2.2.2] 32)).cell? ⟨w2.heap.size, 2, none⟩ = some (.slice x_v2c n_v2c c_v2c) := C_w0.out.cell 2
    have c3_w0 : (w13.alloc (.cells #[.slice x_v7a n_v7a c_v7a, .slice x_v7b n_v7b c_v7b, .slice x_v7c n_v7c c_v7c, .int .i64 ((Row.dcD (l0)).1).2.2.2.1, .int .i64 ((Row.dcD (l0)).1).2.2.2.2] 32)).cell? ⟨w2.heap.size, 3, none⟩ = some (.int .i64 ((Row.dcD (l0)).1).2.2.2.1) := C_w0.out.cell 3
    have c4_w0 : (w13.alloc (.cells #[.slice x_v7a n_v7a c_v7a, .slice x_v7b n_v7b c_v7b, .slice x_v7c n_v7c c_v7c, .int .i64 ((Row.dcD (l0)).1).2.2.2.1, .int .i64 ((Row.dcD (l0)).1).2.2.2.2] 32)).cell? ⟨w2.heap.size, 4, none⟩ = some (.int .i64 ((Row.dcD (l0)).1).2.2.2.2) := C_w0.out.cell 4
    have c0_g0 : (w13.alloc (.cells #[.slice x_v7a n_v7a c_v7a, .slice x_v7b n_v7b c_v7b, .slice x_v7c n_v7c c_v7c, .int .i64 ((Row.dcD (l0)).1).2.2.2.1, .int .i64 ((Row.dcD (l0)).1).2.2.2.2] 32)).cell? ⟨w4.heap.size, 0, none⟩ = some (.slice x_v4a n_v4a c_v4a) := C_g0.out.cell 0
    have c1_g0 : (w13.alloc (.cells #[.slice x_v7a n_v7a c_v7a, .slice x_v7b n_v7b c_v7b, .slice x_v7c n_v7c c_v7c, .int .i64 ((Row.dcD (l0)).1).2.2.2.1, .int .i64 ((Row.dcD (l0)).1).2.2.2.2] 32)).cell? ⟨w4.heap.size, 1, none⟩ = some (.slice x_v4b n_v4b c_v4b) := C_g0.out.cell 1
    have c2_g0 : (w13.alloc (.cells #[.slice x_v7a n_v7a c_v7a, .slice x_v7b n_v7b c_v7b, .slice x_v7c n_v7c c_v7c, .int .i64 ((Row.dcD (l0)).1).2.2.2.1, .int .i64 ((Row.dcD (l0)).1).2.2.2.2] 32)).cell? ⟨w4.heap.size, 2, none⟩ = some (.slice x_v4c n_v4c c_v4c) := C_g0.out.cell 2
    have c3_g0 : (w13.alloc (.cells #[.slice x_v7a n_v7a c_v7a, .slice x_v7b n_v7b c_v7b, .slice x_v7c n_v7c c_v7c, .int .i64 ((Row.dcD (l0)).1).2.2.2.1, .int .i64 ((Row.dcD (l0)).1).2.2.2.2] 32)).cell? ⟨w4.heap.size, 3, none⟩ = some (.int .i64 ((Row.dcD (l0)).1).2.2.2.1) := C_g0.out.cell 3
    have c4_g0 : (w13.alloc (.cells #[.slice x_v7a n_v7a c_v7a, .slice x_v7b n_v7b c_v7b, .slice x_v7c n_v7c c_v7c, .int .i64 ((Row.dcD (l0)).1).2.2.2.1, .int .i64 ((Row.dcD (l0)).1).2.2.2.2] 32)).cell? ⟨w4.heap.size, 4, none⟩ = some (.int .i64 ((Row.dcD (l0)).1).2.2.2.2) := C_g0.out.cell 4
    have c0_h0 : (w13.alloc (.cells #[.slice x_v7a n_v7a c_v7a, .slice x_v7b n_v7b c_v7b, .slice x_v7c n_v7c c_v7c, .int .i64 ((Row.dcD (l0)).1).2.2.2.1, .int .i64 ((Row.dcD (l0)).1).2.2.2.2] 32)).cell? ⟨w13.heap.size, 0, none⟩ = some (.slice x_v7a n_v7a c_v7a) := C_h0.out.cell 0
    have c1_h0 : (w13.alloc (.cells #[.slice x_v7a n_v7a c_v7a, .slice x_v7b n_v7b c_v7b, .slice x_v7c n_v7c c_v7c, .int .i64 ((Row.dcD (l0)).1).2.2.2.1, .int .i64 ((Row.dcD (l0)).1).2.2.2.2] 32)).cell? ⟨w13.heap.size, 1, none⟩ = some (.slice x_v7b n_v7b c_v7b) := C_h0.out.cell 1
    have c2_h0 : (w13.alloc (.cells #[.slice x_v7a n_v7a c_v7a, .slice x_v7b n_v7b c_v7b, .slice x_v7c n_v7c c_v7c, .int .i64 ((Row.dcD (l0)).1).2.2.2.1, .int .i64 ((Row.dcD (l0)).1).2.2.2.2] 32)).cell? ⟨w13.heap.size, 2, none⟩ = some (.slice x_v7c n_v7c c_v7c) := C_h0.out.cell 2
    have c3_h0 : (w13.alloc (.cells #[.slice x_v7a n_v7a c_v7a, .slice x_v7b n_v7b c_v7b, .slice x_v7c n_v7c c_v7c, .int .i64 ((Row.dcD (l0)).1).2.2.2.1, .int .i64 ((Row.dcD (l0)).1).2.2.2.2] 32)).cell? ⟨w13.heap.size, 3, none⟩ = some (.int .i64 ((Row.dcD (l0)).1).2.2.2.1) := C_h0.out.cell 3
    have c4_h0 : (w13.alloc (.cells #[.slice x_v7a n_v7a c_v7a, .slice x_v7b n_v7b c_v7b, .slice x_v7c n_v7c c_v7c, .int .i64 ((Row.dcD (l0)).1).2.2.2.1, .int .i64 ((Row.dcD (l0)).1).2.2.2.2] 32)).cell? ⟨w13.heap.size, 4, none⟩ = some (.int .i64 ((Row.dcD (l0)).1).2.2.2.2) := C_h0.out.cell 4
    go_wp2_with fail
    clear c0_w0 c1_w0 c2_w0 c3_w0 c4_w0 c0_g0 c1_g0 c2_g0 c3_g0 c4_g0 c0_h0 c1_h0 c2_h0 c3_h0 c4_h0
    clear O_v6
    refine (Row.sameDK _ _ ((Row.dcD (l0)).1) _ (O_v7.out.at) (O_v2.out.at) (by first | omega | (simp; omega) | (simp [Row.marks_length, Sl.marks_length, Row.mkW]; omega))).mono ?_
    rintro e w14 ⟨rfl, hb⟩
    replace C_w0 := Lib.hid (C_w0.out.on hb)
    replace C_g0 := Lib.hid (C_g0.out.on hb)
    replace C_h0 := Lib.hid (C_h0.out.on hb)
    replace O_v2 := Lib.hid (O_v2.out.on hb)
    replace O_v3 := Lib.hid (O_v3.out.on hb)
    replace O_v4 := Lib.hid (O_v4.out.on hb)
    replace O_v7 := Lib.hid (O_v7.out.on hb)
    replace BB := Lib.hid (BB.out.trans (hb.mono BB.out.size))
    have S17 := Lib.hid (show (w13.alloc (.cells #[.slice x_v7a n_v7a c_v7a, .slice x_v7b n_v7b c_v7b, .slice x_v7c n_v7c c_v7c, .int .i64 ((Row.dcD (l0)).1).2.2.2.1, .int .i64 ((Row.dcD (l0)).1).2.2.2.2] 32)).heap.size ≤ w14.heap.size from (by have h := hb.size; exact h))
    clear hb
    have c0_w0 : w14.cell? ⟨w2.heap.size, 0, none⟩ = some (.slice x_v2a n_v2a c_v2a) := C_w0.out.cell 0
    have c1_w0 : w14.cell? ⟨w2.heap.size, 1, none⟩ = some (.slice x_v2b n_v2b c_v2b) := C_w0.out.cell 1
    have c2_w0 : w14.cell? ⟨w2.heap.size, 2, none⟩ = some (.slice x_v2c n_v2c c_v2c) := C_w0.out.cell 2
    have c3_w0 : w14.cell? ⟨w2.heap.size, 3, none⟩ = some (.int .i64 ((Row.dcD (l0)).1).2.2.2.1) := C_w0.out.cell 3
    have c4_w0 : w14.cell? ⟨w2.heap.size, 4, none⟩ = some (.int .i64 ((Row.dcD (l0)).1).2.2.2.2) := C_w0.out.cell 4
    have c0_g0 : w14.cell? ⟨w4.heap.size, 0, none⟩ = some (.slice x_v4a n_v4a c_v4a) := C_g0.out.cell 0
    have c1_g0 : w14.cell? ⟨w4.heap.size, 1, none⟩ = some (.slice x_v4b n_v4b c_v4b) := C_g0.out.cell 1
    have c2_g0 : w14.cell? ⟨w4.heap.size, 2, none⟩ = some (.slice x_v4c n_v4c c_v4c) := C_g0.out.cell 2
    have c3_g0 : w14.cell? ⟨w4.heap.size, 3, none⟩ = some (.int .i64 ((Row.dcD (l0)).1).2.2.2.1) := C_g0.out.cell 3
    have c4_g0 : w14.cell? ⟨w4.heap.size, 4, none⟩ = some (.int .i64 ((Row.dcD (l0)).1).2.2.2.2) := C_g0.out.cell 4
    have c0_h0 : w14.cell? ⟨w13.heap.size, 0, none⟩ = some (.slice x_v7a n_v7a c_v7a) := C_h0.out.cell 0
    have c1_h0 : w14.cell? ⟨w13.heap.size, 1, none⟩ = some (.slice x_v7b n_v7b c_v7b) := C_h0.out.cell 1
    have c2_h0 : w14.cell? ⟨w13.heap.size, 2, none⟩ = some (.slice x_v7c n_v7c c_v7c) := C_h0.out.cell 2
    have c3_h0 : w14.cell? ⟨w13.heap.size, 3, none⟩ = some (.int .i64 ((Row.dcD (l0)).1).2.2.2.1) := C_h0.out.cell 3
    have c4_h0 : w14.cell? ⟨w13.heap.size, 4, none⟩ = some (.int .i64 ((Row.dcD (l0)).1).2.2.2.2) := C_h0.out.cell 4
    go_wp2_with fail
    clear c0_w0 c1_w0 c2_w0 c3_w0 c4_w0 c0_g0 c1_g0 c2_g0 c3_g0 c4_g0 c0_h0 c1_h0 c2_h0 c3_h0 c4_h0
    refine (Row.heldDK _ _ (1) ((Row.dcD (l0)).1) (O_v4.out.at) (by first | omega | (simp; omega) | (simp [Row.marks_length, Sl.marks_length, Row.mkW]; omega)) (by first | omega | (simp; omega) | (simp [Row.marks_length, Sl.marks_length, Row.mkW]; omega)) (by first | omega | (simp; omega) | (simp [Row.marks_length, Sl.marks_length, Row.mkW]; omega))).mono ?_
    rintro e w15 ⟨rfl, hb⟩
    replace C_w0 := Lib.hid (C_w0.out.on hb)
    replace C_g0 := Lib.hid (C_g0.out.on hb)
    replace C_h0 := Lib.hid (C_h0.out.on hb)
    replace O_v2 := Lib.hid (O_v2.out.on hb)
    replace O_v3 := Lib.hid (O_v3.out.on hb)
    replace O_v4 := Lib.hid (O_v4.out.on hb)
    replace O_v7 := Lib.hid (O_v7.out.on hb)
    replace BB := Lib.hid (BB.out.trans (hb.mono BB.out.size))
    have S18 := Lib.hid (show w14.heap.size ≤ w15.heap.size from (by have h := hb.size; exact h))
    clear hb
    have c0_w0 : w15.cell? ⟨w2.heap.size, 0, none⟩ = some (.slice x_v2a n_v2a c_v2a) := C_w0.out.cell 0
    have c1_w0 : w15.cell? ⟨w2.heap.size, 1, none⟩ = some (.slice x_v2b n_v2b c_v2b) := C_w0.out.cell 1
    have c2_w0 : w15.cell? ⟨w2.heap.size, 2, none⟩ = some (.slice x_v2c n_v2c c_v2c) := C_w0.out.cell 2
    have c3_w0 : w15.cell? ⟨w2.heap.size, 3, none⟩ = some (.int .i64 ((Row.dcD (l0)).1).2.2.2.1) := C_w0.out.cell 3
    have c4_w0 : w15.cell? ⟨w2.heap.size, 4, none⟩ = some (.int .i64 ((Row.dcD (l0)).1).2.2.2.2) := C_w0.out.cell 4
    have c0_g0 : w15.cell? ⟨w4.heap.size, 0, none⟩ = some (.slice x_v4a n_v4a c_v4a) := C_g0.out.cell 0
    have c1_g0 : w15.cell? ⟨w4.heap.size, 1, none⟩ = some (.slice x_v4b n_v4b c_v4b) := C_g0.out.cell 1
    have c2_g0 : w15.cell? ⟨w4.heap.size, 2, none⟩ = some (.slice x_v4c n_v4c c_v4c) := C_g0.out.cell 2
    have c3_g0 : w15.cell? ⟨w4.heap.size, 3, none⟩ = some (.int .i64 ((Row.dcD (l0)).1).2.2.2.1) := C_g0.out.cell 3
    have c4_g0 : w15.cell? ⟨w4.heap.size, 4, none⟩ = some (.int .i64 ((Row.dcD (l0)).1).2.2.2.2) := C_g0.out.cell 4
    have c0_h0 : w15.cell? ⟨w13.heap.size, 0, none⟩ = some (.slice x_v7a n_v7a c_v7a) := C_h0.out.cell 0
    have c1_h0 : w15.cell? ⟨w13.heap.size, 1, none⟩ = some (.slice x_v7b n_v7b c_v7b) := C_h0.out.cell 1
    have c2_h0 : w15.cell? ⟨w13.heap.size, 2, none⟩ = some (.slice x_v7c n_v7c c_v7c) := C_h0.out.cell 2
    have c3_h0 : w15.cell? ⟨w13.heap.size, 3, none⟩ = some (.int .i64 ((Row.dcD (l0)).1).2.2.2.1) := C_h0.out.cell 3
    have c4_h0 : w15.cell? ⟨w13.heap.size, 4, none⟩ = some (.int .i64 ((Row.dcD (l0)).1).2.2.2.2) := C_h0.out.cell 4
    go_wp2_with fail
    clear c0_w0 c1_w0 c2_w0 c3_w0 c4_w0 c0_g0 c1_g0 c2_g0 c3_g0 c4_g0 c0_h0 c1_h0 c2_h0 c3_h0 c4_h0
    go_ret
    exact ⟨rfl, BB.out⟩
  · have t0 : (1048576 : Int) < (l0.length : Int) := by omega
    go_enter Try.func8, Try.ntmps8
    go_wp2
    go_ret
    exact ⟨rfl, (Below.refl _ _)⟩

set_option maxRecDepth 100000 in
theorem lifted (os : Os) (started : os.Started) (H : Type) (enc : TypeId × Value → H) :
    ReturnsInHanded {} Try.checked os 8 .any (Rows.fnExactDecodeDataSpec.pre6 enc Try.prog Try.f8 Rows.fnExactDecodeDataRow.domain false) (Rows.fnExactDecodeDataSpec.post enc Try.prog Try.f8 false true false false) := by
  refine returnsInHanded_of_change_sized (C := Try.checked) own started (by kernel_rfl) Try.func8
    (ChangeSpec.witness6 (enc := enc) (C := Try.checked) false ⟨#[], #[.slice none 0 0], []⟩ 8 (by kernel_rfl) (by kernel_rfl) (by kernel_rfl) (by kernel_rfl)) ?_
  intro W base args ds gs before hval0 hW _ hsz0 _
  have hval : ∀ (j : Nat) t v, Try.f8.params[j]? = some t → args[j]? = some v → Value.okWide Try.prog W .any base t v := hval0
  have hsz : (DataW.weightsEach Try.prog (Try.f8.params.toList ++ Rows.fnExactDecodeDataSpec.plain.varTypes Try.prog) (ds ++ gs)).all (· ≤ reachBytes) = true := hsz0
  clear hsz0
  have hW' := hW
  obtain ⟨p, q, hA0, hV, rfl, hfz, hnd⟩ := hW
  have hA : DataW.TrodAll enc Try.prog W 0 (fun _ => true) true Try.f8.params.toList args.toList ds p := hA0
  rw [Try.params8] at hA hval hsz
  obtain ⟨v0, vs0, d0, ds0, p0, q0, hargs, rfl, rfl, h0, r0⟩ := trodAll_cons hA
  obtain ⟨rfl, rfl, rfl⟩ := trodAll_nil r0
  obtain rfl : args = #[v0] := by cases args; simp_all
  obtain ⟨rfl, rfl⟩ := trodVars_none hV
  obtain ⟨l0, q0, n0, m0⟩ := Sl.open_holds (j := 0) Try.underlying25 Try.underlying5 (by kernel_rfl) (of_decide_eq_true (by kernel_rfl)) (hval 0 25 v0 rfl rfl) h0 hsz rfl rfl
  clear hA0 hval0
  refine (walk W _ _ q0 n0 m0).mono fun e W' ⟨he, hb⟩ => ?_
  subst he
  exact ⟨_, rfl, Frame.law_post laidOut (by kernel_rfl) rfl Try.underlying4 rfl rfl hW' hb⟩

theorem said : Rows.FnExactDecodeDataSaid :=
  OpenClaim.holds_of_wide 8 Try.f8 rfl rfl rfl rfl rfl rfl rfl ⟨rfl, rfl, rfl, rfl, rfl⟩ rfl rfl rfl rfl rfl (by kernel_rfl) Try.func8 (by kernel_rfl)
    (of_decide_eq_true (by kernel_rfl)) (by unfold Func.isWrapper; first | (rw [if_pos (by decide +kernel)]; kernel_rfl) | (rw [if_neg (by decide +kernel)]; exact ⟨rfl, rfl⟩))
    (fun os started H enc _ => lifted os started H enc)

#print axioms said
end Go.Proofs.Ytbooamnlocobfaa.fnExactDecodeData
