/- FormatInterest answers as its model for all interests, and writes into no argument. No conditions. -/
import Derived.Test.YtnnhgcfelkcpfaaDoorCards
import Derived.Test.YtnnhgcfelkcpfaaDoorTie
import Derived.WalkKit
import Derived.ProofKit
import Derived.OpenShut
import Derived.SizedLaws
import Derived.LaidMore
import Derived.Stop.Joined
import Derived.Stop.LaidErr
import Derived.Lib.LaidTab
import Derived.SevenTiedAt
import Derived.Test.YtnnhgcfelkcpfaaDoorFrame
import Derived.Test.YtnnhgcfelkcpfaaDoorGW
import Derived.Test.YtnnhgcfelkcpfaaDoorText
namespace Go.Proofs.YtnnhgcfelkcpfaaDoor.fnExactFormatInterest
open Go.ChangeShapes Go.WideShapes Go.ChangeAt Go.RowKit
open Go.ChangeMaps (open_string shut_string)
set_option linter.unusedVariables false

theorem own : ownKnob Tryd.prog.godebug = none := by kernel_rfl
theorem laidOut : laidOutB Tryd.prog = true := by kernel_rfl

set_option maxRecDepth 100000 in
set_option maxHeartbeats 4000000 in
theorem walk (w : World) (y0 : Value) (l0 : Row.Wt) (q0 : Row.kW.At w y0 l0) (n0 : Row.WfW l0) (m0 : l0.1.length ≤ 9223372036854775807) (ht : Text.Tab w) :
    Calls Tryd.prog 4 #[y0] w fun e w' => e = .returned (.bool true) ∧ Below w.heap.size w w' := by
  have HT := Lib.hid ht; clear ht
  obtain ⟨x_q0, n_q0, c_q0, rfl, q0⟩ := Row.kW_shapeA q0
  have Q0 := Lib.hid q0; have N0 := Lib.hid n0; clear q0 n0
  have hal := (Below.refl w.heap.size w).alloc (Nat.le_refl _) (.cells #[.slice x_q0 n_q0 c_q0, .int .i64 (l0).2.1, .int .i64 (l0).2.2.1, .int .i64 (l0).2.2.2] 51)
  have BB := Lib.hid hal
  have C_aW := Lib.hid (Ret.Blk.new' (w := w) #[.slice x_q0 n_q0 c_q0, .int .i64 (l0).2.1, .int .i64 (l0).2.2.1, .int .i64 (l0).2.2.2] 51 (n := w.heap.size) (by first | rfl | simp)); clear hal
  have S1 := Lib.hid (show (w.alloc (.cells #[.slice x_q0 n_q0 c_q0, .int .i64 (l0).2.1, .int .i64 (l0).2.2.1, .int .i64 (l0).2.2.2] 51)).heap.size = w.heap.size + 1 from World.size_alloc _ _)
  go_enter Tryd.func4, Tryd.ntmps4
  have c0_aW : (w.alloc (.cells #[.slice x_q0 n_q0 c_q0, .int .i64 (l0).2.1, .int .i64 (l0).2.2.1, .int .i64 (l0).2.2.2] 51)).cell? ⟨w.heap.size, 0, none⟩ = some (.slice x_q0 n_q0 c_q0) := C_aW.out.cell 0
  have c1_aW : (w.alloc (.cells #[.slice x_q0 n_q0 c_q0, .int .i64 (l0).2.1, .int .i64 (l0).2.2.1, .int .i64 (l0).2.2.2] 51)).cell? ⟨w.heap.size, 1, none⟩ = some (.int .i64 (l0).2.1) := C_aW.out.cell 1
  have c2_aW : (w.alloc (.cells #[.slice x_q0 n_q0 c_q0, .int .i64 (l0).2.1, .int .i64 (l0).2.2.1, .int .i64 (l0).2.2.2] 51)).cell? ⟨w.heap.size, 2, none⟩ = some (.int .i64 (l0).2.2.1) := C_aW.out.cell 2
  have c3_aW : (w.alloc (.cells #[.slice x_q0 n_q0 c_q0, .int .i64 (l0).2.1, .int .i64 (l0).2.2.1, .int .i64 (l0).2.2.2] 51)).cell? ⟨w.heap.size, 3, none⟩ = some (.int .i64 (l0).2.2.2) := C_aW.out.cell 3
  go_wp2_with fail
  clear c0_aW c1_aW c2_aW c3_aW
  refine (Row.szWK _ l0 _ (1048576) (Q0.out.on BB.out) m0 N0.out (by omega) (by omega)).mono ?_
  rintro e w1 ⟨rfl, hb⟩
  replace C_aW := Lib.hid (C_aW.out.on hb)
  replace BB := Lib.hid (BB.out.trans (hb.mono BB.out.size))
  have S2 := Lib.hid (show (w.alloc (.cells #[.slice x_q0 n_q0 c_q0, .int .i64 (l0).2.1, .int .i64 (l0).2.2.1, .int .i64 (l0).2.2.2] 51)).heap.size ≤ w1.heap.size from (by have h := hb.size; exact h))
  clear hb
  by_cases t0 : (Row.bulk (l0).1 : Int) ≤ 1048576
  · -- in
    rw [Row.szL_fit t0]
    have b0 : Row.bulk (l0).1 ≤ 1048576 := by omega
    have d0 : (l0).1.length ≤ 1048576 := Row.bigLen b0
    have g0 : ¬ 1048576 - (Row.bulk (l0).1 : Int) < 0 := by omega
    have c0_aW : w1.cell? ⟨w.heap.size, 0, none⟩ = some (.slice x_q0 n_q0 c_q0) := C_aW.out.cell 0
    have c1_aW : w1.cell? ⟨w.heap.size, 1, none⟩ = some (.int .i64 (l0).2.1) := C_aW.out.cell 1
    have c2_aW : w1.cell? ⟨w.heap.size, 2, none⟩ = some (.int .i64 (l0).2.2.1) := C_aW.out.cell 2
    have c3_aW : w1.cell? ⟨w.heap.size, 3, none⟩ = some (.int .i64 (l0).2.2.2) := C_aW.out.cell 3
    go_wp2_with fail
    clear c0_aW c1_aW c2_aW c3_aW
    refine (Row.toWK _ l0 _ (Q0.out.on BB.out) (by omega)).mono ?_
    rintro e w2 ⟨v1, rfl, ho, hb⟩
    obtain ⟨x_v1, n_v1, c_v1, rfl, ho⟩ := Row.kW_shape ho
    replace C_aW := Lib.hid (C_aW.out.on hb)
    replace BB := Lib.hid (BB.out.trans (hb.mono BB.out.size))
    have S3 := Lib.hid (show w1.heap.size ≤ w2.heap.size from (by have h := hb.size; exact h))
    have O_v1 := Lib.hid (show Row.kW.In w1.heap.size w2.heap.size w2 (.agg #[.slice x_v1 n_v1 c_v1, .int .i64 (l0).2.1, .int .i64 (l0).2.2.1, .int .i64 (l0).2.2.2]) (l0) from ho); clear ho
    clear hb
    have c0_aW : w2.cell? ⟨w.heap.size, 0, none⟩ = some (.slice x_q0 n_q0 c_q0) := C_aW.out.cell 0
    have c1_aW : w2.cell? ⟨w.heap.size, 1, none⟩ = some (.int .i64 (l0).2.1) := C_aW.out.cell 1
    have c2_aW : w2.cell? ⟨w.heap.size, 2, none⟩ = some (.int .i64 (l0).2.2.1) := C_aW.out.cell 2
    have c3_aW : w2.cell? ⟨w.heap.size, 3, none⟩ = some (.int .i64 (l0).2.2.2) := C_aW.out.cell 3
    go_wp2_with fail
    clear c0_aW c1_aW c2_aW c3_aW
    refine (Row.specFormatInterestK _ (l0) _ (O_v1.out.at) (by omega) N0.out).mono ?_
    rintro e w3 ⟨rfl, hb⟩
    replace C_aW := Lib.hid (C_aW.out.on hb)
    replace O_v1 := Lib.hid (O_v1.out.on hb)
    replace BB := Lib.hid (BB.out.trans (hb.mono BB.out.size))
    have S4 := Lib.hid (show w2.heap.size ≤ w3.heap.size from (by have h := hb.size; exact h))
    clear hb
    have c0_aW : w3.cell? ⟨w.heap.size, 0, none⟩ = some (.slice x_q0 n_q0 c_q0) := C_aW.out.cell 0
    have c1_aW : w3.cell? ⟨w.heap.size, 1, none⟩ = some (.int .i64 (l0).2.1) := C_aW.out.cell 1
    have c2_aW : w3.cell? ⟨w.heap.size, 2, none⟩ = some (.int .i64 (l0).2.2.1) := C_aW.out.cell 2
    have c3_aW : w3.cell? ⟨w.heap.size, 3, none⟩ = some (.int .i64 (l0).2.2.2) := C_aW.out.cell 3
    go_wp2_with fail
    clear c0_aW c1_aW c2_aW c3_aW
    clear O_v1
    refine (Row.toWK _ l0 _ (Q0.out.on BB.out) (by omega)).mono ?_
    rintro e w4 ⟨v2, rfl, ho, hb⟩
    obtain ⟨x_v2, n_v2, c_v2, rfl, ho⟩ := Row.kW_shape ho
    replace C_aW := Lib.hid (C_aW.out.on hb)
    replace BB := Lib.hid (BB.out.trans (hb.mono BB.out.size))
    have S5 := Lib.hid (show w3.heap.size ≤ w4.heap.size from (by have h := hb.size; exact h))
    have O_v2 := Lib.hid (show Row.kW.In w3.heap.size w4.heap.size w4 (.agg #[.slice x_v2 n_v2 c_v2, .int .i64 (l0).2.1, .int .i64 (l0).2.2.1, .int .i64 (l0).2.2.2]) (l0) from ho); clear ho
    clear hb
    have hal := (Below.refl w4.heap.size w4).alloc (Nat.le_refl _) (.cells #[.slice x_v2 n_v2 c_v2, .int .i64 (l0).2.1, .int .i64 (l0).2.2.1, .int .i64 (l0).2.2.2] 28)
    replace C_aW := Lib.hid (C_aW.out.on hal)
    replace O_v2 := Lib.hid (O_v2.out.on hal)
    replace BB := Lib.hid (BB.out.trans (hal.mono BB.out.size))
    have S6 := Lib.hid (show (w4.alloc (.cells #[.slice x_v2 n_v2 c_v2, .int .i64 (l0).2.1, .int .i64 (l0).2.2.1, .int .i64 (l0).2.2.2] 28)).heap.size = w4.heap.size + 1 from World.size_alloc _ _)
    have C_x0 := Lib.hid (Ret.Blk.new w4 #[.slice x_v2 n_v2 c_v2, .int .i64 (l0).2.1, .int .i64 (l0).2.2.1, .int .i64 (l0).2.2.2] 28); clear hal
    have c0_aW : (w4.alloc (.cells #[.slice x_v2 n_v2 c_v2, .int .i64 (l0).2.1, .int .i64 (l0).2.2.1, .int .i64 (l0).2.2.2] 28)).cell? ⟨w.heap.size, 0, none⟩ = some (.slice x_q0 n_q0 c_q0) := C_aW.out.cell 0
    have c1_aW : (w4.alloc (.cells #[.slice x_v2 n_v2 c_v2, .int .i64 (l0).2.1, .int .i64 (l0).2.2.1, .int .i64 (l0).2.2.2] 28)).cell? ⟨w.heap.size, 1, none⟩ = some (.int .i64 (l0).2.1) := C_aW.out.cell 1
    have c2_aW : (w4.alloc (.cells #[.slice x_v2 n_v2 c_v2, .int .i64 (l0).2.1, .int .i64 (l0).2.2.1, .int .i64 (l0).2.2.2] 28)).cell? ⟨w.heap.size, 2, none⟩ = some (.int .i64 (l0).2.2.1) := C_aW.out.cell 2
    have c3_aW : (w4.alloc (.cells #[.slice x_v2 n_v2 c_v2, .int .i64 (l0).2.1, .int .i64 (l0).2.2.1, .int .i64 (l0).2.2.2] 28)).cell? ⟨w.heap.size, 3, none⟩ = some (.int .i64 (l0).2.2.2) := C_aW.out.cell 3
    have c0_x0 : (w4.alloc (.cells #[.slice x_v2 n_v2 c_v2, .int .i64 (l0).2.1, .int .i64 (l0).2.2.1, .int .i64 (l0).2.2.2] 28)).cell? ⟨w4.heap.size, 0, none⟩ = some (.slice x_v2 n_v2 c_v2) := C_x0.out.cell 0
    have c1_x0 : (w4.alloc (.cells #[.slice x_v2 n_v2 c_v2, .int .i64 (l0).2.1, .int .i64 (l0).2.2.1, .int .i64 (l0).2.2.2] 28)).cell? ⟨w4.heap.size, 1, none⟩ = some (.int .i64 (l0).2.1) := C_x0.out.cell 1
    have c2_x0 : (w4.alloc (.cells #[.slice x_v2 n_v2 c_v2, .int .i64 (l0).2.1, .int .i64 (l0).2.2.1, .int .i64 (l0).2.2.2] 28)).cell? ⟨w4.heap.size, 2, none⟩ = some (.int .i64 (l0).2.2.1) := C_x0.out.cell 2
    have c3_x0 : (w4.alloc (.cells #[.slice x_v2 n_v2 c_v2, .int .i64 (l0).2.1, .int .i64 (l0).2.2.1, .int .i64 (l0).2.2.2] 28)).cell? ⟨w4.heap.size, 3, none⟩ = some (.int .i64 (l0).2.2.2) := C_x0.out.cell 3
    go_wp2_with fail
    clear c0_aW c1_aW c2_aW c3_aW c0_x0 c1_x0 c2_x0 c3_x0
    refine (Row.implFormatInterestK _ (l0) _ (O_v2.out.at) (by omega) N0.out (HT.out.on BB.out)).mono ?_
    rintro e w5 ⟨rfl, hb⟩
    replace C_aW := Lib.hid (C_aW.out.on hb)
    replace C_x0 := Lib.hid (C_x0.out.on hb)
    replace O_v2 := Lib.hid (O_v2.out.on hb)
    replace BB := Lib.hid (BB.out.trans (hb.mono BB.out.size))
    have S7 := Lib.hid (show (w4.alloc (.cells #[.slice x_v2 n_v2 c_v2, .int .i64 (l0).2.1, .int .i64 (l0).2.2.1, .int .i64 (l0).2.2.2] 28)).heap.size ≤ w5.heap.size from (by have h := hb.size; exact h))
    clear hb
    have c0_aW : w5.cell? ⟨w.heap.size, 0, none⟩ = some (.slice x_q0 n_q0 c_q0) := C_aW.out.cell 0
    have c1_aW : w5.cell? ⟨w.heap.size, 1, none⟩ = some (.int .i64 (l0).2.1) := C_aW.out.cell 1
    have c2_aW : w5.cell? ⟨w.heap.size, 2, none⟩ = some (.int .i64 (l0).2.2.1) := C_aW.out.cell 2
    have c3_aW : w5.cell? ⟨w.heap.size, 3, none⟩ = some (.int .i64 (l0).2.2.2) := C_aW.out.cell 3
    have c0_x0 : w5.cell? ⟨w4.heap.size, 0, none⟩ = some (.slice x_v2 n_v2 c_v2) := C_x0.out.cell 0
    have c1_x0 : w5.cell? ⟨w4.heap.size, 1, none⟩ = some (.int .i64 (l0).2.1) := C_x0.out.cell 1
    have c2_x0 : w5.cell? ⟨w4.heap.size, 2, none⟩ = some (.int .i64 (l0).2.2.1) := C_x0.out.cell 2
    have c3_x0 : w5.cell? ⟨w4.heap.size, 3, none⟩ = some (.int .i64 (l0).2.2.2) := C_x0.out.cell 3
    go_wp2_with fail
    clear c0_aW c1_aW c2_aW c3_aW c0_x0 c1_x0 c2_x0 c3_x0
    have hdr : Below w5.heap.size w5 w5.drew := (Below.refl _ _).drew
    replace C_aW := Lib.hid (C_aW.out.on hdr)
    replace C_x0 := Lib.hid (C_x0.out.on hdr)
    replace O_v2 := Lib.hid (O_v2.out.on hdr)
    replace BB := Lib.hid (BB.out.trans (hdr.mono BB.out.size))
    clear hdr
    have KS0 := Lib.hid (show w5.drew.cell? ⟨w4.heap.size, 0, none⟩ = some (.slice x_v2 n_v2 c_v2) ∧ w5.drew.cell? ⟨w4.heap.size, 1, none⟩ = some (.int .i64 (l0).2.1) ∧ w5.drew.cell? ⟨w4.heap.size, 2, none⟩ = some (.int .i64 (l0).2.2.1) ∧ w5.drew.cell? ⟨w4.heap.size, 3, none⟩ = some (.int .i64 (l0).2.2.2) ∧ w5.drew.cell? ⟨w.heap.size, 0, none⟩ = some (.slice x_q0 n_q0 c_q0) ∧ w5.drew.cell? ⟨w.heap.size, 1, none⟩ = some (.int .i64 (l0).2.1) ∧ w5.drew.cell? ⟨w.heap.size, 2, none⟩ = some (.int .i64 (l0).2.2.1) ∧ w5.drew.cell? ⟨w.heap.size, 3, none⟩ = some (.int .i64 (l0).2.2.2) ∧ Below w.heap.size w w5.drew from ⟨C_x0.out.cell 0, C_x0.out.cell 1, C_x0.out.cell 2, C_x0.out.cell 3, C_aW.out.cell 0, C_aW.out.cell 1, C_aW.out.cell 2, C_aW.out.cell 3, BB.out⟩)
    go_region_held3 (fun w' => w'.cell? ⟨w4.heap.size, 0, none⟩ = some (.slice x_v2 n_v2 c_v2) ∧ w'.cell? ⟨w4.heap.size, 1, none⟩ = some (.int .i64 (l0).2.1) ∧ w'.cell? ⟨w4.heap.size, 2, none⟩ = some (.int .i64 (l0).2.2.1) ∧ w'.cell? ⟨w4.heap.size, 3, none⟩ = some (.int .i64 (l0).2.2.2) ∧ w'.cell? ⟨w.heap.size, 0, none⟩ = some (.slice x_q0 n_q0 c_q0) ∧ w'.cell? ⟨w.heap.size, 1, none⟩ = some (.int .i64 (l0).2.1) ∧ w'.cell? ⟨w.heap.size, 2, none⟩ = some (.int .i64 (l0).2.2.1) ∧ w'.cell? ⟨w.heap.size, 3, none⟩ = some (.int .i64 (l0).2.2.2) ∧ Below w.heap.size w w') (first | exact KS0.out | exact KS1.out | exact KS2.out) ((first | (go_at_call 32; refine (Row.sameWK _ _ (l0) _ ((O_v2.out.at).on hba) hoa.at (by first | omega | (simp; omega) | (simp [Row.marks_length, Sl.marks_length, Row.mkW]; omega))).mono ?_; rintro e w7 ⟨rfl, hbb⟩; have KS2 := Lib.hid (show (fun w' => w'.cell? ⟨w4.heap.size, 0, none⟩ = some (.slice x_v2 n_v2 c_v2) ∧ w'.cell? ⟨w4.heap.size, 1, none⟩ = some (.int .i64 (l0).2.1) ∧ w'.cell? ⟨w4.heap.size, 2, none⟩ = some (.int .i64 (l0).2.2.1) ∧ w'.cell? ⟨w4.heap.size, 3, none⟩ = some (.int .i64 (l0).2.2.2) ∧ w'.cell? ⟨w.heap.size, 0, none⟩ = some (.slice x_q0 n_q0 c_q0) ∧ w'.cell? ⟨w.heap.size, 1, none⟩ = some (.int .i64 (l0).2.1) ∧ w'.cell? ⟨w.heap.size, 2, none⟩ = some (.int .i64 (l0).2.2.1) ∧ w'.cell? ⟨w.heap.size, 3, none⟩ = some (.int .i64 (l0).2.2.2) ∧ Below w.heap.size w w') _ from ⟨Row.kc KS1.out.1 hbb, Row.kc KS1.out.2.1 hbb, Row.kc KS1.out.2.2.1 hbb, Row.kc KS1.out.2.2.2.1 hbb, Row.kc KS1.out.2.2.2.2.1 hbb, Row.kc KS1.out.2.2.2.2.2.1 hbb, Row.kc KS1.out.2.2.2.2.2.2.1 hbb, Row.kc KS1.out.2.2.2.2.2.2.2.1 hbb, KS1.out.2.2.2.2.2.2.2.2.trans (hbb.mono KS1.out.2.2.2.2.2.2.2.2.size)⟩)) | (go_at_call 31; refine (Row.toWK _ l0 _ (Q0.out.on BB.out) (by omega)).mono ?_; rintro e w6 ⟨v3, rfl, hoa, hba⟩; obtain ⟨x_v3, n_v3, c_v3, rfl, hoa⟩ := Row.kW_shape hoa; have KS1 := Lib.hid (show (fun w' => w'.cell? ⟨w4.heap.size, 0, none⟩ = some (.slice x_v2 n_v2 c_v2) ∧ w'.cell? ⟨w4.heap.size, 1, none⟩ = some (.int .i64 (l0).2.1) ∧ w'.cell? ⟨w4.heap.size, 2, none⟩ = some (.int .i64 (l0).2.2.1) ∧ w'.cell? ⟨w4.heap.size, 3, none⟩ = some (.int .i64 (l0).2.2.2) ∧ w'.cell? ⟨w.heap.size, 0, none⟩ = some (.slice x_q0 n_q0 c_q0) ∧ w'.cell? ⟨w.heap.size, 1, none⟩ = some (.int .i64 (l0).2.1) ∧ w'.cell? ⟨w.heap.size, 2, none⟩ = some (.int .i64 (l0).2.2.1) ∧ w'.cell? ⟨w.heap.size, 3, none⟩ = some (.int .i64 (l0).2.2.2) ∧ Below w.heap.size w w') _ from ⟨Row.kc KS0.out.1 hba, Row.kc KS0.out.2.1 hba, Row.kc KS0.out.2.2.1 hba, Row.kc KS0.out.2.2.2.1 hba, Row.kc KS0.out.2.2.2.2.1 hba, Row.kc KS0.out.2.2.2.2.2.1 hba, Row.kc KS0.out.2.2.2.2.2.2.1 hba, Row.kc KS0.out.2.2.2.2.2.2.2.1 hba, KS0.out.2.2.2.2.2.2.2.2.trans (hba.mono KS0.out.2.2.2.2.2.2.2.2.size)⟩))))
    clear KS0 KS1 KS2 hoa
    replace C_aW := Lib.hid (C_aW.out.on hba)
    replace C_x0 := Lib.hid (C_x0.out.on hba)
    replace O_v2 := Lib.hid (O_v2.out.on hba)
    replace BB := Lib.hid (BB.out.trans (hba.mono BB.out.size))
    have S8 := Lib.hid (show w5.heap.size ≤ w6.heap.size from (by have h := hba.size; exact h))
    replace C_aW := Lib.hid (C_aW.out.on hbb)
    replace C_x0 := Lib.hid (C_x0.out.on hbb)
    replace O_v2 := Lib.hid (O_v2.out.on hbb)
    replace BB := Lib.hid (BB.out.trans (hbb.mono BB.out.size))
    have S9 := Lib.hid (show w6.heap.size ≤ w7.heap.size from (by have h := hbb.size; exact h))
    clear hba hbb
    have c0_aW : w7.cell? ⟨w.heap.size, 0, none⟩ = some (.slice x_q0 n_q0 c_q0) := C_aW.out.cell 0
    have c1_aW : w7.cell? ⟨w.heap.size, 1, none⟩ = some (.int .i64 (l0).2.1) := C_aW.out.cell 1
    have c2_aW : w7.cell? ⟨w.heap.size, 2, none⟩ = some (.int .i64 (l0).2.2.1) := C_aW.out.cell 2
    have c3_aW : w7.cell? ⟨w.heap.size, 3, none⟩ = some (.int .i64 (l0).2.2.2) := C_aW.out.cell 3
    have c0_x0 : w7.cell? ⟨w4.heap.size, 0, none⟩ = some (.slice x_v2 n_v2 c_v2) := C_x0.out.cell 0
    have c1_x0 : w7.cell? ⟨w4.heap.size, 1, none⟩ = some (.int .i64 (l0).2.1) := C_x0.out.cell 1
    have c2_x0 : w7.cell? ⟨w4.heap.size, 2, none⟩ = some (.int .i64 (l0).2.2.1) := C_x0.out.cell 2
    have c3_x0 : w7.cell? ⟨w4.heap.size, 3, none⟩ = some (.int .i64 (l0).2.2.2) := C_x0.out.cell 3
    go_wp2_with fail
    clear c0_aW c1_aW c2_aW c3_aW c0_x0 c1_x0 c2_x0 c3_x0
    go_ret
    exact ⟨rfl, BB.out⟩
  · -- out
    rw [Row.szL_not (by omega)]
    go_wp2
    go_ret
    exact ⟨rfl, BB.out⟩

/-- The heap that the initialisers' own run leaves meets the list. -/
theorem door_met (os : Os) (args : Array Value) : laidMetH Tryd.prog Rows.fnExactFormatInterestRow.laid ((World.doorLaid Tryd.prog 24 os).forCall (fun _ _ => 0) ⟨#[], args, []⟩).memory :=
  laidMetH_of_parts3 (fuel := 8) (laidMet_of_run' 8 (by kernel_rfl) (by kernel_rfl)) (by kernel_rfl) (by kernel_rfl)

theorem powData : (Rows.laid_internal_strconv_uint64pow10 : DataW Unit) = Lib.tabData .u64 Lib.pow10Tab := by kernel_rfl
theorem of_laid {W : World} (h : laidMetH Tryd.prog Rows.fnExactFormatInterestRow.laid W) : Text.Tab W := by
  rw [MakeChecks.laidMetH_plain _ _ _ (by kernel_rfl)] at h
  have h2 : laidMet Tryd.prog (("internal/strconv.uint64pow10", Rows.laid_internal_strconv_uint64pow10) :: _) W := h.tail.tail
  rw [powData] at h2
  exact Lib.tabIs_of_head (g := 1) (by kernel_rfl) (by kernel_rfl) Tryd.underlying122 Tryd.underlying115 (by kernel_rfl) (by kernel_rfl) h2

set_option maxRecDepth 100000 in
theorem lifted (os : Os) (started : os.Started) (H : Type) (enc : TypeId × Value → H) :
    ReturnsInHanded {} Tryd.checked os 4 .any (fun w args => (Rows.fnExactFormatInterestSpec.pre enc Tryd.prog Tryd.f4 [] false w args ∧ laidMetH Tryd.prog Rows.fnExactFormatInterestRow.laid w) ∧ sizedMet enc Tryd.prog Tryd.f4 (OpenSpec.ofChange Rows.fnExactFormatInterestSpec) false w args)
      (Rows.fnExactFormatInterestSpec.post enc Tryd.prog Tryd.f4 false true false false) := by
  refine returnsInHanded_of_change_and (C := Tryd.checked) (X := fun w _ => laidMetH Tryd.prog Rows.fnExactFormatInterestRow.laid w) (fun _ _ _ hh h => h.of_heap hh) own started (by kernel_rfl) Tryd.func4
    (ChangeSpec.witness_shaped (enc := enc) (C := Tryd.checked) (os := os) (X := fun w _ => laidMetH Tryd.prog Rows.fnExactFormatInterestRow.laid w) false (World.doorLaid Tryd.prog 24 os) #[.agg #[.slice none 0 0, .int .i64 0, .int .i64 0, .int .i64 0]] 8 rfl (World.shaped_of_RefB (by kernel_rfl) (by kernel_rfl)) (by kernel_rfl) (by kernel_rfl) (by kernel_rfl) (door_met os _)) ?_
  intro W base args ds gs before hval0 hW _ hsz0 hL _
  have hval : ∀ (j : Nat) t v, Tryd.f4.params[j]? = some t → args[j]? = some v → Value.okWide Tryd.prog W .any base t v := hval0
  have hsz : (DataW.weightsEach Tryd.prog (Tryd.f4.params.toList ++ Rows.fnExactFormatInterestSpec.plain.varTypes Tryd.prog) (ds ++ gs)).all (· ≤ reachBytes) = true := hsz0
  clear hsz0
  have hW' := hW
  obtain ⟨p, q, hA0, hV, rfl, hfz, hnd⟩ := hW
  have hA : DataW.TrodAll enc Tryd.prog W 0 (fun _ => true) true Tryd.f4.params.toList args.toList ds p := hA0
  rw [Tryd.params4] at hA hval hsz
  obtain ⟨v0, vs0, d0, ds0, p0, q0, hargs, rfl, rfl, h0, r0⟩ := trodAll_cons hA
  obtain ⟨rfl, rfl, rfl⟩ := trodAll_nil r0
  obtain rfl : args = #[v0] := by cases args; simp_all
  obtain ⟨rfl, rfl⟩ := trodVars_none hV
  obtain ⟨l0, q0, n0, m0⟩ := Row.open_want (t := 51) Tryd.underlying51 Tryd.underlying49 Tryd.underlying24 Tryd.underlying9 Tryd.underlying3 Tryd.underlying3 Tryd.underlying3 rfl rfl rfl rfl rfl (by kernel_rfl) (by kernel_rfl) (by kernel_rfl) (by kernel_rfl) (by kernel_rfl) (by kernel_rfl) (by kernel_rfl) (hval 0 51 v0 rfl rfl) h0
  clear hA0 hval0
  refine (walk W _ _ q0 n0 m0 (of_laid hL)).mono fun e W' ⟨he, hb⟩ => ?_
  subst he
  exact ⟨_, rfl, Frame.law_post laidOut (by kernel_rfl) rfl Tryd.underlying4 rfl rfl hW' hb⟩

theorem said : Rows.FnExactFormatInterestSaid :=
  OpenClaim.holds_of_wide 4 Tryd.f4 rfl rfl rfl rfl rfl rfl rfl ⟨rfl, rfl, rfl, rfl, rfl⟩ rfl rfl rfl rfl rfl (by kernel_rfl) Tryd.func4 (by kernel_rfl)
    (of_decide_eq_true (by kernel_rfl)) (by unfold Func.isWrapper; first | (rw [if_pos (by decide +kernel)]; kernel_rfl) | (rw [if_neg (by decide +kernel)]; exact ⟨rfl, rfl⟩))
    (fun os started H enc _ => lifted os started H enc)

theorem plain (f : FuncId) (fn : Func) (hf : Tryd.pinned.checked.prog.funcNamed "loop.example/g00507/laws.FnExactFormatInterest" = some f) (hfn : Tryd.pinned.checked.prog.funcs[f]? = some fn) :
    false = Tryd.pinned.checked.prog.looks [] ∧ ∀ (j : Nat) t, fn.params[j]? = some t → Tryd.pinned.checked.prog.wantsStandIn t = false := by
  obtain rfl : f = 4 := Option.some.inj ((show Tryd.prog.funcNamed "loop.example/g00507/laws.FnExactFormatInterest" = some 4 by kernel_rfl).symm.trans hf) |>.symm
  obtain rfl : fn = Tryd.f4 := (Option.some.inj (Tryd.func4.symm.trans hfn)).symm
  refine ⟨by kernel_rfl, fun j t ht => ?_⟩
  rw [Tryd.params4] at ht
  have hm : t ∈ [51] := by simpa using Array.mem_of_getElem? ht
  have hall : ([51].all fun u => !Tryd.prog.wantsStandIn u) = true := by kernel_rfl
  exact (show Tryd.prog.wantsStandIn t = false by simpa using List.all_eq_true.1 hall t hm)

/-- THE CARD. -/
theorem card : Rows.FnExactFormatInterestCardSaid :=
  Claim7.holds_tied_plain_at .later [] _ _ _ _ said (fun _ h => by cases h) (by kernel_rfl) (fun _ h => by cases h) fnExactFormatInterest_row_tie rfl ⟨rfl, rfl⟩ (by kernel_rfl) rfl plain (by kernel_rfl)
#print axioms card
end Go.Proofs.YtnnhgcfelkcpfaaDoor.fnExactFormatInterest
