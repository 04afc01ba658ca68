/- ParseRule answers as its model for all texts, writes into no argument, and its answer owns its memory. No conditions. -/
import Derived.Test.YtkojeajjappchaaRows
import Derived.WalkKit
import Derived.ProofKit
import Derived.OpenShut
import Derived.SizedLaws
import Derived.HandedShaped
import Derived.Test.YtkojeajjappchaaFrame
import Derived.Test.YtkojeajjappchaaRuleS
import Derived.Test.YtkojeajjappchaaFar
import Derived.Test.YtkojeajjappchaaRuleSK
namespace Go.Proofs.Ytkojeajjappchaa.fnExactParseRule
open Go.ChangeShapes Go.WideShapes Go.ChangeAt Go.RowKit
open Go.ChangeMaps (open_string shut_string)
set_option linter.unusedVariables false

theorem own : ownKnob Try.prog.godebug = none := by kernel_rfl
theorem laidOut : laidOutB Try.prog = true := by kernel_rfl

set_option maxRecDepth 100000 in
set_option maxHeartbeats 4000000 in
theorem walk (s0 : ByteArray) (l0 : s0.size ≤ 140737488351232) (w : World) (ht : Row.MaxL w) :
    Calls Try.prog 8 #[.string s0] w fun e w' => e = .returned (.bool true) ∧ Below w.heap.size w w' := by
  have HT := Lib.hid ht; clear ht
  by_cases t0 : s0.size ≤ 1048576
  · -- in
    have BB := Lib.hid (Below.refl w.heap.size w)
    go_enter Try.func8, Try.ntmps8
    go_wp2_with fail
    have f1 := Row.prR_len (s0)
    refine (Row.specParseRule (s0) _ (by omega)).mono ?_
    rintro e w1 ⟨v1, rfl, ho, hb⟩
    obtain ⟨x_v10, n_v10, c_v10, x_v11, n_v11, c_v11, rfl, ho⟩ := Row.kRl_shapeA ho
    replace BB := Lib.hid (BB.out.trans (hb.mono BB.out.size))
    have S1 := Lib.hid (show w.heap.size ≤ w1.heap.size from (by have h := hb.size; exact h))
    have O_v1 := Lib.hid (show Row.kRl.Far w1.heap.size w1 (.agg #[.slice x_v10 n_v10 c_v10, .slice x_v11 n_v11 c_v11]) (Row.prR (s0)) from Row.Kd.At.far ho); clear ho
    clear hb
    have hal := (Below.refl w1.heap.size w1).alloc (Nat.le_refl _) (.cells #[.slice x_v10 n_v10 c_v10, .slice x_v11 n_v11 c_v11] 31)
    replace O_v1 := Lib.hid (O_v1.out.on hal)
    replace BB := Lib.hid (BB.out.trans (hal.mono BB.out.size))
    have S2 := Lib.hid (show (w1.alloc (.cells #[.slice x_v10 n_v10 c_v10, .slice x_v11 n_v11 c_v11] 31)).heap.size = w1.heap.size + 1 from World.size_alloc _ _)
    have C_w0 := Lib.hid (Ret.Blk.new w1 #[.slice x_v10 n_v10 c_v10, .slice x_v11 n_v11 c_v11] 31); clear hal
    have c0_w0 : (w1.alloc (.cells #[.slice x_v10 n_v10 c_v10, .slice x_v11 n_v11 c_v11] 31)).cell? ⟨w1.heap.size, 0, none⟩ = some (.slice x_v10 n_v10 c_v10) := C_w0.out.cell 0
    have c1_w0 : (w1.alloc (.cells #[.slice x_v10 n_v10 c_v10, .slice x_v11 n_v11 c_v11] 31)).cell? ⟨w1.heap.size, 1, none⟩ = some (.slice x_v11 n_v11 c_v11) := C_w0.out.cell 1
    go_wp2_with fail
    clear c0_w0 c1_w0
    have f2 := Row.prR_len (s0)
    refine (Row.implParseRule (s0) _ (HT.out.on BB.out) (by omega)).mono ?_
    rintro e w2 ⟨v2, rfl, ho, hb⟩
    obtain ⟨x_v20, n_v20, c_v20, x_v21, n_v21, c_v21, rfl, ho⟩ := Row.kRl_shape ho
    replace C_w0 := Lib.hid (C_w0.out.on hb)
    replace O_v1 := Lib.hid (O_v1.out.on hb)
    replace BB := Lib.hid (BB.out.trans (hb.mono BB.out.size))
    have S3 := Lib.hid (show (w1.alloc (.cells #[.slice x_v10 n_v10 c_v10, .slice x_v11 n_v11 c_v11] 31)).heap.size ≤ w2.heap.size from (by have h := hb.size; exact h))
    have O_v2 := Lib.hid (show Row.kRl.In (w1.alloc (.cells #[.slice x_v10 n_v10 c_v10, .slice x_v11 n_v11 c_v11] 31)).heap.size w2.heap.size w2 (.agg #[.slice x_v20 n_v20 c_v20, .slice x_v21 n_v21 c_v21]) (Row.prR (s0)) from ho); clear ho
    clear hb
    have hal := (Below.refl w2.heap.size w2).alloc (Nat.le_refl _) (.cells #[.slice x_v20 n_v20 c_v20, .slice x_v21 n_v21 c_v21] 31)
    replace C_w0 := Lib.hid (C_w0.out.on hal)
    replace O_v1 := Lib.hid (O_v1.out.on hal)
    replace O_v2 := Lib.hid (O_v2.out.on hal)
    replace BB := Lib.hid (BB.out.trans (hal.mono BB.out.size))
    have S4 := Lib.hid (show (w2.alloc (.cells #[.slice x_v20 n_v20 c_v20, .slice x_v21 n_v21 c_v21] 31)).heap.size = w2.heap.size + 1 from World.size_alloc _ _)
    have C_g0 := Lib.hid (Ret.Blk.new w2 #[.slice x_v20 n_v20 c_v20, .slice x_v21 n_v21 c_v21] 31); clear hal
    have c0_w0 : (w2.alloc (.cells #[.slice x_v20 n_v20 c_v20, .slice x_v21 n_v21 c_v21] 31)).cell? ⟨w1.heap.size, 0, none⟩ = some (.slice x_v10 n_v10 c_v10) := C_w0.out.cell 0
    have c1_w0 : (w2.alloc (.cells #[.slice x_v20 n_v20 c_v20, .slice x_v21 n_v21 c_v21] 31)).cell? ⟨w1.heap.size, 1, none⟩ = some (.slice x_v11 n_v11 c_v11) := C_w0.out.cell 1
    have c0_g0 : (w2.alloc (.cells #[.slice x_v20 n_v20 c_v20, .slice x_v21 n_v21 c_v21] 31)).cell? ⟨w2.heap.size, 0, none⟩ = some (.slice x_v20 n_v20 c_v20) := C_g0.out.cell 0
    have c1_g0 : (w2.alloc (.cells #[.slice x_v20 n_v20 c_v20, .slice x_v21 n_v21 c_v21] 31)).cell? ⟨w2.heap.size, 1, none⟩ = some (.slice x_v21 n_v21 c_v21) := C_g0.out.cell 1
    go_wp2_with fail
    clear c0_w0 c1_w0 c0_g0 c1_g0
    refine (Row.sameRlK _ _ (Row.prR (s0)) _ (O_v2.out.at) (O_v1.out.at) (by first | omega | (simp; omega) | (simp [Row.marks_length, Sl.marks_length, Row.mkW]; omega))).mono ?_
    rintro e w3 ⟨rfl, hb⟩
    replace C_w0 := Lib.hid (C_w0.out.on hb)
    replace C_g0 := Lib.hid (C_g0.out.on hb)
    replace O_v1 := Lib.hid (O_v1.out.on hb)
    replace O_v2 := Lib.hid (O_v2.out.on hb)
    replace BB := Lib.hid (BB.out.trans (hb.mono BB.out.size))
    have S5 := Lib.hid (show (w2.alloc (.cells #[.slice x_v20 n_v20 c_v20, .slice x_v21 n_v21 c_v21] 31)).heap.size ≤ w3.heap.size from (by have h := hb.size; exact h))
    clear hb
    have c0_w0 : w3.cell? ⟨w1.heap.size, 0, none⟩ = some (.slice x_v10 n_v10 c_v10) := C_w0.out.cell 0
    have c1_w0 : w3.cell? ⟨w1.heap.size, 1, none⟩ = some (.slice x_v11 n_v11 c_v11) := C_w0.out.cell 1
    have c0_g0 : w3.cell? ⟨w2.heap.size, 0, none⟩ = some (.slice x_v20 n_v20 c_v20) := C_g0.out.cell 0
    have c1_g0 : w3.cell? ⟨w2.heap.size, 1, none⟩ = some (.slice x_v21 n_v21 c_v21) := C_g0.out.cell 1
    go_wp2_with fail
    clear c0_w0 c1_w0 c0_g0 c1_g0
    refine (Row.markRlK _ _ _ (Row.prR (s0)) _ (1) O_v2.out (by first | omega | (simp; omega) | (simp [Row.marks_length, Sl.marks_length, Row.mkW]; omega)) (by first | omega | (simp; omega) | (simp [Row.marks_length, Sl.marks_length, Row.mkW]; omega)) (by first | omega | (simp; omega) | (simp [Row.marks_length, Sl.marks_length, Row.mkW]; omega))).mono ?_
    rintro e w4 ⟨rfl, ho, hg⟩
    replace C_w0 := Lib.hid (hg.blk C_w0.out (by have := S1.out; have := S2.out; have := S3.out; have := S4.out; have := S5.out; omega))
    replace C_g0 := Lib.hid (hg.blk C_g0.out (by have := S1.out; have := S2.out; have := S3.out; have := S4.out; have := S5.out; omega))
    replace O_v1 := Lib.hid (O_v1.out.wrote hg (by have := S1.out; have := S2.out; have := S3.out; have := S4.out; have := S5.out; omega))
    replace BB := Lib.hid (hg.below BB.out BB.out.size (by have := S1.out; have := S2.out; have := S3.out; have := S4.out; have := S5.out; omega))
    have S6 := Lib.hid (show w3.heap.size ≤ w4.heap.size from hg.size)
    replace O_v2 := Lib.hid ho; clear ho hg
    have c0_w0 : w4.cell? ⟨w1.heap.size, 0, none⟩ = some (.slice x_v10 n_v10 c_v10) := C_w0.out.cell 0
    have c1_w0 : w4.cell? ⟨w1.heap.size, 1, none⟩ = some (.slice x_v11 n_v11 c_v11) := C_w0.out.cell 1
    have c0_g0 : w4.cell? ⟨w2.heap.size, 0, none⟩ = some (.slice x_v20 n_v20 c_v20) := C_g0.out.cell 0
    have c1_g0 : w4.cell? ⟨w2.heap.size, 1, none⟩ = some (.slice x_v21 n_v21 c_v21) := C_g0.out.cell 1
    go_wp2_with fail
    clear c0_w0 c1_w0 c0_g0 c1_g0
    refine (Row.heldRuleK _ _ (1) (Row.prR (s0)) (O_v2.out.at) (by first | omega | (simp; omega) | (simp [Row.marks_length, Sl.marks_length, Row.mkW]; omega)) (by first | omega | (simp; omega) | (simp [Row.marks_length, Sl.marks_length, Row.mkW]; omega)) (by first | omega | (simp; omega) | (simp [Row.marks_length, Sl.marks_length, Row.mkW]; omega))).mono ?_
    rintro e w5 ⟨rfl, hb⟩
    replace C_w0 := Lib.hid (C_w0.out.on hb)
    replace C_g0 := Lib.hid (C_g0.out.on hb)
    replace O_v1 := Lib.hid (O_v1.out.on hb)
    replace O_v2 := Lib.hid (O_v2.out.on hb)
    replace BB := Lib.hid (BB.out.trans (hb.mono BB.out.size))
    have S7 := Lib.hid (show w4.heap.size ≤ w5.heap.size from (by have h := hb.size; exact h))
    clear hb
    have c0_w0 : w5.cell? ⟨w1.heap.size, 0, none⟩ = some (.slice x_v10 n_v10 c_v10) := C_w0.out.cell 0
    have c1_w0 : w5.cell? ⟨w1.heap.size, 1, none⟩ = some (.slice x_v11 n_v11 c_v11) := C_w0.out.cell 1
    have c0_g0 : w5.cell? ⟨w2.heap.size, 0, none⟩ = some (.slice x_v20 n_v20 c_v20) := C_g0.out.cell 0
    have c1_g0 : w5.cell? ⟨w2.heap.size, 1, none⟩ = some (.slice x_v21 n_v21 c_v21) := C_g0.out.cell 1
    go_wp2_with fail
    clear c0_w0 c1_w0 c0_g0 c1_g0
    have f3 := Row.prR_len (s0)
    refine (Row.implParseRule (s0) _ (HT.out.on BB.out) (by omega)).mono ?_
    rintro e w6 ⟨v3, rfl, ho, hb⟩
    obtain ⟨x_v30, n_v30, c_v30, x_v31, n_v31, c_v31, rfl, ho⟩ := Row.kRl_shape ho
    replace C_w0 := Lib.hid (C_w0.out.on hb)
    replace C_g0 := Lib.hid (C_g0.out.on hb)
    replace O_v1 := Lib.hid (O_v1.out.on hb)
    replace O_v2 := Lib.hid (O_v2.out.on hb)
    replace BB := Lib.hid (BB.out.trans (hb.mono BB.out.size))
    have S8 := Lib.hid (show w5.heap.size ≤ w6.heap.size from (by have h := hb.size; exact h))
    have O_v3 := Lib.hid (show Row.kRl.In w5.heap.size w6.heap.size w6 (.agg #[.slice x_v30 n_v30 c_v30, .slice x_v31 n_v31 c_v31]) (Row.prR (s0)) from ho); clear ho
    clear hb
    have hal := (Below.refl w6.heap.size w6).alloc (Nat.le_refl _) (.cells #[.slice x_v30 n_v30 c_v30, .slice x_v31 n_v31 c_v31] 31)
    replace C_w0 := Lib.hid (C_w0.out.on hal)
    replace C_g0 := Lib.hid (C_g0.out.on hal)
    replace O_v1 := Lib.hid (O_v1.out.on hal)
    replace O_v2 := Lib.hid (O_v2.out.on hal)
    replace O_v3 := Lib.hid (O_v3.out.on hal)
    replace BB := Lib.hid (BB.out.trans (hal.mono BB.out.size))
    have S9 := Lib.hid (show (w6.alloc (.cells #[.slice x_v30 n_v30 c_v30, .slice x_v31 n_v31 c_v31] 31)).heap.size = w6.heap.size + 1 from World.size_alloc _ _)
    have C_h0 := Lib.hid (Ret.Blk.new w6 #[.slice x_v30 n_v30 c_v30, .slice x_v31 n_v31 c_v31] 31); clear hal
    have c0_w0 : (w6.alloc (.cells #[.slice x_v30 n_v30 c_v30, .slice x_v31 n_v31 c_v31] 31)).cell? ⟨w1.heap.size, 0, none⟩ = some (.slice x_v10 n_v10 c_v10) := C_w0.out.cell 0
    have c1_w0 : (w6.alloc (.cells #[.slice x_v30 n_v30 c_v30, .slice x_v31 n_v31 c_v31] 31)).cell? ⟨w1.heap.size, 1, none⟩ = some (.slice x_v11 n_v11 c_v11) := C_w0.out.cell 1
    have c0_g0 : (w6.alloc (.cells #[.slice x_v30 n_v30 c_v30, .slice x_v31 n_v31 c_v31] 31)).cell? ⟨w2.heap.size, 0, none⟩ = some (.slice x_v20 n_v20 c_v20) := C_g0.out.cell 0
    have c1_g0 : (w6.alloc (.cells #[.slice x_v30 n_v30 c_v30, .slice x_v31 n_v31 c_v31] 31)).cell? ⟨w2.heap.size, 1, none⟩ = some (.slice x_v21 n_v21 c_v21) := C_g0.out.cell 1
    have c0_h0 : (w6.alloc (.cells #[.slice x_v30 n_v30 c_v30, .slice x_v31 n_v31 c_v31] 31)).cell? ⟨w6.heap.size, 0, none⟩ = some (.slice x_v30 n_v30 c_v30) := C_h0.out.cell 0
    have c1_h0 : (w6.alloc (.cells #[.slice x_v30 n_v30 c_v30, .slice x_v31 n_v31 c_v31] 31)).cell? ⟨w6.heap.size, 1, none⟩ = some (.slice x_v31 n_v31 c_v31) := C_h0.out.cell 1
    go_wp2_with fail
    clear c0_w0 c1_w0 c0_g0 c1_g0 c0_h0 c1_h0
    refine (Row.sameRlK _ _ (Row.prR (s0)) _ (O_v3.out.at) (O_v1.out.at) (by first | omega | (simp; omega) | (simp [Row.marks_length, Sl.marks_length, Row.mkW]; omega))).mono ?_
    rintro e w7 ⟨rfl, hb⟩
    replace C_w0 := Lib.hid (C_w0.out.on hb)
    replace C_g0 := Lib.hid (C_g0.out.on hb)
    replace C_h0 := Lib.hid (C_h0.out.on hb)
    replace O_v1 := Lib.hid (O_v1.out.on hb)
    replace O_v2 := Lib.hid (O_v2.out.on hb)
    replace O_v3 := Lib.hid (O_v3.out.on hb)
    replace BB := Lib.hid (BB.out.trans (hb.mono BB.out.size))
    have S10 := Lib.hid (show (w6.alloc (.cells #[.slice x_v30 n_v30 c_v30, .slice x_v31 n_v31 c_v31] 31)).heap.size ≤ w7.heap.size from (by have h := hb.size; exact h))
    clear hb
    have c0_w0 : w7.cell? ⟨w1.heap.size, 0, none⟩ = some (.slice x_v10 n_v10 c_v10) := C_w0.out.cell 0
    have c1_w0 : w7.cell? ⟨w1.heap.size, 1, none⟩ = some (.slice x_v11 n_v11 c_v11) := C_w0.out.cell 1
    have c0_g0 : w7.cell? ⟨w2.heap.size, 0, none⟩ = some (.slice x_v20 n_v20 c_v20) := C_g0.out.cell 0
    have c1_g0 : w7.cell? ⟨w2.heap.size, 1, none⟩ = some (.slice x_v21 n_v21 c_v21) := C_g0.out.cell 1
    have c0_h0 : w7.cell? ⟨w6.heap.size, 0, none⟩ = some (.slice x_v30 n_v30 c_v30) := C_h0.out.cell 0
    have c1_h0 : w7.cell? ⟨w6.heap.size, 1, none⟩ = some (.slice x_v31 n_v31 c_v31) := C_h0.out.cell 1
    go_wp2_with fail
    clear c0_w0 c1_w0 c0_g0 c1_g0 c0_h0 c1_h0
    refine (Row.heldRuleK _ _ (1) (Row.prR (s0)) (O_v2.out.at) (by first | omega | (simp; omega) | (simp [Row.marks_length, Sl.marks_length, Row.mkW]; omega)) (by first | omega | (simp; omega) | (simp [Row.marks_length, Sl.marks_length, Row.mkW]; omega)) (by first | omega | (simp; omega) | (simp [Row.marks_length, Sl.marks_length, Row.mkW]; omega))).mono ?_
    rintro e w8 ⟨rfl, hb⟩
    replace C_w0 := Lib.hid (C_w0.out.on hb)
    replace C_g0 := Lib.hid (C_g0.out.on hb)
    replace C_h0 := Lib.hid (C_h0.out.on hb)
    replace O_v1 := Lib.hid (O_v1.out.on hb)
    replace O_v2 := Lib.hid (O_v2.out.on hb)
    replace O_v3 := Lib.hid (O_v3.out.on hb)
    replace BB := Lib.hid (BB.out.trans (hb.mono BB.out.size))
    have S11 := Lib.hid (show w7.heap.size ≤ w8.heap.size from (by have h := hb.size; exact h))
    clear hb
    have c0_w0 : w8.cell? ⟨w1.heap.size, 0, none⟩ = some (.slice x_v10 n_v10 c_v10) := C_w0.out.cell 0
    have c1_w0 : w8.cell? ⟨w1.heap.size, 1, none⟩ = some (.slice x_v11 n_v11 c_v11) := C_w0.out.cell 1
    have c0_g0 : w8.cell? ⟨w2.heap.size, 0, none⟩ = some (.slice x_v20 n_v20 c_v20) := C_g0.out.cell 0
    have c1_g0 : w8.cell? ⟨w2.heap.size, 1, none⟩ = some (.slice x_v21 n_v21 c_v21) := C_g0.out.cell 1
    have c0_h0 : w8.cell? ⟨w6.heap.size, 0, none⟩ = some (.slice x_v30 n_v30 c_v30) := C_h0.out.cell 0
    have c1_h0 : w8.cell? ⟨w6.heap.size, 1, none⟩ = some (.slice x_v31 n_v31 c_v31) := C_h0.out.cell 1
    go_wp2_with fail
    clear c0_w0 c1_w0 c0_g0 c1_g0 c0_h0 c1_h0
    go_ret
    exact ⟨rfl, BB.out⟩
  · have t0 : (1048576 : Int) < (s0.size : Int) := by omega
    go_enter Try.func8, Try.ntmps8
    go_wp2
    go_ret
    exact ⟨rfl, (Below.refl _ _)⟩

set_option maxRecDepth 100000 in
theorem lifted (os : Os) (started : os.Started) (H : Type) (enc : TypeId × Value → H) :
    ReturnsInHanded {} Try.checked os 8 .any (Rows.fnExactParseRuleSpec.pre6 enc Try.prog Try.f8 Rows.fnExactParseRuleRow.domain false) (Rows.fnExactParseRuleSpec.post enc Try.prog Try.f8 false true false false) := by
  refine returnsInHanded_of_change_shaped (C := Try.checked) own started (by kernel_rfl) Try.func8
    (ChangeSpec.witness6 (enc := enc) (C := Try.checked) false ⟨#[], #[.string ⟨#[]⟩], []⟩ 8 (by kernel_rfl) (by kernel_rfl) (by kernel_rfl) (by kernel_rfl)) ?_
  intro W base args ds gs before hval0 hW _ hsz0 hsh _
  have hval : ∀ (j : Nat) t v, Try.f8.params[j]? = some t → args[j]? = some v → Value.okWide Try.prog W .any base t v := hval0
  have hsz : (DataW.weightsEach Try.prog (Try.f8.params.toList ++ Rows.fnExactParseRuleSpec.plain.varTypes Try.prog) (ds ++ gs)).all (· ≤ reachBytes) = true := hsz0
  clear hsz0
  have hW' := hW
  obtain ⟨p, q, hA0, hV, rfl, hfz, hnd⟩ := hW
  have hA : DataW.TrodAll enc Try.prog W 0 (fun _ => true) true Try.f8.params.toList args.toList ds p := hA0
  rw [Try.params8] at hA hval hsz
  obtain ⟨v0, vs0, d0, ds0, p0, q0, hargs, rfl, rfl, h0, r0⟩ := trodAll_cons hA
  obtain ⟨rfl, rfl, rfl⟩ := trodAll_nil r0
  obtain rfl : args = #[v0] := by cases args; simp_all
  obtain ⟨rfl, rfl⟩ := trodVars_none hV
  obtain ⟨s0, rfl, rfl, rfl, z0⟩ := open_string Try.underlying9 (hval 0 9 v0 rfl rfl) h0
  have l0 : s0.size ≤ 140737488351232 := Frame.reach_string (sized_string hsz (j := 0) (t := 9) rfl rfl)
  clear hA0 hval0
  refine (walk s0 l0 W (Row.maxL_of hsh)).mono fun e W' ⟨he, hb⟩ => ?_
  subst he
  exact ⟨_, rfl, Frame.law_post laidOut (by kernel_rfl) rfl Try.underlying4 rfl rfl hW' hb⟩

theorem said : Rows.FnExactParseRuleSaid :=
  OpenClaim.holds_of_wide 8 Try.f8 rfl rfl rfl rfl rfl rfl rfl ⟨rfl, rfl, rfl, rfl, rfl⟩ rfl rfl rfl rfl rfl (by kernel_rfl) Try.func8 (by kernel_rfl)
    (of_decide_eq_true (by kernel_rfl)) (by unfold Func.isWrapper; first | (rw [if_pos (by decide +kernel)]; kernel_rfl) | (rw [if_neg (by decide +kernel)]; exact ⟨rfl, rfl⟩))
    (fun os started H enc _ => lifted os started H enc)

#print axioms said
end Go.Proofs.Ytkojeajjappchaa.fnExactParseRule
