/- NewContentStore answers as its model for all capacities, and its answer owns its memory. No conditions. -/
import Derived.Test.YthfljbbigpophaaRows
import Derived.WalkKit
import Derived.ProofKit
import Derived.OpenShut
import Derived.SizedLaws
import Derived.Test.YthfljbbigpophaaB1
import Derived.Test.YthfljbbigpophaaB3
namespace Go.Proofs.Ythfljbbigpophaa.fnExactNewContentStore
open Go.ChangeShapes Go.WideShapes Go.ChangeAt Go.RowKit
open Go.ChangeMaps (open_string shut_string)
set_option linter.unusedVariables false

theorem own : ownKnob Try.prog.godebug = none := by kernel_rfl
theorem laidOut : laidOutB Try.prog = true := by kernel_rfl

set_option maxRecDepth 100000 in
set_option maxHeartbeats 4000000 in
theorem walk (a0 : Int) (w0 : (Lit.int .i64 a0).wf = true) (w : World) :
    Calls Try.prog 3 #[.int .i64 a0] w fun e w' => e = .returned (.bool true) ∧ Below w.heap.size w w' := by
  have BB := Lib.hid (Below.refl w.heap.size w)
  go_enter Try.func3, Try.ntmps3
  go_wp2_with fail
  have f1 := Row.newC_sz a0
  refine (Row.specNewContentStore a0 _).mono ?_
  rintro e w1 ⟨v1, rfl, ho, hb⟩
  obtain ⟨x_v11, n_v11, c_v11, rfl, ho⟩ := Row.kCn_shape ho
  replace BB := Lib.hid (BB.out.trans (hb.mono BB.out.size))
  have S1 := Lib.hid (show w.heap.size ≤ w1.heap.size from (by have h := hb.size; exact h))
  have O_v1 := Lib.hid (show Row.kCn.In w.heap.size w1.heap.size w1 (.agg #[.int .i64 (Row.newC a0).1, .slice x_v11 n_v11 c_v11]) (Row.newC a0) from ho); clear ho
  clear hb
  have hal := (Below.refl w1.heap.size w1).alloc (Nat.le_refl _) (.cells #[.int .i64 (Row.newC a0).1, .slice x_v11 n_v11 c_v11] 24)
  replace O_v1 := Lib.hid (O_v1.out.on hal)
  replace BB := Lib.hid (BB.out.trans (hal.mono BB.out.size))
  have S2 := Lib.hid (show (w1.alloc (.cells #[.int .i64 (Row.newC a0).1, .slice x_v11 n_v11 c_v11] 24)).heap.size = w1.heap.size + 1 from World.size_alloc _ _)
  have C_w0 := Lib.hid (Ret.Blk.new w1 #[.int .i64 (Row.newC a0).1, .slice x_v11 n_v11 c_v11] 24); clear hal
  have c0_w0 : (w1.alloc (.cells #[.int .i64 (Row.newC a0).1, .slice x_v11 n_v11 c_v11] 24)).cell? ⟨w1.heap.size, 0, none⟩ = some (.int .i64 (Row.newC a0).1) := C_w0.out.cell 0
  have c1_w0 : (w1.alloc (.cells #[.int .i64 (Row.newC a0).1, .slice x_v11 n_v11 c_v11] 24)).cell? ⟨w1.heap.size, 1, none⟩ = some (.slice x_v11 n_v11 c_v11) := C_w0.out.cell 1
  go_wp2_with fail
  clear c0_w0 c1_w0
  have f2 := Row.newC_sz a0
  refine (Row.implNewContentStore a0 _).mono ?_
  rintro e w2 ⟨v2, rfl, ho, hb⟩
  obtain ⟨x_v21, n_v21, c_v21, rfl, ho⟩ := Row.kCn_shape ho
  replace C_w0 := Lib.hid (C_w0.out.on hb)
  replace O_v1 := Lib.hid (O_v1.out.on hb)
  replace BB := Lib.hid (BB.out.trans (hb.mono BB.out.size))
  have S3 := Lib.hid (show (w1.alloc (.cells #[.int .i64 (Row.newC a0).1, .slice x_v11 n_v11 c_v11] 24)).heap.size ≤ w2.heap.size from (by have h := hb.size; exact h))
  have O_v2 := Lib.hid (show Row.kCn.In (w1.alloc (.cells #[.int .i64 (Row.newC a0).1, .slice x_v11 n_v11 c_v11] 24)).heap.size w2.heap.size w2 (.agg #[.int .i64 (Row.newC a0).1, .slice x_v21 n_v21 c_v21]) (Row.newC a0) from ho); clear ho
  clear hb
  have hal := (Below.refl w2.heap.size w2).alloc (Nat.le_refl _) (.cells #[.int .i64 (Row.newC a0).1, .slice x_v21 n_v21 c_v21] 24)
  replace C_w0 := Lib.hid (C_w0.out.on hal)
  replace O_v1 := Lib.hid (O_v1.out.on hal)
  replace O_v2 := Lib.hid (O_v2.out.on hal)
  replace BB := Lib.hid (BB.out.trans (hal.mono BB.out.size))
  have S4 := Lib.hid (show (w2.alloc (.cells #[.int .i64 (Row.newC a0).1, .slice x_v21 n_v21 c_v21] 24)).heap.size = w2.heap.size + 1 from World.size_alloc _ _)
  have C_g0 := Lib.hid (Ret.Blk.new w2 #[.int .i64 (Row.newC a0).1, .slice x_v21 n_v21 c_v21] 24); clear hal
  have c0_w0 : (w2.alloc (.cells #[.int .i64 (Row.newC a0).1, .slice x_v21 n_v21 c_v21] 24)).cell? ⟨w1.heap.size, 0, none⟩ = some (.int .i64 (Row.newC a0).1) := C_w0.out.cell 0
  have c1_w0 : (w2.alloc (.cells #[.int .i64 (Row.newC a0).1, .slice x_v21 n_v21 c_v21] 24)).cell? ⟨w1.heap.size, 1, none⟩ = some (.slice x_v11 n_v11 c_v11) := C_w0.out.cell 1
  have c0_g0 : (w2.alloc (.cells #[.int .i64 (Row.newC a0).1, .slice x_v21 n_v21 c_v21] 24)).cell? ⟨w2.heap.size, 0, none⟩ = some (.int .i64 (Row.newC a0).1) := C_g0.out.cell 0
  have c1_g0 : (w2.alloc (.cells #[.int .i64 (Row.newC a0).1, .slice x_v21 n_v21 c_v21] 24)).cell? ⟨w2.heap.size, 1, none⟩ = some (.slice x_v21 n_v21 c_v21) := C_g0.out.cell 1
  go_wp2_with fail
  clear c0_w0 c1_w0 c0_g0 c1_g0
  refine (Row.sameCnK _ _ (Row.newC a0) _ (O_v2.out.at) (O_v1.out.at) (by first | omega | (simp; omega) | (simp [Row.marks_length, Sl.marks_length, Row.mkW]; omega))).mono ?_
  rintro e w3 ⟨rfl, hb⟩
  replace C_w0 := Lib.hid (C_w0.out.on hb)
  replace C_g0 := Lib.hid (C_g0.out.on hb)
  replace O_v1 := Lib.hid (O_v1.out.on hb)
  replace O_v2 := Lib.hid (O_v2.out.on hb)
  replace BB := Lib.hid (BB.out.trans (hb.mono BB.out.size))
  have S5 := Lib.hid (show (w2.alloc (.cells #[.int .i64 (Row.newC a0).1, .slice x_v21 n_v21 c_v21] 24)).heap.size ≤ w3.heap.size from (by have h := hb.size; exact h))
  clear hb
  have c0_w0 : w3.cell? ⟨w1.heap.size, 0, none⟩ = some (.int .i64 (Row.newC a0).1) := C_w0.out.cell 0
  have c1_w0 : w3.cell? ⟨w1.heap.size, 1, none⟩ = some (.slice x_v11 n_v11 c_v11) := C_w0.out.cell 1
  have c0_g0 : w3.cell? ⟨w2.heap.size, 0, none⟩ = some (.int .i64 (Row.newC a0).1) := C_g0.out.cell 0
  have c1_g0 : w3.cell? ⟨w2.heap.size, 1, none⟩ = some (.slice x_v21 n_v21 c_v21) := C_g0.out.cell 1
  go_wp2_with fail
  clear c0_w0 c1_w0 c0_g0 c1_g0
  refine (Row.markCnK _ _ _ (Row.newC a0) _ (1) O_v2.out (by first | omega | (simp; omega) | (simp [Row.marks_length, Sl.marks_length, Row.mkW]; omega)) (by first | omega | (simp; omega) | (simp [Row.marks_length, Sl.marks_length, Row.mkW]; omega)) (by first | omega | (simp; omega) | (simp [Row.marks_length, Sl.marks_length, Row.mkW]; omega))).mono ?_
  rintro e w4 ⟨rfl, ho, hg⟩
  replace C_w0 := Lib.hid (hg.blk C_w0.out (by have := S1.out; have := S2.out; have := S3.out; have := S4.out; have := S5.out; omega))
  replace C_g0 := Lib.hid (hg.blk C_g0.out (by have := S1.out; have := S2.out; have := S3.out; have := S4.out; have := S5.out; omega))
  replace O_v1 := Lib.hid (O_v1.out.wrote hg (by have := S1.out; have := S2.out; have := S3.out; have := S4.out; have := S5.out; omega))
  replace BB := Lib.hid (hg.below BB.out BB.out.size (by have := S1.out; have := S2.out; have := S3.out; have := S4.out; have := S5.out; omega))
  have S6 := Lib.hid (show w3.heap.size ≤ w4.heap.size from hg.size)
  replace O_v2 := Lib.hid ho; clear ho hg
  have c0_w0 : w4.cell? ⟨w1.heap.size, 0, none⟩ = some (.int .i64 (Row.newC a0).1) := C_w0.out.cell 0
  have c1_w0 : w4.cell? ⟨w1.heap.size, 1, none⟩ = some (.slice x_v11 n_v11 c_v11) := C_w0.out.cell 1
  have c0_g0 : w4.cell? ⟨w2.heap.size, 0, none⟩ = some (.int .i64 (Row.newC a0).1) := C_g0.out.cell 0
  have c1_g0 : w4.cell? ⟨w2.heap.size, 1, none⟩ = some (.slice x_v21 n_v21 c_v21) := C_g0.out.cell 1
  go_wp2_with fail
  clear c0_w0 c1_w0 c0_g0 c1_g0
  refine (Row.heldContentStoreK _ _ (1) (Row.newC a0) (O_v2.out.at) (by first | omega | (simp; omega) | (simp [Row.marks_length, Sl.marks_length, Row.mkW]; omega)) (by first | omega | (simp; omega) | (simp [Row.marks_length, Sl.marks_length, Row.mkW]; omega)) (by first | omega | (simp; omega) | (simp [Row.marks_length, Sl.marks_length, Row.mkW]; omega))).mono ?_
  rintro e w5 ⟨rfl, hb⟩
  replace C_w0 := Lib.hid (C_w0.out.on hb)
  replace C_g0 := Lib.hid (C_g0.out.on hb)
  replace O_v1 := Lib.hid (O_v1.out.on hb)
  replace O_v2 := Lib.hid (O_v2.out.on hb)
  replace BB := Lib.hid (BB.out.trans (hb.mono BB.out.size))
  have S7 := Lib.hid (show w4.heap.size ≤ w5.heap.size from (by have h := hb.size; exact h))
  clear hb
  have c0_w0 : w5.cell? ⟨w1.heap.size, 0, none⟩ = some (.int .i64 (Row.newC a0).1) := C_w0.out.cell 0
  have c1_w0 : w5.cell? ⟨w1.heap.size, 1, none⟩ = some (.slice x_v11 n_v11 c_v11) := C_w0.out.cell 1
  have c0_g0 : w5.cell? ⟨w2.heap.size, 0, none⟩ = some (.int .i64 (Row.newC a0).1) := C_g0.out.cell 0
  have c1_g0 : w5.cell? ⟨w2.heap.size, 1, none⟩ = some (.slice x_v21 n_v21 c_v21) := C_g0.out.cell 1
  go_wp2_with fail
  clear c0_w0 c1_w0 c0_g0 c1_g0
  have f3 := Row.newC_sz a0
  refine (Row.implNewContentStore a0 _).mono ?_
  rintro e w6 ⟨v3, rfl, ho, hb⟩
  obtain ⟨x_v31, n_v31, c_v31, rfl, ho⟩ := Row.kCn_shape ho
  replace C_w0 := Lib.hid (C_w0.out.on hb)
  replace C_g0 := Lib.hid (C_g0.out.on hb)
  replace O_v1 := Lib.hid (O_v1.out.on hb)
  replace O_v2 := Lib.hid (O_v2.out.on hb)
  replace BB := Lib.hid (BB.out.trans (hb.mono BB.out.size))
  have S8 := Lib.hid (show w5.heap.size ≤ w6.heap.size from (by have h := hb.size; exact h))
  have O_v3 := Lib.hid (show Row.kCn.In w5.heap.size w6.heap.size w6 (.agg #[.int .i64 (Row.newC a0).1, .slice x_v31 n_v31 c_v31]) (Row.newC a0) from ho); clear ho
  clear hb
  have hal := (Below.refl w6.heap.size w6).alloc (Nat.le_refl _) (.cells #[.int .i64 (Row.newC a0).1, .slice x_v31 n_v31 c_v31] 24)
  replace C_w0 := Lib.hid (C_w0.out.on hal)
  replace C_g0 := Lib.hid (C_g0.out.on hal)
  replace O_v1 := Lib.hid (O_v1.out.on hal)
  replace O_v2 := Lib.hid (O_v2.out.on hal)
  replace O_v3 := Lib.hid (O_v3.out.on hal)
  replace BB := Lib.hid (BB.out.trans (hal.mono BB.out.size))
  have S9 := Lib.hid (show (w6.alloc (.cells #[.int .i64 (Row.newC a0).1, .slice x_v31 n_v31 c_v31] 24)).heap.size = w6.heap.size + 1 from World.size_alloc _ _)
  have C_h0 := Lib.hid (Ret.Blk.new w6 #[.int .i64 (Row.newC a0).1, .slice x_v31 n_v31 c_v31] 24); clear hal
  have c0_w0 : (w6.alloc (.cells #[.int .i64 (Row.newC a0).1, .slice x_v31 n_v31 c_v31] 24)).cell? ⟨w1.heap.size, 0, none⟩ = some (.int .i64 (Row.newC a0).1) := C_w0.out.cell 0
  have c1_w0 : (w6.alloc (.cells #[.int .i64 (Row.newC a0).1, .slice x_v31 n_v31 c_v31] 24)).cell? ⟨w1.heap.size, 1, none⟩ = some (.slice x_v11 n_v11 c_v11) := C_w0.out.cell 1
  have c0_g0 : (w6.alloc (.cells #[.int .i64 (Row.newC a0).1, .slice x_v31 n_v31 c_v31] 24)).cell? ⟨w2.heap.size, 0, none⟩ = some (.int .i64 (Row.newC a0).1) := C_g0.out.cell 0
  have c1_g0 : (w6.alloc (.cells #[.int .i64 (Row.newC a0).1, .slice x_v31 n_v31 c_v31] 24)).cell? ⟨w2.heap.size, 1, none⟩ = some (.slice x_v21 n_v21 c_v21) := C_g0.out.cell 1
  have c0_h0 : (w6.alloc (.cells #[.int .i64 (Row.newC a0).1, .slice x_v31 n_v31 c_v31] 24)).cell? ⟨w6.heap.size, 0, none⟩ = some (.int .i64 (Row.newC a0).1) := C_h0.out.cell 0
  have c1_h0 : (w6.alloc (.cells #[.int .i64 (Row.newC a0).1, .slice x_v31 n_v31 c_v31] 24)).cell? ⟨w6.heap.size, 1, none⟩ = some (.slice x_v31 n_v31 c_v31) := C_h0.out.cell 1
  go_wp2_with fail
  clear c0_w0 c1_w0 c0_g0 c1_g0 c0_h0 c1_h0
  refine (Row.sameCnK _ _ (Row.newC a0) _ (O_v3.out.at) (O_v1.out.at) (by first | omega | (simp; omega) | (simp [Row.marks_length, Sl.marks_length, Row.mkW]; omega))).mono ?_
  rintro e w7 ⟨rfl, hb⟩
  replace C_w0 := Lib.hid (C_w0.out.on hb)
  replace C_g0 := Lib.hid (C_g0.out.on hb)
  replace C_h0 := Lib.hid (C_h0.out.on hb)
  replace O_v1 := Lib.hid (O_v1.out.on hb)
  replace O_v2 := Lib.hid (O_v2.out.on hb)
  replace O_v3 := Lib.hid (O_v3.out.on hb)
  replace BB := Lib.hid (BB.out.trans (hb.mono BB.out.size))
  have S10 := Lib.hid (show (w6.alloc (.cells #[.int .i64 (Row.newC a0).1, .slice x_v31 n_v31 c_v31] 24)).heap.size ≤ w7.heap.size from (by have h := hb.size; exact h))
  clear hb
  have c0_w0 : w7.cell? ⟨w1.heap.size, 0, none⟩ = some (.int .i64 (Row.newC a0).1) := C_w0.out.cell 0
  have c1_w0 : w7.cell? ⟨w1.heap.size, 1, none⟩ = some (.slice x_v11 n_v11 c_v11) := C_w0.out.cell 1
  have c0_g0 : w7.cell? ⟨w2.heap.size, 0, none⟩ = some (.int .i64 (Row.newC a0).1) := C_g0.out.cell 0
  have c1_g0 : w7.cell? ⟨w2.heap.size, 1, none⟩ = some (.slice x_v21 n_v21 c_v21) := C_g0.out.cell 1
  have c0_h0 : w7.cell? ⟨w6.heap.size, 0, none⟩ = some (.int .i64 (Row.newC a0).1) := C_h0.out.cell 0
  have c1_h0 : w7.cell? ⟨w6.heap.size, 1, none⟩ = some (.slice x_v31 n_v31 c_v31) := C_h0.out.cell 1
  go_wp2_with fail
  clear c0_w0 c1_w0 c0_g0 c1_g0 c0_h0 c1_h0
  refine (Row.heldContentStoreK _ _ (1) (Row.newC a0) (O_v2.out.at) (by first | omega | (simp; omega) | (simp [Row.marks_length, Sl.marks_length, Row.mkW]; omega)) (by first | omega | (simp; omega) | (simp [Row.marks_length, Sl.marks_length, Row.mkW]; omega)) (by first | omega | (simp; omega) | (simp [Row.marks_length, Sl.marks_length, Row.mkW]; omega))).mono ?_
  rintro e w8 ⟨rfl, hb⟩
  replace C_w0 := Lib.hid (C_w0.out.on hb)
  replace C_g0 := Lib.hid (C_g0.out.on hb)
  replace C_h0 := Lib.hid (C_h0.out.on hb)
  replace O_v1 := Lib.hid (O_v1.out.on hb)
  replace O_v2 := Lib.hid (O_v2.out.on hb)
  replace O_v3 := Lib.hid (O_v3.out.on hb)
  replace BB := Lib.hid (BB.out.trans (hb.mono BB.out.size))
  have S11 := Lib.hid (show w7.heap.size ≤ w8.heap.size from (by have h := hb.size; exact h))
  clear hb
  have c0_w0 : w8.cell? ⟨w1.heap.size, 0, none⟩ = some (.int .i64 (Row.newC a0).1) := C_w0.out.cell 0
  have c1_w0 : w8.cell? ⟨w1.heap.size, 1, none⟩ = some (.slice x_v11 n_v11 c_v11) := C_w0.out.cell 1
  have c0_g0 : w8.cell? ⟨w2.heap.size, 0, none⟩ = some (.int .i64 (Row.newC a0).1) := C_g0.out.cell 0
  have c1_g0 : w8.cell? ⟨w2.heap.size, 1, none⟩ = some (.slice x_v21 n_v21 c_v21) := C_g0.out.cell 1
  have c0_h0 : w8.cell? ⟨w6.heap.size, 0, none⟩ = some (.int .i64 (Row.newC a0).1) := C_h0.out.cell 0
  have c1_h0 : w8.cell? ⟨w6.heap.size, 1, none⟩ = some (.slice x_v31 n_v31 c_v31) := C_h0.out.cell 1
  go_wp2_with fail
  clear c0_w0 c1_w0 c0_g0 c1_g0 c0_h0 c1_h0
  go_ret
  exact ⟨rfl, BB.out⟩

set_option maxRecDepth 100000 in
theorem lifted (os : Os) (started : os.Started) (H : Type) (enc : TypeId × Value → H) :
    ReturnsInHanded {} Try.checked os 3 .any (Rows.fnExactNewContentStoreSpec.pre6 enc Try.prog Try.f3 Rows.fnExactNewContentStoreRow.domain false) (Rows.fnExactNewContentStoreSpec.post enc Try.prog Try.f3 false true false false) := by
  refine returnsInHanded_of_change_sized (C := Try.checked) own started (by kernel_rfl) Try.func3
    (ChangeSpec.witness6 (enc := enc) (C := Try.checked) false ⟨#[], #[.int .i64 0], []⟩ 8 (by kernel_rfl) (by kernel_rfl) (by kernel_rfl) (by kernel_rfl)) ?_
  intro W base args ds gs before hval0 hW _ hsz0 _
  have hval : ∀ (j : Nat) t v, Try.f3.params[j]? = some t → args[j]? = some v → Value.okWide Try.prog W .any base t v := hval0
  have hsz : (DataW.weightsEach Try.prog (Try.f3.params.toList ++ Rows.fnExactNewContentStoreSpec.plain.varTypes Try.prog) (ds ++ gs)).all (· ≤ reachBytes) = true := hsz0
  clear hsz0
  have hW' := hW
  obtain ⟨p, q, hA0, hV, rfl, hfz, hnd⟩ := hW
  have hA : DataW.TrodAll enc Try.prog W 0 (fun _ => true) true Try.f3.params.toList args.toList ds p := hA0
  rw [Try.params3] at hA hval hsz
  obtain ⟨v0, vs0, d0, ds0, p0, q0, hargs, rfl, rfl, h0, r0⟩ := trodAll_cons hA
  obtain ⟨rfl, rfl, rfl⟩ := trodAll_nil r0
  obtain rfl : args = #[v0] := by cases args; simp_all
  obtain ⟨rfl, rfl⟩ := trodVars_none hV
  obtain ⟨a0, rfl, rfl, rfl, w0⟩ := open_int Try.underlying3 (hval 0 3 v0 rfl rfl) h0
  clear hA0 hval0
  refine (walk a0 w0 W ).mono fun e W' ⟨he, hb⟩ => ?_
  subst he
  exact ⟨_, rfl, Frame.law_post laidOut (by kernel_rfl) rfl Try.underlying4 rfl rfl hW' hb⟩

theorem said : Rows.FnExactNewContentStoreSaid :=
  OpenClaim.holds_of_wide 3 Try.f3 rfl rfl rfl rfl rfl rfl rfl ⟨rfl, rfl, rfl, rfl, rfl⟩ rfl rfl rfl rfl rfl (by kernel_rfl) Try.func3 (by kernel_rfl)
    (of_decide_eq_true (by kernel_rfl)) (by unfold Func.isWrapper; first | (rw [if_pos (by decide +kernel)]; kernel_rfl) | (rw [if_neg (by decide +kernel)]; exact ⟨rfl, rfl⟩))
    (fun os started H enc _ => lifted os started H enc)

#print axioms said
end Go.Proofs.Ythfljbbigpophaa.fnExactNewContentStore
