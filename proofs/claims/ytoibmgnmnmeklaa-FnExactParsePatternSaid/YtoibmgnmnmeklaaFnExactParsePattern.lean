/- ParsePattern answers as its model for every string, and its answer owns its memory. No conditions. -/
import Derived.Test.YtoibmgnmnmeklaaRows
import Derived.WalkKit
import Derived.ProofKit
import Derived.OpenShut
import Derived.SizedLaws
import Derived.Test.YtoibmgnmnmeklaaFrame
import Derived.Test.YtoibmgnmnmeklaaPParse
import Derived.Test.YtoibmgnmnmeklaaBindLaw
namespace Go.Proofs.Ytoibmgnmnmeklaa.fnExactParsePattern
open Go.ChangeShapes Go.WideShapes Go.ChangeAt Go.RowKit
open Go.ChangeMaps (open_string shut_string)
set_option linter.unusedVariables false

theorem own : ownKnob Try.prog.godebug = none := by kernel_rfl
theorem laidOut : laidOutB Try.prog = true := by kernel_rfl

set_option maxRecDepth 100000 in
set_option maxHeartbeats 4000000 in
theorem walk (s0 : ByteArray) (l0 : s0.size ≤ 140737488351232) (w : World) :
    Calls Try.prog 9 #[.string s0] w fun e w' => e = .returned (.bool true) ∧ Below w.heap.size w w' := by
  by_cases t0 : s0.size ≤ 1048576
  · -- in
    have BB := Lib.hid (Below.refl w.heap.size w)
    go_enter Try.func9, Try.ntmps9
    go_wp2_with fail
    have f1 := Row.ppN_len s0
    refine (Row.specParsePattern s0 _ (by omega)).mono ?_
    rintro e w1 ⟨v1, rfl, ho, hb⟩
    obtain ⟨x_v1, n_v1, c_v1, rfl, e_v1, -, ho⟩ := ho.shapeN; clear e_v1
    replace BB := Lib.hid (BB.out.trans (hb.mono BB.out.size))
    clear hb
    have H_v1 := Lib.hid ho.far; have LB_v1 := Lib.hid (Nat.le_refl w1.heap.size); clear ho
    have hal := (Below.refl w1.heap.size w1).alloc (Nat.le_refl _) (.cells #[.slice x_v1 n_v1 c_v1] 26)
    replace H_v1 := Lib.hid (H_v1.out.on hal); replace LB_v1 := Lib.hid (Nat.le_trans LB_v1.out (Below.size hal))
    replace BB := Lib.hid (BB.out.trans (hal.mono BB.out.size))
    have C_w0 := Lib.hid (Ret.Box.new w1 (.slice x_v1 n_v1 c_v1) 26); clear hal
    have c_w0 := C_w0.out.cell
    go_wp2_with fail
    clear c_w0
    have f2 := Row.ppN_len s0
    refine (Row.implParsePattern s0 _ (by omega)).mono ?_
    rintro e w2 ⟨v2, rfl, ho, hb⟩
    obtain ⟨x_v2, n_v2, c_v2, rfl, e_v2, -, ho⟩ := ho.shapeN; clear e_v2
    have Z_v2_v1 := Lib.hid (ho.over LB_v1.out)
    replace ho := ho.mono BB.out.size
    replace C_w0 := Lib.hid (C_w0.out.on hb)
    replace H_v1 := Lib.hid (H_v1.out.on hb); replace LB_v1 := Lib.hid (Nat.le_trans LB_v1.out (Below.size hb))
    replace BB := Lib.hid (BB.out.trans (hb.mono BB.out.size))
    clear hb
    have O_v2 := Lib.hid ho; clear ho
    have hal := (Below.refl w2.heap.size w2).alloc (Nat.le_refl _) (.cells #[.slice x_v2 n_v2 c_v2] 26)
    replace C_w0 := Lib.hid (C_w0.out.on hal)
    replace O_v2 := Lib.hid (O_v2.out.on hal)
    replace H_v1 := Lib.hid (H_v1.out.on hal); replace LB_v1 := Lib.hid (Nat.le_trans LB_v1.out (Below.size hal))
    replace BB := Lib.hid (BB.out.trans (hal.mono BB.out.size))
    have C_g0 := Lib.hid (Ret.Box.new w2 (.slice x_v2 n_v2 c_v2) 26); clear hal
    have c_w0 := C_w0.out.cell
    have c_g0 := C_g0.out.cell
    go_wp2_with fail
    clear c_w0 c_g0
    refine (Row.sameP _ _ (Row.ppN s0) _ (O_v2.out.holds) (H_v1.out.holds) (by first | omega | (simp; omega) | (simp [Row.marks_length, Row.mark2_length]; omega))).mono ?_
    rintro e w3 ⟨rfl, hb⟩
    replace C_w0 := Lib.hid (C_w0.out.on hb)
    replace C_g0 := Lib.hid (C_g0.out.on hb)
    replace O_v2 := Lib.hid (O_v2.out.on hb)
    replace H_v1 := Lib.hid (H_v1.out.on hb); replace LB_v1 := Lib.hid (Nat.le_trans LB_v1.out (Below.size hb))
    replace BB := Lib.hid (BB.out.trans (hb.mono BB.out.size))
    clear hb
    have c_w0 := C_w0.out.cell
    have c_g0 := C_g0.out.cell
    go_wp2_with fail
    clear c_w0 c_g0
    refine (Row.markPattern _ _ (Row.ppN s0) _ (1) O_v2.out (by first | omega | (simp; omega) | (simp [Row.marks_length, Row.mark2_length]; omega)) (by first | omega | (simp; omega) | (simp [Row.marks_length, Row.mark2_length]; omega)) (by first | omega | (simp; omega) | (simp [Row.marks_length, Row.mark2_length]; omega))).mono ?_
    rintro e w4 ⟨rfl, ho, hg⟩
    replace C_w0 := Lib.hid (C_w0.out.grown hg (O_v2.out.notBox C_w0.out (by decide)))
    replace C_g0 := Lib.hid (C_g0.out.grown hg (O_v2.out.notBox C_g0.out (by decide)))
    replace H_v1 := Lib.hid (H_v1.out.grown hg Z_v2_v1.out); replace LB_v1 := Lib.hid (Nat.le_trans LB_v1.out hg.size)
    replace BB := Lib.hid (BB.out.grown hg (by have := BB.out.size; omega) (fun g hh => (O_v2.out.lt g hh).1))
    replace O_v2 := Lib.hid ho; clear ho hg
    have c_w0 := C_w0.out.cell
    have c_g0 := C_g0.out.cell
    go_wp2_with fail
    clear c_w0 c_g0
    refine (Row.heldPattern _ _ (1) (Row.ppN s0).length (O_v2.out.holds) (by first | omega | (simp; omega) | (simp [Row.marks_length, Row.mark2_length]; omega)) (by first | omega | (simp; omega) | (simp [Row.marks_length, Row.mark2_length]; omega)) (by first | omega | (simp; omega) | (simp [Row.marks_length, Row.mark2_length]; omega))).mono ?_
    rintro e w5 ⟨rfl, hb⟩
    replace C_w0 := Lib.hid (C_w0.out.on hb)
    replace C_g0 := Lib.hid (C_g0.out.on hb)
    replace O_v2 := Lib.hid (O_v2.out.on hb)
    replace H_v1 := Lib.hid (H_v1.out.on hb); replace LB_v1 := Lib.hid (Nat.le_trans LB_v1.out (Below.size hb))
    replace BB := Lib.hid (BB.out.trans (hb.mono BB.out.size))
    clear hb
    have c_w0 := C_w0.out.cell
    have c_g0 := C_g0.out.cell
    go_wp2_with fail
    clear c_w0 c_g0
    have f3 := Row.ppN_len s0
    refine (Row.implParsePattern s0 _ (by omega)).mono ?_
    rintro e w6 ⟨v3, rfl, ho, hb⟩
    obtain ⟨x_v3, n_v3, c_v3, rfl, e_v3, -, ho⟩ := ho.shapeN; clear e_v3
    have A_v3_v2 := Lib.hid (Row.apart_lt (fun g h => (ho.lt g h).1) (fun g h => (O_v2.out.lt g h).2))
    have Z_v3_v1 := Lib.hid (ho.over LB_v1.out)
    replace ho := ho.mono BB.out.size
    replace C_w0 := Lib.hid (C_w0.out.on hb)
    replace C_g0 := Lib.hid (C_g0.out.on hb)
    replace O_v2 := Lib.hid (O_v2.out.on hb)
    replace H_v1 := Lib.hid (H_v1.out.on hb); replace LB_v1 := Lib.hid (Nat.le_trans LB_v1.out (Below.size hb))
    replace BB := Lib.hid (BB.out.trans (hb.mono BB.out.size))
    clear hb
    have O_v3 := Lib.hid ho; clear ho
    have hal := (Below.refl w6.heap.size w6).alloc (Nat.le_refl _) (.cells #[.slice x_v3 n_v3 c_v3] 26)
    replace C_w0 := Lib.hid (C_w0.out.on hal)
    replace C_g0 := Lib.hid (C_g0.out.on hal)
    replace O_v2 := Lib.hid (O_v2.out.on hal)
    replace O_v3 := Lib.hid (O_v3.out.on hal)
    replace H_v1 := Lib.hid (H_v1.out.on hal); replace LB_v1 := Lib.hid (Nat.le_trans LB_v1.out (Below.size hal))
    replace BB := Lib.hid (BB.out.trans (hal.mono BB.out.size))
    have C_h0 := Lib.hid (Ret.Box.new w6 (.slice x_v3 n_v3 c_v3) 26); clear hal
    have c_w0 := C_w0.out.cell
    have c_g0 := C_g0.out.cell
    have c_h0 := C_h0.out.cell
    go_wp2_with fail
    clear c_w0 c_g0 c_h0
    refine (Row.sameP _ _ (Row.ppN s0) _ (O_v3.out.holds) (H_v1.out.holds) (by first | omega | (simp; omega) | (simp [Row.marks_length, Row.mark2_length]; omega))).mono ?_
    rintro e w7 ⟨rfl, hb⟩
    replace C_w0 := Lib.hid (C_w0.out.on hb)
    replace C_g0 := Lib.hid (C_g0.out.on hb)
    replace C_h0 := Lib.hid (C_h0.out.on hb)
    replace O_v2 := Lib.hid (O_v2.out.on hb)
    replace O_v3 := Lib.hid (O_v3.out.on hb)
    replace H_v1 := Lib.hid (H_v1.out.on hb); replace LB_v1 := Lib.hid (Nat.le_trans LB_v1.out (Below.size hb))
    replace BB := Lib.hid (BB.out.trans (hb.mono BB.out.size))
    clear hb
    have c_w0 := C_w0.out.cell
    have c_g0 := C_g0.out.cell
    have c_h0 := C_h0.out.cell
    go_wp2_with fail
    clear c_w0 c_g0 c_h0
    refine (Row.heldPattern _ _ (1) (Row.ppN s0).length (O_v2.out.holds) (by first | omega | (simp; omega) | (simp [Row.marks_length, Row.mark2_length]; omega)) (by first | omega | (simp; omega) | (simp [Row.marks_length, Row.mark2_length]; omega)) (by first | omega | (simp; omega) | (simp [Row.marks_length, Row.mark2_length]; omega))).mono ?_
    rintro e w8 ⟨rfl, hb⟩
    replace C_w0 := Lib.hid (C_w0.out.on hb)
    replace C_g0 := Lib.hid (C_g0.out.on hb)
    replace C_h0 := Lib.hid (C_h0.out.on hb)
    replace O_v2 := Lib.hid (O_v2.out.on hb)
    replace O_v3 := Lib.hid (O_v3.out.on hb)
    replace H_v1 := Lib.hid (H_v1.out.on hb); replace LB_v1 := Lib.hid (Nat.le_trans LB_v1.out (Below.size hb))
    replace BB := Lib.hid (BB.out.trans (hb.mono BB.out.size))
    clear hb
    have c_w0 := C_w0.out.cell
    have c_g0 := C_g0.out.cell
    have c_h0 := C_h0.out.cell
    go_wp2_with fail
    clear c_w0 c_g0 c_h0
    go_ret
    exact ⟨rfl, BB.out⟩
  · have t0 : (1048576 : Int) < (s0.size : Int) := by omega
    go_enter Try.func9, Try.ntmps9
    go_wp2
    go_ret
    exact ⟨rfl, (Below.refl _ _)⟩

set_option maxRecDepth 100000 in
theorem lifted (os : Os) (started : os.Started) (H : Type) (enc : TypeId × Value → H) :
    ReturnsInHanded {} Try.checked os 9 .any (Rows.fnExactParsePatternSpec.pre6 enc Try.prog Try.f9 Rows.fnExactParsePatternRow.domain false) (Rows.fnExactParsePatternSpec.post enc Try.prog Try.f9 false true false false) := by
  refine returnsInHanded_of_change_sized (C := Try.checked) own started (by kernel_rfl) Try.func9
    (ChangeSpec.witness6 (enc := enc) (C := Try.checked) false ⟨#[], #[.string ⟨#[]⟩], []⟩ 8 (by kernel_rfl) (by kernel_rfl) (by kernel_rfl) (by kernel_rfl)) ?_
  intro W base args ds gs before hval0 hW _ hsz0 _
  have hval : ∀ (j : Nat) t v, Try.f9.params[j]? = some t → args[j]? = some v → Value.okWide Try.prog W .any base t v := hval0
  have hsz : (DataW.weightsEach Try.prog (Try.f9.params.toList ++ Rows.fnExactParsePatternSpec.plain.varTypes Try.prog) (ds ++ gs)).all (· ≤ reachBytes) = true := hsz0
  clear hsz0
  have hW' := hW
  obtain ⟨p, q, hA0, hV, rfl, hfz, hnd⟩ := hW
  have hA : DataW.TrodAll enc Try.prog W 0 (fun _ => true) true Try.f9.params.toList args.toList ds p := hA0
  rw [Try.params9] at hA hval hsz
  obtain ⟨v0, vs0, d0, ds0, p0, q0, hargs, rfl, rfl, h0, r0⟩ := trodAll_cons hA
  obtain ⟨rfl, rfl, rfl⟩ := trodAll_nil r0
  obtain rfl : args = #[v0] := by cases args; simp_all
  obtain ⟨rfl, rfl⟩ := trodVars_none hV
  obtain ⟨s0, rfl, rfl, rfl, z0⟩ := open_string Try.underlying9 (hval 0 9 v0 rfl rfl) h0
  have l0 : s0.size ≤ 140737488351232 := Frame.reach_string (sized_string hsz (j := 0) (t := 9) rfl rfl)
  clear hA0 hval0
  refine (walk s0 l0 W ).mono fun e W' ⟨he, hb⟩ => ?_
  subst he
  exact ⟨_, rfl, Frame.law_post laidOut (by kernel_rfl) rfl Try.underlying4 rfl rfl hW' hb⟩

theorem said : Rows.FnExactParsePatternSaid :=
  OpenClaim.holds_of_wide 9 Try.f9 rfl rfl rfl rfl rfl rfl rfl ⟨rfl, rfl, rfl, rfl, rfl⟩ rfl rfl rfl rfl rfl (by kernel_rfl) Try.func9 (by kernel_rfl)
    (of_decide_eq_true (by kernel_rfl)) (by unfold Func.isWrapper; first | (rw [if_pos (by decide +kernel)]; kernel_rfl) | (rw [if_neg (by decide +kernel)]; exact ⟨rfl, rfl⟩))
    (fun os started H enc _ => lifted os started H enc)

#print axioms said
end Go.Proofs.Ytoibmgnmnmeklaa.fnExactParsePattern
