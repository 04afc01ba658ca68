/- FormatPattern answers as its model for every pattern, and writes into no argument. No conditions. -/
import Derived.Test.YtoibmgnmnmeklaaRows
import Derived.WalkKit
import Derived.ProofKit
import Derived.OpenShut
import Derived.SizedLaws
import Derived.Test.YtoibmgnmnmeklaaFrame
import Derived.Test.YtoibmgnmnmeklaaPParse
import Derived.Test.YtoibmgnmnmeklaaBindLaw
namespace Go.Proofs.Ytoibmgnmnmeklaa.fnExactFormatPattern
open Go.ChangeShapes Go.WideShapes Go.ChangeAt Go.RowKit
open Go.ChangeMaps (open_string shut_string)
set_option linter.unusedVariables false

theorem own : ownKnob Try.prog.godebug = none := by kernel_rfl
theorem laidOut : laidOutB Try.prog = true := by kernel_rfl

set_option maxRecDepth 100000 in
set_option maxHeartbeats 4000000 in
theorem walk (w : World) (y0 : Value) (l0 : List ByteArray) (q0 : Row.Holds Value.string w y0 l0) (n0 : ∀ x ∈ l0, x.size ≤ maxLen) (m0 : l0.length ≤ 9223372036854775807) :
    Calls Try.prog 8 #[.agg #[y0]] w fun e w' => e = .returned (.bool true) ∧ Below w.heap.size w w' := by
  obtain ⟨x0, k0, c0, rfl, e0, -, q0⟩ := q0.shapeN; clear e0
  have Q0 := Lib.hid q0; have N0 := Lib.hid n0; clear q0 n0
  have hal := (Below.refl w.heap.size w).alloc (Nat.le_refl _) (.cells #[.slice x0 k0 c0] 51)
  have BB := Lib.hid hal
  have C_aP := Lib.hid (Ret.Box.new' (w := w) (.slice x0 k0 c0) 51 (n := w.heap.size) (by first | rfl | simp)); clear hal
  go_enter Try.func8, Try.ntmps8
  have c_aP := C_aP.out.cell
  go_wp2_with fail
  clear c_aP
  refine (Row.szPattern _ l0 _ (1048576) (Q0.out.on BB.out) m0 N0.out (by omega) (by omega)).mono ?_
  rintro e w1 ⟨rfl, hb⟩
  replace C_aP := Lib.hid (C_aP.out.on hb)
  replace BB := Lib.hid (BB.out.trans (hb.mono BB.out.size))
  clear hb
  by_cases t0 : (Row.bulk l0 : Int) ≤ 1048576
  · -- in
    rw [Row.szL_fit t0]
    have b0 : Row.bulk l0 ≤ 1048576 := by omega
    have d0 : l0.length ≤ 1048576 := Row.bigLen b0
    have g0 : ¬ 1048576 - (Row.bulk l0 : Int) < 0 := by omega
    have c_aP := C_aP.out.cell
    go_wp2_with fail
    clear c_aP
    refine (Row.toPattern _ l0 _ (Q0.out.on BB.out) (by omega)).mono ?_
    rintro e w2 ⟨v1, rfl, ho, hb⟩
    obtain ⟨x_v1, n_v1, c_v1, rfl, e_v1, -, ho⟩ := ho.shapeN; clear e_v1
    replace ho := ho.mono BB.out.size
    replace C_aP := Lib.hid (C_aP.out.on hb)
    replace BB := Lib.hid (BB.out.trans (hb.mono BB.out.size))
    clear hb
    have O_v1 := Lib.hid ho; clear ho
    have c_aP := C_aP.out.cell
    go_wp2_with fail
    clear c_aP
    refine (Row.specFormatPattern _ (l0) _ (O_v1.out.holds) (by omega)).mono ?_
    rintro e w3 ⟨rfl, hb⟩
    replace C_aP := Lib.hid (C_aP.out.on hb)
    replace O_v1 := Lib.hid (O_v1.out.on hb)
    replace BB := Lib.hid (BB.out.trans (hb.mono BB.out.size))
    clear hb
    have c_aP := C_aP.out.cell
    go_wp2_with fail
    clear c_aP
    clear O_v1
    refine (Row.toPattern _ l0 _ (Q0.out.on BB.out) (by omega)).mono ?_
    rintro e w4 ⟨v2, rfl, ho, hb⟩
    obtain ⟨x_v2, n_v2, c_v2, rfl, e_v2, -, ho⟩ := ho.shapeN; clear e_v2
    replace ho := ho.mono BB.out.size
    replace C_aP := Lib.hid (C_aP.out.on hb)
    replace BB := Lib.hid (BB.out.trans (hb.mono BB.out.size))
    clear hb
    have O_v2 := Lib.hid ho; clear ho
    have hal := (Below.refl w4.heap.size w4).alloc (Nat.le_refl _) (.cells #[.slice x_v2 n_v2 c_v2] 26)
    replace C_aP := Lib.hid (C_aP.out.on hal)
    replace O_v2 := Lib.hid (O_v2.out.on hal)
    replace BB := Lib.hid (BB.out.trans (hal.mono BB.out.size))
    have C_x0 := Lib.hid (Ret.Box.new w4 (.slice x_v2 n_v2 c_v2) 26); clear hal
    have c_aP := C_aP.out.cell
    have c_x0 := C_x0.out.cell
    go_wp2_with fail
    clear c_aP c_x0
    refine (Row.implFormatPattern _ (l0) _ (O_v2.out.holds) (by omega)).mono ?_
    rintro e w5 ⟨rfl, hb⟩
    replace C_aP := Lib.hid (C_aP.out.on hb)
    replace C_x0 := Lib.hid (C_x0.out.on hb)
    replace O_v2 := Lib.hid (O_v2.out.on hb)
    replace BB := Lib.hid (BB.out.trans (hb.mono BB.out.size))
    clear hb
    have c_aP := C_aP.out.cell
    have c_x0 := C_x0.out.cell
    go_wp2_with fail
    clear c_aP c_x0
    have hdr : Below w5.heap.size w5 w5.drew := (Below.refl _ _).drew
    replace C_aP := Lib.hid (C_aP.out.on hdr)
    replace C_x0 := Lib.hid (C_x0.out.on hdr)
    replace O_v2 := Lib.hid (O_v2.out.on hdr)
    replace BB := Lib.hid (BB.out.trans (hdr.mono BB.out.size))
    clear hdr
    have KS := Lib.hid (show w5.drew.cell? ⟨w4.heap.size, 0, none⟩ = some (.slice x_v2 n_v2 c_v2) ∧ w5.drew.cell? ⟨w.heap.size, 0, none⟩ = some (.slice x0 k0 c0) ∧ Below w.heap.size w w5.drew from ⟨C_x0.out.cell, C_aP.out.cell, BB.out⟩)
    go_region_held3 (fun w' => w'.cell? ⟨w4.heap.size, 0, none⟩ = some (.slice x_v2 n_v2 c_v2) ∧ w'.cell? ⟨w.heap.size, 0, none⟩ = some (.slice x0 k0 c0) ∧ Below w.heap.size w w') (first | exact KS.out | exact Row.keepN2 KS.out hba | exact Row.keepN2 (Row.keepN2 KS.out hba) hbb) ((first | (go_at_call 35; refine (Row.toPattern _ l0 _ (Q0.out.on BB.out) (by omega)).mono ?_; rintro e w6 ⟨v3, rfl, hoa, hba⟩) | (go_at_call 36; refine (Row.sameP _ _ (l0) _ ((O_v2.out.holds).on hba) hoa.holds (by first | omega | (simp; omega) | (simp [Row.marks_length, Row.mark2_length]; omega))).mono ?_; rintro e w7 ⟨rfl, hbb⟩)))
    clear KS hoa
    replace C_aP := Lib.hid (C_aP.out.on hba)
    replace C_x0 := Lib.hid (C_x0.out.on hba)
    replace O_v2 := Lib.hid (O_v2.out.on hba)
    replace BB := Lib.hid (BB.out.trans (hba.mono BB.out.size))
    replace C_aP := Lib.hid (C_aP.out.on hbb)
    replace C_x0 := Lib.hid (C_x0.out.on hbb)
    replace O_v2 := Lib.hid (O_v2.out.on hbb)
    replace BB := Lib.hid (BB.out.trans (hbb.mono BB.out.size))
    clear hba hbb
    have c_aP := C_aP.out.cell
    have c_x0 := C_x0.out.cell
    go_wp2_with fail
    clear c_aP c_x0
    go_ret
    exact ⟨rfl, BB.out⟩
  · -- out
    rw [Row.szL_not (by omega)]
    have c_aP := C_aP.out.cell
    go_wp2
    go_ret
    exact ⟨rfl, BB.out⟩

set_option maxRecDepth 100000 in
theorem lifted (os : Os) (started : os.Started) (H : Type) (enc : TypeId × Value → H) :
    ReturnsInHanded {} Try.checked os 8 .any (Rows.fnExactFormatPatternSpec.pre6 enc Try.prog Try.f8 Rows.fnExactFormatPatternRow.domain false) (Rows.fnExactFormatPatternSpec.post enc Try.prog Try.f8 false true false false) := by
  refine returnsInHanded_of_change_sized (C := Try.checked) own started (by kernel_rfl) Try.func8
    (ChangeSpec.witness6 (enc := enc) (C := Try.checked) false ⟨#[], #[.agg #[.slice none 0 0]], []⟩ 8 (by kernel_rfl) (by kernel_rfl) (by kernel_rfl) (by kernel_rfl)) ?_
  intro W base args ds gs before hval0 hW _ hsz0 _
  have hval : ∀ (j : Nat) t v, Try.f8.params[j]? = some t → args[j]? = some v → Value.okWide Try.prog W .any base t v := hval0
  have hsz : (DataW.weightsEach Try.prog (Try.f8.params.toList ++ Rows.fnExactFormatPatternSpec.plain.varTypes Try.prog) (ds ++ gs)).all (· ≤ reachBytes) = true := hsz0
  clear hsz0
  have hW' := hW
  obtain ⟨p, q, hA0, hV, rfl, hfz, hnd⟩ := hW
  have hA : DataW.TrodAll enc Try.prog W 0 (fun _ => true) true Try.f8.params.toList args.toList ds p := hA0
  rw [Try.params8] at hA hval hsz
  obtain ⟨v0, vs0, d0, ds0, p0, q0, hargs, rfl, rfl, h0, r0⟩ := trodAll_cons hA
  obtain ⟨rfl, rfl, rfl⟩ := trodAll_nil r0
  obtain rfl : args = #[v0] := by cases args; simp_all
  obtain ⟨rfl, rfl⟩ := trodVars_none hV
  obtain ⟨y0, l0, rfl, q0, n0, m0⟩ := Row.open_name (t := 51) (e := 24) (s := 9) Try.underlying51 rfl rfl (by kernel_rfl) (by kernel_rfl) Try.underlying24 Try.underlying9 (by kernel_rfl) (hval 0 51 v0 rfl rfl) h0
  clear hA0 hval0
  refine (walk W _ _ q0 n0 m0).mono fun e W' ⟨he, hb⟩ => ?_
  subst he
  exact ⟨_, rfl, Frame.law_post laidOut (by kernel_rfl) rfl Try.underlying4 rfl rfl hW' hb⟩

theorem said : Rows.FnExactFormatPatternSaid :=
  OpenClaim.holds_of_wide 8 Try.f8 rfl rfl rfl rfl rfl rfl rfl ⟨rfl, rfl, rfl, rfl, rfl⟩ rfl rfl rfl rfl rfl (by kernel_rfl) Try.func8 (by kernel_rfl)
    (of_decide_eq_true (by kernel_rfl)) (by unfold Func.isWrapper; first | (rw [if_pos (by decide +kernel)]; kernel_rfl) | (rw [if_neg (by decide +kernel)]; exact ⟨rfl, rfl⟩))
    (fun os started H enc _ => lifted os started H enc)

#print axioms said
end Go.Proofs.Ytoibmgnmnmeklaa.fnExactFormatPattern
