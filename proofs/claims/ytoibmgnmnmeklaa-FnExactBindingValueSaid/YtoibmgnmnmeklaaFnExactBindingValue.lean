/- BindingValue answers as its model for all bindings and strings, and writes into no argument. No conditions. -/
import Derived.Test.YtoibmgnmnmeklaaRows
import Derived.WalkKit
import Derived.ProofKit
import Derived.OpenShut
import Derived.SizedLaws
import Derived.Test.YtoibmgnmnmeklaaFrame
import Derived.Test.YtoibmgnmnmeklaaFind
import Derived.Test.YtoibmgnmnmeklaaBindLaw
namespace Go.Proofs.Ytoibmgnmnmeklaa.fnExactBindingValue
open Go.ChangeShapes Go.WideShapes Go.ChangeAt Go.RowKit
open Go.ChangeMaps (open_string shut_string)
set_option linter.unusedVariables false

theorem own : ownKnob Try.prog.godebug = none := by kernel_rfl
theorem laidOut : laidOutB Try.prog = true := by kernel_rfl

set_option maxRecDepth 100000 in
set_option maxHeartbeats 4000000 in
theorem walk (s1 : ByteArray) (l1 : s1.size ≤ 140737488351232) (w : World) (y0 : Value) (l0 : List (ByteArray × ByteArray)) (q0 : Row.HoldsK Row.encBd 2 w y0 l0) (n0 : ∀ x ∈ l0, x.1.size ≤ maxLen ∧ x.2.size ≤ maxLen) (m0 : l0.length ≤ 9223372036854775807) :
    Calls Try.prog 7 #[y0, .string s1] w fun e w' => e = .returned (.bool true) ∧ Below w.heap.size w w' := by
  obtain ⟨x0, k0, c0, rfl, e0, -, q0⟩ := q0.shapeN; clear e0
  have Q0 := Lib.hid q0; have N0 := Lib.hid n0; clear q0 n0
  by_cases t1 : s1.size ≤ 1048576
  · -- in
    have BB := Lib.hid (Below.refl w.heap.size w)
    go_enter Try.func7, Try.ntmps7
    go_wp2_with fail
    refine (Row.szBindingS _ l0 _ (1048576) (Q0.out.on BB.out) m0 N0.out (by omega) (by omega)).mono ?_
    rintro e w1 ⟨rfl, hb⟩
    replace BB := Lib.hid (BB.out.trans (hb.mono BB.out.size))
    clear hb
    by_cases t0 : (Row.bulk2 l0 : Int) ≤ 1048576
    · -- in
      rw [Row.szL2_fit t0]
      have b0 : Row.bulk2 l0 ≤ 1048576 := by omega
      have d0 : l0.length ≤ 1048576 := Row.bigLen2 b0
      have g0 : ¬ 1048576 - (Row.bulk2 l0 : Int) < 0 := by omega
      go_wp2_with fail
      refine (Row.toBindingS _ l0 _ (Q0.out.on BB.out) (by omega)).mono ?_
      rintro e w2 ⟨v1, rfl, ho, hb⟩
      obtain ⟨x_v1, n_v1, c_v1, rfl, e_v1, -, ho⟩ := ho.shapeN; clear e_v1
      replace ho := ho.mono BB.out.size
      replace BB := Lib.hid (BB.out.trans (hb.mono BB.out.size))
      clear hb
      have O_v1 := Lib.hid ho; clear ho
      go_wp2_with fail
      refine (Row.specBindingValue _ (l0) s1 _ (O_v1.out.holds) (by omega)).mono ?_
      rintro e w3 ⟨rfl, rfl⟩
      go_wp2_with fail
      clear O_v1
      refine (Row.toBindingS _ l0 _ (Q0.out.on BB.out) (by omega)).mono ?_
      rintro e w4 ⟨v2, rfl, ho, hb⟩
      obtain ⟨x_v2, n_v2, c_v2, rfl, e_v2, -, ho⟩ := ho.shapeN; clear e_v2
      replace ho := ho.mono BB.out.size
      replace BB := Lib.hid (BB.out.trans (hb.mono BB.out.size))
      clear hb
      have O_v2 := Lib.hid ho; clear ho
      go_wp2_with fail
      refine (Row.implBindingValue _ (l0) s1 _ (O_v2.out.holds) (by omega)).mono ?_
      rintro e w5 ⟨rfl, hb⟩
      replace O_v2 := Lib.hid (O_v2.out.on hb)
      replace BB := Lib.hid (BB.out.trans (hb.mono BB.out.size))
      clear hb
      go_wp2_with fail
      refine (Row.toBindingS _ l0 _ (Q0.out.on BB.out) (by omega)).mono ?_
      rintro e w6 ⟨v3, rfl, ho, hb⟩
      obtain ⟨x_v3, n_v3, c_v3, rfl, e_v3, -, ho⟩ := ho.shapeN; clear e_v3
      have A_v3_v2 := Lib.hid (Row.apart_lt (fun g h => (ho.lt g h).1) (fun g h => (O_v2.out.lt g h).2))
      replace ho := ho.mono BB.out.size
      replace O_v2 := Lib.hid (O_v2.out.on hb)
      replace BB := Lib.hid (BB.out.trans (hb.mono BB.out.size))
      clear hb
      have O_v3 := Lib.hid ho; clear ho
      go_wp2_with fail
      refine (Row.sameB _ _ (l0) _ (O_v2.out.holds) (O_v3.out.holds) (by first | omega | (simp; omega) | (simp [Row.marks_length, Row.mark2_length]; omega))).mono ?_
      rintro e w7 ⟨rfl, hb⟩
      replace O_v2 := Lib.hid (O_v2.out.on hb)
      replace O_v3 := Lib.hid (O_v3.out.on hb)
      replace BB := Lib.hid (BB.out.trans (hb.mono BB.out.size))
      clear hb
      go_wp2_with fail
      clear O_v3
      go_ret
      exact ⟨rfl, BB.out⟩
    · -- out
      rw [Row.szL2_not (by omega)]
      go_wp2
      go_ret
      exact ⟨rfl, BB.out⟩
  · have t1 : (1048576 : Int) < (s1.size : Int) := by omega
    go_enter Try.func7, Try.ntmps7
    go_wp2
    go_ret
    exact ⟨rfl, (Below.refl _ _)⟩

set_option maxRecDepth 100000 in
theorem lifted (os : Os) (started : os.Started) (H : Type) (enc : TypeId × Value → H) :
    ReturnsInHanded {} Try.checked os 7 .any (Rows.fnExactBindingValueSpec.pre6 enc Try.prog Try.f7 Rows.fnExactBindingValueRow.domain false) (Rows.fnExactBindingValueSpec.post enc Try.prog Try.f7 false true false false) := by
  refine returnsInHanded_of_change_sized (C := Try.checked) own started (by kernel_rfl) Try.func7
    (ChangeSpec.witness6 (enc := enc) (C := Try.checked) false ⟨#[], #[.slice none 0 0, .string ⟨#[]⟩], []⟩ 8 (by kernel_rfl) (by kernel_rfl) (by kernel_rfl) (by kernel_rfl)) ?_
  intro W base args ds gs before hval0 hW _ hsz0 _
  have hval : ∀ (j : Nat) t v, Try.f7.params[j]? = some t → args[j]? = some v → Value.okWide Try.prog W .any base t v := hval0
  have hsz : (DataW.weightsEach Try.prog (Try.f7.params.toList ++ Rows.fnExactBindingValueSpec.plain.varTypes Try.prog) (ds ++ gs)).all (· ≤ reachBytes) = true := hsz0
  clear hsz0
  have hW' := hW
  obtain ⟨p, q, hA0, hV, rfl, hfz, hnd⟩ := hW
  have hA : DataW.TrodAll enc Try.prog W 0 (fun _ => true) true Try.f7.params.toList args.toList ds p := hA0
  rw [Try.params7] at hA hval hsz
  obtain ⟨v0, vs0, d0, ds0, p0, q0, hargs, rfl, rfl, h0, r0⟩ := trodAll_cons hA
  obtain ⟨v1, vs1, d1, ds1, p1, q1, rfl, rfl, rfl, h1, r1⟩ := trodAll_cons r0
  obtain ⟨rfl, rfl, rfl⟩ := trodAll_nil r1
  obtain rfl : args = #[v0, v1] := by cases args; simp_all
  obtain ⟨rfl, rfl⟩ := trodVars_none hV
  obtain ⟨l0, q0, n0, m0⟩ := Row.open_binds (t := 57) (e := 95) Try.underlying57 Try.underlying95 Try.underlying9 Try.underlying9 rfl rfl (by kernel_rfl) (by kernel_rfl) (by kernel_rfl) (hval 0 57 v0 rfl rfl) h0
  obtain ⟨s1, rfl, rfl, rfl, z1⟩ := open_string Try.underlying9 (hval 1 9 v1 rfl rfl) h1
  have l1 : s1.size ≤ 140737488351232 := Frame.reach_string (sized_string hsz (j := 1) (t := 9) rfl rfl)
  clear hA0 hval0
  refine (walk s1 l1 W _ _ q0 n0 m0).mono fun e W' ⟨he, hb⟩ => ?_
  subst he
  exact ⟨_, rfl, Frame.law_post laidOut (by kernel_rfl) rfl Try.underlying4 rfl rfl hW' hb⟩

theorem said : Rows.FnExactBindingValueSaid :=
  OpenClaim.holds_of_wide 7 Try.f7 rfl rfl rfl rfl rfl rfl rfl ⟨rfl, rfl, rfl, rfl, rfl⟩ rfl rfl rfl rfl rfl (by kernel_rfl) Try.func7 (by kernel_rfl)
    (of_decide_eq_true (by kernel_rfl)) (by unfold Func.isWrapper; first | (rw [if_pos (by decide +kernel)]; kernel_rfl) | (rw [if_neg (by decide +kernel)]; exact ⟨rfl, rfl⟩))
    (fun os started H enc _ => lifted os started H enc)

#print axioms said
end Go.Proofs.Ytoibmgnmnmeklaa.fnExactBindingValue
