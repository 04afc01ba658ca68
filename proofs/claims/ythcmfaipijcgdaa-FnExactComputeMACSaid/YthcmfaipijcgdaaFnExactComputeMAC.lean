/- FnExactComputeMAC answers true at every secret and every slice of integers: the program computes the MAC that the reference model computes and leaves the slice as it was. No conditions. -/
import Derived.Test.YthcmfaipijcgdaaRows
import Derived.WalkKit
import Derived.ProofKit
import Derived.OpenShut
import Derived.SizedLaws
import Derived.Test.YthcmfaipijcgdaaFrame
import Derived.Test.YthcmfaipijcgdaaSeal
import Derived.Test.YthcmfaipijcgdaaOpen
namespace Go.Proofs.Ythcmfaipijcgdaa.fnExactComputeMAC
open Go.ChangeShapes Go.WideShapes Go.ChangeAt Go.RowKit
open Go.ChangeMaps (open_string shut_string)
set_option linter.unusedVariables false

theorem own : ownKnob Try.prog.godebug = none := by kernel_rfl
theorem laidOut : laidOutB Try.prog = true := by kernel_rfl

set_option maxRecDepth 100000 in
set_option maxHeartbeats 4000000 in
theorem walk (a0 : Int) (w0 : (Lit.int .i64 a0).wf = true) (w : World) (y1 : Value) (l1 : List Int) (q1 : Sl.Holds .i64 w y1 l1) (n1 : ∀ x ∈ l1, (Lit.int .i64 x).wf = true) (m1 : l1.length ≤ 140737488351232) :
    Calls Try.prog 5 #[.int .i64 a0, y1] w fun e w' => e = .returned (.bool true) ∧ Below w.heap.size w w' := by
  obtain ⟨x1, c1, rfl, -, q1⟩ := q1.shape
  by_cases t1 : l1.length ≤ 1048576
  · -- in
    have Q1 := Lib.hid q1; have N1 := Lib.hid n1; clear q1 n1
    have BB := Lib.hid (Below.refl w.heap.size w)
    go_enter Try.func5, Try.ntmps5
    go_wp2_with fail
    refine (Sl.toIntS _ l1 _ (Q1.out.on BB.out) (by omega)).mono ?_
    rintro e w1 ⟨v1, rfl, ho, hb⟩
    replace ho := ho.mono BB.out.size
    replace BB := Lib.hid (BB.out.trans (hb.mono BB.out.size))
    have O_v1 := Lib.hid ho; clear ho hb
    go_wp2_with fail
    refine (Sl.specComputeMAC a0 _ (l1) _ (O_v1.out.holds) (by omega)).mono ?_
    rintro e w2 ⟨rfl, hb⟩
    replace O_v1 := Lib.hid (O_v1.out.on hb)
    replace BB := Lib.hid (BB.out.trans (hb.mono BB.out.size))
    clear hb
    go_wp2_with fail
    clear O_v1
    refine (Sl.toIntS _ l1 _ (Q1.out.on BB.out) (by omega)).mono ?_
    rintro e w3 ⟨v2, rfl, ho, hb⟩
    replace ho := ho.mono BB.out.size
    replace BB := Lib.hid (BB.out.trans (hb.mono BB.out.size))
    have O_v2 := Lib.hid ho; clear ho hb
    go_wp2_with fail
    refine (Sl.implComputeMAC a0 _ (l1) _ (O_v2.out.holds) (by omega)).mono ?_
    rintro e w4 ⟨rfl, hb⟩
    replace O_v2 := Lib.hid (O_v2.out.on hb)
    replace BB := Lib.hid (BB.out.trans (hb.mono BB.out.size))
    clear hb
    go_wp2_with fail
    refine (Sl.toIntS _ l1 _ (Q1.out.on BB.out) (by omega)).mono ?_
    rintro e w5 ⟨v3, rfl, ho, hb⟩
    have A_v3_v2 := Lib.hid (Sl.apart_new ho O_v2.out)
    replace ho := ho.mono BB.out.size
    replace O_v2 := Lib.hid (O_v2.out.on hb)
    replace BB := Lib.hid (BB.out.trans (hb.mono BB.out.size))
    have O_v3 := Lib.hid ho; clear ho hb
    go_wp2_with fail
    refine (Sl.sameIntS _ _ (l1) _ (O_v2.out.holds) (O_v3.out.holds) (by first | omega | (simp; omega) | (simp [Sl.marks_length]; omega))).mono ?_
    rintro e w6 ⟨rfl, hb⟩
    replace O_v2 := Lib.hid (O_v2.out.on hb)
    replace O_v3 := Lib.hid (O_v3.out.on hb)
    replace BB := Lib.hid (BB.out.trans (hb.mono BB.out.size))
    clear hb
    go_wp2_with fail
    clear O_v3
    go_ret
    exact ⟨rfl, BB.out⟩
  · have t1 : (1048576 : Int) < (l1.length : Int) := by omega
    go_enter Try.func5, Try.ntmps5
    go_wp2
    go_ret
    exact ⟨rfl, Below.refl _ _⟩

set_option maxRecDepth 100000 in
theorem lifted (os : Os) (started : os.Started) (H : Type) (enc : TypeId × Value → H) :
    ReturnsInHanded {} Try.checked os 5 .any (Rows.fnExactComputeMACSpec.pre6 enc Try.prog Try.f5 Rows.fnExactComputeMACRow.domain false) (Rows.fnExactComputeMACSpec.post enc Try.prog Try.f5 false true false false) := by
  refine returnsInHanded_of_change_sized (C := Try.checked) own started (by kernel_rfl) Try.func5
    (ChangeSpec.witness6 (enc := enc) (C := Try.checked) false ⟨#[], #[.int .i64 0, .slice none 0 0], []⟩ 8 (by kernel_rfl) (by kernel_rfl) (by kernel_rfl) (by kernel_rfl)) ?_
  intro W base args ds gs before hval0 hW _ hsz0 _
  have hval : ∀ (j : Nat) t v, Try.f5.params[j]? = some t → args[j]? = some v → Value.okWide Try.prog W .any base t v := hval0
  have hsz : (DataW.weightsEach Try.prog (Try.f5.params.toList ++ Rows.fnExactComputeMACSpec.plain.varTypes Try.prog) (ds ++ gs)).all (· ≤ reachBytes) = true := hsz0
  clear hsz0
  have hW' := hW
  obtain ⟨p, q, hA0, hV, rfl, hfz, hnd⟩ := hW
  have hA : DataW.TrodAll enc Try.prog W 0 (fun _ => true) true Try.f5.params.toList args.toList ds p := hA0
  rw [Try.params5] at hA hval hsz
  obtain ⟨v0, vs0, d0, ds0, p0, q0, hargs, rfl, rfl, h0, r0⟩ := trodAll_cons hA
  obtain ⟨v1, vs1, d1, ds1, p1, q1, rfl, rfl, rfl, h1, r1⟩ := trodAll_cons r0
  obtain ⟨rfl, rfl, rfl⟩ := trodAll_nil r1
  obtain rfl : args = #[v0, v1] := by cases args; simp_all
  obtain ⟨rfl, rfl⟩ := trodVars_none hV
  obtain ⟨a0, rfl, rfl, rfl, w0⟩ := open_int Try.underlying3 (hval 0 3 v0 rfl rfl) h0
  obtain ⟨l1, q1, n1, m1⟩ := Sl.open_holds (j := 1) Try.underlying24 Try.underlying3 (by kernel_rfl) (of_decide_eq_true (by kernel_rfl)) (hval 1 24 v1 rfl rfl) h1 hsz rfl rfl
  clear hA0 hval0
  refine (walk a0 w0 W _ _ q1 n1 m1).mono fun e W' ⟨he, hb⟩ => ?_
  subst he
  exact ⟨_, rfl, Frame.law_post laidOut (by kernel_rfl) rfl Try.underlying4 rfl rfl hW' hb⟩

theorem said : Rows.FnExactComputeMACSaid :=
  OpenClaim.holds_of_wide 5 Try.f5 rfl rfl rfl rfl rfl rfl rfl ⟨rfl, rfl, rfl, rfl, rfl⟩ rfl rfl rfl rfl rfl (by kernel_rfl) Try.func5 (by kernel_rfl)
    (of_decide_eq_true (by kernel_rfl)) (by unfold Func.isWrapper; first | (rw [if_pos (by decide +kernel)]; kernel_rfl) | (rw [if_neg (by decide +kernel)]; exact ⟨rfl, rfl⟩))
    (fun os started H enc _ => lifted os started H enc)

#print axioms said
end Go.Proofs.Ythcmfaipijcgdaa.fnExactComputeMAC
