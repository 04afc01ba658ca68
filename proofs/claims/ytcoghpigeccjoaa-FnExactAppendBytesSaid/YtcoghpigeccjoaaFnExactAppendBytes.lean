/- AppendBytes answers as its model for every argument, writes into no argument, and its answer owns its memory. No conditions. -/
import Derived.Test.YtcoghpigeccjoaaRows
import Derived.WalkKit
import Derived.ProofKit
import Derived.OpenShut
import Derived.SizedLaws
import Derived.Test.YtcoghpigeccjoaaFrame
import Derived.Test.YtcoghpigeccjoaaBytes
import Derived.Test.YtcoghpigeccjoaaOpen
namespace Go.Proofs.Ytcoghpigeccjoaa.fnExactAppendBytes
open Go.ChangeShapes Go.WideShapes Go.ChangeAt Go.RowKit
open Go.ChangeMaps (open_string shut_string)
set_option linter.unusedVariables false

theorem own : ownKnob Try.prog.godebug = none := by kernel_rfl
theorem laidOut : laidOutB Try.prog = true := by kernel_rfl

set_option maxRecDepth 100000 in
set_option maxHeartbeats 4000000 in
theorem walk (w : World) (y0 : Value) (l0 : List Int) (q0 : Sl.Holds .u8 w y0 l0) (n0 : ∀ x ∈ l0, (Lit.int .u8 x).wf = true) (m0 : l0.length ≤ 140737488351232) (y1 : Value) (l1 : List Int) (q1 : Sl.Holds .u8 w y1 l1) (n1 : ∀ x ∈ l1, (Lit.int .u8 x).wf = true) (m1 : l1.length ≤ 140737488351232) :
    Calls Try.prog 7 #[y0, y1] w fun e w' => e = .returned (.bool true) ∧ Below w.heap.size w w' := by
  obtain ⟨x0, c0, rfl, -, q0⟩ := q0.shape
  obtain ⟨x1, c1, rfl, -, q1⟩ := q1.shape
  by_cases t0 : l0.length ≤ 1048576
  · -- in
    by_cases t1 : l1.length ≤ 1048576
    · -- in
      have Q0 := Lib.hid q0; have N0 := Lib.hid n0; clear q0 n0
      have Q1 := Lib.hid q1; have N1 := Lib.hid n1; clear q1 n1
      have BB := Lib.hid (Below.refl w.heap.size w)
      go_enter Try.func7, Try.ntmps7
      go_wp2_with fail
      refine (Sl.toByteS _ l0 _ (Q0.out.on BB.out) (by omega)).mono ?_
      rintro e w1 ⟨v1, rfl, ho, hb⟩
      replace ho := ho.mono BB.out.size
      replace BB := Lib.hid (BB.out.trans (hb.mono BB.out.size))
      have O_v1 := Lib.hid ho; clear ho hb
      go_wp2_with fail
      refine (Sl.toByteS _ l1 _ (Q1.out.on BB.out) (by omega)).mono ?_
      rintro e w2 ⟨v2, rfl, ho, hb⟩
      have A_v2_v1 := Lib.hid (Sl.apart_new ho O_v1.out)
      replace ho := ho.mono BB.out.size
      replace O_v1 := Lib.hid (O_v1.out.on hb)
      replace BB := Lib.hid (BB.out.trans (hb.mono BB.out.size))
      have O_v2 := Lib.hid ho; clear ho hb
      go_wp2_with fail
      have f4 := Var.var_len l1.length
      refine (Sl.specAppendBytes _ _ (l0) (l1) _ (O_v1.out.holds) (O_v2.out.holds) (by omega) (by omega)).mono ?_
      rintro e w3 ⟨v3, rfl, ho, hb⟩
      have A_v3_v1 := Lib.hid (Sl.apart_new ho O_v1.out)
      have A_v3_v2 := Lib.hid (Sl.apart_new ho O_v2.out)
      replace ho := ho.mono BB.out.size
      replace O_v1 := Lib.hid (O_v1.out.on hb)
      replace O_v2 := Lib.hid (O_v2.out.on hb)
      replace BB := Lib.hid (BB.out.trans (hb.mono BB.out.size))
      have O_v3 := Lib.hid ho; clear ho
      clear hb
      go_wp2_with fail
      clear O_v1
      clear O_v2
      refine (Sl.toByteS _ l0 _ (Q0.out.on BB.out) (by omega)).mono ?_
      rintro e w4 ⟨v5, rfl, ho, hb⟩
      have A_v5_v3 := Lib.hid (Sl.apart_new ho O_v3.out)
      replace ho := ho.mono BB.out.size
      replace O_v3 := Lib.hid (O_v3.out.on hb)
      replace BB := Lib.hid (BB.out.trans (hb.mono BB.out.size))
      have O_v5 := Lib.hid ho; clear ho hb
      go_wp2_with fail
      refine (Sl.toByteS _ l1 _ (Q1.out.on BB.out) (by omega)).mono ?_
      rintro e w5 ⟨v6, rfl, ho, hb⟩
      have A_v6_v3 := Lib.hid (Sl.apart_new ho O_v3.out)
      have A_v6_v5 := Lib.hid (Sl.apart_new ho O_v5.out)
      replace ho := ho.mono BB.out.size
      replace O_v3 := Lib.hid (O_v3.out.on hb)
      replace O_v5 := Lib.hid (O_v5.out.on hb)
      replace BB := Lib.hid (BB.out.trans (hb.mono BB.out.size))
      have O_v6 := Lib.hid ho; clear ho hb
      go_wp2_with fail
      have f8 := Var.var_len l1.length
      refine (Sl.implAppendBytes _ _ (l0) (l1) _ (O_v5.out.holds) (O_v6.out.holds) (by omega) (by omega)).mono ?_
      rintro e w6 ⟨v7, rfl, ho, hb⟩
      have A_v7_v3 := Lib.hid (Sl.apart_new ho O_v3.out)
      have A_v7_v5 := Lib.hid (Sl.apart_new ho O_v5.out)
      have A_v7_v6 := Lib.hid (Sl.apart_new ho O_v6.out)
      replace ho := ho.mono BB.out.size
      replace O_v3 := Lib.hid (O_v3.out.on hb)
      replace O_v5 := Lib.hid (O_v5.out.on hb)
      replace O_v6 := Lib.hid (O_v6.out.on hb)
      replace BB := Lib.hid (BB.out.trans (hb.mono BB.out.size))
      have O_v7 := Lib.hid ho; clear ho
      clear hb
      go_wp2_with fail
      refine (Sl.sameByteS _ _ (l0 ++ Var.var l1.length ++ l1) _ (O_v7.out.holds) (O_v3.out.holds) (by first | omega | (simp; omega) | (simp [Sl.marks_length]; omega))).mono ?_
      rintro e w7 ⟨rfl, hb⟩
      replace O_v3 := Lib.hid (O_v3.out.on hb)
      replace O_v5 := Lib.hid (O_v5.out.on hb)
      replace O_v6 := Lib.hid (O_v6.out.on hb)
      replace O_v7 := Lib.hid (O_v7.out.on hb)
      replace BB := Lib.hid (BB.out.trans (hb.mono BB.out.size))
      clear hb
      go_wp2_with fail
      refine (Sl.toByteS _ l0 _ (Q0.out.on BB.out) (by omega)).mono ?_
      rintro e w8 ⟨v9, rfl, ho, hb⟩
      have A_v9_v3 := Lib.hid (Sl.apart_new ho O_v3.out)
      have A_v9_v5 := Lib.hid (Sl.apart_new ho O_v5.out)
      have A_v9_v6 := Lib.hid (Sl.apart_new ho O_v6.out)
      have A_v9_v7 := Lib.hid (Sl.apart_new ho O_v7.out)
      replace ho := ho.mono BB.out.size
      replace O_v3 := Lib.hid (O_v3.out.on hb)
      replace O_v5 := Lib.hid (O_v5.out.on hb)
      replace O_v6 := Lib.hid (O_v6.out.on hb)
      replace O_v7 := Lib.hid (O_v7.out.on hb)
      replace BB := Lib.hid (BB.out.trans (hb.mono BB.out.size))
      have O_v9 := Lib.hid ho; clear ho hb
      go_wp2_with fail
      refine (Sl.sameByteS _ _ (l0) _ (O_v5.out.holds) (O_v9.out.holds) (by first | omega | (simp; omega) | (simp [Sl.marks_length]; omega))).mono ?_
      rintro e w9 ⟨rfl, hb⟩
      replace O_v3 := Lib.hid (O_v3.out.on hb)
      replace O_v5 := Lib.hid (O_v5.out.on hb)
      replace O_v6 := Lib.hid (O_v6.out.on hb)
      replace O_v7 := Lib.hid (O_v7.out.on hb)
      replace O_v9 := Lib.hid (O_v9.out.on hb)
      replace BB := Lib.hid (BB.out.trans (hb.mono BB.out.size))
      clear hb
      go_wp2_with fail
      clear O_v9
      refine (Sl.toByteS _ l1 _ (Q1.out.on BB.out) (by omega)).mono ?_
      rintro e w10 ⟨v10, rfl, ho, hb⟩
      have A_v10_v3 := Lib.hid (Sl.apart_new ho O_v3.out)
      have A_v10_v5 := Lib.hid (Sl.apart_new ho O_v5.out)
      have A_v10_v6 := Lib.hid (Sl.apart_new ho O_v6.out)
      have A_v10_v7 := Lib.hid (Sl.apart_new ho O_v7.out)
      replace ho := ho.mono BB.out.size
      replace O_v3 := Lib.hid (O_v3.out.on hb)
      replace O_v5 := Lib.hid (O_v5.out.on hb)
      replace O_v6 := Lib.hid (O_v6.out.on hb)
      replace O_v7 := Lib.hid (O_v7.out.on hb)
      replace BB := Lib.hid (BB.out.trans (hb.mono BB.out.size))
      have O_v10 := Lib.hid ho; clear ho hb
      go_wp2_with fail
      refine (Sl.sameByteS _ _ (l1) _ (O_v6.out.holds) (O_v10.out.holds) (by first | omega | (simp; omega) | (simp [Sl.marks_length]; omega))).mono ?_
      rintro e w11 ⟨rfl, hb⟩
      replace O_v3 := Lib.hid (O_v3.out.on hb)
      replace O_v5 := Lib.hid (O_v5.out.on hb)
      replace O_v6 := Lib.hid (O_v6.out.on hb)
      replace O_v7 := Lib.hid (O_v7.out.on hb)
      replace O_v10 := Lib.hid (O_v10.out.on hb)
      replace BB := Lib.hid (BB.out.trans (hb.mono BB.out.size))
      clear hb
      go_wp2_with fail
      clear O_v10
      refine (Sl.markByteS _ _ (l0) _ (1) O_v5.out (by first | omega | (simp; omega) | (simp [Sl.marks_length]; omega)) (by first | omega | (simp; omega) | (simp [Sl.marks_length]; omega)) (by first | omega | (simp; omega) | (simp [Sl.marks_length]; omega))).mono ?_
      rintro e w12 ⟨rfl, ho, hg⟩
      replace O_v3 := Lib.hid (Sl.Own.grown O_v3.out hg (Sl.apart_or (Sl.Apart.symm A_v5_v3.out)))
      replace O_v6 := Lib.hid (Sl.Own.grown O_v6.out hg (Sl.apart_or A_v6_v5.out))
      replace O_v7 := Lib.hid (Sl.Own.grown O_v7.out hg (Sl.apart_or A_v7_v5.out))
      replace BB := Lib.hid (BB.out.grown hg (by have := BB.out.size; omega) (fun g hh => (O_v5.out.lt g hh).1))
      replace O_v5 := Lib.hid ho; clear ho hg
      go_wp2_with fail
      refine (Sl.markByteS _ _ (l1) _ (1 + ((l0).length : Int)) O_v6.out (by first | omega | (simp; omega) | (simp [Sl.marks_length]; omega)) (by first | omega | (simp; omega) | (simp [Sl.marks_length]; omega)) (by first | omega | (simp; omega) | (simp [Sl.marks_length]; omega))).mono ?_
      rintro e w13 ⟨rfl, ho, hg⟩
      replace O_v3 := Lib.hid (Sl.Own.grown O_v3.out hg (Sl.apart_or (Sl.Apart.symm A_v6_v3.out)))
      replace O_v5 := Lib.hid (Sl.Own.grown O_v5.out hg (Sl.apart_or (Sl.Apart.symm A_v6_v5.out)))
      replace O_v7 := Lib.hid (Sl.Own.grown O_v7.out hg (Sl.apart_or A_v7_v6.out))
      replace BB := Lib.hid (BB.out.grown hg (by have := BB.out.size; omega) (fun g hh => (O_v6.out.lt g hh).1))
      replace O_v6 := Lib.hid ho; clear ho hg
      go_wp2_with fail
      refine (Sl.sameByteS _ _ (l0 ++ Var.var l1.length ++ l1) _ (O_v7.out.holds) (O_v3.out.holds) (by first | omega | (simp; omega) | (simp [Sl.marks_length]; omega))).mono ?_
      rintro e w14 ⟨rfl, hb⟩
      replace O_v3 := Lib.hid (O_v3.out.on hb)
      replace O_v5 := Lib.hid (O_v5.out.on hb)
      replace O_v6 := Lib.hid (O_v6.out.on hb)
      replace O_v7 := Lib.hid (O_v7.out.on hb)
      replace BB := Lib.hid (BB.out.trans (hb.mono BB.out.size))
      clear hb
      go_wp2_with fail
      refine (Sl.markByteS _ _ (l0 ++ Var.var l1.length ++ l1) _ (1) O_v7.out (by first | omega | (simp; omega) | (simp [Sl.marks_length]; omega)) (by first | omega | (simp; omega) | (simp [Sl.marks_length]; omega)) (by first | omega | (simp; omega) | (simp [Sl.marks_length]; omega))).mono ?_
      rintro e w15 ⟨rfl, ho, hg⟩
      replace O_v3 := Lib.hid (Sl.Own.grown O_v3.out hg (Sl.apart_or (Sl.Apart.symm A_v7_v3.out)))
      replace O_v5 := Lib.hid (Sl.Own.grown O_v5.out hg (Sl.apart_or (Sl.Apart.symm A_v7_v5.out)))
      replace O_v6 := Lib.hid (Sl.Own.grown O_v6.out hg (Sl.apart_or (Sl.Apart.symm A_v7_v6.out)))
      replace BB := Lib.hid (BB.out.grown hg (by have := BB.out.size; omega) (fun g hh => (O_v7.out.lt g hh).1))
      replace O_v7 := Lib.hid ho; clear ho hg
      go_wp2_with fail
      refine (Sl.heldByteS _ _ (1) (l0 ++ Var.var l1.length ++ l1).length O_v7.out.holds (by first | omega | (simp; omega) | (simp [Sl.marks_length]; omega)) (by first | omega | (simp; omega) | (simp [Sl.marks_length]; omega)) (by first | omega | (simp; omega) | (simp [Sl.marks_length]; omega))).mono ?_
      rintro e w16 ⟨rfl, rfl⟩
      go_wp2_with fail
      refine (Sl.toByteS _ l0 _ (Q0.out.on BB.out) (by omega)).mono ?_
      rintro e w17 ⟨v11, rfl, ho, hb⟩
      have A_v11_v3 := Lib.hid (Sl.apart_new ho O_v3.out)
      have A_v11_v5 := Lib.hid (Sl.apart_new ho O_v5.out)
      have A_v11_v6 := Lib.hid (Sl.apart_new ho O_v6.out)
      have A_v11_v7 := Lib.hid (Sl.apart_new ho O_v7.out)
      replace ho := ho.mono BB.out.size
      replace O_v3 := Lib.hid (O_v3.out.on hb)
      replace O_v5 := Lib.hid (O_v5.out.on hb)
      replace O_v6 := Lib.hid (O_v6.out.on hb)
      replace O_v7 := Lib.hid (O_v7.out.on hb)
      replace BB := Lib.hid (BB.out.trans (hb.mono BB.out.size))
      have O_v11 := Lib.hid ho; clear ho hb
      go_wp2_with fail
      refine (Sl.toByteS _ l1 _ (Q1.out.on BB.out) (by omega)).mono ?_
      rintro e w18 ⟨v12, rfl, ho, hb⟩
      have A_v12_v3 := Lib.hid (Sl.apart_new ho O_v3.out)
      have A_v12_v5 := Lib.hid (Sl.apart_new ho O_v5.out)
      have A_v12_v6 := Lib.hid (Sl.apart_new ho O_v6.out)
      have A_v12_v7 := Lib.hid (Sl.apart_new ho O_v7.out)
      have A_v12_v11 := Lib.hid (Sl.apart_new ho O_v11.out)
      replace ho := ho.mono BB.out.size
      replace O_v3 := Lib.hid (O_v3.out.on hb)
      replace O_v5 := Lib.hid (O_v5.out.on hb)
      replace O_v6 := Lib.hid (O_v6.out.on hb)
      replace O_v7 := Lib.hid (O_v7.out.on hb)
      replace O_v11 := Lib.hid (O_v11.out.on hb)
      replace BB := Lib.hid (BB.out.trans (hb.mono BB.out.size))
      have O_v12 := Lib.hid ho; clear ho hb
      go_wp2_with fail
      have f14 := Var.var_len l1.length
      refine (Sl.implAppendBytes _ _ (l0) (l1) _ (O_v11.out.holds) (O_v12.out.holds) (by omega) (by omega)).mono ?_
      rintro e w19 ⟨v13, rfl, ho, hb⟩
      have A_v13_v3 := Lib.hid (Sl.apart_new ho O_v3.out)
      have A_v13_v5 := Lib.hid (Sl.apart_new ho O_v5.out)
      have A_v13_v6 := Lib.hid (Sl.apart_new ho O_v6.out)
      have A_v13_v7 := Lib.hid (Sl.apart_new ho O_v7.out)
      have A_v13_v11 := Lib.hid (Sl.apart_new ho O_v11.out)
      have A_v13_v12 := Lib.hid (Sl.apart_new ho O_v12.out)
      replace ho := ho.mono BB.out.size
      replace O_v3 := Lib.hid (O_v3.out.on hb)
      replace O_v5 := Lib.hid (O_v5.out.on hb)
      replace O_v6 := Lib.hid (O_v6.out.on hb)
      replace O_v7 := Lib.hid (O_v7.out.on hb)
      replace O_v11 := Lib.hid (O_v11.out.on hb)
      replace O_v12 := Lib.hid (O_v12.out.on hb)
      replace BB := Lib.hid (BB.out.trans (hb.mono BB.out.size))
      have O_v13 := Lib.hid ho; clear ho
      clear hb
      go_wp2_with fail
      clear O_v11
      clear O_v12
      refine (Sl.sameByteS _ _ (l0 ++ Var.var l1.length ++ l1) _ (O_v13.out.holds) (O_v3.out.holds) (by first | omega | (simp; omega) | (simp [Sl.marks_length]; omega))).mono ?_
      rintro e w20 ⟨rfl, hb⟩
      replace O_v3 := Lib.hid (O_v3.out.on hb)
      replace O_v5 := Lib.hid (O_v5.out.on hb)
      replace O_v6 := Lib.hid (O_v6.out.on hb)
      replace O_v7 := Lib.hid (O_v7.out.on hb)
      replace O_v13 := Lib.hid (O_v13.out.on hb)
      replace BB := Lib.hid (BB.out.trans (hb.mono BB.out.size))
      clear hb
      go_wp2_with fail
      refine (Sl.heldByteS _ _ (1) (l0 ++ Var.var l1.length ++ l1).length O_v7.out.holds (by first | omega | (simp; omega) | (simp [Sl.marks_length]; omega)) (by first | omega | (simp; omega) | (simp [Sl.marks_length]; omega)) (by first | omega | (simp; omega) | (simp [Sl.marks_length]; omega))).mono ?_
      rintro e w21 ⟨rfl, rfl⟩
      go_wp2_with fail
      go_ret
      exact ⟨rfl, BB.out⟩
    · have t1 : (1048576 : Int) < (l1.length : Int) := by omega
      go_enter Try.func7, Try.ntmps7
      go_wp2
      go_ret
      exact ⟨rfl, Below.refl _ _⟩
  · have t0 : (1048576 : Int) < (l0.length : Int) := by omega
    go_enter Try.func7, Try.ntmps7
    go_wp2
    go_ret
    exact ⟨rfl, Below.refl _ _⟩

set_option maxRecDepth 100000 in
theorem lifted (os : Os) (started : os.Started) (H : Type) (enc : TypeId × Value → H) :
    ReturnsInHanded {} Try.checked os 7 .any (Rows.fnExactAppendBytesSpec.pre6 enc Try.prog Try.f7 Rows.fnExactAppendBytesRow.domain false) (Rows.fnExactAppendBytesSpec.post enc Try.prog Try.f7 false true false false) := by
  refine returnsInHanded_of_change_sized (C := Try.checked) own started (by kernel_rfl) Try.func7
    (ChangeSpec.witness6 (enc := enc) (C := Try.checked) false ⟨#[], #[.slice none 0 0, .slice none 0 0], []⟩ 8 (by kernel_rfl) (by kernel_rfl) (by kernel_rfl) (by kernel_rfl)) ?_
  intro W base args ds gs before hval0 hW _ hsz0 _
  have hval : ∀ (j : Nat) t v, Try.f7.params[j]? = some t → args[j]? = some v → Value.okWide Try.prog W .any base t v := hval0
  have hsz : (DataW.weightsEach Try.prog (Try.f7.params.toList ++ Rows.fnExactAppendBytesSpec.plain.varTypes Try.prog) (ds ++ gs)).all (· ≤ reachBytes) = true := hsz0
  clear hsz0
  have hW' := hW
  obtain ⟨p, q, hA0, hV, rfl, hfz, hnd⟩ := hW
  have hA : DataW.TrodAll enc Try.prog W 0 (fun _ => true) true Try.f7.params.toList args.toList ds p := hA0
  rw [Try.params7] at hA hval hsz
  obtain ⟨v0, vs0, d0, ds0, p0, q0, hargs, rfl, rfl, h0, r0⟩ := trodAll_cons hA
  obtain ⟨v1, vs1, d1, ds1, p1, q1, rfl, rfl, rfl, h1, r1⟩ := trodAll_cons r0
  obtain ⟨rfl, rfl, rfl⟩ := trodAll_nil r1
  obtain rfl : args = #[v0, v1] := by cases args; simp_all
  obtain ⟨rfl, rfl⟩ := trodVars_none hV
  obtain ⟨l0, q0, n0, m0⟩ := Sl.open_holds (j := 0) Try.underlying22 Try.underlying5 (by kernel_rfl) (of_decide_eq_true (by kernel_rfl)) (hval 0 22 v0 rfl rfl) h0 hsz rfl rfl
  obtain ⟨l1, q1, n1, m1⟩ := Sl.open_holds (j := 1) Try.underlying22 Try.underlying5 (by kernel_rfl) (of_decide_eq_true (by kernel_rfl)) (hval 1 22 v1 rfl rfl) h1 hsz rfl rfl
  clear hA0 hval0
  refine (walk W _ _ q0 n0 m0 _ _ q1 n1 m1).mono fun e W' ⟨he, hb⟩ => ?_
  subst he
  exact ⟨_, rfl, Frame.law_post laidOut (by kernel_rfl) rfl Try.underlying4 rfl rfl hW' hb⟩

theorem said : Rows.FnExactAppendBytesSaid :=
  OpenClaim.holds_of_wide 7 Try.f7 rfl rfl rfl rfl rfl rfl rfl ⟨rfl, rfl, rfl, rfl, rfl⟩ rfl rfl rfl rfl rfl (by kernel_rfl) Try.func7 (by kernel_rfl)
    (of_decide_eq_true (by kernel_rfl)) (by unfold Func.isWrapper; first | (rw [if_pos (by decide +kernel)]; kernel_rfl) | (rw [if_neg (by decide +kernel)]; exact ⟨rfl, rfl⟩))
    (fun os started H enc _ => lifted os started H enc)

#print axioms said
end Go.Proofs.Ytcoghpigeccjoaa.fnExactAppendBytes
