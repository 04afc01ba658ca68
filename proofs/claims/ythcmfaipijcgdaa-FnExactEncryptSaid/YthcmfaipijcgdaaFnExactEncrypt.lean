/- FnExactEncrypt answers true at every secret and every slice of bytes: the program enciphers it as the reference model does, in memory of its own. No conditions. -/
import Derived.Test.YthcmfaipijcgdaaRows
import Derived.WalkKit
import Derived.ProofKit
import Derived.OpenShut
import Derived.SizedLaws
import Derived.Test.YthcmfaipijcgdaaFrame
import Derived.Test.YthcmfaipijcgdaaSealC
import Derived.Test.YthcmfaipijcgdaaOpen
namespace Go.Proofs.Ythcmfaipijcgdaa.fnExactEncrypt
open Go.ChangeShapes Go.WideShapes Go.ChangeAt Go.RowKit
open Go.ChangeMaps (open_string shut_string)
set_option linter.unusedVariables false

theorem own : ownKnob Try.prog.godebug = none := by kernel_rfl
theorem laidOut : laidOutB Try.prog = true := by kernel_rfl

set_option maxRecDepth 100000 in
set_option maxHeartbeats 4000000 in
theorem walk (a0 : Int) (w0 : (Lit.int .i64 a0).wf = true) (w : World) (y1 : Value) (l1 : List Int) (q1 : Sl.Holds .u8 w y1 l1) (n1 : ∀ x ∈ l1, (Lit.int .u8 x).wf = true) (m1 : l1.length ≤ 140737488351232) :
    Calls Try.prog 8 #[.int .i64 a0, y1] w fun e w' => e = .returned (.bool true) ∧ Below w.heap.size w w' := by
  obtain ⟨x1, c1, rfl, -, q1⟩ := q1.shape
  by_cases t1 : l1.length ≤ 1048576
  · -- in
    have Q1 := Lib.hid q1; have N1 := Lib.hid n1; clear q1 n1
    have BB := Lib.hid (Below.refl w.heap.size w)
    go_enter Try.func8, Try.ntmps8
    go_wp2_with fail
    refine (Sl.toByteS _ l1 _ (Q1.out.on BB.out) (by omega)).mono ?_
    rintro e w1 ⟨v1, rfl, ho, hb⟩
    replace ho := ho.mono BB.out.size
    replace BB := Lib.hid (BB.out.trans (hb.mono BB.out.size))
    have O_v1 := Lib.hid ho; clear ho hb
    go_wp2_with fail
    have f3 := Seal.enc_length a0 l1
    refine (Sl.specEncrypt a0 _ (l1) _ (O_v1.out.holds) (Sl.byt_of_wf N1.out) (by omega)).mono ?_
    rintro e w2 ⟨v2, rfl, ho, hb⟩
    have A_v2_v1 := Lib.hid (Sl.apart_new ho O_v1.out)
    replace ho := ho.mono BB.out.size
    replace O_v1 := Lib.hid (O_v1.out.on hb)
    replace BB := Lib.hid (BB.out.trans (hb.mono BB.out.size))
    have O_v2 := Lib.hid ho; clear ho
    clear hb
    go_wp2_with fail
    clear O_v1
    refine (Sl.toByteS _ l1 _ (Q1.out.on BB.out) (by omega)).mono ?_
    rintro e w3 ⟨v4, rfl, ho, hb⟩
    have A_v4_v2 := Lib.hid (Sl.apart_new ho O_v2.out)
    replace ho := ho.mono BB.out.size
    replace O_v2 := Lib.hid (O_v2.out.on hb)
    replace BB := Lib.hid (BB.out.trans (hb.mono BB.out.size))
    have O_v4 := Lib.hid ho; clear ho hb
    go_wp2_with fail
    have f6 := Seal.enc_length a0 l1
    refine (Sl.implEncrypt a0 _ (l1) _ (O_v4.out.holds) (Sl.byt_of_wf N1.out) (by omega)).mono ?_
    rintro e w4 ⟨v5, rfl, ho, hb⟩
    have A_v5_v2 := Lib.hid (Sl.apart_new ho O_v2.out)
    have A_v5_v4 := Lib.hid (Sl.apart_new ho O_v4.out)
    replace ho := ho.mono BB.out.size
    replace O_v2 := Lib.hid (O_v2.out.on hb)
    replace O_v4 := Lib.hid (O_v4.out.on hb)
    replace BB := Lib.hid (BB.out.trans (hb.mono BB.out.size))
    have O_v5 := Lib.hid ho; clear ho
    clear hb
    go_wp2_with fail
    refine (Sl.sameByteS _ _ (Seal.enc a0 l1) _ (O_v5.out.holds) (O_v2.out.holds) (by first | omega | (simp; omega) | (simp [Sl.marks_length]; omega))).mono ?_
    rintro e w5 ⟨rfl, hb⟩
    replace O_v2 := Lib.hid (O_v2.out.on hb)
    replace O_v4 := Lib.hid (O_v4.out.on hb)
    replace O_v5 := Lib.hid (O_v5.out.on hb)
    replace BB := Lib.hid (BB.out.trans (hb.mono BB.out.size))
    clear hb
    go_wp2_with fail
    refine (Sl.toByteS _ l1 _ (Q1.out.on BB.out) (by omega)).mono ?_
    rintro e w6 ⟨v7, rfl, ho, hb⟩
    have A_v7_v2 := Lib.hid (Sl.apart_new ho O_v2.out)
    have A_v7_v4 := Lib.hid (Sl.apart_new ho O_v4.out)
    have A_v7_v5 := Lib.hid (Sl.apart_new ho O_v5.out)
    replace ho := ho.mono BB.out.size
    replace O_v2 := Lib.hid (O_v2.out.on hb)
    replace O_v4 := Lib.hid (O_v4.out.on hb)
    replace O_v5 := Lib.hid (O_v5.out.on hb)
    replace BB := Lib.hid (BB.out.trans (hb.mono BB.out.size))
    have O_v7 := Lib.hid ho; clear ho hb
    go_wp2_with fail
    refine (Sl.sameByteS _ _ (l1) _ (O_v4.out.holds) (O_v7.out.holds) (by first | omega | (simp; omega) | (simp [Sl.marks_length]; omega))).mono ?_
    rintro e w7 ⟨rfl, hb⟩
    replace O_v2 := Lib.hid (O_v2.out.on hb)
    replace O_v4 := Lib.hid (O_v4.out.on hb)
    replace O_v5 := Lib.hid (O_v5.out.on hb)
    replace O_v7 := Lib.hid (O_v7.out.on hb)
    replace BB := Lib.hid (BB.out.trans (hb.mono BB.out.size))
    clear hb
    go_wp2_with fail
    clear O_v7
    refine (Sl.markByteS _ _ (l1) _ (1) O_v4.out (by first | omega | (simp; omega) | (simp [Sl.marks_length]; omega)) (by first | omega | (simp; omega) | (simp [Sl.marks_length]; omega)) (by first | omega | (simp; omega) | (simp [Sl.marks_length]; omega))).mono ?_
    rintro e w8 ⟨rfl, ho, hg⟩
    replace O_v2 := Lib.hid (Sl.Own.grown O_v2.out hg (Sl.apart_or (Sl.Apart.symm A_v4_v2.out)))
    replace O_v5 := Lib.hid (Sl.Own.grown O_v5.out hg (Sl.apart_or A_v5_v4.out))
    replace BB := Lib.hid (BB.out.grown hg (by have := BB.out.size; omega) (fun g hh => (O_v4.out.lt g hh).1))
    replace O_v4 := Lib.hid ho; clear ho hg
    go_wp2_with fail
    refine (Sl.sameByteS _ _ (Seal.enc a0 l1) _ (O_v5.out.holds) (O_v2.out.holds) (by first | omega | (simp; omega) | (simp [Sl.marks_length]; omega))).mono ?_
    rintro e w9 ⟨rfl, hb⟩
    replace O_v2 := Lib.hid (O_v2.out.on hb)
    replace O_v4 := Lib.hid (O_v4.out.on hb)
    replace O_v5 := Lib.hid (O_v5.out.on hb)
    replace BB := Lib.hid (BB.out.trans (hb.mono BB.out.size))
    clear hb
    go_wp2_with fail
    refine (Sl.markByteS _ _ (Seal.enc a0 l1) _ (1) O_v5.out (by first | omega | (simp; omega) | (simp [Sl.marks_length]; omega)) (by first | omega | (simp; omega) | (simp [Sl.marks_length]; omega)) (by first | omega | (simp; omega) | (simp [Sl.marks_length]; omega))).mono ?_
    rintro e w10 ⟨rfl, ho, hg⟩
    replace O_v2 := Lib.hid (Sl.Own.grown O_v2.out hg (Sl.apart_or (Sl.Apart.symm A_v5_v2.out)))
    replace O_v4 := Lib.hid (Sl.Own.grown O_v4.out hg (Sl.apart_or (Sl.Apart.symm A_v5_v4.out)))
    replace BB := Lib.hid (BB.out.grown hg (by have := BB.out.size; omega) (fun g hh => (O_v5.out.lt g hh).1))
    replace O_v5 := Lib.hid ho; clear ho hg
    go_wp2_with fail
    refine (Sl.heldByteS _ _ (1) (Seal.enc a0 l1).length O_v5.out.holds (by first | omega | (simp; omega) | (simp [Sl.marks_length]; omega)) (by first | omega | (simp; omega) | (simp [Sl.marks_length]; omega)) (by first | omega | (simp; omega) | (simp [Sl.marks_length]; omega))).mono ?_
    rintro e w11 ⟨rfl, rfl⟩
    go_wp2_with fail
    refine (Sl.toByteS _ l1 _ (Q1.out.on BB.out) (by omega)).mono ?_
    rintro e w12 ⟨v8, rfl, ho, hb⟩
    have A_v8_v2 := Lib.hid (Sl.apart_new ho O_v2.out)
    have A_v8_v4 := Lib.hid (Sl.apart_new ho O_v4.out)
    have A_v8_v5 := Lib.hid (Sl.apart_new ho O_v5.out)
    replace ho := ho.mono BB.out.size
    replace O_v2 := Lib.hid (O_v2.out.on hb)
    replace O_v4 := Lib.hid (O_v4.out.on hb)
    replace O_v5 := Lib.hid (O_v5.out.on hb)
    replace BB := Lib.hid (BB.out.trans (hb.mono BB.out.size))
    have O_v8 := Lib.hid ho; clear ho hb
    go_wp2_with fail
    have f10 := Seal.enc_length a0 l1
    refine (Sl.implEncrypt a0 _ (l1) _ (O_v8.out.holds) (Sl.byt_of_wf N1.out) (by omega)).mono ?_
    rintro e w13 ⟨v9, rfl, ho, hb⟩
    have A_v9_v2 := Lib.hid (Sl.apart_new ho O_v2.out)
    have A_v9_v4 := Lib.hid (Sl.apart_new ho O_v4.out)
    have A_v9_v5 := Lib.hid (Sl.apart_new ho O_v5.out)
    have A_v9_v8 := Lib.hid (Sl.apart_new ho O_v8.out)
    replace ho := ho.mono BB.out.size
    replace O_v2 := Lib.hid (O_v2.out.on hb)
    replace O_v4 := Lib.hid (O_v4.out.on hb)
    replace O_v5 := Lib.hid (O_v5.out.on hb)
    replace O_v8 := Lib.hid (O_v8.out.on hb)
    replace BB := Lib.hid (BB.out.trans (hb.mono BB.out.size))
    have O_v9 := Lib.hid ho; clear ho
    clear hb
    go_wp2_with fail
    clear O_v8
    refine (Sl.sameByteS _ _ (Seal.enc a0 l1) _ (O_v9.out.holds) (O_v2.out.holds) (by first | omega | (simp; omega) | (simp [Sl.marks_length]; omega))).mono ?_
    rintro e w14 ⟨rfl, hb⟩
    replace O_v2 := Lib.hid (O_v2.out.on hb)
    replace O_v4 := Lib.hid (O_v4.out.on hb)
    replace O_v5 := Lib.hid (O_v5.out.on hb)
    replace O_v9 := Lib.hid (O_v9.out.on hb)
    replace BB := Lib.hid (BB.out.trans (hb.mono BB.out.size))
    clear hb
    go_wp2_with fail
    refine (Sl.heldByteS _ _ (1) (Seal.enc a0 l1).length O_v5.out.holds (by first | omega | (simp; omega) | (simp [Sl.marks_length]; omega)) (by first | omega | (simp; omega) | (simp [Sl.marks_length]; omega)) (by first | omega | (simp; omega) | (simp [Sl.marks_length]; omega))).mono ?_
    rintro e w15 ⟨rfl, rfl⟩
    go_wp2_with fail
    go_ret
    exact ⟨rfl, BB.out⟩
  · have t1 : (1048576 : Int) < (l1.length : Int) := by omega
    go_enter Try.func8, Try.ntmps8
    go_wp2
    go_ret
    exact ⟨rfl, Below.refl _ _⟩

set_option maxRecDepth 100000 in
theorem lifted (os : Os) (started : os.Started) (H : Type) (enc : TypeId × Value → H) :
    ReturnsInHanded {} Try.checked os 8 .any (Rows.fnExactEncryptSpec.pre6 enc Try.prog Try.f8 Rows.fnExactEncryptRow.domain false) (Rows.fnExactEncryptSpec.post enc Try.prog Try.f8 false true false false) := by
  refine returnsInHanded_of_change_sized (C := Try.checked) own started (by kernel_rfl) Try.func8
    (ChangeSpec.witness6 (enc := enc) (C := Try.checked) false ⟨#[], #[.int .i64 0, .slice none 0 0], []⟩ 8 (by kernel_rfl) (by kernel_rfl) (by kernel_rfl) (by kernel_rfl)) ?_
  intro W base args ds gs before hval0 hW _ hsz0 _
  have hval : ∀ (j : Nat) t v, Try.f8.params[j]? = some t → args[j]? = some v → Value.okWide Try.prog W .any base t v := hval0
  have hsz : (DataW.weightsEach Try.prog (Try.f8.params.toList ++ Rows.fnExactEncryptSpec.plain.varTypes Try.prog) (ds ++ gs)).all (· ≤ reachBytes) = true := hsz0
  clear hsz0
  have hW' := hW
  obtain ⟨p, q, hA0, hV, rfl, hfz, hnd⟩ := hW
  have hA : DataW.TrodAll enc Try.prog W 0 (fun _ => true) true Try.f8.params.toList args.toList ds p := hA0
  rw [Try.params8] at hA hval hsz
  obtain ⟨v0, vs0, d0, ds0, p0, q0, hargs, rfl, rfl, h0, r0⟩ := trodAll_cons hA
  obtain ⟨v1, vs1, d1, ds1, p1, q1, rfl, rfl, rfl, h1, r1⟩ := trodAll_cons r0
  obtain ⟨rfl, rfl, rfl⟩ := trodAll_nil r1
  obtain rfl : args = #[v0, v1] := by cases args; simp_all
  obtain ⟨rfl, rfl⟩ := trodVars_none hV
  obtain ⟨a0, rfl, rfl, rfl, w0⟩ := open_int Try.underlying3 (hval 0 3 v0 rfl rfl) h0
  obtain ⟨l1, q1, n1, m1⟩ := Sl.open_holds (j := 1) Try.underlying22 Try.underlying5 (by kernel_rfl) (of_decide_eq_true (by kernel_rfl)) (hval 1 22 v1 rfl rfl) h1 hsz rfl rfl
  clear hA0 hval0
  refine (walk a0 w0 W _ _ q1 n1 m1).mono fun e W' ⟨he, hb⟩ => ?_
  subst he
  exact ⟨_, rfl, Frame.law_post laidOut (by kernel_rfl) rfl Try.underlying4 rfl rfl hW' hb⟩

theorem said : Rows.FnExactEncryptSaid :=
  OpenClaim.holds_of_wide 8 Try.f8 rfl rfl rfl rfl rfl rfl rfl ⟨rfl, rfl, rfl, rfl, rfl⟩ rfl rfl rfl rfl rfl (by kernel_rfl) Try.func8 (by kernel_rfl)
    (of_decide_eq_true (by kernel_rfl)) (by unfold Func.isWrapper; first | (rw [if_pos (by decide +kernel)]; kernel_rfl) | (rw [if_neg (by decide +kernel)]; exact ⟨rfl, rfl⟩))
    (fun os started H enc _ => lifted os started H enc)

#print axioms said
end Go.Proofs.Ythcmfaipijcgdaa.fnExactEncrypt
