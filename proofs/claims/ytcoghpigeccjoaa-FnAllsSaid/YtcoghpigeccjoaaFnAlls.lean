/- Several integers are decoded one after the other, for every draw. No conditions. -/
import Derived.Test.YtcoghpigeccjoaaRows
import Derived.WalkKit
import Derived.ProofKit
import Derived.OpenShut
import Derived.SizedLaws
import Derived.Test.YtcoghpigeccjoaaFrame
import Derived.Test.YtcoghpigeccjoaaSame
import Derived.Test.YtcoghpigeccjoaaVarBack
import Derived.Test.YtcoghpigeccjoaaDrawVar
namespace Go.Proofs.Ytcoghpigeccjoaa.fnAlls
open Go.ChangeShapes Go.WideShapes Go.ChangeAt Go.RowKit
open Go.ChangeMaps (open_string shut_string)
set_option linter.unusedVariables false

theorem own : ownKnob Try.prog.godebug = none := by kernel_rfl
theorem laidOut : laidOutB Try.prog = true := by kernel_rfl

set_option maxRecDepth 100000 in
set_option maxHeartbeats 4000000 in
theorem walk (w : World) (y0 : Value) (l0 : List UInt8) (q0 : Frame.Bytes w y0 l0) :
    Calls Try.prog 4 #[y0] w fun e w' => e = .returned (.bool true) ∧ Below w.heap.size w w' := by
  by_cases hlen : (l0.length : Int) ≤ 1048576
  · obtain ⟨x, cap, rfl, -⟩ := Draw.bytes_at q0
    have hl : decide ((1048576 : Int) < (l0.length : Int)) = false := by simpa using hlen
    have Q0 := Lib.hid q0; clear q0 hlen
    obtain ⟨n0, hn0⟩ : ∃ n0, n0 = l0.length := ⟨_, rfl⟩
    rw [← hn0] at hl Q0 ⊢
    clear hn0
    have BB := Lib.hid (Below.refl w.heap.size w)
    go_enter Try.func4, Try.ntmps4
    go_wp2_with fail
    refine (Draw.big_no x n0 cap w hl).mono ?_
    rintro e w' ⟨rfl, rfl⟩
    go_wp2_with fail
    refine (Draw.drawEncodeInts _ _ l0 (Q0.out.on BB.out)).mono ?_
    rintro e w1 ⟨x1, m1, rfl, hx1, my1, ml1, hb⟩
    replace hx1 := hx1.mono BB.out.size
    replace BB := Lib.hid (BB.out.trans (hb.mono BB.out.size)); clear hb
    have Ox1 := Lib.hid hx1; clear hx1
    have MY1 := Lib.hid my1; clear my1
    go_wp2_with fail
    refine (Draw.drawDecodeInts _ _ l0 (Q0.out.on BB.out)).mono ?_
    rintro e w2 ⟨x2, m2, i2, n2, rfl, hx2, my2, ml2, wi2, wn2, hb⟩
    replace hx2 := hx2.mono BB.out.size
    replace Ox1 := Lib.hid (Ox1.out.on hb)
    replace BB := Lib.hid (BB.out.trans (hb.mono BB.out.size)); clear hb
    have Ox2 := Lib.hid hx2; clear hx2
    have MY2 := Lib.hid my2; clear my2 wi2 wn2
    go_wp2_with fail
    refine (Sl.implDecodeInts _ m2 i2 n2 _ Ox2.out.holds MY2.out (by omega)).mono ?_
    rintro e w3 ⟨x3, rfl, hx3, hb⟩
    replace hx3 := hx3.mono BB.out.size
    replace Ox1 := Lib.hid (Ox1.out.on hb)
    replace Ox2 := Lib.hid (Ox2.out.on hb)
    replace BB := Lib.hid (BB.out.trans (hb.mono BB.out.size)); clear hb
    have Ox3 := Lib.hid hx3; clear hx3
    go_wp2_with fail
    refine (Sl.specDecodeInts _ m2 i2 n2 _ Ox2.out.holds MY2.out (by omega)).mono ?_
    rintro e w4 ⟨x4, rfl, hx4, hb⟩
    replace hx4 := hx4.mono BB.out.size
    replace Ox1 := Lib.hid (Ox1.out.on hb)
    replace Ox2 := Lib.hid (Ox2.out.on hb)
    replace Ox3 := Lib.hid (Ox3.out.on hb)
    replace BB := Lib.hid (BB.out.trans (hb.mono BB.out.size)); clear hb
    have Ox4 := Lib.hid hx4; clear hx4
    have hrl := Sl.readIs_len m2 i2 n2
    have HFULL := Lib.hid (Var.readIs_full (l := m2) (i := i2) (n := n2))
    obtain ⟨R, hR⟩ : ∃ R, R = Sl.readIs m2 i2 n2 := ⟨_, rfl⟩
    rw [← hR] at Ox3 Ox4 HFULL hrl ⊢
    clear hR
    obtain ⟨Rl, Ri, Rok⟩ := R
    simp only at Ox3 Ox4 HFULL hrl ⊢
    go_wp2_with fail
    refine (Draw.drawEqualBytes _ _ l0 (Q0.out.on BB.out)).mono ?_
    rintro e w5 ⟨x5, m5, x6, m6, rfl, hx5, my5, ml5, hx6, my6, ml6, hb⟩
    replace hx5 := hx5.mono BB.out.size
    replace hx6 := hx6.mono BB.out.size
    replace Ox1 := Lib.hid (Ox1.out.on hb)
    replace Ox2 := Lib.hid (Ox2.out.on hb)
    replace Ox3 := Lib.hid (Ox3.out.on hb)
    replace Ox4 := Lib.hid (Ox4.out.on hb)
    replace BB := Lib.hid (BB.out.trans (hb.mono BB.out.size)); clear hb
    have Ox5 := Lib.hid hx5; clear hx5
    have Ox6 := Lib.hid hx6; clear hx6
    have MY5 := Lib.hid my5; have MY6 := Lib.hid my6; clear my5 my6
    have hel := Sl.encs_len m1
    go_wp2_with fail
    refine (Sl.implEncodeInts _ m1 _ Ox1.out.holds (by omega)).mono ?_
    rintro e w6 ⟨x7, rfl, hx7, hb⟩
    replace hx7 := hx7.mono BB.out.size
    replace Ox1 := Lib.hid (Ox1.out.on hb)
    replace Ox2 := Lib.hid (Ox2.out.on hb)
    replace Ox3 := Lib.hid (Ox3.out.on hb)
    replace Ox4 := Lib.hid (Ox4.out.on hb)
    replace Ox5 := Lib.hid (Ox5.out.on hb)
    replace Ox6 := Lib.hid (Ox6.out.on hb)
    replace BB := Lib.hid (BB.out.trans (hb.mono BB.out.size)); clear hb
    have Ox7 := Lib.hid hx7; clear hx7
    go_wp2_with fail
    refine (Sl.specEncodeInts _ m1 _ Ox1.out.holds (by omega)).mono ?_
    rintro e w7 ⟨x8, rfl, hx8, hb⟩
    replace hx8 := hx8.mono BB.out.size
    replace Ox1 := Lib.hid (Ox1.out.on hb)
    replace Ox2 := Lib.hid (Ox2.out.on hb)
    replace Ox3 := Lib.hid (Ox3.out.on hb)
    replace Ox4 := Lib.hid (Ox4.out.on hb)
    replace Ox5 := Lib.hid (Ox5.out.on hb)
    replace Ox6 := Lib.hid (Ox6.out.on hb)
    replace Ox7 := Lib.hid (Ox7.out.on hb)
    replace BB := Lib.hid (BB.out.trans (hb.mono BB.out.size)); clear hb
    have Ox8 := Lib.hid hx8; clear hx8
    go_wp2_with fail
    refine (Sl.sameB_self _ _ _ _ Ox7.out.holds Ox8.out.holds (by omega)).mono ?_
    rintro e w8 ⟨rfl, hb⟩
    replace Ox1 := Lib.hid (Ox1.out.on hb)
    replace Ox2 := Lib.hid (Ox2.out.on hb)
    replace Ox3 := Lib.hid (Ox3.out.on hb)
    replace Ox4 := Lib.hid (Ox4.out.on hb)
    replace Ox5 := Lib.hid (Ox5.out.on hb)
    replace Ox6 := Lib.hid (Ox6.out.on hb)
    replace Ox7 := Lib.hid (Ox7.out.on hb)
    replace Ox8 := Lib.hid (Ox8.out.on hb)
    replace BB := Lib.hid (BB.out.trans (hb.mono BB.out.size)); clear hb
    go_wp2_with fail
    refine (Sl.sameI_self _ _ _ _ Ox3.out.holds Ox4.out.holds (by omega)).mono ?_
    rintro e w9 ⟨rfl, hb⟩
    replace Ox1 := Lib.hid (Ox1.out.on hb)
    replace Ox2 := Lib.hid (Ox2.out.on hb)
    replace Ox3 := Lib.hid (Ox3.out.on hb)
    replace Ox4 := Lib.hid (Ox4.out.on hb)
    replace Ox5 := Lib.hid (Ox5.out.on hb)
    replace Ox6 := Lib.hid (Ox6.out.on hb)
    replace Ox7 := Lib.hid (Ox7.out.on hb)
    replace Ox8 := Lib.hid (Ox8.out.on hb)
    replace BB := Lib.hid (BB.out.trans (hb.mono BB.out.size)); clear hb
    go_wp2_with fail
    refine (Sl.implEqualBytes _ _ m5 m6 _ Ox5.out.holds Ox6.out.holds MY5.out MY6.out).mono ?_
    rintro e w10 ⟨rfl, rfl⟩
    go_wp2_with fail
    refine (Sl.sameB _ _ m5 m6 _ Ox5.out.holds Ox6.out.holds (by omega) (by omega)).mono ?_
    rintro e w11 ⟨rfl, hb⟩
    replace Ox1 := Lib.hid (Ox1.out.on hb)
    replace Ox2 := Lib.hid (Ox2.out.on hb)
    replace Ox3 := Lib.hid (Ox3.out.on hb)
    replace Ox4 := Lib.hid (Ox4.out.on hb)
    replace Ox5 := Lib.hid (Ox5.out.on hb)
    replace Ox6 := Lib.hid (Ox6.out.on hb)
    replace Ox7 := Lib.hid (Ox7.out.on hb)
    replace Ox8 := Lib.hid (Ox8.out.on hb)
    replace BB := Lib.hid (BB.out.trans (hb.mono BB.out.size)); clear hb
    clear Ox2
    clear Ox4
    clear Ox5
    clear Ox6
    clear Ox7
    clear Ox8
    obtain ⟨a1, c1, rfl, -, -⟩ := Ox1.out.holds.shape
    obtain ⟨N, hN⟩ : ∃ N, N = m1.length := ⟨_, rfl⟩
    rw [← hN] at Ox1 ml1 hel ⊢
    have HN := Lib.hid hN; clear hN
    go_wp2_with fail
    go_loopw [15] (fun iv wr => ∃ k : Nat, k ≤ N ∧ iv = .int .i64 k ∧ Hid (∀ j, j < k → 0 ≤ Sl.nth m1 j ∧ Sl.nth m1 j ≤ 1000000000000) ∧ Hid (wr = w11)) (fun iv _ => N - (intOf iv).toNat)
    case atStart => exact ⟨0, Nat.zero_le _, rfl, Lib.hid (fun j hj => absurd hj (by omega)), Lib.hid rfl⟩
    case round =>
      obtain ⟨k, hk, rfl, hin, hwr⟩ := hrel
      obtain rfl := hwr.out
      clear hwr
      by_cases hlt : k < N
      · have hlen := HN.out
        obtain ⟨b, off, rfl, hc⟩ := Ox1.out.holds.at (j := k) (by omega)
        clear hlen
        by_cases h0 : Sl.nth m1 k < 0
        · go_wp2_with fail
          go_ret
          exact ⟨rfl, BB.out⟩
        · by_cases h1 : 1000000000000 < Sl.nth m1 k
          · have h0 : 0 ≤ Sl.nth m1 k := by omega
            go_wp2_with fail
            go_ret
            exact ⟨rfl, BB.out⟩
          · have h0 : 0 ≤ Sl.nth m1 k := by omega
            have h2 : Sl.nth m1 k ≤ 1000000000000 := by omega
            have HI := Lib.hid (fun j (hj : j < k + 1) => show 0 ≤ Sl.nth m1 j ∧ Sl.nth m1 j ≤ 1000000000000 by
              by_cases e : j = k
              · subst e; exact ⟨h0, h2⟩
              · exact hin.out j (by omega))
            go_wp2_with fail
            go_roundw
            case rel => exact ⟨k + 1, by omega, by go_num, HI, (by first | exact Lib.hid trivial | exact Lib.hid rfl)⟩
            case measure => simp [intOf]; omega
      · obtain rfl : k = N := by omega
        have hall : ∀ x ∈ m1, 0 ≤ x ∧ x ≤ 1000000000000 := fun x hx => by
          obtain ⟨j, hj, rfl⟩ := List.mem_iff_getElem.1 hx
          have := hin.out j (by have := HN.out; omega)
          rwa [Sl.nth_eq hj] at this
        have HALL := Lib.hid (Var.readIs_all hall (by have := HN.out; omega))
        clear hall hlt
        have BYE := Lib.hid (Draw.byt_encs m1)
        have hel2 : (Sl.encs m1).length ≤ 1000 := by omega
        go_wp2_with fail
        refine (Sl.implEncodeInts _ m1 _ Ox1.out.holds (by have := HN.out; omega)).mono ?_
        rintro e w12 ⟨x7, rfl, hx7, hb⟩
        replace hx7 := hx7.mono BB.out.size
        replace Ox1 := Lib.hid (Ox1.out.on hb)
        replace Ox3 := Lib.hid (Ox3.out.on hb)
        replace BB := Lib.hid (BB.out.trans (hb.mono BB.out.size)); clear hb
        have Ox7 := Lib.hid hx7; clear hx7
        go_wp2_with fail
        have hdec := fun wx hx => Sl.implDecodeInts x7 (Sl.encs m1) 0 (m1.length : Int) wx hx BYE.out (by omega)
        rw [HALL.out] at hdec
        simp only at hdec
        rw [← HN.out] at hdec
        have HD := Lib.hid hdec; clear hdec
        refine (HD.out _ Ox7.out.holds).mono ?_
        rintro e w13 ⟨x9, rfl, hx9, hb⟩
        replace hx9 := hx9.mono BB.out.size
        replace Ox1 := Lib.hid (Ox1.out.on hb)
        replace Ox3 := Lib.hid (Ox3.out.on hb)
        replace Ox7 := Lib.hid (Ox7.out.on hb)
        replace BB := Lib.hid (BB.out.trans (hb.mono BB.out.size)); clear hb
        have Ox9 := Lib.hid hx9; clear hx9
        go_wp2_with fail
        refine (Sl.sameI_self _ _ m1 _ Ox9.out.holds Ox1.out.holds (by have := HN.out; omega)).mono ?_
        rintro e w14 ⟨rfl, hb⟩
        replace Ox1 := Lib.hid (Ox1.out.on hb)
        replace Ox3 := Lib.hid (Ox3.out.on hb)
        replace Ox7 := Lib.hid (Ox7.out.on hb)
        replace Ox9 := Lib.hid (Ox9.out.on hb)
        replace BB := Lib.hid (BB.out.trans (hb.mono BB.out.size)); clear hb
        go_wp2_with fail
        refine (Sl.implEncodeInts _ m1 _ Ox1.out.holds (by have := HN.out; omega)).mono ?_
        rintro e w15 ⟨x10, rfl, hx10, hb⟩
        replace hx10 := hx10.mono BB.out.size
        replace Ox1 := Lib.hid (Ox1.out.on hb)
        replace Ox3 := Lib.hid (Ox3.out.on hb)
        replace Ox7 := Lib.hid (Ox7.out.on hb)
        replace Ox9 := Lib.hid (Ox9.out.on hb)
        replace BB := Lib.hid (BB.out.trans (hb.mono BB.out.size)); clear hb
        have Ox10 := Lib.hid hx10; clear hx10
        obtain ⟨a10, c10, rfl, -, -⟩ := Ox10.out.holds.shape
        obtain ⟨a3, c3, rfl, -, -⟩ := Ox3.out.holds.shape
        cases Rok with
        | false =>
          go_wp2_with fail
          go_ret
          exact ⟨rfl, BB.out⟩
        | true =>
          have hf : ((Rl.length : Int) == n2) = true := by simpa using HFULL.out rfl
          go_wp2_with fail
          go_ret
          exact ⟨rfl, BB.out⟩
  · obtain ⟨x, cap, rfl, -⟩ := Draw.bytes_at q0
    have hl : decide ((1048576 : Int) < (l0.length : Int)) = true := by simpa using hlen
    clear hlen q0
    obtain ⟨n0, hn0⟩ : ∃ n0, n0 = l0.length := ⟨_, rfl⟩
    rw [← hn0] at hl ⊢
    clear hn0
    go_enter Try.func4, Try.ntmps4
    go_wp2_with fail
    refine (Draw.big_yes x n0 cap w hl).mono ?_
    rintro e w' ⟨rfl, rfl⟩
    go_wp2_with fail
    go_ret
    exact ⟨rfl, Below.refl _ _⟩

set_option maxRecDepth 100000 in
theorem lifted (os : Os) (started : os.Started) (H : Type) (enc : TypeId × Value → H) :
    ReturnsInHanded {} Try.checked os 4 .any (Rows.fnAllsSpec.pre6 enc Try.prog Try.f4 Rows.fnAllsRow.domain false) (Rows.fnAllsSpec.post enc Try.prog Try.f4 false true false false) := by
  refine returnsInHanded_of_change_sized (C := Try.checked) own started (by kernel_rfl) Try.func4
    (ChangeSpec.witness6 (enc := enc) (C := Try.checked) false ⟨#[], #[.slice none 0 0], []⟩ 8 (by kernel_rfl) (by kernel_rfl) (by kernel_rfl) (by kernel_rfl)) ?_
  intro W base args ds gs before hval0 hW _ hsz0 _
  have hval : ∀ (j : Nat) t v, Try.f4.params[j]? = some t → args[j]? = some v → Value.okWide Try.prog W .any base t v := hval0
  have hsz : (DataW.weightsEach Try.prog (Try.f4.params.toList ++ Rows.fnAllsSpec.plain.varTypes Try.prog) (ds ++ gs)).all (· ≤ reachBytes) = true := hsz0
  clear hsz0
  have hW' := hW
  obtain ⟨p, q, hA0, hV, rfl, hfz, hnd⟩ := hW
  have hA : DataW.TrodAll enc Try.prog W 0 (fun _ => true) true Try.f4.params.toList args.toList ds p := hA0
  rw [Try.params4] at hA hval hsz
  obtain ⟨v0, vs0, d0, ds0, p0, q0, hargs, rfl, rfl, h0, r0⟩ := trodAll_cons hA
  obtain ⟨rfl, rfl, rfl⟩ := trodAll_nil r0
  obtain rfl : args = #[v0] := by cases args; simp_all
  obtain ⟨rfl, rfl⟩ := trodVars_none hV
  obtain ⟨l0, q0⟩ := Frame.open_bytes (j := 0) Try.underlying22 Try.underlying5 (by kernel_rfl) (by kernel_rfl) (hval 0 22 v0 rfl rfl) h0 hsz rfl rfl
  clear hA0 hval0
  refine (walk W _ _ q0).mono fun e W' ⟨he, hb⟩ => ?_
  subst he
  exact ⟨_, rfl, Frame.law_post laidOut (by kernel_rfl) rfl Try.underlying4 rfl rfl hW' hb⟩

theorem said : Rows.FnAllsSaid :=
  OpenClaim.holds_of_wide 4 Try.f4 rfl rfl rfl rfl rfl rfl rfl ⟨rfl, rfl, rfl, rfl, rfl⟩ rfl rfl rfl rfl rfl (by kernel_rfl) Try.func4 (by kernel_rfl)
    (of_decide_eq_true (by kernel_rfl)) (by unfold Func.isWrapper; first | (rw [if_pos (by decide +kernel)]; kernel_rfl) | (rw [if_neg (by decide +kernel)]; exact ⟨rfl, rfl⟩))
    (fun os started H enc _ => lifted os started H enc)

#print axioms said
end Go.Proofs.Ytcoghpigeccjoaa.fnAlls
