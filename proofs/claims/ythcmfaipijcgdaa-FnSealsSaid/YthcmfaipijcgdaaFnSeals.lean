/- FnSeals answers true at every slice of bytes: a MAC depends on each of its integers, enciphered bytes are deciphered, and the program answers as the reference model. No conditions. -/
import Derived.Test.YthcmfaipijcgdaaRows
import Derived.WalkKit
import Derived.ProofKit
import Derived.OpenShut
import Derived.SizedLaws
import Derived.Test.YthcmfaipijcgdaaFrame
import Derived.Test.YthcmfaipijcgdaaDrawSeal
import Derived.Test.YthcmfaipijcgdaaSealC
import Derived.Test.YthcmfaipijcgdaaLaw
import Derived.Test.YthcmfaipijcgdaaOpen
namespace Go.Proofs.Ythcmfaipijcgdaa.fnSeals
open Go.ChangeShapes Go.WideShapes Go.ChangeAt Go.RowKit
open Go.ChangeMaps (open_string shut_string)
set_option linter.unusedVariables false

theorem own : ownKnob Try.prog.godebug = none := by kernel_rfl
theorem laidOut : laidOutB Try.prog = true := by kernel_rfl

set_option maxRecDepth 100000 in
set_option maxHeartbeats 4000000 in
theorem walk (w : World) (y0 : Value) (l0 : List UInt8) (q0 : Frame.Bytes w y0 l0) :
    Calls Try.prog 3 #[y0] w fun e w' => e = .returned (.bool true) ∧ Below w.heap.size w w' := by
  by_cases hlen : (l0.length : Int) ≤ 1048576
  · obtain ⟨x, cap, rfl, -⟩ := Draw.bytes_at q0
    have hl : decide ((1048576 : Int) < (l0.length : Int)) = false := by simpa using hlen
    have Q0 := Lib.hid q0; clear q0 hlen
    obtain ⟨n0, hn0⟩ : ∃ n0, n0 = l0.length := ⟨_, rfl⟩
    rw [← hn0] at hl Q0 ⊢
    have HN0 := Lib.hid hn0; clear hn0
    have BB := Lib.hid (Below.refl w.heap.size w)
    go_enter Try.func3, Try.ntmps3
    go_wp2_with fail
    refine (Draw.big_no x n0 cap w hl).mono ?_
    rintro e w' ⟨rfl, rfl⟩
    go_wp2_with fail
    refine (Draw.drawComputeMAC _ _ l0 (Q0.out.on BB.out)).mono ?_
    rintro e w1 ⟨k1, x1, m1, rfl, wk1, hx1, wy1, ml1, hb⟩
    replace hx1 := hx1.mono BB.out.size
    replace BB := Lib.hid (BB.out.trans (hb.mono BB.out.size)); clear hb
    have Ox1 := Lib.hid hx1; clear hx1
    clear wk1 wy1
    go_wp2_with fail
    refine (Draw.drawDigest _ _ l0 (Q0.out.on BB.out)).mono ?_
    rintro e w2 ⟨x2, m2, rfl, hx2, wy2, ml2, hb⟩
    replace hx2 := hx2.mono BB.out.size
    replace Ox1 := Lib.hid (Ox1.out.on hb)
    replace BB := Lib.hid (BB.out.trans (hb.mono BB.out.size)); clear hb
    have Ox2 := Lib.hid hx2; clear hx2
    clear wy2
    go_wp2_with fail
    refine (Draw.drawValidSecret _ _ l0 (Q0.out.on BB.out)).mono ?_
    rintro e w3 ⟨s3, rfl, ws3, hb⟩
    replace Ox1 := Lib.hid (Ox1.out.on hb)
    replace Ox2 := Lib.hid (Ox2.out.on hb)
    replace BB := Lib.hid (BB.out.trans (hb.mono BB.out.size)); clear hb
    clear ws3
    go_wp2_with fail
    refine (Draw.drawEncrypt _ _ l0 (Q0.out.on BB.out)).mono ?_
    rintro e w4 ⟨k4, x4, m4, rfl, wk4, hx4, my4, ml4, hb⟩
    replace hx4 := hx4.mono BB.out.size
    replace Ox1 := Lib.hid (Ox1.out.on hb)
    replace Ox2 := Lib.hid (Ox2.out.on hb)
    replace BB := Lib.hid (BB.out.trans (hb.mono BB.out.size)); clear hb
    have Ox4 := Lib.hid hx4; clear hx4
    have MY4 := Lib.hid my4; clear my4 wk4
    have EL4 := Seal.enc_length k4 m4
    have DL4 := Seal.dec_length k4 m4
    go_wp2_with fail
    refine (Draw.drawEqualInts _ _ l0 (Q0.out.on BB.out)).mono ?_
    rintro e w5 ⟨x5, m5, x6, m6, rfl, hx5, wy5, ml5, hx6, wy6, ml6, hb⟩
    replace hx5 := hx5.mono BB.out.size
    replace hx6 := hx6.mono BB.out.size
    replace Ox1 := Lib.hid (Ox1.out.on hb)
    replace Ox2 := Lib.hid (Ox2.out.on hb)
    replace Ox4 := Lib.hid (Ox4.out.on hb)
    replace BB := Lib.hid (BB.out.trans (hb.mono BB.out.size)); clear hb
    have Ox5 := Lib.hid hx5; clear hx5
    have Ox6 := Lib.hid hx6; clear hx6
    clear wy5 wy6
    go_wp2_with fail
    refine (Draw.drawBytesToInts _ _ l0 (Q0.out.on BB.out)).mono ?_
    rintro e w6 ⟨x7, m7, rfl, hx7, my7, ml7, hb⟩
    replace hx7 := hx7.mono BB.out.size
    replace Ox1 := Lib.hid (Ox1.out.on hb)
    replace Ox2 := Lib.hid (Ox2.out.on hb)
    replace Ox4 := Lib.hid (Ox4.out.on hb)
    replace Ox5 := Lib.hid (Ox5.out.on hb)
    replace Ox6 := Lib.hid (Ox6.out.on hb)
    replace BB := Lib.hid (BB.out.trans (hb.mono BB.out.size)); clear hb
    have Ox7 := Lib.hid hx7; clear hx7
    have MY7 := Lib.hid my7; clear my7
    have BL7 := Seal.b2i_length m7
    go_wp2_with fail
    refine (Draw.drawDeriveSecret _ _ l0 (Q0.out.on BB.out)).mono ?_
    rintro e w7 ⟨k8, t8, rfl, wk8, tl8, hb⟩
    replace Ox1 := Lib.hid (Ox1.out.on hb)
    replace Ox2 := Lib.hid (Ox2.out.on hb)
    replace Ox4 := Lib.hid (Ox4.out.on hb)
    replace Ox5 := Lib.hid (Ox5.out.on hb)
    replace Ox6 := Lib.hid (Ox6.out.on hb)
    replace Ox7 := Lib.hid (Ox7.out.on hb)
    replace BB := Lib.hid (BB.out.trans (hb.mono BB.out.size)); clear hb
    clear wk8
    go_wp2_with fail
    refine (Sl.implComputeMAC k1 _ m1 _ Ox1.out.holds (by omega)).mono ?_
    rintro e w8 ⟨rfl, hb⟩
    replace Ox1 := Lib.hid (Ox1.out.on hb)
    replace Ox2 := Lib.hid (Ox2.out.on hb)
    replace Ox4 := Lib.hid (Ox4.out.on hb)
    replace Ox5 := Lib.hid (Ox5.out.on hb)
    replace Ox6 := Lib.hid (Ox6.out.on hb)
    replace Ox7 := Lib.hid (Ox7.out.on hb)
    replace BB := Lib.hid (BB.out.trans (hb.mono BB.out.size)); clear hb
    go_wp2_with fail
    refine (Sl.specComputeMAC k1 _ m1 _ Ox1.out.holds (by omega)).mono ?_
    rintro e w9 ⟨rfl, hb⟩
    replace Ox1 := Lib.hid (Ox1.out.on hb)
    replace Ox2 := Lib.hid (Ox2.out.on hb)
    replace Ox4 := Lib.hid (Ox4.out.on hb)
    replace Ox5 := Lib.hid (Ox5.out.on hb)
    replace Ox6 := Lib.hid (Ox6.out.on hb)
    replace Ox7 := Lib.hid (Ox7.out.on hb)
    replace BB := Lib.hid (BB.out.trans (hb.mono BB.out.size)); clear hb
    go_wp2_with fail
    refine (Sl.implDigest _ m2 _ Ox2.out.holds (by omega)).mono ?_
    rintro e w10 ⟨rfl, rfl⟩
    go_wp2_with fail
    refine (Sl.specDigest _ m2 _ Ox2.out.holds (by omega)).mono ?_
    rintro e w11 ⟨rfl, rfl⟩
    go_wp2_with fail
    refine (Sl.implValidSecret s3 _).mono ?_
    rintro e w12 ⟨rfl, rfl⟩
    go_wp2_with fail
    refine (Sl.specValidSecret s3 _).mono ?_
    rintro e w13 ⟨rfl, rfl⟩
    go_wp2_with fail
    refine (Sl.implEncrypt k4 _ m4 _ Ox4.out.holds MY4.out (by omega)).mono ?_
    rintro e w14 ⟨x9, rfl, hx9, hb⟩
    replace hx9 := hx9.mono BB.out.size
    replace Ox1 := Lib.hid (Ox1.out.on hb)
    replace Ox2 := Lib.hid (Ox2.out.on hb)
    replace Ox4 := Lib.hid (Ox4.out.on hb)
    replace Ox5 := Lib.hid (Ox5.out.on hb)
    replace Ox6 := Lib.hid (Ox6.out.on hb)
    replace Ox7 := Lib.hid (Ox7.out.on hb)
    replace BB := Lib.hid (BB.out.trans (hb.mono BB.out.size)); clear hb
    have Ox9 := Lib.hid hx9; clear hx9
    go_wp2_with fail
    refine (Sl.specEncrypt k4 _ m4 _ Ox4.out.holds MY4.out (by omega)).mono ?_
    rintro e w15 ⟨x10, rfl, hx10, hb⟩
    replace hx10 := hx10.mono BB.out.size
    replace Ox1 := Lib.hid (Ox1.out.on hb)
    replace Ox2 := Lib.hid (Ox2.out.on hb)
    replace Ox4 := Lib.hid (Ox4.out.on hb)
    replace Ox5 := Lib.hid (Ox5.out.on hb)
    replace Ox6 := Lib.hid (Ox6.out.on hb)
    replace Ox7 := Lib.hid (Ox7.out.on hb)
    replace Ox9 := Lib.hid (Ox9.out.on hb)
    replace BB := Lib.hid (BB.out.trans (hb.mono BB.out.size)); clear hb
    have Ox10 := Lib.hid hx10; clear hx10
    go_wp2_with fail
    refine (Sl.sameB_self _ _ _ _ Ox9.out.holds Ox10.out.holds (by omega)).mono ?_
    rintro e w16 ⟨rfl, hb⟩
    replace Ox1 := Lib.hid (Ox1.out.on hb)
    replace Ox2 := Lib.hid (Ox2.out.on hb)
    replace Ox4 := Lib.hid (Ox4.out.on hb)
    replace Ox5 := Lib.hid (Ox5.out.on hb)
    replace Ox6 := Lib.hid (Ox6.out.on hb)
    replace Ox7 := Lib.hid (Ox7.out.on hb)
    replace Ox9 := Lib.hid (Ox9.out.on hb)
    replace Ox10 := Lib.hid (Ox10.out.on hb)
    replace BB := Lib.hid (BB.out.trans (hb.mono BB.out.size)); clear hb
    go_wp2_with fail
    clear Ox9
    clear Ox10
    refine (Sl.implDecrypt k4 _ m4 _ Ox4.out.holds MY4.out (by omega)).mono ?_
    rintro e w17 ⟨x11, rfl, hx11, hb⟩
    replace hx11 := hx11.mono BB.out.size
    replace Ox1 := Lib.hid (Ox1.out.on hb)
    replace Ox2 := Lib.hid (Ox2.out.on hb)
    replace Ox4 := Lib.hid (Ox4.out.on hb)
    replace Ox5 := Lib.hid (Ox5.out.on hb)
    replace Ox6 := Lib.hid (Ox6.out.on hb)
    replace Ox7 := Lib.hid (Ox7.out.on hb)
    replace BB := Lib.hid (BB.out.trans (hb.mono BB.out.size)); clear hb
    have Ox11 := Lib.hid hx11; clear hx11
    go_wp2_with fail
    refine (Sl.specDecrypt k4 _ m4 _ Ox4.out.holds MY4.out (by omega)).mono ?_
    rintro e w18 ⟨x12, rfl, hx12, hb⟩
    replace hx12 := hx12.mono BB.out.size
    replace Ox1 := Lib.hid (Ox1.out.on hb)
    replace Ox2 := Lib.hid (Ox2.out.on hb)
    replace Ox4 := Lib.hid (Ox4.out.on hb)
    replace Ox5 := Lib.hid (Ox5.out.on hb)
    replace Ox6 := Lib.hid (Ox6.out.on hb)
    replace Ox7 := Lib.hid (Ox7.out.on hb)
    replace Ox11 := Lib.hid (Ox11.out.on hb)
    replace BB := Lib.hid (BB.out.trans (hb.mono BB.out.size)); clear hb
    have Ox12 := Lib.hid hx12; clear hx12
    go_wp2_with fail
    refine (Sl.sameB_self _ _ _ _ Ox11.out.holds Ox12.out.holds (by omega)).mono ?_
    rintro e w19 ⟨rfl, hb⟩
    replace Ox1 := Lib.hid (Ox1.out.on hb)
    replace Ox2 := Lib.hid (Ox2.out.on hb)
    replace Ox4 := Lib.hid (Ox4.out.on hb)
    replace Ox5 := Lib.hid (Ox5.out.on hb)
    replace Ox6 := Lib.hid (Ox6.out.on hb)
    replace Ox7 := Lib.hid (Ox7.out.on hb)
    replace Ox11 := Lib.hid (Ox11.out.on hb)
    replace Ox12 := Lib.hid (Ox12.out.on hb)
    replace BB := Lib.hid (BB.out.trans (hb.mono BB.out.size)); clear hb
    go_wp2_with fail
    clear Ox11
    clear Ox12
    refine (Sl.implEqualInts _ _ m5 m6 _ Ox5.out.holds Ox6.out.holds (by omega) (by omega)).mono ?_
    rintro e w20 ⟨rfl, hb⟩
    replace Ox1 := Lib.hid (Ox1.out.on hb)
    replace Ox2 := Lib.hid (Ox2.out.on hb)
    replace Ox4 := Lib.hid (Ox4.out.on hb)
    replace Ox5 := Lib.hid (Ox5.out.on hb)
    replace Ox6 := Lib.hid (Ox6.out.on hb)
    replace Ox7 := Lib.hid (Ox7.out.on hb)
    replace BB := Lib.hid (BB.out.trans (hb.mono BB.out.size)); clear hb
    go_wp2_with fail
    refine (Sl.sameI _ _ m5 m6 _ Ox5.out.holds Ox6.out.holds (by omega) (by omega)).mono ?_
    rintro e w21 ⟨rfl, hb⟩
    replace Ox1 := Lib.hid (Ox1.out.on hb)
    replace Ox2 := Lib.hid (Ox2.out.on hb)
    replace Ox4 := Lib.hid (Ox4.out.on hb)
    replace Ox5 := Lib.hid (Ox5.out.on hb)
    replace Ox6 := Lib.hid (Ox6.out.on hb)
    replace Ox7 := Lib.hid (Ox7.out.on hb)
    replace BB := Lib.hid (BB.out.trans (hb.mono BB.out.size)); clear hb
    go_wp2_with fail
    clear Ox5
    clear Ox6
    refine (Sl.implBytesToInts _ m7 _ Ox7.out.holds MY7.out (by omega)).mono ?_
    rintro e w22 ⟨x13, rfl, hx13, hb⟩
    replace hx13 := hx13.mono BB.out.size
    replace Ox1 := Lib.hid (Ox1.out.on hb)
    replace Ox2 := Lib.hid (Ox2.out.on hb)
    replace Ox4 := Lib.hid (Ox4.out.on hb)
    replace Ox7 := Lib.hid (Ox7.out.on hb)
    replace BB := Lib.hid (BB.out.trans (hb.mono BB.out.size)); clear hb
    have Ox13 := Lib.hid hx13; clear hx13
    go_wp2_with fail
    refine (Sl.specBytesToInts _ m7 _ Ox7.out.holds MY7.out (by omega)).mono ?_
    rintro e w23 ⟨x14, rfl, hx14, hb⟩
    replace hx14 := hx14.mono BB.out.size
    replace Ox1 := Lib.hid (Ox1.out.on hb)
    replace Ox2 := Lib.hid (Ox2.out.on hb)
    replace Ox4 := Lib.hid (Ox4.out.on hb)
    replace Ox7 := Lib.hid (Ox7.out.on hb)
    replace Ox13 := Lib.hid (Ox13.out.on hb)
    replace BB := Lib.hid (BB.out.trans (hb.mono BB.out.size)); clear hb
    have Ox14 := Lib.hid hx14; clear hx14
    go_wp2_with fail
    refine (Sl.sameI_self _ _ _ _ Ox13.out.holds Ox14.out.holds (by omega)).mono ?_
    rintro e w24 ⟨rfl, hb⟩
    replace Ox1 := Lib.hid (Ox1.out.on hb)
    replace Ox2 := Lib.hid (Ox2.out.on hb)
    replace Ox4 := Lib.hid (Ox4.out.on hb)
    replace Ox7 := Lib.hid (Ox7.out.on hb)
    replace Ox13 := Lib.hid (Ox13.out.on hb)
    replace Ox14 := Lib.hid (Ox14.out.on hb)
    replace BB := Lib.hid (BB.out.trans (hb.mono BB.out.size)); clear hb
    go_wp2_with fail
    clear Ox13
    clear Ox14
    clear Ox7
    clear Ox2
    refine (Sl.implDeriveSecret k8 t8 _ (by omega)).mono ?_
    rintro e w25 ⟨rfl, hb⟩
    replace Ox1 := Lib.hid (Ox1.out.on hb)
    replace Ox4 := Lib.hid (Ox4.out.on hb)
    replace BB := Lib.hid (BB.out.trans (hb.mono BB.out.size)); clear hb
    go_wp2_with fail
    refine (Sl.specDeriveSecret k8 t8 _ (by omega)).mono ?_
    rintro e w26 ⟨rfl, hb⟩
    replace Ox1 := Lib.hid (Ox1.out.on hb)
    replace Ox4 := Lib.hid (Ox4.out.on hb)
    replace BB := Lib.hid (BB.out.trans (hb.mono BB.out.size)); clear hb
    go_wp2_with fail
    refine (Sl.implEncrypt k4 _ m4 _ Ox4.out.holds MY4.out (by omega)).mono ?_
    rintro e w27 ⟨x15, rfl, hx15, hb⟩
    replace hx15 := hx15.mono BB.out.size
    replace Ox1 := Lib.hid (Ox1.out.on hb)
    replace Ox4 := Lib.hid (Ox4.out.on hb)
    replace BB := Lib.hid (BB.out.trans (hb.mono BB.out.size)); clear hb
    have Ox15 := Lib.hid hx15; clear hx15
    go_wp2_with fail
    refine (Sl.implDecrypt k4 _ (Seal.enc k4 m4) _ Ox15.out.holds (Seal.enc_in _ _) (by omega)).mono ?_
    rintro e w28 ⟨x16, rfl, hx16, hb⟩
    replace hx16 := hx16.mono BB.out.size
    replace Ox1 := Lib.hid (Ox1.out.on hb)
    replace Ox4 := Lib.hid (Ox4.out.on hb)
    replace Ox15 := Lib.hid (Ox15.out.on hb)
    replace BB := Lib.hid (BB.out.trans (hb.mono BB.out.size)); clear hb
    have Ox16 := Lib.hid hx16; clear hx16
    rw [Seal.dec_enc MY4.out] at Ox16
    go_wp2_with fail
    refine (Sl.sameB_self _ _ _ _ Ox16.out.holds Ox4.out.holds (by omega)).mono ?_
    rintro e w29 ⟨rfl, hb⟩
    replace Ox1 := Lib.hid (Ox1.out.on hb)
    replace Ox4 := Lib.hid (Ox4.out.on hb)
    replace Ox15 := Lib.hid (Ox15.out.on hb)
    replace Ox16 := Lib.hid (Ox16.out.on hb)
    replace BB := Lib.hid (BB.out.trans (hb.mono BB.out.size)); clear hb
    go_wp2_with fail
    clear Ox15
    clear Ox16
    refine (Sl.implDecrypt k4 _ m4 _ Ox4.out.holds MY4.out (by omega)).mono ?_
    rintro e w30 ⟨x17, rfl, hx17, hb⟩
    replace hx17 := hx17.mono BB.out.size
    replace Ox1 := Lib.hid (Ox1.out.on hb)
    replace Ox4 := Lib.hid (Ox4.out.on hb)
    replace BB := Lib.hid (BB.out.trans (hb.mono BB.out.size)); clear hb
    have Ox17 := Lib.hid hx17; clear hx17
    go_wp2_with fail
    refine (Sl.implEncrypt k4 _ (Seal.dec k4 m4) _ Ox17.out.holds (Seal.dec_in _ _) (by omega)).mono ?_
    rintro e w31 ⟨x18, rfl, hx18, hb⟩
    replace hx18 := hx18.mono BB.out.size
    replace Ox1 := Lib.hid (Ox1.out.on hb)
    replace Ox4 := Lib.hid (Ox4.out.on hb)
    replace Ox17 := Lib.hid (Ox17.out.on hb)
    replace BB := Lib.hid (BB.out.trans (hb.mono BB.out.size)); clear hb
    have Ox18 := Lib.hid hx18; clear hx18
    rw [Seal.enc_dec MY4.out] at Ox18
    go_wp2_with fail
    refine (Sl.sameB_self _ _ _ _ Ox18.out.holds Ox4.out.holds (by omega)).mono ?_
    rintro e w32 ⟨rfl, hb⟩
    replace Ox1 := Lib.hid (Ox1.out.on hb)
    replace Ox4 := Lib.hid (Ox4.out.on hb)
    replace Ox17 := Lib.hid (Ox17.out.on hb)
    replace Ox18 := Lib.hid (Ox18.out.on hb)
    replace BB := Lib.hid (BB.out.trans (hb.mono BB.out.size)); clear hb
    go_wp2_with fail
    clear Ox17
    clear Ox18
    clear Ox4
    refine (Sl.implDeriveSecret k8 t8 _ (by omega)).mono ?_
    rintro e w33 ⟨rfl, hb⟩
    replace Ox1 := Lib.hid (Ox1.out.on hb)
    replace BB := Lib.hid (BB.out.trans (hb.mono BB.out.size)); clear hb
    have hvs := fun wx => Sl.implValidSecret (Seal.derive k8 (Sl.bytesOf t8)) wx
    rw [Num.inB_true (Seal.derive_in k8 (Sl.bytesOf t8)).1 (Seal.derive_in k8 (Sl.bytesOf t8)).2] at hvs
    have HVS := Lib.hid hvs; clear hvs
    go_wp2_with fail
    refine (HVS.out _).mono ?_
    rintro e w34 ⟨rfl, rfl⟩
    clear HVS
    obtain ⟨a1, c1, rfl, hc1, -⟩ := Ox1.out.holds.shape
    obtain ⟨N, hN⟩ : ∃ N, N = m1.length := ⟨_, rfl⟩
    rw [← hN] at Ox1 ml1 hc1 ⊢
    have HN := Lib.hid hN; clear hN
    by_cases hz : N = 0
    · subst hz
      go_wp2_with fail
      go_ret
      exact ⟨rfl, BB.out⟩
    · have hpos : 0 < N := by omega
      have hzf : (((N : Nat) : Int) == 0) = false := by simpa using hz
      clear hz
      go_wp2_with fail
      refine (Draw.lawAt x n0 cap 3 l0 _ (Q0.out.on BB.out) HN0.out (by decide)).mono ?_
      rintro e w35 ⟨⟨r, rfl, r0, r1⟩, rfl⟩
      obtain ⟨rr, rfl⟩ := Int.eq_ofNat_of_zero_le r0
      obtain ⟨i, hi⟩ : ∃ i, i = rr % N := ⟨_, rfl⟩
      have hiN : i < N := by rw [hi]; exact Nat.mod_lt _ hpos
      have hmod : (rr : Int) % (N : Int) = (i : Int) := by rw [hi]; omega
      have htm : ((rr : Nat) : Int).tmod ((N : Nat) : Int) = (i : Int) := by rw [Int.tmod_eq_emod_of_nonneg (by omega)]; exact hmod
      clear hi
      have E0 := Lib.hid (Sl.own_empty .i64 3 w33)
      go_wp2_with (at_builtin; refine Sl.wpList_app_nn (k := .i64) (B := w33.heap.size) (l := []) (m := m1) rfl _ _ rfl Try.underlying24 Sl.elemINT rfl rfl rfl E0.out (Ox1.out.holds.on ((Below.refl _ _).alloc (Nat.le_refl _) _)) ?_ (by decide) ?_ ?_)
      · have := HN.out; simp; omega
      · simp
      intro v19 wa ho hg hnn
      have hba : Below w33.heap.size w33 wa := ((Below.refl _ _).alloc (Nat.le_refl _) _).grown hg (by simp) (fun g hh => by cases hh; exact Nat.le_refl _)
      obtain ⟨g, cap1, rfl, g1, g2, g3⟩ := Sl.Own.block ho hnn
      have ho2 : Sl.Own 3 .i64 w33.heap.size wa (.slice (some ⟨g, 0, none⟩) N cap1) m1 := by have h := ho; rw [← HN.out] at h; exact h
      have HN1 := HN.out
      rw [← HN1] at g3 ⊢
      obtain ⟨hc2, hf2⟩ := Sl.own_cell ho2 HN1 (j := i) (by omega)
      have hst := fun y => Sl.own_store ho2 HN1 i y
      have HST := Lib.hid hst; have BA := Lib.hid (BB.out.trans (hba.mono BB.out.size))
      have HMV := Lib.hid (Seal.mac_moved k1 (l := m1) (i := i) (by omega))
      clear ho hg hnn hba ho2 hst HN1 E0
      go_wp2_with fail
      refine (Sl.implModP _ _).mono ?_
      rintro e w' ⟨⟨q, rfl, hq, q0, q1⟩, rfl⟩
      have HQ := Lib.hid hq; clear hq
      go_wp2_with fail
      have hs1 := (HST.out (q + 1)).1; have hs2 := (HST.out (q + 1)).2
      have OS := Lib.hid hs1; have BS := Lib.hid (BA.out.grown hs2 (by have := BA.out.size; exact this) (fun g2 hh => by cases hh; have := BB.out.size; omega)); clear hs1 hs2
      refine (Sl.implComputeMAC k1 _ (m1.set i (q + 1)) _ OS.out.holds (by rw [List.length_set]; have := HN.out; omega)).mono ?_
      rintro e wz ⟨rfl, hb⟩
      have BZ := Lib.hid (BS.out.trans (hb.mono BS.out.size)); clear hb
      have HNE := Lib.hid (show (Seal.mac k1 (m1.set i (q + 1)) != Seal.mac k1 m1) = true by rw [bne_iff_ne, HQ.out]; exact HMV.out)
      have hne := HNE.out
      go_wp2_with fail
      go_ret
      exact ⟨by first | rfl | exact Sl.ret_bool hne, BZ.out⟩
  · obtain ⟨x, cap, rfl, -⟩ := Draw.bytes_at q0
    have hl : decide ((1048576 : Int) < (l0.length : Int)) = true := by simpa using hlen
    clear hlen q0
    obtain ⟨n0, hn0⟩ : ∃ n0, n0 = l0.length := ⟨_, rfl⟩
    rw [← hn0] at hl ⊢
    clear hn0
    go_enter Try.func3, Try.ntmps3
    go_wp2_with fail
    refine (Draw.big_yes x n0 cap w hl).mono ?_
    rintro e w' ⟨rfl, rfl⟩
    go_wp2_with fail
    go_ret
    exact ⟨rfl, Below.refl _ _⟩

set_option maxRecDepth 100000 in
theorem lifted (os : Os) (started : os.Started) (H : Type) (enc : TypeId × Value → H) :
    ReturnsInHanded {} Try.checked os 3 .any (Rows.fnSealsSpec.pre6 enc Try.prog Try.f3 Rows.fnSealsRow.domain false) (Rows.fnSealsSpec.post enc Try.prog Try.f3 false true false false) := by
  refine returnsInHanded_of_change_sized (C := Try.checked) own started (by kernel_rfl) Try.func3
    (ChangeSpec.witness6 (enc := enc) (C := Try.checked) false ⟨#[], #[.slice none 0 0], []⟩ 8 (by kernel_rfl) (by kernel_rfl) (by kernel_rfl) (by kernel_rfl)) ?_
  intro W base args ds gs before hval0 hW _ hsz0 _
  have hval : ∀ (j : Nat) t v, Try.f3.params[j]? = some t → args[j]? = some v → Value.okWide Try.prog W .any base t v := hval0
  have hsz : (DataW.weightsEach Try.prog (Try.f3.params.toList ++ Rows.fnSealsSpec.plain.varTypes Try.prog) (ds ++ gs)).all (· ≤ reachBytes) = true := hsz0
  clear hsz0
  have hW' := hW
  obtain ⟨p, q, hA0, hV, rfl, hfz, hnd⟩ := hW
  have hA : DataW.TrodAll enc Try.prog W 0 (fun _ => true) true Try.f3.params.toList args.toList ds p := hA0
  rw [Try.params3] at hA hval hsz
  obtain ⟨v0, vs0, d0, ds0, p0, q0, hargs, rfl, rfl, h0, r0⟩ := trodAll_cons hA
  obtain ⟨rfl, rfl, rfl⟩ := trodAll_nil r0
  obtain rfl : args = #[v0] := by cases args; simp_all
  obtain ⟨rfl, rfl⟩ := trodVars_none hV
  obtain ⟨l0, q0⟩ := Frame.open_bytes (j := 0) Try.underlying22 Try.underlying5 (by kernel_rfl) (by kernel_rfl) (hval 0 22 v0 rfl rfl) h0 hsz rfl rfl
  clear hA0 hval0
  refine (walk W _ _ q0).mono fun e W' ⟨he, hb⟩ => ?_
  subst he
  exact ⟨_, rfl, Frame.law_post laidOut (by kernel_rfl) rfl Try.underlying4 rfl rfl hW' hb⟩

theorem said : Rows.FnSealsSaid :=
  OpenClaim.holds_of_wide 3 Try.f3 rfl rfl rfl rfl rfl rfl rfl ⟨rfl, rfl, rfl, rfl, rfl⟩ rfl rfl rfl rfl rfl (by kernel_rfl) Try.func3 (by kernel_rfl)
    (of_decide_eq_true (by kernel_rfl)) (by unfold Func.isWrapper; first | (rw [if_pos (by decide +kernel)]; kernel_rfl) | (rw [if_neg (by decide +kernel)]; exact ⟨rfl, rfl⟩))
    (fun os started H enc _ => lifted os started H enc)

#print axioms said
end Go.Proofs.Ythcmfaipijcgdaa.fnSeals
