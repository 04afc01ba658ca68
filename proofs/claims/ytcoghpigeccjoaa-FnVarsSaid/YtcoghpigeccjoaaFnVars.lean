/- Integers and byte slices are decoded from their encodings, for every draw. No conditions. -/
import Derived.Test.YtcoghpigeccjoaaRows
import Derived.WalkKit
import Derived.ProofKit
import Derived.OpenShut
import Derived.SizedLaws
import Derived.Test.YtcoghpigeccjoaaFrame
import Derived.Test.YtcoghpigeccjoaaSame
import Derived.Test.YtcoghpigeccjoaaVarBack
import Derived.Test.YtcoghpigeccjoaaDrawVar
namespace Go.Proofs.Ytcoghpigeccjoaa.fnVars
open Go.ChangeShapes Go.WideShapes Go.ChangeAt Go.RowKit
open Go.ChangeMaps (open_string shut_string)
set_option linter.unusedVariables false

theorem own : ownKnob Try.prog.godebug = none := by kernel_rfl
theorem laidOut : laidOutB Try.prog = true := by kernel_rfl

set_option maxRecDepth 100000 in
set_option maxHeartbeats 4000000 in
theorem walk (w : World) (y0 : Value) (l0 : List UInt8) (q0 : Frame.Bytes w y0 l0) :
    Calls Try.prog 3 #[y0] w fun e w' => e = .returned (.bool true) ∧ Below w.heap.size w w' := by
  by_cases hlen : (l0.length : Int) ≤ 1048576
  · obtain ⟨x, cap, rfl, -⟩ := Draw.bytes_at q0
    have hl : decide ((1048576 : Int) < (l0.length : Int)) = false := by simpa using hlen
    have Q0 := Lib.hid q0; clear q0 hlen
    obtain ⟨n0, hn0⟩ : ∃ n0, n0 = l0.length := ⟨_, rfl⟩
    rw [← hn0] at hl Q0 ⊢
    clear hn0
    have BB := Lib.hid (Below.refl w.heap.size w)
    go_enter Try.func3, Try.ntmps3
    go_wp2_with fail
    refine (Draw.big_no x n0 cap w hl).mono ?_
    rintro e w' ⟨rfl, rfl⟩
    go_wp2_with fail
    refine (Draw.drawAppendVarint _ _ l0 (Q0.out.on BB.out)).mono ?_
    rintro e w1 ⟨x1, m1, n1, rfl, hx1, my1, ml1, wn1, hb⟩
    replace hx1 := hx1.mono BB.out.size
    replace BB := Lib.hid (BB.out.trans (hb.mono BB.out.size)); clear hb
    have Ox1 := Lib.hid hx1; clear hx1
    have MY1 := Lib.hid my1; clear my1 wn1
    have hv1 := Var.var_len n1
    go_wp2_with fail
    refine (Sl.implAppendVarint _ m1 n1 _ Ox1.out.holds (by omega)).mono ?_
    rintro e w2 ⟨x2, rfl, hx2, hb⟩
    replace hx2 := hx2.mono BB.out.size
    replace Ox1 := Lib.hid (Ox1.out.on hb)
    replace BB := Lib.hid (BB.out.trans (hb.mono BB.out.size)); clear hb
    have Ox2 := Lib.hid hx2; clear hx2
    go_wp2_with fail
    refine (Draw.drawReadVarint _ _ l0 (Q0.out.on BB.out)).mono ?_
    rintro e w3 ⟨x3, m3, i3, rfl, hx3, my3, ml3, wi3, hb⟩
    replace hx3 := hx3.mono BB.out.size
    replace Ox1 := Lib.hid (Ox1.out.on hb)
    replace Ox2 := Lib.hid (Ox2.out.on hb)
    replace BB := Lib.hid (BB.out.trans (hb.mono BB.out.size)); clear hb
    have Ox3 := Lib.hid hx3; clear hx3
    have MY3 := Lib.hid my3; clear my3 wi3
    go_wp2_with fail
    refine (Sl.implReadVarint _ m3 i3 _ Ox3.out.holds MY3.out (by omega)).mono ?_
    rintro e w4 ⟨rfl, hb⟩
    replace Ox1 := Lib.hid (Ox1.out.on hb)
    replace Ox2 := Lib.hid (Ox2.out.on hb)
    replace Ox3 := Lib.hid (Ox3.out.on hb)
    replace BB := Lib.hid (BB.out.trans (hb.mono BB.out.size)); clear hb
    go_wp2_with fail
    refine (Sl.specReadVarint _ m3 i3 _ Ox3.out.holds MY3.out (by omega)).mono ?_
    rintro e w5 ⟨rfl, rfl⟩
    have HENC := Lib.hid (Var.enc_readV (l := m3) (i := i3) MY3.out)
    obtain ⟨R, hR⟩ : ∃ R, R = Var.readV m3 i3 := ⟨_, rfl⟩
    rw [← hR] at HENC ⊢
    clear hR
    obtain ⟨Rn, Ri, Rok⟩ := R
    simp only at HENC ⊢
    go_wp2_with fail
    refine (Draw.drawAppendBytes _ _ l0 (Q0.out.on BB.out)).mono ?_
    rintro e w6 ⟨x4, m4, x5, m5, rfl, hx4, my4, ml4, hx5, my5, ml5, hb⟩
    replace hx4 := hx4.mono BB.out.size
    replace hx5 := hx5.mono BB.out.size
    replace Ox1 := Lib.hid (Ox1.out.on hb)
    replace Ox2 := Lib.hid (Ox2.out.on hb)
    replace Ox3 := Lib.hid (Ox3.out.on hb)
    replace BB := Lib.hid (BB.out.trans (hb.mono BB.out.size)); clear hb
    have Ox4 := Lib.hid hx4; clear hx4
    have Ox5 := Lib.hid hx5; clear hx5
    have MY4 := Lib.hid my4; have MY5 := Lib.hid my5; clear my4 my5
    have hv5 := Var.var_len m5.length
    have BY6 := Lib.hid (Draw.byt_app (Draw.byt_app MY4.out (Draw.byt_var (m5.length : Int))) MY5.out)
    have HBACK := Lib.hid (Var.readB_app m4 m5 (by omega))
    go_wp2_with fail
    refine (Sl.implAppendBytes _ _ m4 m5 _ Ox4.out.holds Ox5.out.holds (by omega) (by omega)).mono ?_
    rintro e w7 ⟨x6, rfl, hx6, hb⟩
    replace hx6 := hx6.mono BB.out.size
    replace Ox1 := Lib.hid (Ox1.out.on hb)
    replace Ox2 := Lib.hid (Ox2.out.on hb)
    replace Ox3 := Lib.hid (Ox3.out.on hb)
    replace Ox4 := Lib.hid (Ox4.out.on hb)
    replace Ox5 := Lib.hid (Ox5.out.on hb)
    replace BB := Lib.hid (BB.out.trans (hb.mono BB.out.size)); clear hb
    have Ox6 := Lib.hid hx6; clear hx6
    have hl6 : (m4 ++ Var.var m5.length ++ m5).length ≤ 1000 := by rw [List.length_append, List.length_append]; omega
    go_wp2_with fail
    refine (Draw.drawReadBytes _ _ l0 (Q0.out.on BB.out)).mono ?_
    rintro e w8 ⟨x7, m7, j7, k7, rfl, hx7, my7, ml7, wj, wk, hb⟩
    replace hx7 := hx7.mono BB.out.size
    replace Ox1 := Lib.hid (Ox1.out.on hb)
    replace Ox2 := Lib.hid (Ox2.out.on hb)
    replace Ox3 := Lib.hid (Ox3.out.on hb)
    replace Ox4 := Lib.hid (Ox4.out.on hb)
    replace Ox5 := Lib.hid (Ox5.out.on hb)
    replace Ox6 := Lib.hid (Ox6.out.on hb)
    replace BB := Lib.hid (BB.out.trans (hb.mono BB.out.size)); clear hb
    have Ox7 := Lib.hid hx7; clear hx7
    have MY7 := Lib.hid my7; clear my7 wj wk
    have hr7 := Sl.readB_len m7 j7 k7
    go_wp2_with fail
    refine (Sl.implReadBytes _ m7 j7 k7 _ Ox7.out.holds MY7.out (by omega)).mono ?_
    rintro e w9 ⟨x8, rfl, hx8, hb⟩
    replace hx8 := hx8.mono BB.out.size
    replace Ox1 := Lib.hid (Ox1.out.on hb)
    replace Ox2 := Lib.hid (Ox2.out.on hb)
    replace Ox3 := Lib.hid (Ox3.out.on hb)
    replace Ox4 := Lib.hid (Ox4.out.on hb)
    replace Ox5 := Lib.hid (Ox5.out.on hb)
    replace Ox6 := Lib.hid (Ox6.out.on hb)
    replace Ox7 := Lib.hid (Ox7.out.on hb)
    replace BB := Lib.hid (BB.out.trans (hb.mono BB.out.size)); clear hb
    have Ox8 := Lib.hid hx8; clear hx8
    go_wp2_with fail
    refine (Sl.specReadBytes _ m7 j7 k7 _ Ox7.out.holds MY7.out (by omega)).mono ?_
    rintro e w10 ⟨x9, rfl, hx9, hb⟩
    replace hx9 := hx9.mono BB.out.size
    replace Ox1 := Lib.hid (Ox1.out.on hb)
    replace Ox2 := Lib.hid (Ox2.out.on hb)
    replace Ox3 := Lib.hid (Ox3.out.on hb)
    replace Ox4 := Lib.hid (Ox4.out.on hb)
    replace Ox5 := Lib.hid (Ox5.out.on hb)
    replace Ox6 := Lib.hid (Ox6.out.on hb)
    replace Ox7 := Lib.hid (Ox7.out.on hb)
    replace Ox8 := Lib.hid (Ox8.out.on hb)
    replace BB := Lib.hid (BB.out.trans (hb.mono BB.out.size)); clear hb
    have Ox9 := Lib.hid hx9; clear hx9
    obtain ⟨S, hS⟩ : ∃ S, S = Sl.readB m7 j7 k7 := ⟨_, rfl⟩
    rw [← hS] at Ox8 Ox9 hr7 ⊢
    clear hS
    obtain ⟨Sl0, Si, Sok⟩ := S
    simp only at Ox8 Ox9 hr7 ⊢
    go_wp2_with fail
    refine (Sl.specAppendVarint _ m1 n1 _ Ox1.out.holds (by omega)).mono ?_
    rintro e w11 ⟨x10, rfl, hx10, hb⟩
    replace hx10 := hx10.mono BB.out.size
    replace Ox1 := Lib.hid (Ox1.out.on hb)
    replace Ox2 := Lib.hid (Ox2.out.on hb)
    replace Ox3 := Lib.hid (Ox3.out.on hb)
    replace Ox4 := Lib.hid (Ox4.out.on hb)
    replace Ox5 := Lib.hid (Ox5.out.on hb)
    replace Ox6 := Lib.hid (Ox6.out.on hb)
    replace Ox7 := Lib.hid (Ox7.out.on hb)
    replace Ox8 := Lib.hid (Ox8.out.on hb)
    replace Ox9 := Lib.hid (Ox9.out.on hb)
    replace BB := Lib.hid (BB.out.trans (hb.mono BB.out.size)); clear hb
    have Ox10 := Lib.hid hx10; clear hx10
    have hl1 : (m1 ++ Var.var n1).length ≤ 1000 := by rw [List.length_append]; omega
    go_wp2_with fail
    refine (Sl.sameB_self _ _ _ _ Ox2.out.holds Ox10.out.holds (by omega)).mono ?_
    rintro e w12 ⟨rfl, hb⟩
    replace Ox1 := Lib.hid (Ox1.out.on hb)
    replace Ox2 := Lib.hid (Ox2.out.on hb)
    replace Ox3 := Lib.hid (Ox3.out.on hb)
    replace Ox4 := Lib.hid (Ox4.out.on hb)
    replace Ox5 := Lib.hid (Ox5.out.on hb)
    replace Ox6 := Lib.hid (Ox6.out.on hb)
    replace Ox7 := Lib.hid (Ox7.out.on hb)
    replace Ox8 := Lib.hid (Ox8.out.on hb)
    replace Ox9 := Lib.hid (Ox9.out.on hb)
    replace Ox10 := Lib.hid (Ox10.out.on hb)
    replace BB := Lib.hid (BB.out.trans (hb.mono BB.out.size)); clear hb
    go_wp2_with fail
    refine (Sl.specAppendBytes _ _ m4 m5 _ Ox4.out.holds Ox5.out.holds (by omega) (by omega)).mono ?_
    rintro e w13 ⟨x11, rfl, hx11, hb⟩
    replace hx11 := hx11.mono BB.out.size
    replace Ox1 := Lib.hid (Ox1.out.on hb)
    replace Ox2 := Lib.hid (Ox2.out.on hb)
    replace Ox3 := Lib.hid (Ox3.out.on hb)
    replace Ox4 := Lib.hid (Ox4.out.on hb)
    replace Ox5 := Lib.hid (Ox5.out.on hb)
    replace Ox6 := Lib.hid (Ox6.out.on hb)
    replace Ox7 := Lib.hid (Ox7.out.on hb)
    replace Ox8 := Lib.hid (Ox8.out.on hb)
    replace Ox9 := Lib.hid (Ox9.out.on hb)
    replace Ox10 := Lib.hid (Ox10.out.on hb)
    replace BB := Lib.hid (BB.out.trans (hb.mono BB.out.size)); clear hb
    have Ox11 := Lib.hid hx11; clear hx11
    go_wp2_with fail
    refine (Sl.sameB_self _ _ _ _ Ox6.out.holds Ox11.out.holds (by omega)).mono ?_
    rintro e w14 ⟨rfl, hb⟩
    replace Ox1 := Lib.hid (Ox1.out.on hb)
    replace Ox2 := Lib.hid (Ox2.out.on hb)
    replace Ox3 := Lib.hid (Ox3.out.on hb)
    replace Ox4 := Lib.hid (Ox4.out.on hb)
    replace Ox5 := Lib.hid (Ox5.out.on hb)
    replace Ox6 := Lib.hid (Ox6.out.on hb)
    replace Ox7 := Lib.hid (Ox7.out.on hb)
    replace Ox8 := Lib.hid (Ox8.out.on hb)
    replace Ox9 := Lib.hid (Ox9.out.on hb)
    replace Ox10 := Lib.hid (Ox10.out.on hb)
    replace Ox11 := Lib.hid (Ox11.out.on hb)
    replace BB := Lib.hid (BB.out.trans (hb.mono BB.out.size)); clear hb
    go_wp2_with fail
    refine (Sl.sameB_self _ _ Sl0 _ Ox8.out.holds Ox9.out.holds (by omega)).mono ?_
    rintro e w15 ⟨rfl, hb⟩
    replace Ox1 := Lib.hid (Ox1.out.on hb)
    replace Ox2 := Lib.hid (Ox2.out.on hb)
    replace Ox3 := Lib.hid (Ox3.out.on hb)
    replace Ox4 := Lib.hid (Ox4.out.on hb)
    replace Ox5 := Lib.hid (Ox5.out.on hb)
    replace Ox6 := Lib.hid (Ox6.out.on hb)
    replace Ox7 := Lib.hid (Ox7.out.on hb)
    replace Ox8 := Lib.hid (Ox8.out.on hb)
    replace Ox9 := Lib.hid (Ox9.out.on hb)
    replace Ox10 := Lib.hid (Ox10.out.on hb)
    replace Ox11 := Lib.hid (Ox11.out.on hb)
    replace BB := Lib.hid (BB.out.trans (hb.mono BB.out.size)); clear hb
    clear Ox8
    clear Ox9
    clear Ox10
    clear Ox11
    clear Ox7
    obtain ⟨a4, c4, rfl, -, -⟩ := Ox4.out.holds.shape
    obtain ⟨a5, c5, rfl, -, -⟩ := Ox5.out.holds.shape
    obtain ⟨a1, c1, rfl, -, -⟩ := Ox1.out.holds.shape
    obtain ⟨a6, c6, rfl, -, -⟩ := Ox6.out.holds.shape
    obtain ⟨N6, hN6⟩ : ∃ N6, N6 = (m4 ++ Var.var m5.length ++ m5).length := ⟨_, rfl⟩
    rw [← hN6] at HBACK ⊢
    have O6 := Lib.hid Ox6.out.holds
    rw [← hN6] at O6
    clear hN6 Ox6
    have hrb := fun wx hx => Sl.implReadBytes (.slice a6 N6 c6) (m4 ++ Var.var m5.length ++ m5) m4.length m5.length wx hx BY6.out (by omega)
    rw [HBACK.out] at hrb
    simp only at hrb
    have HRB := Lib.hid hrb; clear hrb
    go_wp2_with fail
    refine (HRB.out _ O6.out).mono ?_
    rintro e w16 ⟨x12, rfl, hx12, hb⟩
    replace hx12 := hx12.mono BB.out.size
    replace Ox1 := Lib.hid (Ox1.out.on hb)
    replace Ox2 := Lib.hid (Ox2.out.on hb)
    replace Ox3 := Lib.hid (Ox3.out.on hb)
    replace Ox4 := Lib.hid (Ox4.out.on hb)
    replace Ox5 := Lib.hid (Ox5.out.on hb)
    replace BB := Lib.hid (BB.out.trans (hb.mono BB.out.size)); clear hb
    have Ox12 := Lib.hid hx12; clear hx12
    go_wp2_with fail
    refine (Sl.sameB_self _ _ m5 _ Ox12.out.holds Ox5.out.holds (by omega)).mono ?_
    rintro e w17 ⟨rfl, hb⟩
    replace Ox1 := Lib.hid (Ox1.out.on hb)
    replace Ox2 := Lib.hid (Ox2.out.on hb)
    replace Ox3 := Lib.hid (Ox3.out.on hb)
    replace Ox4 := Lib.hid (Ox4.out.on hb)
    replace Ox5 := Lib.hid (Ox5.out.on hb)
    replace Ox12 := Lib.hid (Ox12.out.on hb)
    replace BB := Lib.hid (BB.out.trans (hb.mono BB.out.size)); clear hb
    clear Ox12
    clear Ox5
    clear Ox4
    by_cases hin : 0 ≤ n1 ∧ n1 ≤ 1000000000000
    · skip
      obtain ⟨a2, c2, rfl, -, -⟩ := Ox2.out.holds.shape
      have HV := Lib.hid (Var.readV_enc m1 [200] hin.1 hin.2)
      have BY2 := Lib.hid (Draw.byt_app (Draw.byt_app MY1.out (Draw.byt_var n1)) (Draw.byt_one (x := 200) (by decide) (by decide)))
      obtain ⟨hin1, hin2⟩ := hin
      obtain ⟨N2, hN2⟩ : ∃ N2, N2 = (m1 ++ Var.var n1).length := ⟨_, rfl⟩
      have O2 := Lib.hid Ox2.out.holds; clear Ox2
      rw [← hN2] at O2 hl1 ⊢
      have HN2 := Lib.hid hN2; clear hN2
      have hHV : Var.readV (m1 ++ Var.var n1 ++ [200]) m1.length = (n1, (N2 : Int), true) := by rw [HV.out, HN2.out]; simp
      have hrv := fun wx v hx => Sl.implReadVarint v (m1 ++ Var.var n1 ++ [200]) m1.length wx hx BY2.out (by have := HN2.out; simp; simp at this; omega)
      rw [hHV] at hrv
      simp only at hrv
      have HRV := Lib.hid hrv; clear hrv hHV HV
      have E0 := Lib.hid (Sl.own_empty .u8 5 w17)
      go_wp2_with (at_builtin; refine Sl.wpList_app (k := .u8) (B := w17.heap.size) (l := []) (m := m1 ++ Var.var n1) rfl _ _ rfl Try.underlying22 Sl.elemBYTE rfl rfl rfl E0.out (O2.out.on ((Below.refl _ _).alloc (Nat.le_refl _) _)) ?_ (by decide) ?_ ?_)
      · have := HN2.out; rw [← this]; simp; omega
      · simp
      intro v13 wa ho hg
      have hba : Below w17.heap.size w17 wa := ((Below.refl _ _).alloc (Nat.le_refl _) _).grown hg (by simp) (fun g hh => by cases hh; exact Nat.le_refl _)
      have OA := Lib.hid ho; have BA := Lib.hid hba; clear ho hg hba E0
      go_wp2_with (at_builtin; refine Sl.wpList_app (k := .u8) (B := w17.heap.size) (l := m1 ++ Var.var n1) (m := [200]) rfl _ _ rfl Try.underlying22 Sl.elemBYTE rfl rfl rfl (OA.out.on ((Below.refl _ _).alloc (Nat.le_refl _) _)) (Sl.holds_one .u8 _ _ _) ?_ (by decide) ?_ ?_)
      · have := HN2.out; rw [← this]; simp; omega
      · have := BA.out.size; simp; omega
      intro v14 wb ho hg
      have hb : Below w17.heap.size w17 wb := (BA.out.alloc BA.out.size _).grown hg (by have := BA.out.size; simp; omega) (fun g hh => (OA.out.lt g hh).1)
      have hoB := ho.mono BB.out.size
      replace Ox1 := Lib.hid (Ox1.out.on hb)
      replace Ox3 := Lib.hid (Ox3.out.on hb)
      replace O2 := Lib.hid (O2.out.on hb)
      replace BB := Lib.hid (BB.out.trans (hb.mono BB.out.size)); clear hb
      have OB := Lib.hid hoB; clear hoB ho hg OA BA
      have OB2 := Lib.hid (show Sl.Holds .u8 wb v14 (m1 ++ Var.var n1 ++ [200]) by first | exact OB.out.holds | (rw [List.append_assoc]; exact OB.out.holds)); clear OB
      go_wp2_with fail
      refine (HRV.out _ _ OB2.out).mono ?_
      rintro e w18 ⟨rfl, hb⟩
      replace Ox1 := Lib.hid (Ox1.out.on hb)
      replace Ox3 := Lib.hid (Ox3.out.on hb)
      replace BB := Lib.hid (BB.out.trans (hb.mono BB.out.size)); clear hb
      cases Rok with
      | false =>
        go_wp2_with fail
        go_quiet (fail)
        go_wp2_with fail
        go_ret
        exact ⟨rfl, Sl.below_drewN BB.out _⟩
      | true =>
        obtain ⟨h1, h2, h3, h4⟩ := HENC.out rfl
        obtain ⟨i, rfl⟩ := Int.eq_ofNat_of_zero_le h1
        obtain ⟨r, rfl⟩ := Int.eq_ofNat_of_zero_le (show 0 ≤ Ri by omega)
        simp only [Int.toNat_natCast] at h4
        obtain ⟨a3, c3, rfl, hc3, -⟩ := Ox3.out.holds.shape
        have hav := fun wx hx => Sl.implAppendVarint (.slice a3 i c3) (m3.take i) Rn wx hx (by rw [List.length_take]; omega)
        rw [h4] at hav
        have hsa := fun wx v hv hu => Sl.sameB_self v (.slice a3 r c3) (m3.take r) wx hv hu (by rw [List.length_take]; omega)
        have HAV := Lib.hid hav; have HSA := Lib.hid hsa
        have hir : i ≤ m3.length := by omega
        have hrr : r ≤ m3.length := by omega
        have hpi := Ox3.out.holds.upto hir
        have hpr := Ox3.out.holds.upto hrr
        have HPI := Lib.hid hpi; have HPR := Lib.hid hpr
        obtain ⟨N3, hN3⟩ : ∃ N3, N3 = m3.length := ⟨_, rfl⟩
        clear h4 hav hsa hpi hpr
        rw [← hN3] at h3 hc3 hir hrr ⊢
        clear hN3 HENC
        go_wp2_with fail
        have hI1 : (i : Int) ≤ (c3 : Int) := by omega
        have hI2 : (r : Int) ≤ (c3 : Int) := by omega
        have HP2 := Lib.hid (And.intro (HPI.out.on (Below.refl _ _).drew) (And.intro (HPR.out.on (Below.refl _ _).drew) BB.out.drew))
        go_region_held3 (fun w' => Sl.Holds .u8 w' (.slice a3 i c3) (m3.take i) ∧ Sl.Holds .u8 w' (.slice a3 r c3) (m3.take r) ∧ Below w.heap.size w w') (first | exact HP2.out | exact ⟨HP2.out.1.on hb15, HP2.out.2.1.on hb15, HP2.out.2.2.trans (hb15.mono HP2.out.2.2.size)⟩ | exact ⟨(HP2.out.1.on hb15).on hb16, (HP2.out.2.1.on hb15).on hb16, (HP2.out.2.2.trans (hb15.mono HP2.out.2.2.size)).trans (hb16.mono (Nat.le_trans HP2.out.2.2.size hb15.size))⟩) (first | (go_at_call 14; refine (HAV.out _ ?_).mono ?_; exact HP2.out.1; rintro e wr ⟨v15, rfl, ho15, hb15⟩) | (go_at_call 23; refine (HSA.out _ _ ?_ ?_).mono ?_; exact ho15.holds; exact HP2.out.2.1.on hb15; rintro e wr2 ⟨rfl, hb16⟩))
        all_goals
          go_wp2_with fail
          go_ret
          exact ⟨rfl, (HP2.out.2.2.trans (hb15.mono HP2.out.2.2.size)).trans (hb16.mono (Nat.le_trans HP2.out.2.2.size hb15.size))⟩
    · have hm0 := Var.var_out hin
      rw [hm0, List.append_nil] at Ox2
      have hin2 : n1 < 0 ∨ 1000000000000 < n1 := by omega
      clear hm0 hin
      by_cases hneg : n1 < 0
      · skip
        clear hin2
        go_wp2_with fail
        refine (Sl.sameB_self _ _ m1 _ Ox2.out.holds Ox1.out.holds (by omega)).mono ?_
        rintro e wz ⟨rfl, hb⟩
        replace BB := Lib.hid (BB.out.trans (hb.mono BB.out.size)); clear hb
        go_wp2_with fail
        go_ret
        exact ⟨rfl, BB.out⟩
      · have hbig : 1000000000000 < n1 := by omega
        clear hin2
        go_wp2_with fail
        refine (Sl.sameB_self _ _ m1 _ Ox2.out.holds Ox1.out.holds (by omega)).mono ?_
        rintro e wz ⟨rfl, hb⟩
        replace BB := Lib.hid (BB.out.trans (hb.mono BB.out.size)); clear hb
        go_wp2_with fail
        go_ret
        exact ⟨rfl, BB.out⟩
  · obtain ⟨x, cap, rfl, -⟩ := Draw.bytes_at q0
    have hl : decide ((1048576 : Int) < (l0.length : Int)) = true := by simpa using hlen
    clear hlen q0
    obtain ⟨n0, hn0⟩ : ∃ n0, n0 = l0.length := ⟨_, rfl⟩
    rw [← hn0] at hl ⊢
    clear hn0
    go_enter Try.func3, Try.ntmps3
    go_wp2_with fail
    refine (Draw.big_yes x n0 cap w hl).mono ?_
    rintro e w' ⟨rfl, rfl⟩
    go_wp2_with fail
    go_ret
    exact ⟨rfl, Below.refl _ _⟩

set_option maxRecDepth 100000 in
theorem lifted (os : Os) (started : os.Started) (H : Type) (enc : TypeId × Value → H) :
    ReturnsInHanded {} Try.checked os 3 .any (Rows.fnVarsSpec.pre6 enc Try.prog Try.f3 Rows.fnVarsRow.domain false) (Rows.fnVarsSpec.post enc Try.prog Try.f3 false true false false) := by
  refine returnsInHanded_of_change_sized (C := Try.checked) own started (by kernel_rfl) Try.func3
    (ChangeSpec.witness6 (enc := enc) (C := Try.checked) false ⟨#[], #[.slice none 0 0], []⟩ 8 (by kernel_rfl) (by kernel_rfl) (by kernel_rfl) (by kernel_rfl)) ?_
  intro W base args ds gs before hval0 hW _ hsz0 _
  have hval : ∀ (j : Nat) t v, Try.f3.params[j]? = some t → args[j]? = some v → Value.okWide Try.prog W .any base t v := hval0
  have hsz : (DataW.weightsEach Try.prog (Try.f3.params.toList ++ Rows.fnVarsSpec.plain.varTypes Try.prog) (ds ++ gs)).all (· ≤ reachBytes) = true := hsz0
  clear hsz0
  have hW' := hW
  obtain ⟨p, q, hA0, hV, rfl, hfz, hnd⟩ := hW
  have hA : DataW.TrodAll enc Try.prog W 0 (fun _ => true) true Try.f3.params.toList args.toList ds p := hA0
  rw [Try.params3] at hA hval hsz
  obtain ⟨v0, vs0, d0, ds0, p0, q0, hargs, rfl, rfl, h0, r0⟩ := trodAll_cons hA
  obtain ⟨rfl, rfl, rfl⟩ := trodAll_nil r0
  obtain rfl : args = #[v0] := by cases args; simp_all
  obtain ⟨rfl, rfl⟩ := trodVars_none hV
  obtain ⟨l0, q0⟩ := Frame.open_bytes (j := 0) Try.underlying22 Try.underlying5 (by kernel_rfl) (by kernel_rfl) (hval 0 22 v0 rfl rfl) h0 hsz rfl rfl
  clear hA0 hval0
  refine (walk W _ _ q0).mono fun e W' ⟨he, hb⟩ => ?_
  subst he
  exact ⟨_, rfl, Frame.law_post laidOut (by kernel_rfl) rfl Try.underlying4 rfl rfl hW' hb⟩

theorem said : Rows.FnVarsSaid :=
  OpenClaim.holds_of_wide 3 Try.f3 rfl rfl rfl rfl rfl rfl rfl ⟨rfl, rfl, rfl, rfl, rfl⟩ rfl rfl rfl rfl rfl (by kernel_rfl) Try.func3 (by kernel_rfl)
    (of_decide_eq_true (by kernel_rfl)) (by unfold Func.isWrapper; first | (rw [if_pos (by decide +kernel)]; kernel_rfl) | (rw [if_neg (by decide +kernel)]; exact ⟨rfl, rfl⟩))
    (fun os started H enc _ => lifted os started H enc)

#print axioms said
end Go.Proofs.Ytcoghpigeccjoaa.fnVars
