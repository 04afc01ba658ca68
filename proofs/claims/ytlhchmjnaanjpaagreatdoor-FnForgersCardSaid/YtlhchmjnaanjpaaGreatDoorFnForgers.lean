/- Without a secret of a key that may sign a name, nobody makes trusted data of this name: for all draws. No conditions. -/
import Derived.Test.YtlhchmjnaanjpaaGreatDoorCards
import Derived.Test.YtlhchmjnaanjpaaGreatDoorTie
import Derived.WalkKit
import Derived.ProofKit
import Derived.OpenShut
import Derived.SizedLaws
import Derived.LaidMore
import Derived.Stop.Joined
import Derived.Stop.LaidErr
import Derived.Lib.LaidTab
import Derived.SevenTiedAt
import Derived.LaidHandle
import Derived.LaidLaws
import Derived.Test.YtlhchmjnaanjpaaGreatDoorB1
import Derived.Test.YtlhchmjnaanjpaaGreatDoorB24
import Derived.Test.YtlhchmjnaanjpaaGreatDoorB26
import Derived.Test.YtlhchmjnaanjpaaGreatDoorB27
import Derived.Test.YtlhchmjnaanjpaaGreatDoorB28
namespace Go.Proofs.YtlhchmjnaanjpaaGreatDoor.fnForgers
open Go.ChangeShapes Go.WideShapes Go.ChangeAt Go.RowKit
open Go.ChangeMaps (open_string shut_string)
set_option linter.unusedVariables false

theorem own : ownKnob Tryz.prog.godebug = none := by kernel_rfl
theorem laidOut : laidOutB Tryz.prog = true := by kernel_rfl

set_option maxRecDepth 100000 in
set_option maxHeartbeats 80000000 in
theorem walk (w : World) (y0 : Value) (l0 : List UInt8) (q0 : Frame.Bytes w y0 l0) (ht : Row.ErrT w) :
    Calls Tryz.prog 4 #[y0] w fun e w' => e = .returned (.bool true) ∧ Below w.heap.size w w' := by
  by_cases hlen : (l0.length : Int) ≤ 1048576
  · obtain ⟨x, cap, rfl, -⟩ := Draw.bytes_at q0
    have hl : decide ((1048576 : Int) < (l0.length : Int)) = false := by simpa using hlen
    have Q0 := Lib.hid q0; clear q0 hlen
    obtain ⟨n0, hn0⟩ : ∃ n0, n0 = l0.length := ⟨_, rfl⟩
    rw [← hn0] at hl Q0 ⊢
    have HN0 := Lib.hid hn0; clear hn0
    have BB := Lib.hid (Below.refl w.heap.size w)
    have HT := Lib.hid ht; clear ht
    go_enter Tryz.func4, Tryz.ntmps4
    go_wp2_with fail
    refine (Draw.big_no x n0 cap w hl).mono ?_
    rintro e w' ⟨rfl, rfl⟩
    go_wp2_with fail
    refine (Draw.dDrawMade _ _ l0 Q0.out).mono ?_
    rintro e w1 ⟨V, U, B, rfl, hV, hU, hb⟩
    obtain ⟨tt, ht, hft, h5⟩ := Row.trustD_at2 hV
    obtain ⟨xx, hx, hfx, hnx⟩ := Row.madeD_at hU
    clear hV hU
    obtain ⟨x0, n1, c0, x1, n2, c1, x2, n3, c2, x3, n4, c3, rfl, ht⟩ := Row.kTp_shapeA ht
    obtain ⟨ya, ma, da, yb, mb, db, yc, mc, dc_, rfl, hx⟩ := Row.kD_shapeA hx
    obtain ⟨k1, k2, k3, -⟩ := Draw.two_new (w := w1) #[.slice x0 n1 c0, .slice x1 n2 c1, .slice x2 n3 c2, .slice x3 n4 c3] #[.slice ya ma da, .slice yb mb db, .slice yc mc dc_, .int .i64 xx.2.2.2.1, .int .i64 xx.2.2.2.2] 29 34
    have C_t := Lib.hid k1; have C_x := Lib.hid k2; have H_t := Lib.hid (ht.on k3); have H_x := Lib.hid (hx.on k3); have HFT := Lib.hid hft; have HFX := Lib.hid hfx; have H5 := Lib.hid h5; have HNX := Lib.hid hnx
    replace HT := Lib.hid ((HT.out.on hb).on k3); replace BB := Lib.hid ((BB.out.trans hb).trans (k3.mono hb.size))
    obtain ⟨gt, hgt⟩ : ∃ g, w1.heap.size = g := ⟨_, rfl⟩
    obtain ⟨w2, hw2⟩ : ∃ W, (w1.alloc (.cells #[.slice x0 n1 c0, .slice x1 n2 c1, .slice x2 n3 c2, .slice x3 n4 c3] 29)).alloc (.cells #[.slice ya ma da, .slice yb mb db, .slice yc mc dc_, .int .i64 xx.2.2.2.1, .int .i64 xx.2.2.2.2] 34) = W := ⟨_, rfl⟩
    rw [hw2, hgt] at C_t C_x; rw [hw2] at H_t H_x HT BB
    have HW2 := Lib.hid hw2; have HGQ := Lib.hid hgt
    clear k1 k2 k3 ht hx hft hfx h5 hnx hb hw2 hgt
    go_upto_region 4 with fail
    rw [HW2.out, HGQ.out]
    clear HW2 HGQ
    have B2 := Lib.hid (Below.refl w2.heap.size w2)
    obtain ⟨gx, hgx⟩ : ∃ g, gt + 1 = g := ⟨_, rfl⟩
    have HGX := Lib.hid hgx.symm
    rw [hgx] at C_x ⊢
    clear hgx
    obtain ⟨z0, hz0⟩ : ∃ z, Row.trusted tt xx 50 = z := ⟨_, rfl⟩
    have HZ0 := Lib.hid hz0; clear hz0
    cases z0 with
    | false =>
      refine Row.fg4false H_t H_x HFT HFX HT HZ0 (Lib.hid (C_t.out.cell 0)) (Lib.hid (C_t.out.cell 1)) (Lib.hid (C_t.out.cell 2)) (Lib.hid (C_t.out.cell 3)) (Lib.hid (C_x.out.cell 0)) (Lib.hid (C_x.out.cell 1)) (Lib.hid (C_x.out.cell 2)) (Lib.hid (C_x.out.cell 3)) (Lib.hid (C_x.out.cell 4)) ?_
      intro u16 u17 u19 u20 wx hb
      replace C_t := Lib.hid (C_t.out.on hb); replace C_x := Lib.hid (C_x.out.on hb); replace B2 := Lib.hid (B2.out.trans (hb.mono B2.out.size))
      clear hb
      obtain ⟨t0, t1, t2, t3⟩ := Row.cellsOf4 C_t.out; obtain ⟨d0, d1, d2, d3, d4⟩ := Row.cellsOf5 C_x.out
      go_wp2_with fail
      refine (Row.implIsTrusted _ _ tt xx 50 _ false HZ0.out (H_t.out.on B2.out) (H_x.out.on B2.out) HFT.out HFX.out (HT.out.on B2.out)).mono ?_
      rintro e w4 ⟨rfl, hb⟩
      replace C_t := Lib.hid (C_t.out.on hb); replace C_x := Lib.hid (C_x.out.on hb); replace B2 := Lib.hid (B2.out.trans (hb.mono B2.out.size))
      clear hb
      clear t0 t1 t2 t3 d0 d1 d2 d3 d4
      go_wp2_with fail
      go_ret
      exact ⟨rfl, BB.out.trans (B2.out.mono BB.out.size)⟩
    | true =>
      refine Row.fg4true H_t H_x HFT HFX HT HZ0 (Lib.hid (C_t.out.cell 0)) (Lib.hid (C_t.out.cell 1)) (Lib.hid (C_t.out.cell 2)) (Lib.hid (C_t.out.cell 3)) (Lib.hid (C_x.out.cell 0)) (Lib.hid (C_x.out.cell 1)) (Lib.hid (C_x.out.cell 2)) (Lib.hid (C_x.out.cell 3)) (Lib.hid (C_x.out.cell 4)) ?_
      intro u16 u17 u19 u20 wx hb
      replace C_t := Lib.hid (C_t.out.on hb); replace C_x := Lib.hid (C_x.out.on hb); replace B2 := Lib.hid (B2.out.trans (hb.mono B2.out.size))
      clear hb
      obtain ⟨t0, t1, t2, t3⟩ := Row.cellsOf4 C_t.out; obtain ⟨d0, d1, d2, d3, d4⟩ := Row.cellsOf5 C_x.out
      go_wp2_with fail
      refine (Row.implIsTrusted _ _ tt xx 50 _ true HZ0.out (H_t.out.on B2.out) (H_x.out.on B2.out) HFT.out HFX.out (HT.out.on B2.out)).mono ?_
      rintro e w4 ⟨rfl, hb⟩
      replace C_t := Lib.hid (C_t.out.on hb); replace C_x := Lib.hid (C_x.out.on hb); replace B2 := Lib.hid (B2.out.trans (hb.mono B2.out.size))
      clear hb
      clear t0 t1 t2 t3 d0 d1 d2 d3 d4
      have HV := Lib.hid (Row.trusted_ver HZ0.out).2
      have HFR := Lib.hid (show 0 ≤ xx.2.2.2.1 ∧ xx.2.2.2.1 ≤ 100000 from (Row.validD_iff.1 HV.out).2.2.2.2.1); have HSR := Lib.hid (show 0 ≤ xx.2.2.2.2 ∧ xx.2.2.2.2 ≤ 2147483646 from (Row.validD_iff.1 HV.out).2.2.2.2.2)
      obtain ⟨t0, t1, t2, t3⟩ := Row.cellsOf4 C_t.out; obtain ⟨d0, d1, d2, d3, d4⟩ := Row.cellsOf5 C_x.out
      have hb := (Below.refl w4.heap.size w4).alloc (Nat.le_refl _) (.cells #[.slice ya ma da, .slice yb mb db, .slice yc mc dc_, .int .i64 xx.2.2.2.1, .int .i64 xx.2.2.2.2] 34)
      have C_z := Lib.hid (Ret.Blk.new w4 #[.slice ya ma da, .slice yb mb db, .slice yc mc dc_, .int .i64 xx.2.2.2.1, .int .i64 xx.2.2.2.2] 34)
      have HLX := Lib.hid C_x.out.lt; have HG2 := Lib.hid B2.out.size; have HLT := Lib.hid C_t.out.lt
      replace C_t := Lib.hid (C_t.out.on hb); replace C_x := Lib.hid (C_x.out.on hb); replace B2 := Lib.hid (B2.out.trans (hb.mono B2.out.size))
      clear hb
      obtain ⟨gz, hgz⟩ : ∃ g, w4.heap.size = g := ⟨_, rfl⟩
      obtain ⟨w5, hw5⟩ : ∃ W, w4.alloc (.cells #[.slice ya ma da, .slice yb mb db, .slice yc mc dc_, .int .i64 xx.2.2.2.1, .int .i64 xx.2.2.2.2] 34) = W := ⟨_, rfl⟩
      rw [hw5] at C_t C_x C_z B2; rw [hgz] at C_z HLX HG2 HLT
      have HW5 := Lib.hid hw5; have HGQ := Lib.hid hgz
      clear hw5 hgz
      go_upto_region 9 with fail
      rw [HW5.out, HGQ.out]
      clear HW5 HGQ
      clear t0 t1 t2 t3 d0 d1 d2 d3 d4
      refine Row.fg9 (l0 := l0) (Lib.hid (Q0.out.on (BB.out.trans (B2.out.mono BB.out.size)))) HN0 C_x C_z (Lib.hid (by have := HLX.out; omega)) (Lib.hid (by have := HFR.out; omega)) (Lib.hid rfl) (Lib.hid (C_x.out.cell 3)) ?_
      intro u28 u29 u30 u31 u32 u33 u34 r wx hr0 hr1 hb
      replace C_t := Lib.hid (C_t.out.on hb); replace C_x := Lib.hid (C_x.out.on hb); replace C_z := Lib.hid (C_z.out.on hb); replace B2 := Lib.hid (B2.out.trans (hb.mono B2.out.size))
      have hZ := C_z.out.set 3 (.int .i64 (xx.2.2.2.1 + 1 + r))
      have hX := C_x.out.other (a := ⟨gz, 3, none⟩) (show gz ≠ gx by have := HLX.out; omega) (.int .i64 (xx.2.2.2.1 + 1 + r)); have hT := C_t.out.other (a := ⟨gz, 3, none⟩) (show gz ≠ gt by have := HLT.out; omega) (.int .i64 (xx.2.2.2.1 + 1 + r))
      have hB := B2.out.setCell (p := ⟨gz, 3, none⟩) HG2.out (.int .i64 (xx.2.2.2.1 + 1 + r))
      obtain ⟨w6, hw6⟩ : ∃ W, wx.setCell ⟨gz, 3, none⟩ (.int .i64 (xx.2.2.2.1 + 1 + r)) = W := ⟨_, rfl⟩
      rw [hw6] at hZ hX hT hB ⊢
      replace C_z := Lib.hid (show Ret.Blk w6 gz #[.slice ya ma da, .slice yb mb db, .slice yc mc dc_, .int .i64 (xx.2.2.2.1 + 1 + r), .int .i64 xx.2.2.2.2] 34 from hZ); replace C_x := Lib.hid hX; replace C_t := Lib.hid hT; replace B2 := Lib.hid hB
      clear hZ hX hT hB hw6 hb
      have HZF := Lib.hid (Row.forge_fresh HZ0.out hr0 hr1)
      have hbA := (Below.refl w6.heap.size w6).alloc (Nat.le_refl _) (.cells #[.string { data := #[98, 97, 100] }, .string { data := #[107, 101, 121] }] 9)
      have C_t2 := Lib.hid (C_t.out.on hbA); have C_x2 := Lib.hid (C_x.out.on hbA); have C_z2 := Lib.hid (C_z.out.on hbA); have B3 := Lib.hid (B2.out.trans (hbA.mono B2.out.size))
      have HSK := Lib.hid (Row.Ring.implSignWithKeyK _ _ _ _ tt.1 Row.badK xx.1 xx.2.1 xx.2.2.2.1 _ (Row.kTp_keys11 (H_t.out.on B3.out)) (Row.bad_lit11 w6) (Row.kN_of (Row.kD_parts11 (H_x.out.on B3.out)).1) (Row.kB_of (Row.kD_parts11 (H_x.out.on B3.out)).2.1) (Row.byt_wf11 HFX.out.ok.2.1.2) HFT.out.keys (of_decide_eq_true (by kernel_rfl)) HFX.out.name HFX.out.bytes)
      obtain ⟨t0, t1, t2, t3⟩ := Row.cellsOf4 C_t.out; obtain ⟨d0, d1, d2, d3, d4⟩ := Row.cellsOf5 C_x.out
      obtain ⟨a0, a1, a2, a3, a4⟩ := Row.cellsOf5 C_x2.out
      clear hbA
      go_wp2_with fail
      refine HSK.out.mono ?_
      rintro e w7 ⟨Xv, rfl, ho, hb⟩
      obtain ⟨va, na, ca, vb, nb, cb, vc, nc, cc, rfl, ho2⟩ := Row.kD_shape ho
      clear t0 t1 t2 t3 d0 d1 d2 d3 d4 a0 a1 a2 a3 a4 ho HSK C_t C_x C_z B2
      have H_w := Lib.hid ho2.at; have HFW := Lib.hid (Row.forge_fit11 (T := tt.1) HV.out HFX.out.ok.2.1.2 HFX.out.ok.2.2.2.1); have HWN := Lib.hid (fun hk => Row.forge_key (now := 50) (b := xx.2.1) (u := xx.2.2.2.1) (T := tt.1) H5.out HNX.out hk)
      obtain ⟨ok, hok⟩ : ∃ b, Row.Ring.sgOk tt.1 Row.badK xx.1 xx.2.1 xx.2.2.2.1 = b := ⟨_, rfl⟩
      rw [hok] at HWN ⊢
      obtain ⟨X, hX⟩ : ∃ b, Row.Ring.sgK tt.1 Row.badK xx.1 xx.2.1 xx.2.2.2.1 = b := ⟨_, rfl⟩
      rw [hX] at H_w HFW HWN ⊢
      clear hok hX ho2
      have C_t := Lib.hid (C_t2.out.on hb); have C_x := Lib.hid (C_x2.out.on hb); have C_z := Lib.hid (C_z2.out.on hb); have B2 := Lib.hid (B3.out.trans (hb.mono B3.out.size))
      clear hb C_t2 C_x2 C_z2 B3
      have hb := (Below.refl w7.heap.size w7).alloc (Nat.le_refl _) (.cells #[.slice va na ca, .slice vb nb cb, .slice vc nc cc, .int .i64 X.2.2.2.1, .int .i64 X.2.2.2.2] 34)
      have C_w := Lib.hid (Ret.Blk.new w7 #[.slice va na ca, .slice vb nb cb, .slice vc nc cc, .int .i64 X.2.2.2.1, .int .i64 X.2.2.2.2] 34); have HGW := Lib.hid C_z.out.lt
      replace C_t := Lib.hid (C_t.out.on hb); replace C_x := Lib.hid (C_x.out.on hb); replace C_z := Lib.hid (C_z.out.on hb); replace H_w := Lib.hid (H_w.out.on hb); replace B2 := Lib.hid (B2.out.trans (hb.mono B2.out.size))
      clear hb
      obtain ⟨gw, hgw⟩ : ∃ g, w7.heap.size = g := ⟨_, rfl⟩
      obtain ⟨w8, hw8⟩ : ∃ W, w7.alloc (.cells #[.slice va na ca, .slice vb nb cb, .slice vc nc cc, .int .i64 X.2.2.2.1, .int .i64 X.2.2.2.2] 34) = W := ⟨_, rfl⟩
      rw [hw8] at C_t C_x C_z C_w B2 H_w; rw [hgw] at C_w HGW
      have HW5 := Lib.hid hw8; have HGQ := Lib.hid hgw
      clear hw8 hgw
      go_upto_region 11 with fail
      rw [HW5.out, HGQ.out]
      clear HW5 HGQ
      obtain ⟨t0, t1, t2, t3⟩ := Row.cellsOf4 C_t.out; obtain ⟨d0, d1, d2, d3, d4⟩ := Row.cellsOf5 C_x.out
      have hb := (Below.refl w8.heap.size w8).alloc (Nat.le_refl _) (.cells #[.slice ya ma da, .slice yb mb db, .slice yc mc dc_, .int .i64 xx.2.2.2.1, .int .i64 xx.2.2.2.2] 34)
      have C_v := Lib.hid (Ret.Blk.new w8 #[.slice ya ma da, .slice yb mb db, .slice yc mc dc_, .int .i64 xx.2.2.2.1, .int .i64 xx.2.2.2.2] 34); have HGV := Lib.hid C_w.out.lt
      have HG3 := Lib.hid B2.out.size
      have B8 := Lib.hid hb
      replace C_t := Lib.hid (C_t.out.on hb); replace C_x := Lib.hid (C_x.out.on hb); replace C_z := Lib.hid (C_z.out.on hb); replace C_w := Lib.hid (C_w.out.on hb); replace B2 := Lib.hid (B2.out.trans (hb.mono B2.out.size))
      clear hb
      have HGE := Lib.hid (Nat.le_refl w8.heap.size)
      obtain ⟨gv, hgv⟩ : ∃ g, w8.heap.size = g := ⟨_, rfl⟩
      obtain ⟨w9, hw9⟩ : ∃ W, w8.alloc (.cells #[.slice ya ma da, .slice yb mb db, .slice yc mc dc_, .int .i64 xx.2.2.2.1, .int .i64 xx.2.2.2.2] 34) = W := ⟨_, rfl⟩
      rw [hw9] at C_t C_x C_z C_w C_v B2 B8; rw [hgv] at C_v HGV HG3; replace HGE := Lib.hid (show w8.heap.size ≤ gv by omega)
      have HW5 := Lib.hid hw9; have HGQ := Lib.hid hgv
      clear hw9 hgv
      go_upto_region 12 with fail
      rw [HW5.out, HGQ.out]
      clear HW5 HGQ
      clear t0 t1 t2 t3 d0 d1 d2 d3 d4
      refine Row.fg12 (l0 := l0) (Lib.hid (Q0.out.on (BB.out.trans (B2.out.mono BB.out.size)))) HN0 C_x C_v (Lib.hid (by have := HLX.out; have := HGW.out; have := HGV.out; omega)) (Lib.hid (by have := HSR.out; omega)) (Lib.hid rfl) (Lib.hid (C_x.out.cell 4)) ?_
      intro u50 u51 u52 u53 u54 u55 u56 u57 q wx2 hq0 hq1 hb
      obtain ⟨s2, hs2⟩ : ∃ s, (xx.2.2.2.2 + 1 + q).tmod 2147483647 = s := ⟨_, rfl⟩
      have HS2 := Lib.hid (show s2 ≠ xx.2.2.2.2 ∧ 0 ≤ s2 ∧ s2 ≤ 2147483646 by have h := HSR.out; rw [Int.tmod_eq_emod_of_nonneg (by omega)] at hs2; omega)
      rw [hs2]; clear hs2 hq0 hq1
      have hB := (B2.out.trans (hb.mono B2.out.size)).setCell (p := ⟨gv, 4, none⟩) HG3.out (.int .i64 s2); have hB8 := (B8.out.trans (hb.mono B8.out.size)).setCell (p := ⟨gv, 4, none⟩) HGE.out (.int .i64 s2)
      have hT := (C_t.out.on hb).other (a := ⟨gv, 4, none⟩) (show gv ≠ gt by have h1 := HLX.out; have h2 := HLT.out; have h3 := HGW.out; have h4 := HGV.out; omega) (.int .i64 s2)
      have hZ := (C_z.out.on hb).other (a := ⟨gv, 4, none⟩) (show gv ≠ gz by have h1 := HLX.out; have h2 := HLT.out; have h3 := HGW.out; have h4 := HGV.out; omega) (.int .i64 s2)
      have hW := (C_w.out.on hb).other (a := ⟨gv, 4, none⟩) (show gv ≠ gw by have h1 := HLX.out; have h2 := HLT.out; have h3 := HGW.out; have h4 := HGV.out; omega) (.int .i64 s2)
      have hV := (C_v.out.on hb).set 4 (.int .i64 s2)
      obtain ⟨wy, hwy⟩ : ∃ W, wx2.setCell ⟨gv, 4, none⟩ (.int .i64 s2) = W := ⟨_, rfl⟩
      rw [hwy] at hB hB8 hT hZ hW hV ⊢
      replace B2 := Lib.hid hB; have H_w9 := Lib.hid (H_w.out.on hB8); replace C_t := Lib.hid hT; replace C_z := Lib.hid hZ; replace C_w := Lib.hid hW; replace C_v := Lib.hid (show Ret.Blk wy gv #[.slice ya ma da, .slice yb mb db, .slice yc mc dc_, .int .i64 xx.2.2.2.1, .int .i64 s2] 34 from hV)
      clear hB hB8 hT hZ hW hV hwy hb C_x B8 H_w
      have HVF := Lib.hid (Row.forge_sig HZ0.out HS2.out.1)
      have HF1 := Lib.hid (Row.fitD_turn11 HFX.out (g := xx.2.2.2.1 + 1 + r) (u := xx.2.2.2.2) (Draw.wf_of (by have := HFR.out; omega) (by have := HFR.out; omega)) HFX.out.ok.2.2.2.2); have HF2 := Lib.hid (Row.fitD_turn11 HFX.out (g := xx.2.2.2.1) (u := s2) HFX.out.ok.2.2.2.1 (Draw.wf_of (by have := HS2.out; omega) (by have := HS2.out; omega)))
      cases ok with
      | false =>
        obtain ⟨t0, t1, t2, t3⟩ := Row.cellsOf4 C_t.out; obtain ⟨z0, z1, z2, z3, z4⟩ := Row.cellsOf5 C_z.out; obtain ⟨v0, v1, v2, v3, v4⟩ := Row.cellsOf5 C_v.out; obtain ⟨w0, w1, w2, w3, w4⟩ := Row.cellsOf5 C_w.out
        go_wp2_with fail
        refine (Row.implIsTrusted _ _ tt (xx.1, xx.2.1, xx.2.2.1, xx.2.2.2.1 + 1 + r, xx.2.2.2.2) 50 _ false HZF.out (H_t.out.on B2.out) (Row.kD_turn11 (H_x.out.on B2.out) _ _) HFT.out HF1.out (HT.out.on B2.out)).mono ?_
        rintro e wk ⟨rfl, hb⟩
        replace C_t := Lib.hid (C_t.out.on hb); replace C_v := Lib.hid (C_v.out.on hb); replace C_w := Lib.hid (C_w.out.on hb); replace H_w9 := Lib.hid (H_w9.out.on hb); replace B2 := Lib.hid (B2.out.trans (hb.mono B2.out.size))
        clear hb
        clear t0 t1 t2 t3 z0 z1 z2 z3 z4 v0 v1 v2 v3 v4 w0 w1 w2 w3 w4
        obtain ⟨t0, t1, t2, t3⟩ := Row.cellsOf4 C_t.out; obtain ⟨v0, v1, v2, v3, v4⟩ := Row.cellsOf5 C_v.out; obtain ⟨w0, w1, w2, w3, w4⟩ := Row.cellsOf5 C_w.out
        go_wp2_with fail
        refine (Row.implIsTrusted _ _ tt (xx.1, xx.2.1, xx.2.2.1, xx.2.2.2.1, s2) 50 _ false HVF.out (H_t.out.on B2.out) (Row.kD_turn11 (H_x.out.on B2.out) _ _) HFT.out HF2.out (HT.out.on B2.out)).mono ?_
        rintro e wk ⟨rfl, hb⟩
        replace C_t := Lib.hid (C_t.out.on hb); replace C_v := Lib.hid (C_v.out.on hb); replace C_w := Lib.hid (C_w.out.on hb); replace H_w9 := Lib.hid (H_w9.out.on hb); replace B2 := Lib.hid (B2.out.trans (hb.mono B2.out.size))
        clear hb
        clear t0 t1 t2 t3 v0 v1 v2 v3 v4 w0 w1 w2 w3 w4
        obtain ⟨t0, t1, t2, t3⟩ := Row.cellsOf4 C_t.out; obtain ⟨v0, v1, v2, v3, v4⟩ := Row.cellsOf5 C_v.out; obtain ⟨w0, w1, w2, w3, w4⟩ := Row.cellsOf5 C_w.out
        go_wp2_with fail
        go_ret
        exact ⟨rfl, BB.out.trans (B2.out.mono BB.out.size)⟩
      | true =>
        have HWF := Lib.hid (HWN.out rfl)
        obtain ⟨t0, t1, t2, t3⟩ := Row.cellsOf4 C_t.out; obtain ⟨z0, z1, z2, z3, z4⟩ := Row.cellsOf5 C_z.out; obtain ⟨v0, v1, v2, v3, v4⟩ := Row.cellsOf5 C_v.out; obtain ⟨w0, w1, w2, w3, w4⟩ := Row.cellsOf5 C_w.out
        go_wp2_with fail
        refine (Row.implIsTrusted _ _ tt (xx.1, xx.2.1, xx.2.2.1, xx.2.2.2.1 + 1 + r, xx.2.2.2.2) 50 _ false HZF.out (H_t.out.on B2.out) (Row.kD_turn11 (H_x.out.on B2.out) _ _) HFT.out HF1.out (HT.out.on B2.out)).mono ?_
        rintro e wk ⟨rfl, hb⟩
        replace C_t := Lib.hid (C_t.out.on hb); replace C_v := Lib.hid (C_v.out.on hb); replace C_w := Lib.hid (C_w.out.on hb); replace H_w9 := Lib.hid (H_w9.out.on hb); replace B2 := Lib.hid (B2.out.trans (hb.mono B2.out.size))
        clear hb
        clear t0 t1 t2 t3 z0 z1 z2 z3 z4 v0 v1 v2 v3 v4 w0 w1 w2 w3 w4
        obtain ⟨t0, t1, t2, t3⟩ := Row.cellsOf4 C_t.out; obtain ⟨v0, v1, v2, v3, v4⟩ := Row.cellsOf5 C_v.out; obtain ⟨w0, w1, w2, w3, w4⟩ := Row.cellsOf5 C_w.out
        go_wp2_with fail
        refine (Row.implIsTrusted _ _ tt (xx.1, xx.2.1, xx.2.2.1, xx.2.2.2.1, s2) 50 _ false HVF.out (H_t.out.on B2.out) (Row.kD_turn11 (H_x.out.on B2.out) _ _) HFT.out HF2.out (HT.out.on B2.out)).mono ?_
        rintro e wk ⟨rfl, hb⟩
        replace C_t := Lib.hid (C_t.out.on hb); replace C_v := Lib.hid (C_v.out.on hb); replace C_w := Lib.hid (C_w.out.on hb); replace H_w9 := Lib.hid (H_w9.out.on hb); replace B2 := Lib.hid (B2.out.trans (hb.mono B2.out.size))
        clear hb
        clear t0 t1 t2 t3 v0 v1 v2 v3 v4 w0 w1 w2 w3 w4
        obtain ⟨t0, t1, t2, t3⟩ := Row.cellsOf4 C_t.out; obtain ⟨v0, v1, v2, v3, v4⟩ := Row.cellsOf5 C_v.out; obtain ⟨w0, w1, w2, w3, w4⟩ := Row.cellsOf5 C_w.out
        go_wp2_with fail
        refine (Row.implIsTrusted _ _ tt X 50 _ false HWF.out (H_t.out.on B2.out) H_w9.out HFT.out HFW.out (HT.out.on B2.out)).mono ?_
        rintro e wk ⟨rfl, hb⟩
        replace C_t := Lib.hid (C_t.out.on hb); replace C_v := Lib.hid (C_v.out.on hb); replace C_w := Lib.hid (C_w.out.on hb); replace H_w9 := Lib.hid (H_w9.out.on hb); replace B2 := Lib.hid (B2.out.trans (hb.mono B2.out.size))
        clear hb
        clear t0 t1 t2 t3 v0 v1 v2 v3 v4 w0 w1 w2 w3 w4
        go_wp2_with fail
        go_ret
        exact ⟨rfl, BB.out.trans (B2.out.mono BB.out.size)⟩
  · obtain ⟨x, cap, rfl, -⟩ := Draw.bytes_at q0
    have hl : decide ((1048576 : Int) < (l0.length : Int)) = true := by simpa using hlen
    obtain ⟨n0, hn0⟩ : ∃ n0, n0 = l0.length := ⟨_, rfl⟩
    rw [← hn0] at hl ⊢
    clear hn0 hlen q0
    go_enter Tryz.func4, Tryz.ntmps4
    go_wp2_with fail
    refine (Draw.big_yes x n0 cap w hl).mono ?_
    rintro e w' ⟨rfl, rfl⟩
    go_wp2_with fail
    go_ret
    exact ⟨rfl, Below.refl _ _⟩

/-- The heap that the initialisers' own run leaves meets the list. -/
theorem door_met (os : Os) (args : Array Value) : laidMetH Tryz.prog Rows.fnForgersRow.laid ((World.doorLaid Tryz.prog 16 os).forCall (fun _ _ => 0) ⟨#[], args, []⟩).memory :=
  laidMetH_of_parts (laidMet_nil _ _) (by kernel_rfl)

theorem eG : Tryz.prog.globalNamed "errors.errorType" = some 0 := by kernel_rfl
theorem eR : (Tryz.prog.cutTypes.find? (·.1 == "internal/reflectlite.rtype")).map (·.2) = some 155 := by kernel_rfl
theorem eO : ((List.range Tryz.prog.types.size).filter fun t => Tryz.prog.rowNamed t [101, 114, 114, 111, 114]) = [64] := by kernel_rfl
theorem of_laid {W : World} (h : laidMetH Tryz.prog Rows.fnForgersRow.laid W) : Row.ErrT W := by
  have h2 : laidMet Tryz.prog [] W ∧ handlesMet Tryz.prog Rows.fnForgersRow.laid W := h
  obtain ⟨name, u, ty, e1, e2, e3, e4, e5⟩ := h2.2 _ (List.mem_singleton.2 rfl)
  have en : name = [101, 114, 114, 111, 114] := (Option.some.inj e1).symm
  subst en
  obtain rfl := Option.some.inj (eR.symm.trans e2)
  have hm : ty ∈ (List.range Tryz.prog.types.size).filter fun t => Tryz.prog.rowNamed t [101, 114, 114, 111, 114] := List.mem_filter.2 ⟨List.mem_range.2 e3, e4⟩
  rw [eO] at hm
  obtain rfl := List.mem_singleton.1 hm
  have hh : typeHandle Tryz.prog 64 = .pointer (some ⟨1, 64, none⟩) := by kernel_rfl
  rw [hh] at e5
  unfold Row.ErrT
  simpa using World.var?_cell eG e5 0

set_option maxRecDepth 100000 in
theorem lifted (os : Os) (started : os.Started) (H : Type) (enc : TypeId × Value → H) :
    ReturnsInHanded {} Tryz.checked os 4 .any (fun w args => (Rows.fnForgersSpec.pre enc Tryz.prog Tryz.f4 [] false w args ∧ laidMetH Tryz.prog Rows.fnForgersRow.laid w) ∧ sizedMet enc Tryz.prog Tryz.f4 (OpenSpec.ofChange Rows.fnForgersSpec) false w args)
      (Rows.fnForgersSpec.post enc Tryz.prog Tryz.f4 false true false false) := by
  refine returnsInHanded_of_change_and (C := Tryz.checked) (X := fun w _ => laidMetH Tryz.prog Rows.fnForgersRow.laid w) (fun _ _ _ hh h => h.of_heap hh) own started (by kernel_rfl) Tryz.func4
    (ChangeSpec.witness_shaped (enc := enc) (C := Tryz.checked) (os := os) (X := fun w _ => laidMetH Tryz.prog Rows.fnForgersRow.laid w) false (World.doorLaid Tryz.prog 16 os) #[.slice none 0 0] 8 rfl (World.shaped_of_RefB (by kernel_rfl) (by kernel_rfl)) (by kernel_rfl) (by kernel_rfl) (by kernel_rfl) (door_met os _)) ?_
  intro W base args ds gs before hval0 hW _ hsz0 hL _
  have hval : ∀ (j : Nat) t v, Tryz.f4.params[j]? = some t → args[j]? = some v → Value.okWide Tryz.prog W .any base t v := hval0
  have hsz : (DataW.weightsEach Tryz.prog (Tryz.f4.params.toList ++ Rows.fnForgersSpec.plain.varTypes Tryz.prog) (ds ++ gs)).all (· ≤ reachBytes) = true := hsz0
  clear hsz0
  have hW' := hW
  obtain ⟨p, q, hA0, hV, rfl, hfz, hnd⟩ := hW
  have hA : DataW.TrodAll enc Tryz.prog W 0 (fun _ => true) true Tryz.f4.params.toList args.toList ds p := hA0
  rw [Tryz.params4] at hA hval hsz
  obtain ⟨v0, vs0, d0, ds0, p0, q0, hargs, rfl, rfl, h0, r0⟩ := trodAll_cons hA
  obtain ⟨rfl, rfl, rfl⟩ := trodAll_nil r0
  obtain rfl : args = #[v0] := by cases args; simp_all
  obtain ⟨rfl, rfl⟩ := trodVars_none hV
  obtain ⟨l0, q0⟩ := Frame.open_bytes (j := 0) Tryz.underlying22 Tryz.underlying5 (by kernel_rfl) (by kernel_rfl) (hval 0 22 v0 rfl rfl) h0 hsz rfl rfl
  clear hA0 hval0
  refine (walk W _ _ q0 (of_laid hL)).mono fun e W' ⟨he, hb⟩ => ?_
  subst he
  exact ⟨_, rfl, Frame.law_post laidOut (by kernel_rfl) rfl Tryz.underlying4 rfl rfl hW' hb⟩

theorem said : Rows.FnForgersSaid :=
  OpenClaim.holds_of_wide 4 Tryz.f4 rfl rfl rfl rfl rfl rfl rfl ⟨rfl, rfl, rfl, rfl, rfl⟩ rfl rfl rfl rfl rfl (by kernel_rfl) Tryz.func4 (by kernel_rfl)
    (of_decide_eq_true (by kernel_rfl)) (by unfold Func.isWrapper; first | (rw [if_pos (by decide +kernel)]; kernel_rfl) | (rw [if_neg (by decide +kernel)]; exact ⟨rfl, rfl⟩))
    (fun os started H enc _ => lifted os started H enc)

theorem plain (f : FuncId) (fn : Func) (hf : Tryz.pinned.checked.prog.funcNamed "loop.example/g00507/laws.FnForgers" = some f) (hfn : Tryz.pinned.checked.prog.funcs[f]? = some fn) :
    true = Tryz.pinned.checked.prog.looks [] ∧ ∀ (j : Nat) t, fn.params[j]? = some t → Tryz.pinned.checked.prog.wantsStandIn t = false := by
  obtain rfl : f = 4 := Option.some.inj ((show Tryz.prog.funcNamed "loop.example/g00507/laws.FnForgers" = some 4 by kernel_rfl).symm.trans hf) |>.symm
  obtain rfl : fn = Tryz.f4 := (Option.some.inj (Tryz.func4.symm.trans hfn)).symm
  refine ⟨by kernel_rfl, fun j t ht => ?_⟩
  rw [Tryz.params4] at ht
  have hm : t ∈ [22] := by simpa using Array.mem_of_getElem? ht
  have hall : ([22].all fun u => !Tryz.prog.wantsStandIn u) = true := by kernel_rfl
  exact (show Tryz.prog.wantsStandIn t = false by simpa using List.all_eq_true.1 hall t hm)

/-- THE CARD. -/
theorem card : Rows.FnForgersCardSaid :=
  Claim7.holds_tied_plain_at .later [] _ _ _ _ said (fun _ h => by cases h) (by kernel_rfl) (fun _ h => by cases h) fnForgers_row_tie rfl ⟨rfl, rfl⟩ (by kernel_rfl) rfl plain (by kernel_rfl)
#print axioms card
end Go.Proofs.YtlhchmjnaanjpaaGreatDoor.fnForgers
