/- Contracts and mathematics, joined: TrustL, MarkK, MarkF, NameSM, KeySM, RuleSM, DataSM, TrustPolicyM, TrustW. No conditions but those that each states. -/
import Derived.WalkKit
import Derived.Deep.RegionHeld3
import Derived.BigQuiet
import Derived.Test.YtlhchmjnaanjpaaGreatDoorB26
import Derived.Test.YtlhchmjnaanjpaaGreatDoorB20
import Derived.Test.YtlhchmjnaanjpaaGreatDoorB4
import Derived.Test.YtlhchmjnaanjpaaGreatDoorB2
import Derived.Test.YtlhchmjnaanjpaaGreatDoorB5
/- The model's TrustChain and IsTrusted. No conditions but that lengths fit. -/
namespace Go.Proofs.YtlhchmjnaanjpaaGreatDoor.Row
open Go.ChangeShapes Go.WideShapes Go.ChangeAt Go.RowKit Go.Instr
set_option linter.unusedVariables false
set_option maxRecDepth 100000
def lenV : Value → Nat
  | .slice _ n _ => n
  | _ => 0
set_option maxHeartbeats 16000000 in
theorem specTrustChain (V U : Value) (t : Tpt) (x : Dzt) (now : Int) (w : World) (h : kTp.At w V t) (g : kD.At w U x) (hp : FitT t) (hfx : FitD x) :
    Calls Tryz.prog 8 #[V, U, .int .i64 now] w fun e w' => ∃ v, e = .returned (.tuple #[v, .bool (chOk t x now)]) ∧ kLNn.In w.heap.size w'.heap.size w' v (chT t x now) ∧ Below w.heap.size w w' := by
  obtain ⟨x0, n0, c0, x1, n1, c1, x2, n2, c2, x3, n3, c3, rfl, g0, g1, g2, g3⟩ := kTp_at h
  obtain ⟨ya, ma, da, yb, mb, db, yc, mc, dc_, rfl, g⟩ := kD_shapeA g
  obtain ⟨k1, k2, k3, k4⟩ := two_news (w := w) #[.slice x0 n0 c0, .slice x1 n1 c1, .slice x2 n2 c2, .slice x3 n3 c3] #[.slice ya ma da, .slice yb mb db, .slice yc mc dc_, .int .i64 x.2.2.2.1, .int .i64 x.2.2.2.2] 29 34
  have HA := Lib.hid (show kTp.At w (.agg #[.slice x0 n0 c0, .slice x1 n1 c1, .slice x2 n2 c2, .slice x3 n3 c3]) t from h)
  have G0 := Lib.hid (kK_ofK g0); have G1 := Lib.hid g1; have G3 := Lib.hid g3; have HD := Lib.hid g
  have HP := Lib.hid hp
  obtain ⟨R, hR⟩ : ∃ R, chT t x now = R := ⟨_, rfl⟩
  obtain ⟨z, hz⟩ : ∃ z, chOk t x now = z := ⟨_, rfl⟩
  rw [hR, hz]
  have HRR := Lib.hid hR; have HZZ := Lib.hid hz
  clear hR hz
  have hb1 := (Below.refl ((w.alloc (.cells #[.slice x0 n0 c0, .slice x1 n1 c1, .slice x2 n2 c2, .slice x3 n3 c3] 29)).alloc (.cells #[.slice ya ma da, .slice yb mb db, .slice yc mc dc_, .int .i64 x.2.2.2.1, .int .i64 x.2.2.2.2] 34)).heap.size ((w.alloc (.cells #[.slice x0 n0 c0, .slice x1 n1 c1, .slice x2 n2 c2, .slice x3 n3 c3] 29)).alloc (.cells #[.slice ya ma da, .slice yb mb db, .slice yc mc dc_, .int .i64 x.2.2.2.1, .int .i64 x.2.2.2.2] 34))).alloc (Nat.le_refl _) (.cells #[] 32)
  have HO := Lib.hid (show kLNn.Own (w.heap.size + 2) (((w.alloc (.cells #[.slice x0 n0 c0, .slice x1 n1 c1, .slice x2 n2 c2, .slice x3 n3 c3] 29)).alloc (.cells #[.slice ya ma da, .slice yb mb db, .slice yc mc dc_, .int .i64 x.2.2.2.1, .int .i64 x.2.2.2.2] 34)).alloc (.cells #[] 32)).heap.size (((w.alloc (.cells #[.slice x0 n0 c0, .slice x1 n1 c1, .slice x2 n2 c2, .slice x3 n3 c3] 29)).alloc (.cells #[.slice ya ma da, .slice yb mb db, .slice yc mc dc_, .int .i64 x.2.2.2.1, .int .i64 x.2.2.2.2] 34)).alloc (.cells #[] 32)) ⟨some ⟨w.heap.size + 1 + 1, 0, none⟩, 0, 0, []⟩ from (by
    have h5 := (Kd.own_row (k := kNn) (r := ⟨some ⟨((w.alloc (.cells #[.slice x0 n0 c0, .slice x1 n1 c1, .slice x2 n2 c2, .slice x3 n3 c3] 29)).alloc (.cells #[.slice ya ma da, .slice yb mb db, .slice yc mc dc_, .int .i64 x.2.2.2.1, .int .i64 x.2.2.2.2] 34)).heap.size, 0, none⟩, 0, 0, []⟩) (ownK_empty kNn.cells 1 32 ((w.alloc (.cells #[.slice x0 n0 c0, .slice x1 n1 c1, .slice x2 n2 c2, .slice x3 n3 c3] 29)).alloc (.cells #[.slice ya ma da, .slice yb mb db, .slice yc mc dc_, .int .i64 x.2.2.2.1, .int .i64 x.2.2.2.2] 34))) rfl).mono (B' := w.heap.size + 2) (by omega) (Nat.le_refl _)
    have h6 : ((w.alloc (.cells #[.slice x0 n0 c0, .slice x1 n1 c1, .slice x2 n2 c2, .slice x3 n3 c3] 29)).alloc (.cells #[.slice ya ma da, .slice yb mb db, .slice yc mc dc_, .int .i64 x.2.2.2.1, .int .i64 x.2.2.2.2] 34)).heap.size = w.heap.size + 1 + 1 := by simp
    rwa [h6] at h5))
  have K1 := Lib.hid (k1.on hb1); have K2 := Lib.hid (k2.on hb1); have K3 := Lib.hid (k3.trans (hb1.mono k3.size)); have HFX := Lib.hid hfx
  clear k1 k2 k3 k4 g0 g1 g2 g3 g h hp hfx hb1
  go_enter Tryz.func8, Tryz.ntmps8
  go_wp2_with fail
  go_loopw [8] (fun u wr => ∃ k : Nat, k ≤ 4 ∧ ∃ (ad : Option Addr) (cap : Nat) (L : List Nnm) (xs : Dzt) (ya yb yc : Option Addr) (ma da mb db mc dc_ : Nat), u = .slice ad k cap ∧ Hid (L.length = k) ∧ Hid (kLNn.Own (w.heap.size + 2) wr.heap.size wr ⟨ad, k, cap, L⟩) ∧ Hid (chainT t now 4 x = (chainT t now (4 - k) xs).map (L.map kNn.strip ++ ·)) ∧ Hid (Ret.Blk wr w.heap.size #[.slice x0 n0 c0, .slice x1 n1 c1, .slice x2 n2 c2, .slice x3 n3 c3] 29) ∧ Hid (Ret.Blk wr (w.heap.size + 1) #[.slice ya ma da, .slice yb mb db, .slice yc mc dc_, .int .i64 xs.2.2.2.1, .int .i64 xs.2.2.2.2] 34) ∧ Hid (kD.At w (.agg #[.slice ya ma da, .slice yb mb db, .slice yc mc dc_, .int .i64 xs.2.2.2.1, .int .i64 xs.2.2.2.2]) xs) ∧ Hid (FitD xs) ∧ Hid (Below w.heap.size w wr)) (fun u _ => 4 - lenV u)
  case atStart => exact ⟨0, Nat.zero_le _, _, _, [], x, ya, yb, yc, ma, da, mb, db, mc, dc_, rfl, Lib.hid rfl, HO, Lib.hid (by simp), K1, K2, HD, HFX, K3⟩
  case round =>
    clear K1 K2 K3 HD HFX HO
    obtain ⟨k, hk, ad, cap, L, xs, ya, yb, yc, ma, da, mb, db, mc, dc_, rfl, hL, ho, hch, hx, hv, hd, hf, hb⟩ := hrel
    have q0 : wr.cell? ⟨w.heap.size, 0, none⟩ = some (.slice x0 n0 c0) := hx.out.cell 0
    have q1 : wr.cell? ⟨w.heap.size, 1, none⟩ = some (.slice x1 n1 c1) := hx.out.cell 1
    have q2 : wr.cell? ⟨w.heap.size, 2, none⟩ = some (.slice x2 n2 c2) := hx.out.cell 2
    have q3 : wr.cell? ⟨w.heap.size, 3, none⟩ = some (.slice x3 n3 c3) := hx.out.cell 3
    have p0 : wr.cell? ⟨w.heap.size + 1, 0, none⟩ = some (.slice ya ma da) := hv.out.cell 0
    have p1 : wr.cell? ⟨w.heap.size + 1, 1, none⟩ = some (.slice yb mb db) := hv.out.cell 1
    have p2 : wr.cell? ⟨w.heap.size + 1, 2, none⟩ = some (.slice yc mc dc_) := hv.out.cell 2
    have p3 : wr.cell? ⟨w.heap.size + 1, 3, none⟩ = some (.int .i64 xs.2.2.2.1) := hv.out.cell 3
    have p4 : wr.cell? ⟨w.heap.size + 1, 4, none⟩ = some (.int .i64 xs.2.2.2.2) := hv.out.cell 4
    by_cases hlt : k < 4
    · obtain ⟨j, hj⟩ : ∃ j, 4 - k = j + 1 := ⟨3 - k, by omega⟩
      rw [hj] at hch
      have hj2 := Lib.hid (show 4 - (k + 1) = j by omega)
      clear hj
      obtain ⟨a, ha⟩ : ∃ a, verD (Ring.lkN t.1 xs.2.2.1) xs = a := ⟨_, rfl⟩
      obtain ⟨a2, ha2⟩ : ∃ a, decide (0 ≤ firstR t.2.1 xs.1 xs.2.2.1) = a := ⟨_, rfl⟩
      have HS : Hid (sigT t xs = (a && a2)) := Lib.hid (by unfold sigT; rw [ha, ha2])
      have HV := Lib.hid ha; have HR := Lib.hid ha2
      clear ha ha2
      go_wp2_with fail
      refine (sVsV a HV.out (G0.out.on hb.out) (hd.out.on hb.out) hf.out.wf HP.out.keys hf.out.bulk).mono ?_
      rintro e w9 ⟨rfl, hb1⟩
      clear q0 q1 q2 q3 p0 p1 p2 p3 p4
      have HW9 := Lib.hid (show wr.heap.size ≤ w9.heap.size from hb1.size)
      replace hx := Lib.hid (hx.out.on hb1); replace hv := Lib.hid (hv.out.on hb1); replace ho := Lib.hid (ho.out.on hb1); replace hb := Lib.hid (hb.out.trans (hb1.mono hb.out.size)); clear hb1
      have q0 : w9.cell? ⟨w.heap.size, 0, none⟩ = some (.slice x0 n0 c0) := hx.out.cell 0
      have q1 : w9.cell? ⟨w.heap.size, 1, none⟩ = some (.slice x1 n1 c1) := hx.out.cell 1
      have q2 : w9.cell? ⟨w.heap.size, 2, none⟩ = some (.slice x2 n2 c2) := hx.out.cell 2
      have q3 : w9.cell? ⟨w.heap.size, 3, none⟩ = some (.slice x3 n3 c3) := hx.out.cell 3
      have p0 : w9.cell? ⟨w.heap.size + 1, 0, none⟩ = some (.slice ya ma da) := hv.out.cell 0
      have p1 : w9.cell? ⟨w.heap.size + 1, 1, none⟩ = some (.slice yb mb db) := hv.out.cell 1
      have p2 : w9.cell? ⟨w.heap.size + 1, 2, none⟩ = some (.slice yc mc dc_) := hv.out.cell 2
      have p3 : w9.cell? ⟨w.heap.size + 1, 3, none⟩ = some (.int .i64 xs.2.2.2.1) := hv.out.cell 3
      have p4 : w9.cell? ⟨w.heap.size + 1, 4, none⟩ = some (.int .i64 xs.2.2.2.2) := hv.out.cell 4
      cases a with
      | false =>
        obtain ⟨e1, e2⟩ := chT_none (t := t) (x := x) (now := now) (by rw [hch.out, chainT_bad HS.out]; rfl)
        have E1 := Lib.hid (show R = [] from HRR.out.symm.trans e1); have E2 := Lib.hid (show z = false from HZZ.out.symm.trans e2)
        clear e1 e2
        go_wp2_with fail
        go_ret2
        exact ⟨_, ret_vb11 E2.out.symm, (by rw [E1.out]; exact empty_names w9 _ hb.out.size), hb.out.alloc hb.out.size _⟩
      | true =>
        obtain ⟨j1, -, j3⟩ := kDz_parts hd.out
        obtain ⟨v3, e3, h3⟩ := kN_at j3
        have e3' : v3 = .slice yc mc dc_ := by injection e3 with e; have := congrArg (fun z : Array Value => z[0]?) e; simpa using this.symm
        rw [e3'] at h3
        have J1 := Lib.hid j1; have J3 := Lib.hid j3; have H3 := Lib.hid h3
        clear j1 j3 h3 e3 e3'
        go_wp2_with fail
        have hc := specAllowed _ _ _ t.2.1 xs.1 xs.2.2.1 w9 (G1.out.on hb.out) (J1.out.on hb.out) (J3.out.on hb.out) HP.out.ruleLen HP.out.ruleWt (Nat.le_trans hf.out.name (by decide)) (Nat.le_trans hf.out.key (by decide))
        rw [HR.out] at hc
        refine hc.mono ?_
        clear hc
        rintro e w1 ⟨rfl, hb1⟩
        clear q0 q1 q2 q3 p0 p1 p2 p3 p4
        have HW1 := Lib.hid (show wr.heap.size ≤ w1.heap.size from Nat.le_trans HW9.out hb1.size)
        replace hx := Lib.hid (hx.out.on hb1); replace hv := Lib.hid (hv.out.on hb1); replace ho := Lib.hid (ho.out.on hb1); replace hb := Lib.hid (hb.out.trans (hb1.mono hb.out.size)); clear hb1
        have HO1 := Lib.hid (show kLNn.Own (w.heap.size + 2) w1.heap.size w1 ⟨ad, k, cap, L⟩ from ho.out.mono (Nat.le_refl _) HW1.out)
        have q0 : w1.cell? ⟨w.heap.size, 0, none⟩ = some (.slice x0 n0 c0) := hx.out.cell 0
        have q1 : w1.cell? ⟨w.heap.size, 1, none⟩ = some (.slice x1 n1 c1) := hx.out.cell 1
        have q2 : w1.cell? ⟨w.heap.size, 2, none⟩ = some (.slice x2 n2 c2) := hx.out.cell 2
        have q3 : w1.cell? ⟨w.heap.size, 3, none⟩ = some (.slice x3 n3 c3) := hx.out.cell 3
        have p0 : w1.cell? ⟨w.heap.size + 1, 0, none⟩ = some (.slice ya ma da) := hv.out.cell 0
        have p1 : w1.cell? ⟨w.heap.size + 1, 1, none⟩ = some (.slice yb mb db) := hv.out.cell 1
        have p2 : w1.cell? ⟨w.heap.size + 1, 2, none⟩ = some (.slice yc mc dc_) := hv.out.cell 2
        have p3 : w1.cell? ⟨w.heap.size + 1, 3, none⟩ = some (.int .i64 xs.2.2.2.1) := hv.out.cell 3
        have p4 : w1.cell? ⟨w.heap.size + 1, 4, none⟩ = some (.int .i64 xs.2.2.2.2) := hv.out.cell 4
        cases a2 with
        | false =>
          obtain ⟨e1, e2⟩ := chT_none (t := t) (x := x) (now := now) (by rw [hch.out, chainT_bad HS.out]; rfl)
          have E1 := Lib.hid (show R = [] from HRR.out.symm.trans e1); have E2 := Lib.hid (show z = false from HZZ.out.symm.trans e2)
          clear e1 e2
          go_wp2_with fail
          go_ret2
          exact ⟨_, ret_vb11 E2.out.symm, (by rw [E1.out]; exact empty_names w1 _ hb.out.size), hb.out.alloc hb.out.size _⟩
        | true =>
          replace HS : Hid (sigT t xs = true) := Lib.hid (by rw [HS.out]; rfl)
          go_wp2_with fail
          refine (l4Copy _ xs.2.2.1 _ (H3.out.on hb.out) (by have := bulk_len xs.2.2.1; have := hf.out.key; omega)).mono ?_
          rintro e w2 ⟨v4, rfl, ho4, hb1⟩
          obtain ⟨x4, n4, c4, rfl, -, -, ho4⟩ := ho4.shapeN
          clear q0 q1 q2 q3 p0 p1 p2 p3 p4 H3 J1
          have HX4 := Lib.hid (show kNn.Own w1.heap.size w2.heap.size w2 ⟨x4, n4, c4, xs.2.2.1⟩ from ⟨kN_own2 ho4, by rw [kN_blocks]; cases (Rw.v ⟨x4, n4, c4, xs.2.2.1⟩).ownBlock <;> simp, fun g hg => by rw [kN_blocks] at hg; exact (ho4.lt g (show (Rw.v ⟨x4, n4, c4, xs.2.2.1⟩).ownBlock = some g from Option.mem_toList.1 hg)).2⟩)
          clear ho4
          have HL1 := Lib.hid (show w1.heap.size ≤ w2.heap.size from hb1.size)
          have HBB := Lib.hid (show w.heap.size + 2 ≤ w1.heap.size by have := (hv.out.lt); omega)
          replace hx := Lib.hid (hx.out.on hb1); replace hv := Lib.hid (hv.out.on hb1); replace ho := Lib.hid (ho.out.on hb1); replace hb := Lib.hid (hb.out.trans (hb1.mono hb.out.size)); clear hb1
          obtain ⟨hn9, -, hb1, hz9⟩ := two_news (w := w2) #[.slice x4 n4 c4] #[.slice x4 n4 c4] 32 32
          have HSRC := Lib.hid (show HoldsK kNn.cells 1 ((w2.alloc (.cells #[.slice x4 n4 c4] 32)).alloc (.cells #[.slice x4 n4 c4] 32)) (.slice (some ⟨w2.heap.size + 1, 0, none⟩) 1 1) [(⟨x4, n4, c4, xs.2.2.1⟩ : Nnm)] from by
            have h5 := holdsK_one szNn_cells 32 (w2.alloc (.cells #[.slice x4 n4 c4] 32)) (⟨x4, n4, c4, xs.2.2.1⟩ : Nnm)
            rwa [show (w2.alloc (.cells #[.slice x4 n4 c4] 32)).heap.size = w2.heap.size + 1 from by simp] at h5)
          have HO3 := Lib.hid (ho.out.on hb1); have HX5 := Lib.hid (HX4.out.on hb1); have HN9 := Lib.hid hn9
          have HLX := Lib.hid (show (L.length + 1) * 24 ≤ 140737488355328 by have := hL.out; omega); have HLM := Lib.hid (show L.length + 1 ≤ maxLen by have := hL.out; unfold maxLen; omega)
          have HSZ := Lib.hid (show w.heap.size + 2 ≤ ((w2.alloc (.cells #[.slice x4 n4 c4] 32)).alloc (.cells #[.slice x4 n4 c4] 32)).heap.size by have := HBB.out; have := HL1.out; simp; omega)
          have HOL := Lib.hid (show ∀ g ∈ kLNn.blocks ⟨ad, k, cap, L⟩, g < w1.heap.size from fun g hg => (HO1.out.lt g hg).2.1)
          have c9 : (w2.alloc (.cells #[.slice x4 n4 c4] 32)).cell? ⟨w2.heap.size, 0, none⟩ = some (.slice x4 n4 c4) := by simp
          clear ho HX4 HO1 hn9 hz9
          replace hx := Lib.hid (hx.out.on hb1); replace hv := Lib.hid (hv.out.on hb1); replace hb := Lib.hid (hb.out.trans (hb1.mono hb.out.size)); clear hb1
          go_wp2_with (at_builtin; refine wpList_appK kindNn (B := w.heap.size + 2) (l := L) (m := [(⟨x4, n4, c4, xs.2.2.1⟩ : Nnm)]) rfl _ _ rfl Tryz.underlying26 rfl rfl HO3.out.1.1 HSRC.out HLX.out HLM.out HSZ.out ?_)
          intro v5 w5 ho5 hg5
          obtain ⟨x5, n5, c5, rfl, hn5, -, ho5⟩ := ho5.shapeN
          have hn6 : n5 = k + 1 := by rw [hn5, List.length_append, hL.out]; rfl
          subst hn6
          have HO6 := Lib.hid (show kLNn.Own (w.heap.size + 2) w5.heap.size w5 ⟨x5, k + 1, c5, L ++ [(⟨x4, n4, c4, xs.2.2.1⟩ : Nnm)]⟩ from Kd.push noRow_kN HO3.out (HX5.out.mono HBB.out (Nat.le_refl _)) (fun g hgx hgr => by
            have h5 := (HX5.out.lt g hgx).1; have h6 := HOL.out g hgr; omega) ho5 hg5)
          have hb1 : Below (w.heap.size + 2) ((w2.alloc (.cells #[.slice x4 n4 c4] 32)).alloc (.cells #[.slice x4 n4 c4] 32)) w5 := (Below.refl _ _).grown hg5 HSZ.out (fun g hg => (HO3.out.1.1.lt g hg).1)
          replace hx := Lib.hid (Blk_low hx.out hb1 (by omega)); replace hv := Lib.hid (Blk_low hv.out hb1 (by omega)); replace hb := Lib.hid (hb.out.trans (hb1.mono (Nat.le_add_right _ _)))
          replace HN9 := Lib.hid (HN9.out.grown hg5 (fun e => by have h5 := HOL.out w2.heap.size (List.mem_append_left _ (Option.mem_toList.2 (show (Value.slice ad k cap).ownBlock = some w2.heap.size from e.symm))); have h6 := HL1.out; omega))
          have J5 := Lib.hid (show kN.At w5 (.agg #[.slice x4 n4 c4]) xs.2.2.1 from (by
            have h5 := Kd.at_of (k := kNn) (kNn.own_holds (HO6.out.1.2 (⟨x4, n4, c4, xs.2.2.1⟩ : Nnm) (by simp)))
            rwa [kN_strip] at h5))
          obtain ⟨b9, hb9⟩ : ∃ b, w2.heap.size = b := ⟨_, rfl⟩
          rw [hb9] at HN9
          clear hn5 ho5 hg5 hb1 HO3 HX5 HSRC HLX HLM HL1 HOL c9
          have q0 : w5.cell? ⟨w.heap.size, 0, none⟩ = some (.slice x0 n0 c0) := hx.out.cell 0
          have q1 : w5.cell? ⟨w.heap.size, 1, none⟩ = some (.slice x1 n1 c1) := hx.out.cell 1
          have q2 : w5.cell? ⟨w.heap.size, 2, none⟩ = some (.slice x2 n2 c2) := hx.out.cell 2
          have q3 : w5.cell? ⟨w.heap.size, 3, none⟩ = some (.slice x3 n3 c3) := hx.out.cell 3
          have p0 : w5.cell? ⟨w.heap.size + 1, 0, none⟩ = some (.slice ya ma da) := hv.out.cell 0
          have p1 : w5.cell? ⟨w.heap.size + 1, 1, none⟩ = some (.slice yb mb db) := hv.out.cell 1
          have p2 : w5.cell? ⟨w.heap.size + 1, 2, none⟩ = some (.slice yc mc dc_) := hv.out.cell 2
          have p3 : w5.cell? ⟨w.heap.size + 1, 3, none⟩ = some (.int .i64 xs.2.2.2.1) := hv.out.cell 3
          have p4 : w5.cell? ⟨w.heap.size + 1, 4, none⟩ = some (.int .i64 xs.2.2.2.2) := hv.out.cell 4
          have c9 : w5.cell? ⟨b9, 0, none⟩ = some (.slice x4 n4 c4) := HN9.out.cell 0
          have HSTR := Lib.hid (show (L ++ [(⟨x4, n4, c4, xs.2.2.1⟩ : Nnm)]).map kNn.strip = L.map kNn.strip ++ [xs.2.2.1] by rw [List.map_append, List.map_cons, List.map_nil]; congr 2; exact kN_strip _)
          have HL6 := Lib.hid (show (L ++ [(⟨x4, n4, c4, xs.2.2.1⟩ : Nnm)]).length = k + 1 by rw [List.length_append, hL.out]; rfl)
          obtain ⟨b, hb2⟩ : ∃ b, anchorT t.2.2.1 xs.2.2.1 = b := ⟨_, rfl⟩
          have HAN := Lib.hid hb2
          clear hb2
          rw [hb9]
          clear hb9
          go_wp2_with fail
          refine (specIsAnchor _ _ t xs.2.2.1 _ b HAN.out (HA.out.on hb.out) J5.out HP.out.nameLen HP.out.nameWt9 (Nat.le_trans hf.out.key (by decide))).mono ?_
          rintro e w6 ⟨rfl, hb1⟩
          clear q0 q1 q2 q3 p0 p1 p2 p3 p4 c9
          replace HO6 := Lib.hid (HO6.out.on hb1); replace J5 := Lib.hid (J5.out.on hb1); replace HN9 := Lib.hid (HN9.out.on hb1)
          have HS6 := Lib.hid (show w5.heap.size ≤ w6.heap.size from hb1.size)
          replace hx := Lib.hid (hx.out.on hb1); replace hv := Lib.hid (hv.out.on hb1); replace hb := Lib.hid (hb.out.trans (hb1.mono hb.out.size)); clear hb1
          have q0 : w6.cell? ⟨w.heap.size, 0, none⟩ = some (.slice x0 n0 c0) := hx.out.cell 0
          have q1 : w6.cell? ⟨w.heap.size, 1, none⟩ = some (.slice x1 n1 c1) := hx.out.cell 1
          have q2 : w6.cell? ⟨w.heap.size, 2, none⟩ = some (.slice x2 n2 c2) := hx.out.cell 2
          have q3 : w6.cell? ⟨w.heap.size, 3, none⟩ = some (.slice x3 n3 c3) := hx.out.cell 3
          have p0 : w6.cell? ⟨w.heap.size + 1, 0, none⟩ = some (.slice ya ma da) := hv.out.cell 0
          have p1 : w6.cell? ⟨w.heap.size + 1, 1, none⟩ = some (.slice yb mb db) := hv.out.cell 1
          have p2 : w6.cell? ⟨w.heap.size + 1, 2, none⟩ = some (.slice yc mc dc_) := hv.out.cell 2
          have p3 : w6.cell? ⟨w.heap.size + 1, 3, none⟩ = some (.int .i64 xs.2.2.2.1) := hv.out.cell 3
          have p4 : w6.cell? ⟨w.heap.size + 1, 4, none⟩ = some (.int .i64 xs.2.2.2.2) := hv.out.cell 4
          have c9 : w6.cell? ⟨b9, 0, none⟩ = some (.slice x4 n4 c4) := HN9.out.cell 0
          cases b with
          | true =>
            obtain ⟨e1, e2⟩ := chT_some (show chainT t now 4 x = some (L.map kNn.strip ++ [xs.2.2.1]) by rw [hch.out, chainT_anchor HS.out HAN.out]; rfl)
            have E1 := Lib.hid (HRR.out.symm.trans e1); have E2 := Lib.hid (show z = true from HZZ.out.symm.trans e2)
            clear e1 e2
            go_wp2_with fail
            go_ret2
            exact ⟨_, ret_vb11 E2.out.symm, (by rw [E1.out]; exact HSTR.out ▸ (HO6.out.mono (Nat.le_add_right _ _) HS6.out).in), hb.out⟩
          | false =>
            obtain ⟨f, hf2⟩ : ∃ f, findC t xs.2.2.1 now = f := ⟨_, rfl⟩
            have HF := Lib.hid hf2
            have HFL := Lib.hid (findC_lt t xs.2.2.1 now)
            rw [hf2] at HFL
            clear hf2
            go_wp2_with fail
            refine (specFindCertificate _ _ t xs.2.2.1 now _ f HF.out (HA.out.on hb.out) J5.out HP.out hf.out.key).mono ?_
            rintro e w7 ⟨rfl, hb1⟩
            clear q0 q1 q2 q3 p0 p1 p2 p3 p4 c9 J5 HN9
            replace HO6 := Lib.hid (HO6.out.on hb1)
            replace HS6 := Lib.hid (show w5.heap.size ≤ w7.heap.size from Nat.le_trans HS6.out hb1.size)
            replace hx := Lib.hid (hx.out.on hb1); replace hv := Lib.hid (hv.out.on hb1); replace hb := Lib.hid (hb.out.trans (hb1.mono hb.out.size)); clear hb1
            have q0 : w7.cell? ⟨w.heap.size, 0, none⟩ = some (.slice x0 n0 c0) := hx.out.cell 0
            have q1 : w7.cell? ⟨w.heap.size, 1, none⟩ = some (.slice x1 n1 c1) := hx.out.cell 1
            have q2 : w7.cell? ⟨w.heap.size, 2, none⟩ = some (.slice x2 n2 c2) := hx.out.cell 2
            have q3 : w7.cell? ⟨w.heap.size, 3, none⟩ = some (.slice x3 n3 c3) := hx.out.cell 3
            have p0 : w7.cell? ⟨w.heap.size + 1, 0, none⟩ = some (.slice ya ma da) := hv.out.cell 0
            have p1 : w7.cell? ⟨w.heap.size + 1, 1, none⟩ = some (.slice yb mb db) := hv.out.cell 1
            have p2 : w7.cell? ⟨w.heap.size + 1, 2, none⟩ = some (.slice yc mc dc_) := hv.out.cell 2
            have p3 : w7.cell? ⟨w.heap.size + 1, 3, none⟩ = some (.int .i64 xs.2.2.2.1) := hv.out.cell 3
            have p4 : w7.cell? ⟨w.heap.size + 1, 4, none⟩ = some (.int .i64 xs.2.2.2.2) := hv.out.cell 4
            by_cases hneg : f < 0
            · have HNEG := Lib.hid (show findC t xs.2.2.1 now < 0 by rw [HF.out]; exact hneg)
              obtain ⟨e1, e2⟩ := chT_none (t := t) (x := x) (now := now) (by rw [hch.out, chainT_lost HS.out HAN.out HNEG.out]; rfl)
              have E1 := Lib.hid (show R = [] from HRR.out.symm.trans e1); have E2 := Lib.hid (show z = false from HZZ.out.symm.trans e2)
              clear e1 e2
              go_wp2_with fail
              go_ret2
              exact ⟨_, ret_vb11 E2.out.symm, (by rw [E1.out]; exact empty_names w7 _ hb.out.size), hb.out.alloc hb.out.size _⟩
            · obtain ⟨i, rfl⟩ : ∃ i : Nat, f = (i : Int) := ⟨f.toNat, by omega⟩
              have hi : i < t.2.2.2.length := by have h5 := HFL.out; simp at h5; omega
              have HFC := Lib.hid (HP.out.certs (nth t.2.2.2 i) (nth_mem hi))
              obtain ⟨hn3, hcap, b, off, za, na_, ea, zb, nb_, eb, zc, nc_, ec, rfl, r0, r1, r2, r3, r4, hcd⟩ := cert_at G3.out hi
              have HCD := Lib.hid hcd
              have s0 := kc r0 hb.out; have s1 := kc r1 hb.out; have s2 := kc r2 hb.out; have s3 := kc r3 hb.out; have s4 := kc r4 hb.out
              have f0 := hv.out.frozen 0; have f1 := hv.out.frozen 1; have f2 := hv.out.frozen 2; have f3 := hv.out.frozen 3; have f4 := hv.out.frozen 4
              have hi3 : i < n3 := by omega
              have Z1 := Lib.hid (show Ret.Blk ((((((w7).setCell ⟨(w.heap.size + 1), 0, none⟩ (.slice za na_ ea)).setCell ⟨(w.heap.size + 1), 1, none⟩ (.slice zb nb_ eb)).setCell ⟨(w.heap.size + 1), 2, none⟩ (.slice zc nc_ ec)).setCell ⟨(w.heap.size + 1), 3, none⟩ (.int .i64 (nth t.2.2.2 i).2.2.2.1)).setCell ⟨(w.heap.size + 1), 4, none⟩ (.int .i64 (nth t.2.2.2 i).2.2.2.2)) (w.heap.size + 1) #[.slice za na_ ea, .slice zb nb_ eb, .slice zc nc_ ec, .int .i64 (nth t.2.2.2 i).2.2.2.1, .int .i64 (nth t.2.2.2 i).2.2.2.2] 34 from Ring.blk_five hv.out)
              have Z2 := Lib.hid (show Ret.Blk ((((((w7).setCell ⟨(w.heap.size + 1), 0, none⟩ (.slice za na_ ea)).setCell ⟨(w.heap.size + 1), 1, none⟩ (.slice zb nb_ eb)).setCell ⟨(w.heap.size + 1), 2, none⟩ (.slice zc nc_ ec)).setCell ⟨(w.heap.size + 1), 3, none⟩ (.int .i64 (nth t.2.2.2 i).2.2.2.1)).setCell ⟨(w.heap.size + 1), 4, none⟩ (.int .i64 (nth t.2.2.2 i).2.2.2.2)) w.heap.size #[.slice x0 n0 c0, .slice x1 n1 c1, .slice x2 n2 c2, .slice (some ⟨b, off, none⟩) n3 c3] 29 from blk_five_other hx.out (by omega))
              have Z3 := Lib.hid (show Below w.heap.size w ((((((w7).setCell ⟨(w.heap.size + 1), 0, none⟩ (.slice za na_ ea)).setCell ⟨(w.heap.size + 1), 1, none⟩ (.slice zb nb_ eb)).setCell ⟨(w.heap.size + 1), 2, none⟩ (.slice zc nc_ ec)).setCell ⟨(w.heap.size + 1), 3, none⟩ (.int .i64 (nth t.2.2.2 i).2.2.2.1)).setCell ⟨(w.heap.size + 1), 4, none⟩ (.int .i64 (nth t.2.2.2 i).2.2.2.2)) from Ring.below_five hb.out (by omega))
              have Z4 := Lib.hid (show kLNn.Own (w.heap.size + 2) ((((((w7).setCell ⟨(w.heap.size + 1), 0, none⟩ (.slice za na_ ea)).setCell ⟨(w.heap.size + 1), 1, none⟩ (.slice zb nb_ eb)).setCell ⟨(w.heap.size + 1), 2, none⟩ (.slice zc nc_ ec)).setCell ⟨(w.heap.size + 1), 3, none⟩ (.int .i64 (nth t.2.2.2 i).2.2.2.1)).setCell ⟨(w.heap.size + 1), 4, none⟩ (.int .i64 (nth t.2.2.2 i).2.2.2.2)).heap.size ((((((w7).setCell ⟨(w.heap.size + 1), 0, none⟩ (.slice za na_ ea)).setCell ⟨(w.heap.size + 1), 1, none⟩ (.slice zb nb_ eb)).setCell ⟨(w.heap.size + 1), 2, none⟩ (.slice zc nc_ ec)).setCell ⟨(w.heap.size + 1), 3, none⟩ (.int .i64 (nth t.2.2.2 i).2.2.2.1)).setCell ⟨(w.heap.size + 1), 4, none⟩ (.int .i64 (nth t.2.2.2 i).2.2.2.2)) ⟨x5, k + 1, c5, L ++ [(⟨x4, n4, c4, xs.2.2.1⟩ : Nnm)]⟩ from own_five (HO6.out.mono (Nat.le_refl _) (by simp [World.setCell]; exact HS6.out)) (by omega))
              have Z5 := Lib.hid (show chainT t now 4 x = (chainT t now (4 - (k + 1)) (nth t.2.2.2 i)).map ((L ++ [(⟨x4, n4, c4, xs.2.2.1⟩ : Nnm)]).map kNn.strip ++ ·) by rw [hch.out, chainT_next HS.out HAN.out HF.out, map_snoc, HSTR.out, hj2.out])
              clear hx hv hb HO6 hn3 hcd r0 r1 r2 r3 r4 hi hch HSTR HFL
              go_wp2_with fail
              go_roundw
              case rel => exact ⟨k + 1, by omega, _, _, _, nth t.2.2.2 i, za, zb, zc, na_, ea, nb_, eb, nc_, ec, rfl, HL6, Z4, Z5, Z2, Z1, HCD, HFC, Z3⟩
              case measure => simp [lenV]; omega
    · obtain rfl : k = 4 := by omega
      clear hlt
      obtain ⟨e1, e2⟩ := chT_none (t := t) (x := x) (now := now) (by rw [hch.out, show chainT t now (4 - 4) xs = none from rfl]; rfl)
      have E1 := Lib.hid (show R = [] from HRR.out.symm.trans e1); have E2 := Lib.hid (show z = false from HZZ.out.symm.trans e2)
      clear e1 e2
      go_wp2_with fail
      go_ret2
      exact ⟨_, ret_vb11 E2.out.symm, (by rw [E1.out]; exact empty_names wr _ hb.out.size), hb.out.alloc hb.out.size _⟩
set_option maxHeartbeats 8000000 in
theorem specIsTrusted (V U : Value) (t : Tpt) (x : Dzt) (now : Int) (w : World) (z : Bool) (hz : trusted t x now = z) (h : kTp.At w V t) (g : kD.At w U x) (hp : FitT t) (hfx : FitD x) :
    Calls Tryz.prog 17 #[V, U, .int .i64 now] w fun e w' => e = .returned (.bool z) ∧ Below w.heap.size w w' := by
  obtain ⟨x0, n0, c0, x1, n1, c1, x2, n2, c2, x3, n3, c3, rfl, g0, g1, g2, g3⟩ := kTp_at h
  obtain ⟨ya, ma, da, yb, mb, db, yc, mc, dc_, rfl, g⟩ := kD_shapeA g
  obtain ⟨k1, k2, k3, k4⟩ := two_news (w := w) #[.slice x0 n0 c0, .slice x1 n1 c1, .slice x2 n2 c2, .slice x3 n3 c3] #[.slice ya ma da, .slice yb mb db, .slice yc mc dc_, .int .i64 x.2.2.2.1, .int .i64 x.2.2.2.2] 29 34
  have hx := Lib.hid k1; have hv := Lib.hid k2; have hb := Lib.hid k3
  have HC := Lib.hid (specTrustChain _ _ t x now _ (h.on k3) (g.on k3) hp hfx)
  have HG := Lib.hid g; have HF := Lib.hid hfx; have HZ := Lib.hid hz
  clear k1 k2 k3 k4 g0 g1 g2 g3 g h hp hfx hz
  have q0 : ((w.alloc (.cells #[.slice x0 n0 c0, .slice x1 n1 c1, .slice x2 n2 c2, .slice x3 n3 c3] 29)).alloc (.cells #[.slice ya ma da, .slice yb mb db, .slice yc mc dc_, .int .i64 x.2.2.2.1, .int .i64 x.2.2.2.2] 34)).cell? ⟨w.heap.size, 0, none⟩ = some (.slice x0 n0 c0) := hx.out.cell 0
  have q1 : ((w.alloc (.cells #[.slice x0 n0 c0, .slice x1 n1 c1, .slice x2 n2 c2, .slice x3 n3 c3] 29)).alloc (.cells #[.slice ya ma da, .slice yb mb db, .slice yc mc dc_, .int .i64 x.2.2.2.1, .int .i64 x.2.2.2.2] 34)).cell? ⟨w.heap.size, 1, none⟩ = some (.slice x1 n1 c1) := hx.out.cell 1
  have q2 : ((w.alloc (.cells #[.slice x0 n0 c0, .slice x1 n1 c1, .slice x2 n2 c2, .slice x3 n3 c3] 29)).alloc (.cells #[.slice ya ma da, .slice yb mb db, .slice yc mc dc_, .int .i64 x.2.2.2.1, .int .i64 x.2.2.2.2] 34)).cell? ⟨w.heap.size, 2, none⟩ = some (.slice x2 n2 c2) := hx.out.cell 2
  have q3 : ((w.alloc (.cells #[.slice x0 n0 c0, .slice x1 n1 c1, .slice x2 n2 c2, .slice x3 n3 c3] 29)).alloc (.cells #[.slice ya ma da, .slice yb mb db, .slice yc mc dc_, .int .i64 x.2.2.2.1, .int .i64 x.2.2.2.2] 34)).cell? ⟨w.heap.size, 3, none⟩ = some (.slice x3 n3 c3) := hx.out.cell 3
  have p0 : ((w.alloc (.cells #[.slice x0 n0 c0, .slice x1 n1 c1, .slice x2 n2 c2, .slice x3 n3 c3] 29)).alloc (.cells #[.slice ya ma da, .slice yb mb db, .slice yc mc dc_, .int .i64 x.2.2.2.1, .int .i64 x.2.2.2.2] 34)).cell? ⟨w.heap.size + 1, 0, none⟩ = some (.slice ya ma da) := hv.out.cell 0
  have p1 : ((w.alloc (.cells #[.slice x0 n0 c0, .slice x1 n1 c1, .slice x2 n2 c2, .slice x3 n3 c3] 29)).alloc (.cells #[.slice ya ma da, .slice yb mb db, .slice yc mc dc_, .int .i64 x.2.2.2.1, .int .i64 x.2.2.2.2] 34)).cell? ⟨w.heap.size + 1, 1, none⟩ = some (.slice yb mb db) := hv.out.cell 1
  have p2 : ((w.alloc (.cells #[.slice x0 n0 c0, .slice x1 n1 c1, .slice x2 n2 c2, .slice x3 n3 c3] 29)).alloc (.cells #[.slice ya ma da, .slice yb mb db, .slice yc mc dc_, .int .i64 x.2.2.2.1, .int .i64 x.2.2.2.2] 34)).cell? ⟨w.heap.size + 1, 2, none⟩ = some (.slice yc mc dc_) := hv.out.cell 2
  have p3 : ((w.alloc (.cells #[.slice x0 n0 c0, .slice x1 n1 c1, .slice x2 n2 c2, .slice x3 n3 c3] 29)).alloc (.cells #[.slice ya ma da, .slice yb mb db, .slice yc mc dc_, .int .i64 x.2.2.2.1, .int .i64 x.2.2.2.2] 34)).cell? ⟨w.heap.size + 1, 3, none⟩ = some (.int .i64 x.2.2.2.1) := hv.out.cell 3
  have p4 : ((w.alloc (.cells #[.slice x0 n0 c0, .slice x1 n1 c1, .slice x2 n2 c2, .slice x3 n3 c3] 29)).alloc (.cells #[.slice ya ma da, .slice yb mb db, .slice yc mc dc_, .int .i64 x.2.2.2.1, .int .i64 x.2.2.2.2] 34)).cell? ⟨w.heap.size + 1, 4, none⟩ = some (.int .i64 x.2.2.2.2) := hv.out.cell 4
  go_enter Tryz.func17, Tryz.ntmps17
  go_wp2_with fail
  refine HC.out.mono ?_
  clear HC
  rintro e w1 ⟨v, rfl, -, hb1⟩
  obtain ⟨c, hc⟩ : ∃ c, chOk t x now = c := ⟨_, rfl⟩
  rw [hc]
  have HK := Lib.hid hc
  clear hc
  replace hx := Lib.hid (hx.out.on hb1); replace hv := Lib.hid (hv.out.on hb1); replace hb := Lib.hid (hb.out.trans (hb1.mono hb.out.size)); clear hb1 q0 q1 q2 q3 p0 p1 p2 p3 p4
  have q0 : w1.cell? ⟨w.heap.size, 0, none⟩ = some (.slice x0 n0 c0) := hx.out.cell 0
  have q1 : w1.cell? ⟨w.heap.size, 1, none⟩ = some (.slice x1 n1 c1) := hx.out.cell 1
  have q2 : w1.cell? ⟨w.heap.size, 2, none⟩ = some (.slice x2 n2 c2) := hx.out.cell 2
  have q3 : w1.cell? ⟨w.heap.size, 3, none⟩ = some (.slice x3 n3 c3) := hx.out.cell 3
  have p0 : w1.cell? ⟨w.heap.size + 1, 0, none⟩ = some (.slice ya ma da) := hv.out.cell 0
  have p1 : w1.cell? ⟨w.heap.size + 1, 1, none⟩ = some (.slice yb mb db) := hv.out.cell 1
  have p2 : w1.cell? ⟨w.heap.size + 1, 2, none⟩ = some (.slice yc mc dc_) := hv.out.cell 2
  have p3 : w1.cell? ⟨w.heap.size + 1, 3, none⟩ = some (.int .i64 x.2.2.2.1) := hv.out.cell 3
  have p4 : w1.cell? ⟨w.heap.size + 1, 4, none⟩ = some (.int .i64 x.2.2.2.2) := hv.out.cell 4
  obtain ⟨d, hd⟩ : ∃ d, validD x = d := ⟨_, rfl⟩
  have HE : Hid (z = (d && c)) := Lib.hid (by rw [← HZ.out, ← hd, ← HK.out]; unfold trusted; exact Bool.and_comm _ _)
  have hcv := specValidDataK _ x w1 (HG.out.on hb.out) HF.out.bulk9
  rw [hd] at hcv
  have HCV := Lib.hid hcv
  clear hcv hd
  go_wp2_with fail
  refine HCV.out.mono ?_
  rintro e w2 ⟨rfl, hb1⟩
  replace hb := Lib.hid (hb.out.trans (hb1.mono hb.out.size)); clear hb1 HCV
  cases d <;> cases c <;> (go_wp2_with fail; go_ret; exact ⟨ret_bool HE.out.symm, hb.out⟩)
end Go.Proofs.YtlhchmjnaanjpaaGreatDoor.Row
/- Lists of elements of a kind, marked part by part: what a part's marking leaves of the list. For any kind and any program. No conditions. -/
namespace Go.Proofs.YtlhchmjnaanjpaaGreatDoor.Row
open Go.ChangeShapes Go.WideShapes Go.ChangeAt Go.RowKit Go.Instr
set_option linter.unusedVariables false
set_option linter.unusedSectionVars false
set_option maxRecDepth 100000
section
variable {α M β N : Type} [Inhabited M] {k : Kd α M} {l : Kd β N} {B E : Nat} {w w' : World} {P : Program}
def MarkF (P : Program) (k : Kd α M) (fn : FuncId) (arg : M → Value) (adv : α → Nat) (mk : Int → α → α) : Prop :=
  ∀ (B E : Nat) (x : M) (w : World) (q : Int), k.Own B E w x → adv (k.strip x) ≤ 100000000 → 0 ≤ q → q + (adv (k.strip x) : Int) ≤ 100000000000 →
    Calls P fn #[arg x, .int .i64 q] w fun e w' => e = .returned (.int .i64 (q + (adv (k.strip x) : Int))) ∧ ∃ x', k.cells x' = k.cells x ∧ k.blocks x' = k.blocks x ∧ k.strip x' = mk q (k.strip x) ∧ k.Own B E w' x' ∧ WroteBy (k.blocks x) w w'
theorem MarkF.fst {fn : FuncId} {arg : M → Value} {adv : α → Nat} {mk : Int → α → α} (h : MarkF P k fn arg adv mk) (l : Kd β N) : MarkF P (k.pair l) fn (fun x => arg x.1) (fun a => adv a.1) (fun q a => (mk q a.1, a.2)) := by
  intro B E x w q ho hl h0 h1
  obtain ⟨m, n⟩ := x
  obtain ⟨o1, o2, hd⟩ := ho.parts
  refine (h B E m w q o1 hl h0 h1).mono ?_
  rintro e w' ⟨rfl, m', c, b, s, o, hw⟩
  refine ⟨rfl, (m', n), ?_, ?_, ?_, ?_, ?_⟩
  · show k.cells m' ++ l.cells n = k.cells m ++ l.cells n
    rw [c]
  · show k.blocks m' ++ l.blocks n = k.blocks m ++ l.blocks n
    rw [b]
  · show (k.strip m', l.strip n) = (mk q (k.strip m), l.strip n)
    rw [s]
  · exact Kd.Own.join o (hw.own o2 (fun g hg hg2 => hd g hg2 hg)) (by rw [b]; exact hd)
  · exact hw.more (fun g hg => List.mem_append_left _ hg)
theorem MarkF.snd {fn : FuncId} {arg : N → Value} {adv : β → Nat} {mk : Int → β → β} (h : MarkF P l fn arg adv mk) (k : Kd α M) : MarkF P (k.pair l) fn (fun x => arg x.2) (fun a => adv a.2) (fun q a => (a.1, mk q a.2)) := by
  intro B E x w q ho hl h0 h1
  obtain ⟨m, n⟩ := x
  obtain ⟨o1, o2, hd⟩ := ho.parts
  refine (h B E n w q o2 hl h0 h1).mono ?_
  rintro e w' ⟨rfl, n', c, b, s, o, hw⟩
  refine ⟨rfl, (m, n'), ?_, ?_, ?_, ?_, ?_⟩
  · show k.cells m ++ l.cells n' = k.cells m ++ l.cells n
    rw [c]
  · show k.blocks m ++ l.blocks n' = k.blocks m ++ l.blocks n
    rw [b]
  · show (k.strip m, l.strip n') = (k.strip m, mk q (l.strip n))
    rw [s]
  · exact Kd.Own.join (hw.own o1 (fun g hg hg2 => hd g hg hg2)) o (by rw [b]; exact hd)
  · exact hw.more (fun g hg => List.mem_append_right _ hg)
theorem flatB_one {γ : Type} {f : γ → List Nat} {L : List γ} (h : (L.flatMap f).Nodup) {j : Nat} (hj : j < L.length) : (f L[j]).Nodup :=
  (List.pairwise_flatMap.1 h).1 _ (List.getElem_mem hj)
theorem flatMap_set {γ δ : Type} {f : γ → List δ} {L : List γ} {j : Nat} (hj : j < L.length) {y : γ} (e : f y = f L[j]) : (L.set j y).flatMap f = L.flatMap f := by
  rw [List.flatMap_def, List.flatMap_def, List.map_set]
  congr 1
  have : f y = (L.map f)[j]'(by simpa using hj) := by simp [e]
  rw [this, List.set_getElem_self]
variable {e : TypeId} {ad : Option Addr} {n cap j : Nat} {L : List M}
theorem Kd.Own.row (h : (k.slice e).Own B E w ⟨ad, n, cap, L⟩) : OwnK e k.cells k.size B w (.slice ad n cap) L := h.1.1
theorem Kd.Own.apart (h : (k.slice e).Own B E w ⟨ad, n, cap, L⟩) : (L.flatMap k.blocks).Nodup ∧ ∀ g, (Value.slice ad n cap).ownBlock = some g → g ∉ L.flatMap k.blocks := by
  have h2 : ((Value.slice ad n cap).ownBlock.toList ++ L.flatMap k.blocks).Nodup := h.2.1
  have h3 := List.nodup_append.1 h2
  exact ⟨h3.2.1, fun g hg hg2 => h3.2.2 g (by simp [hg]) g hg2 rfl⟩
theorem Kd.Own.elem (h : (k.slice e).Own B E w ⟨ad, n, cap, L⟩) (hj : j < L.length) : k.Own B E w (nth L j) := by
  rw [nth_eq hj]
  refine ⟨h.1.2 _ (List.getElem_mem hj), flatB_one h.apart.1 hj, fun g hg => h.2.2 g ?_⟩
  exact List.mem_append_right _ (List.mem_flatMap.2 ⟨_, List.getElem_mem hj, hg⟩)
theorem Kd.Own.put {g : Nat} (h : (k.slice e).Own B E w ⟨some ⟨g, 0, none⟩, n, cap, L⟩) (hn : n = L.length) (hj : j < L.length) {i : Nat} (hi : i < k.size) {u : Value} {x' : M} (hc : k.cells x' = (k.cells (nth L j)).set i u) (hb : k.blocks x' = k.blocks (nth L j)) (ho : ∀ {W : World}, k.own B W (nth L j) → k.own B W x') :
    (k.slice e).Own B E (w.setCell ⟨g, j * k.size + i, none⟩ u) ⟨some ⟨g, 0, none⟩, n, cap, L.set j x'⟩ ∧ w.grownBy (w.setCell ⟨g, j * k.size + i, none⟩ u) (some g) := by
  obtain ⟨a1, a2⟩ := ownK_store (fun m => k.len m) h.row hn hj hi hc
  obtain ⟨hnd, hrow⟩ := h.apart
  have hg0 := hrow g rfl
  have hfb := flatMap_set (f := k.blocks) hj (by rw [hb, nth_eq hj])
  have keep : ∀ {y : M}, y ∈ L → k.own B (w.setCell ⟨g, j * k.size + i, none⟩ u) y := fun {y} hy => k.own_keep (h.1.2 y hy) (fun q hq => a2.block q (k.own_lt (h.1.2 y hy) q hq).2 (fun e1 => hg0 (by cases e1; exact List.mem_flatMap.2 ⟨y, hy, hq⟩)))
  refine ⟨⟨⟨a1, fun y hy => ?_⟩, ?_, ?_⟩, a2⟩
  · rcases List.mem_or_eq_of_mem_set (show y ∈ L.set j x' from hy) with hy | rfl
    · exact keep hy
    · exact ho (keep (nth_mem hj))
  · show ((Value.slice (some ⟨g, 0, none⟩) n cap).ownBlock.toList ++ (L.set j x').flatMap k.blocks).Nodup
    rw [hfb]
    exact h.2.1
  · intro q hq
    have hg2 : q ∈ (Value.slice (some ⟨g, 0, none⟩) n cap).ownBlock.toList ++ (L.set j x').flatMap k.blocks := hq
    rw [hfb] at hg2
    exact h.2.2 q hg2
end
section
variable {α : Type} [Inhabited α] (a : α → Nat) (f : Int → α → α)
def advK : List α → Nat
  | [] => 0
  | x :: r => a x + advK r
def mkLK (q : Int) : List α → List α
  | [] => []
  | x :: r => f q x :: mkLK (q + (a x : Int)) r
end
end Go.Proofs.YtlhchmjnaanjpaaGreatDoor.Row
/- Names and bytes as parts that are marked; an element of a list, step by step. No conditions but that lengths fit. -/
namespace Go.Proofs.YtlhchmjnaanjpaaGreatDoor.Row
open Go.ChangeShapes Go.WideShapes Go.ChangeAt Go.RowKit Go.Instr
set_option linter.unusedVariables false
set_option linter.unusedSectionVars false
set_option maxRecDepth 100000
section
variable {α M : Type} [Inhabited M] {k : Kd α M} {B E : Nat} {w w' : World} {e : TypeId} {ad : Option Addr} {n cap j g : Nat} {Z : List M} {x x' : M}
end
end Go.Proofs.YtlhchmjnaanjpaaGreatDoor.Row
/- Lists of Name: marked and looked at. No conditions but that lengths fit. -/
namespace Go.Proofs.YtlhchmjnaanjpaaGreatDoor.Row
open Go.ChangeShapes Go.WideShapes Go.ChangeAt Go.RowKit Go.Instr
set_option linter.unusedVariables false
set_option maxRecDepth 100000
def mvNn (z : Nnt) : Nat := z.length
def meNn (q : Int) (z : Nnt) : Nnt := marks markT (q) z.length
end Go.Proofs.YtlhchmjnaanjpaaGreatDoor.Row
/- Lists of Key: marked and looked at. No conditions but that lengths fit. -/
namespace Go.Proofs.YtlhchmjnaanjpaaGreatDoor.Row
open Go.ChangeShapes Go.WideShapes Go.ChangeAt Go.RowKit Go.Instr
set_option linter.unusedVariables false
set_option maxRecDepth 100000
def mvKy (z : Kyt) : Nat := z.1.length + 1
def meKy (q : Int) (z : Kyt) : Kyt := (marks markT (q) z.1.length, q + (z.1.length : Int))
end Go.Proofs.YtlhchmjnaanjpaaGreatDoor.Row
/- Lists of Rule: marked and looked at. No conditions but that lengths fit. -/
namespace Go.Proofs.YtlhchmjnaanjpaaGreatDoor.Row
open Go.ChangeShapes Go.WideShapes Go.ChangeAt Go.RowKit Go.Instr
set_option linter.unusedVariables false
set_option maxRecDepth 100000
def mvRl (z : Rlt) : Nat := z.1.length + z.2.length
def meRl (q : Int) (z : Rlt) : Rlt := (marks markT (q) z.1.length, marks markT (q + (z.1.length : Int)) z.2.length)
end Go.Proofs.YtlhchmjnaanjpaaGreatDoor.Row
/- Lists of Data: marked and looked at. No conditions but that lengths fit. -/
namespace Go.Proofs.YtlhchmjnaanjpaaGreatDoor.Row
open Go.ChangeShapes Go.WideShapes Go.ChangeAt Go.RowKit Go.Instr
set_option linter.unusedVariables false
set_option maxRecDepth 100000
def mvDz (z : Dzt) : Nat := z.1.length + z.2.1.length + z.2.2.1.length + 2
def meDz (q : Int) (z : Dzt) : Dzt := (marks markT (q) z.1.length, Sl.marks .u8 (q + (z.1.length : Int)) z.2.1.length, marks markT (q + (z.1.length : Int) + (z.2.1.length : Int)) z.2.2.1.length, q + (z.1.length : Int) + (z.2.1.length : Int) + (z.2.2.1.length : Int), q + (z.1.length : Int) + (z.2.1.length : Int) + (z.2.2.1.length : Int) + 1)
end Go.Proofs.YtlhchmjnaanjpaaGreatDoor.Row
/- The policy of trust: marked. No conditions but that lengths fit. -/
namespace Go.Proofs.YtlhchmjnaanjpaaGreatDoor.Row
open Go.ChangeShapes Go.WideShapes Go.ChangeAt Go.RowKit Go.Instr
set_option linter.unusedVariables false
set_option maxRecDepth 100000
def avTp (x : Tpt) : Nat := advK mvKy x.1 + advK mvRl x.2.1 + advK mvNn x.2.2.1 + advK mvDz x.2.2.2
def mkTp (k : Int) (x : Tpt) : Tpt := (mkLK mvKy meKy (k) x.1, mkLK mvRl meRl (k + (advK mvKy x.1 : Nat)) x.2.1, mkLK mvNn meNn (k + (advK mvKy x.1 : Nat) + (advK mvRl x.2.1 : Nat)) x.2.2.1, mkLK mvDz meDz (k + (advK mvKy x.1 : Nat) + (advK mvRl x.2.1 : Nat) + (advK mvNn x.2.2.1 : Nat)) x.2.2.2)
end Go.Proofs.YtlhchmjnaanjpaaGreatDoor.Row
/- Chains of keys in the words of the exact laws: how long they are; lists of names marked and held; the policy's marks. No conditions but that lengths fit. -/
namespace Go.Proofs.YtlhchmjnaanjpaaGreatDoor.Row
open Go.ChangeShapes Go.WideShapes Go.ChangeAt Go.RowKit Go.Instr
set_option linter.unusedVariables false
set_option maxRecDepth 100000
theorem cellsOf5 {w : World} {g : Nat} {c0 c1 c2 c3 c4 : Value} {t : TypeId} (h : Ret.Blk w g #[c0, c1, c2, c3, c4] t) : w.cell? ⟨g, 0, none⟩ = some c0 ∧ w.cell? ⟨g, 1, none⟩ = some c1 ∧ w.cell? ⟨g, 2, none⟩ = some c2 ∧ w.cell? ⟨g, 3, none⟩ = some c3 ∧ w.cell? ⟨g, 4, none⟩ = some c4 := ⟨h.cell 0, h.cell 1, h.cell 2, h.cell 3, h.cell 4⟩
theorem cellsOf4 {w : World} {g : Nat} {c0 c1 c2 c3 : Value} {t : TypeId} (h : Ret.Blk w g #[c0, c1, c2, c3] t) : w.cell? ⟨g, 0, none⟩ = some c0 ∧ w.cell? ⟨g, 1, none⟩ = some c1 ∧ w.cell? ⟨g, 2, none⟩ = some c2 ∧ w.cell? ⟨g, 3, none⟩ = some c3 := ⟨h.cell 0, h.cell 1, h.cell 2, h.cell 3⟩
end Go.Proofs.YtlhchmjnaanjpaaGreatDoor.Row
