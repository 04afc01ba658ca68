/- Contracts and mathematics, joined: TrustL, MarkK, MarkF, NameSM. No conditions but those that each states. -/
import Derived.WalkKit
import Derived.Deep.RegionHeld3
import Derived.BigQuiet
import Derived.Test.YtcidfmmeonhkhaaGreatDoorB25
import Derived.Test.YtcidfmmeonhkhaaGreatDoorB23
import Derived.Test.YtcidfmmeonhkhaaGreatDoorB10
import Derived.Test.YtcidfmmeonhkhaaGreatDoorB4
import Derived.Test.YtcidfmmeonhkhaaGreatDoorB6
/- The model's TrustChain and IsTrusted. No conditions but that lengths fit. -/
namespace Go.Proofs.YtcidfmmeonhkhaaGreatDoor.Row
open Go.ChangeShapes Go.WideShapes Go.ChangeAt Go.RowKit Go.Instr
set_option linter.unusedVariables false
set_option maxRecDepth 100000

/-- A slice's length. -/
def lenV : Value → Nat
  | .slice _ n _ => n
  | _ => 0
set_option maxHeartbeats 16000000 in
theorem specTrustChain (V U : Value) (t : Tpt) (x : Dzt) (now : Int) (w : World) (h : kTp.At w V t) (g : kD.At w U x) (hp : FitT t) (hfx : FitD x) :
    Calls Tryz.prog 11 #[V, U, .int .i64 now] w fun e w' => ∃ v, e = .returned (.tuple #[v, .bool (chOk t x now)]) ∧ kLNn.In w.heap.size w'.heap.size w' v (chT t x now) ∧ Below w.heap.size w w' := by
  obtain ⟨x0, n0, c0, x1, n1, c1, x2, n2, c2, x3, n3, c3, rfl, g0, g1, g2, g3⟩ := kTp_at h
  obtain ⟨ya, ma, da, yb, mb, db, yc, mc, dc_, rfl, g⟩ := kD_shapeA g
  obtain ⟨k1, k2, k3, k4⟩ := two_news (w := w) #[.slice x0 n0 c0, .slice x1 n1 c1, .slice x2 n2 c2, .slice x3 n3 c3] #[.slice ya ma da, .slice yb mb db, .slice yc mc dc_, .int .i64 x.2.2.2.1, .int .i64 x.2.2.2.2] 29 34
  have HA := Lib.hid (show kTp.At w (.agg #[.slice x0 n0 c0, .slice x1 n1 c1, .slice x2 n2 c2, .slice x3 n3 c3]) t from h)
  have G0 := Lib.hid (kK_ofK g0); have G1 := Lib.hid g1; have G3 := Lib.hid g3; have HD := Lib.hid g
  have HP := Lib.hid hp
  obtain ⟨R, hR⟩ : ∃ R, chT t x now = R := ⟨_, rfl⟩
  obtain ⟨z, hz⟩ : ∃ z, chOk t x now = z := ⟨_, rfl⟩
  rw [hR, hz]
  have HRR := Lib.hid hR; have HZZ := Lib.hid hz
  clear hR hz
  have hb1 := (Below.refl ((w.alloc (.cells #[.slice x0 n0 c0, .slice x1 n1 c1, .slice x2 n2 c2, .slice x3 n3 c3] 29)).alloc (.cells #[.slice ya ma da, .slice yb mb db, .slice yc mc dc_, .int .i64 x.2.2.2.1, .int .i64 x.2.2.2.2] 34)).heap.size ((w.alloc (.cells #[.slice x0 n0 c0, .slice x1 n1 c1, .slice x2 n2 c2, .slice x3 n3 c3] 29)).alloc (.cells #[.slice ya ma da, .slice yb mb db, .slice yc mc dc_, .int .i64 x.2.2.2.1, .int .i64 x.2.2.2.2] 34))).alloc (Nat.le_refl _) (.cells #[] 32)
  have HO := Lib.hid (show kLNn.Own (w.heap.size + 2) (((w.alloc (.cells #[.slice x0 n0 c0, .slice x1 n1 c1, .slice x2 n2 c2, .slice x3 n3 c3] 29)).alloc (.cells #[.slice ya ma da, .slice yb mb db, .slice yc mc dc_, .int .i64 x.2.2.2.1, .int .i64 x.2.2.2.2] 34)).alloc (.cells #[] 32)).heap.size (((w.alloc (.cells #[.slice x0 n0 c0, .slice x1 n1 c1, .slice x2 n2 c2, .slice x3 n3 c3] 29)).alloc (.cells #[.slice ya ma da, .slice yb mb db, .slice yc mc dc_, .int .i64 x.2.2.2.1, .int .i64 x.2.2.2.2] 34)).alloc (.cells #[] 32)) ⟨some ⟨w.heap.size + 1 + 1, 0, none⟩, 0, 0, []⟩ from (by
    have h5 := (Kd.own_row (k := kNn) (r := ⟨some ⟨((w.alloc (.cells #[.slice x0 n0 c0, .slice x1 n1 c1, .slice x2 n2 c2, .slice x3 n3 c3] 29)).alloc (.cells #[.slice ya ma da, .slice yb mb db, .slice yc mc dc_, .int .i64 x.2.2.2.1, .int .i64 x.2.2.2.2] 34)).heap.size, 0, none⟩, 0, 0, []⟩) (ownK_empty kNn.cells 1 32 ((w.alloc (.cells #[.slice x0 n0 c0, .slice x1 n1 c1, .slice x2 n2 c2, .slice x3 n3 c3] 29)).alloc (.cells #[.slice ya ma da, .slice yb mb db, .slice yc mc dc_, .int .i64 x.2.2.2.1, .int .i64 x.2.2.2.2] 34))) rfl).mono (B' := w.heap.size + 2) (by omega) (Nat.le_refl _)
    have h6 : ((w.alloc (.cells #[.slice x0 n0 c0, .slice x1 n1 c1, .slice x2 n2 c2, .slice x3 n3 c3] 29)).alloc (.cells #[.slice ya ma da, .slice yb mb db, .slice yc mc dc_, .int .i64 x.2.2.2.1, .int .i64 x.2.2.2.2] 34)).heap.size = w.heap.size + 1 + 1 := by simp
    rwa [h6] at h5))
  have K1 := Lib.hid (k1.on hb1); have K2 := Lib.hid (k2.on hb1); have K3 := Lib.hid (k3.trans (hb1.mono k3.size)); have HFX := Lib.hid hfx
  clear k1 k2 k3 k4 g0 g1 g2 g3 g h hp hfx hb1
  go_enter Tryz.func11, Tryz.ntmps11
  go_wp2_with fail
  go_loopw [8] (fun u wr => ∃ k : Nat, k ≤ 4 ∧ ∃ (ad : Option Addr) (cap : Nat) (L : List Nnm) (xs : Dzt) (ya yb yc : Option Addr) (ma da mb db mc dc_ : Nat), u = .slice ad k cap ∧ Hid (L.length = k) ∧ Hid (kLNn.Own (w.heap.size + 2) wr.heap.size wr ⟨ad, k, cap, L⟩) ∧ Hid (chainT t now 4 x = (chainT t now (4 - k) xs).map (L.map kNn.strip ++ ·)) ∧ Hid (Ret.Blk wr w.heap.size #[.slice x0 n0 c0, .slice x1 n1 c1, .slice x2 n2 c2, .slice x3 n3 c3] 29) ∧ Hid (Ret.Blk wr (w.heap.size + 1) #[.slice ya ma da, .slice yb mb db, .slice yc mc dc_, .int .i64 xs.2.2.2.1, .int .i64 xs.2.2.2.2] 34) ∧ Hid (kD.At w (.agg #[.slice ya ma da, .slice yb mb db, .slice yc mc dc_, .int .i64 xs.2.2.2.1, .int .i64 xs.2.2.2.2]) xs) ∧ Hid (FitD xs) ∧ Hid (Below w.heap.size w wr)) (fun u _ => 4 - lenV u)
  case atStart => exact ⟨0, Nat.zero_le _, _, _, [], x, ya, yb, yc, ma, da, mb, db, mc, dc_, rfl, Lib.hid rfl, HO, Lib.hid (by simp), K1, K2, HD, HFX, K3⟩
  case round =>
    clear K1 K2 K3 HD HFX HO
    obtain ⟨k, hk, ad, cap, L, xs, ya, yb, yc, ma, da, mb, db, mc, dc_, rfl, hL, ho, hch, hx, hv, hd, hf, hb⟩ := hrel
    have q0 : wr.cell? ⟨w.heap.size, 0, none⟩ = some (.slice x0 n0 c0) := hx.out.cell 0
    have q1 : wr.cell? ⟨w.heap.size, 1, none⟩ = some (.slice x1 n1 c1) := hx.out.cell 1
    have q2 : wr.cell? ⟨w.heap.size, 2, none⟩ = some (.slice x2 n2 c2) := hx.out.cell 2
    have q3 : wr.cell? ⟨w.heap.size, 3, none⟩ = some (.slice x3 n3 c3) := hx.out.cell 3
    have p0 : wr.cell? ⟨w.heap.size + 1, 0, none⟩ = some (.slice ya ma da) := hv.out.cell 0
    have p1 : wr.cell? ⟨w.heap.size + 1, 1, none⟩ = some (.slice yb mb db) := hv.out.cell 1
    have p2 : wr.cell? ⟨w.heap.size + 1, 2, none⟩ = some (.slice yc mc dc_) := hv.out.cell 2
    have p3 : wr.cell? ⟨w.heap.size + 1, 3, none⟩ = some (.int .i64 xs.2.2.2.1) := hv.out.cell 3
    have p4 : wr.cell? ⟨w.heap.size + 1, 4, none⟩ = some (.int .i64 xs.2.2.2.2) := hv.out.cell 4
    by_cases hlt : k < 4
    · obtain ⟨j, hj⟩ : ∃ j, 4 - k = j + 1 := ⟨3 - k, by omega⟩
      rw [hj] at hch
      have hj2 := Lib.hid (show 4 - (k + 1) = j by omega)
      clear hj
      obtain ⟨a, ha⟩ : ∃ a, verD (Ring.lkN t.1 xs.2.2.1) xs = a := ⟨_, rfl⟩
      obtain ⟨a2, ha2⟩ : ∃ a, decide (0 ≤ firstR t.2.1 xs.1 xs.2.2.1) = a := ⟨_, rfl⟩
      have HS : Hid (sigT t xs = (a && a2)) := Lib.hid (by unfold sigT; rw [ha, ha2])
      have HV := Lib.hid ha; have HR := Lib.hid ha2
      clear ha ha2
      go_wp2_with fail
      refine (sVsV a HV.out (G0.out.on hb.out) (hd.out.on hb.out) hf.out.wf HP.out.keys hf.out.bulk).mono ?_
      rintro e w9 ⟨rfl, hb1⟩
      clear q0 q1 q2 q3 p0 p1 p2 p3 p4
      have HW9 := Lib.hid (show wr.heap.size ≤ w9.heap.size from hb1.size)
      replace hx := Lib.hid (hx.out.on hb1); replace hv := Lib.hid (hv.out.on hb1); replace ho := Lib.hid (ho.out.on hb1); replace hb := Lib.hid (hb.out.trans (hb1.mono hb.out.size)); clear hb1
      have q0 : w9.cell? ⟨w.heap.size, 0, none⟩ = some (.slice x0 n0 c0) := hx.out.cell 0
      have q1 : w9.cell? ⟨w.heap.size, 1, none⟩ = some (.slice x1 n1 c1) := hx.out.cell 1
      have q2 : w9.cell? ⟨w.heap.size, 2, none⟩ = some (.slice x2 n2 c2) := hx.out.cell 2
      have q3 : w9.cell? ⟨w.heap.size, 3, none⟩ = some (.slice x3 n3 c3) := hx.out.cell 3
      have p0 : w9.cell? ⟨w.heap.size + 1, 0, none⟩ = some (.slice ya ma da) := hv.out.cell 0
      have p1 : w9.cell? ⟨w.heap.size + 1, 1, none⟩ = some (.slice yb mb db) := hv.out.cell 1
      have p2 : w9.cell? ⟨w.heap.size + 1, 2, none⟩ = some (.slice yc mc dc_) := hv.out.cell 2
      have p3 : w9.cell? ⟨w.heap.size + 1, 3, none⟩ = some (.int .i64 xs.2.2.2.1) := hv.out.cell 3
      have p4 : w9.cell? ⟨w.heap.size + 1, 4, none⟩ = some (.int .i64 xs.2.2.2.2) := hv.out.cell 4
      cases a with
      | false =>
        obtain ⟨e1, e2⟩ := chT_none (t := t) (x := x) (now := now) (by rw [hch.out, chainT_bad HS.out]; rfl)
        have E1 := Lib.hid (show R = [] from HRR.out.symm.trans e1); have E2 := Lib.hid (show z = false from HZZ.out.symm.trans e2)
        clear e1 e2
        go_wp2_with fail
        go_ret2
        exact ⟨_, ret_vb11 E2.out.symm, (by rw [E1.out]; exact empty_names w9 _ hb.out.size), hb.out.alloc hb.out.size _⟩
      | true =>
        obtain ⟨j1, -, j3⟩ := kDz_parts hd.out
        obtain ⟨v3, e3, h3⟩ := kN_at j3
        have e3' : v3 = .slice yc mc dc_ := by injection e3 with e; have := congrArg (fun z : Array Value => z[0]?) e; simpa using this.symm
        rw [e3'] at h3
        have J1 := Lib.hid j1; have J3 := Lib.hid j3; have H3 := Lib.hid h3
        clear j1 j3 h3 e3 e3'
        go_wp2_with fail
        have hc := specAllowed _ _ _ t.2.1 xs.1 xs.2.2.1 w9 (G1.out.on hb.out) (J1.out.on hb.out) (J3.out.on hb.out) HP.out.ruleLen HP.out.ruleWt (Nat.le_trans hf.out.name (by decide)) (Nat.le_trans hf.out.key (by decide))
        rw [HR.out] at hc
        refine hc.mono ?_
        clear hc
        rintro e w1 ⟨rfl, hb1⟩
        clear q0 q1 q2 q3 p0 p1 p2 p3 p4
        have HW1 := Lib.hid (show wr.heap.size ≤ w1.heap.size from Nat.le_trans HW9.out hb1.size)
        replace hx := Lib.hid (hx.out.on hb1); replace hv := Lib.hid (hv.out.on hb1); replace ho := Lib.hid (ho.out.on hb1); replace hb := Lib.hid (hb.out.trans (hb1.mono hb.out.size)); clear hb1
        have HO1 := Lib.hid (show kLNn.Own (w.heap.size + 2) w1.heap.size w1 ⟨ad, k, cap, L⟩ from ho.out.mono (Nat.le_refl _) HW1.out)
        have q0 : w1.cell? ⟨w.heap.size, 0, none⟩ = some (.slice x0 n0 c0) := hx.out.cell 0
        have q1 : w1.cell? ⟨w.heap.size, 1, none⟩ = some (.slice x1 n1 c1) := hx.out.cell 1
        have q2 : w1.cell? ⟨w.heap.size, 2, none⟩ = some (.slice x2 n2 c2) := hx.out.cell 2
        have q3 : w1.cell? ⟨w.heap.size, 3, none⟩ = some (.slice x3 n3 c3) := hx.out.cell 3
        have p0 : w1.cell? ⟨w.heap.size + 1, 0, none⟩ = some (.slice ya ma da) := hv.out.cell 0
        have p1 : w1.cell? ⟨w.heap.size + 1, 1, none⟩ = some (.slice yb mb db) := hv.out.cell 1
        have p2 : w1.cell? ⟨w.heap.size + 1, 2, none⟩ = some (.slice yc mc dc_) := hv.out.cell 2
        have p3 : w1.cell? ⟨w.heap.size + 1, 3, none⟩ = some (.int .i64 xs.2.2.2.1) := hv.out.cell 3
        have p4 : w1.cell? ⟨w.heap.size + 1, 4, none⟩ = some (.int .i64 xs.2.2.2.2) := hv.out.cell 4
        cases a2 with
        | false =>
          obtain ⟨e1, e2⟩ := chT_none (t := t) (x := x) (now := now) (by rw [hch.out, chainT_bad HS.out]; rfl)
          have E1 := Lib.hid (show R = [] from HRR.out.symm.trans e1); have E2 := Lib.hid (show z = false from HZZ.out.symm.trans e2)
          clear e1 e2
          go_wp2_with fail
          go_ret2
          exact ⟨_, ret_vb11 E2.out.symm, (by rw [E1.out]; exact empty_names w1 _ hb.out.size), hb.out.alloc hb.out.size _⟩
        | true =>
          replace HS : Hid (sigT t xs = true) := Lib.hid (by rw [HS.out]; rfl)
          go_wp2_with fail
          refine (l4Copy _ xs.2.2.1 _ (H3.out.on hb.out) (by have := bulk_len xs.2.2.1; have := hf.out.key; omega)).mono ?_
          rintro e w2 ⟨v4, rfl, ho4, hb1⟩
          obtain ⟨x4, n4, c4, rfl, -, -, ho4⟩ := ho4.shapeN
          clear q0 q1 q2 q3 p0 p1 p2 p3 p4 H3 J1
          have HX4 := Lib.hid (show kNn.Own w1.heap.size w2.heap.size w2 ⟨x4, n4, c4, xs.2.2.1⟩ from ⟨kN_own2 ho4, by rw [kN_blocks]; cases (Rw.v ⟨x4, n4, c4, xs.2.2.1⟩).ownBlock <;> simp, fun g hg => by rw [kN_blocks] at hg; exact (ho4.lt g (show (Rw.v ⟨x4, n4, c4, xs.2.2.1⟩).ownBlock = some g from Option.mem_toList.1 hg)).2⟩)
          clear ho4
          have HL1 := Lib.hid (show w1.heap.size ≤ w2.heap.size from hb1.size)
          have HBB := Lib.hid (show w.heap.size + 2 ≤ w1.heap.size by have := (hv.out.lt); omega)
          replace hx := Lib.hid (hx.out.on hb1); replace hv := Lib.hid (hv.out.on hb1); replace ho := Lib.hid (ho.out.on hb1); replace hb := Lib.hid (hb.out.trans (hb1.mono hb.out.size)); clear hb1
          obtain ⟨hn9, -, hb1, hz9⟩ := two_news (w := w2) #[.slice x4 n4 c4] #[.slice x4 n4 c4] 32 32
          have HSRC := Lib.hid (show HoldsK kNn.cells 1 ((w2.alloc (.cells #[.slice x4 n4 c4] 32)).alloc (.cells #[.slice x4 n4 c4] 32)) (.slice (some ⟨w2.heap.size + 1, 0, none⟩) 1 1) [(⟨x4, n4, c4, xs.2.2.1⟩ : Nnm)] from by
            have h5 := holdsK_one szNn_cells 32 (w2.alloc (.cells #[.slice x4 n4 c4] 32)) (⟨x4, n4, c4, xs.2.2.1⟩ : Nnm)
            rwa [show (w2.alloc (.cells #[.slice x4 n4 c4] 32)).heap.size = w2.heap.size + 1 from by simp] at h5)
          have HO3 := Lib.hid (ho.out.on hb1); have HX5 := Lib.hid (HX4.out.on hb1); have HN9 := Lib.hid hn9
          have HLX := Lib.hid (show (L.length + 1) * 24 ≤ 140737488355328 by have := hL.out; omega); have HLM := Lib.hid (show L.length + 1 ≤ maxLen by have := hL.out; unfold maxLen; omega)
          have HSZ := Lib.hid (show w.heap.size + 2 ≤ ((w2.alloc (.cells #[.slice x4 n4 c4] 32)).alloc (.cells #[.slice x4 n4 c4] 32)).heap.size by have := HBB.out; have := HL1.out; simp; omega)
          have HOL := Lib.hid (show ∀ g ∈ kLNn.blocks ⟨ad, k, cap, L⟩, g < w1.heap.size from fun g hg => (HO1.out.lt g hg).2.1)
          have c9 : (w2.alloc (.cells #[.slice x4 n4 c4] 32)).cell? ⟨w2.heap.size, 0, none⟩ = some (.slice x4 n4 c4) := by simp
          clear ho HX4 HO1 hn9 hz9
          replace hx := Lib.hid (hx.out.on hb1); replace hv := Lib.hid (hv.out.on hb1); replace hb := Lib.hid (hb.out.trans (hb1.mono hb.out.size)); clear hb1
          go_wp2_with (at_builtin; refine wpList_appK kindNn (B := w.heap.size + 2) (l := L) (m := [(⟨x4, n4, c4, xs.2.2.1⟩ : Nnm)]) rfl _ _ rfl Tryz.underlying26 rfl rfl HO3.out.1.1 HSRC.out HLX.out HLM.out HSZ.out ?_)
          intro v5 w5 ho5 hg5
          obtain ⟨x5, n5, c5, rfl, hn5, -, ho5⟩ := ho5.shapeN
          have hn6 : n5 = k + 1 := by rw [hn5, List.length_append, hL.out]; rfl
          subst hn6
          have HO6 := Lib.hid (show kLNn.Own (w.heap.size + 2) w5.heap.size w5 ⟨x5, k + 1, c5, L ++ [(⟨x4, n4, c4, xs.2.2.1⟩ : Nnm)]⟩ from Kd.push noRow_kN HO3.out (HX5.out.mono HBB.out (Nat.le_refl _)) (fun g hgx hgr => by
            have h5 := (HX5.out.lt g hgx).1; have h6 := HOL.out g hgr; omega) ho5 hg5)
          have hb1 : Below (w.heap.size + 2) ((w2.alloc (.cells #[.slice x4 n4 c4] 32)).alloc (.cells #[.slice x4 n4 c4] 32)) w5 := (Below.refl _ _).grown hg5 HSZ.out (fun g hg => (HO3.out.1.1.lt g hg).1)
          replace hx := Lib.hid (Blk_low hx.out hb1 (by omega)); replace hv := Lib.hid (Blk_low hv.out hb1 (by omega)); replace hb := Lib.hid (hb.out.trans (hb1.mono (Nat.le_add_right _ _)))
          replace HN9 := Lib.hid (HN9.out.grown hg5 (fun e => by have h5 := HOL.out w2.heap.size (List.mem_append_left _ (Option.mem_toList.2 (show (Value.slice ad k cap).ownBlock = some w2.heap.size from e.symm))); have h6 := HL1.out; omega))
          have J5 := Lib.hid (show kN.At w5 (.agg #[.slice x4 n4 c4]) xs.2.2.1 from (by
            have h5 := Kd.at_of (k := kNn) (kNn.own_holds (HO6.out.1.2 (⟨x4, n4, c4, xs.2.2.1⟩ : Nnm) (by simp)))
            rwa [kN_strip] at h5))
          obtain ⟨b9, hb9⟩ : ∃ b, w2.heap.size = b := ⟨_, rfl⟩
          rw [hb9] at HN9
          clear hn5 ho5 hg5 hb1 HO3 HX5 HSRC HLX HLM HL1 HOL c9
          have q0 : w5.cell? ⟨w.heap.size, 0, none⟩ = some (.slice x0 n0 c0) := hx.out.cell 0
          have q1 : w5.cell? ⟨w.heap.size, 1, none⟩ = some (.slice x1 n1 c1) := hx.out.cell 1
          have q2 : w5.cell? ⟨w.heap.size, 2, none⟩ = some (.slice x2 n2 c2) := hx.out.cell 2
          have q3 : w5.cell? ⟨w.heap.size, 3, none⟩ = some (.slice x3 n3 c3) := hx.out.cell 3
          have p0 : w5.cell? ⟨w.heap.size + 1, 0, none⟩ = some (.slice ya ma da) := hv.out.cell 0
          have p1 : w5.cell? ⟨w.heap.size + 1, 1, none⟩ = some (.slice yb mb db) := hv.out.cell 1
          have p2 : w5.cell? ⟨w.heap.size + 1, 2, none⟩ = some (.slice yc mc dc_) := hv.out.cell 2
          have p3 : w5.cell? ⟨w.heap.size + 1, 3, none⟩ = some (.int .i64 xs.2.2.2.1) := hv.out.cell 3
          have p4 : w5.cell? ⟨w.heap.size + 1, 4, none⟩ = some (.int .i64 xs.2.2.2.2) := hv.out.cell 4
          have c9 : w5.cell? ⟨b9, 0, none⟩ = some (.slice x4 n4 c4) := HN9.out.cell 0
          have HSTR := Lib.hid (show (L ++ [(⟨x4, n4, c4, xs.2.2.1⟩ : Nnm)]).map kNn.strip = L.map kNn.strip ++ [xs.2.2.1] by rw [List.map_append, List.map_cons, List.map_nil]; congr 2; exact kN_strip _)
          have HL6 := Lib.hid (show (L ++ [(⟨x4, n4, c4, xs.2.2.1⟩ : Nnm)]).length = k + 1 by rw [List.length_append, hL.out]; rfl)
          obtain ⟨b, hb2⟩ : ∃ b, anchorT t.2.2.1 xs.2.2.1 = b := ⟨_, rfl⟩
          have HAN := Lib.hid hb2
          clear hb2
          rw [hb9]
          clear hb9
          go_wp2_with fail
          refine (specIsAnchor _ _ t xs.2.2.1 _ b HAN.out (HA.out.on hb.out) J5.out HP.out.nameLen HP.out.nameWt9 (Nat.le_trans hf.out.key (by decide))).mono ?_
          rintro e w6 ⟨rfl, hb1⟩
          clear q0 q1 q2 q3 p0 p1 p2 p3 p4 c9
          replace HO6 := Lib.hid (HO6.out.on hb1); replace J5 := Lib.hid (J5.out.on hb1); replace HN9 := Lib.hid (HN9.out.on hb1)
          have HS6 := Lib.hid (show w5.heap.size ≤ w6.heap.size from hb1.size)
          replace hx := Lib.hid (hx.out.on hb1); replace hv := Lib.hid (hv.out.on hb1); replace hb := Lib.hid (hb.out.trans (hb1.mono hb.out.size)); clear hb1
          have q0 : w6.cell? ⟨w.heap.size, 0, none⟩ = some (.slice x0 n0 c0) := hx.out.cell 0
          have q1 : w6.cell? ⟨w.heap.size, 1, none⟩ = some (.slice x1 n1 c1) := hx.out.cell 1
          have q2 : w6.cell? ⟨w.heap.size, 2, none⟩ = some (.slice x2 n2 c2) := hx.out.cell 2
          have q3 : w6.cell? ⟨w.heap.size, 3, none⟩ = some (.slice x3 n3 c3) := hx.out.cell 3
          have p0 : w6.cell? ⟨w.heap.size + 1, 0, none⟩ = some (.slice ya ma da) := hv.out.cell 0
          have p1 : w6.cell? ⟨w.heap.size + 1, 1, none⟩ = some (.slice yb mb db) := hv.out.cell 1
          have p2 : w6.cell? ⟨w.heap.size + 1, 2, none⟩ = some (.slice yc mc dc_) := hv.out.cell 2
          have p3 : w6.cell? ⟨w.heap.size + 1, 3, none⟩ = some (.int .i64 xs.2.2.2.1) := hv.out.cell 3
          have p4 : w6.cell? ⟨w.heap.size + 1, 4, none⟩ = some (.int .i64 xs.2.2.2.2) := hv.out.cell 4
          have c9 : w6.cell? ⟨b9, 0, none⟩ = some (.slice x4 n4 c4) := HN9.out.cell 0
          cases b with
          | true =>
            obtain ⟨e1, e2⟩ := chT_some (show chainT t now 4 x = some (L.map kNn.strip ++ [xs.2.2.1]) by rw [hch.out, chainT_anchor HS.out HAN.out]; rfl)
            have E1 := Lib.hid (HRR.out.symm.trans e1); have E2 := Lib.hid (show z = true from HZZ.out.symm.trans e2)
            clear e1 e2
            go_wp2_with fail
            go_ret2
            exact ⟨_, ret_vb11 E2.out.symm, (by rw [E1.out]; exact HSTR.out ▸ (HO6.out.mono (Nat.le_add_right _ _) HS6.out).in), hb.out⟩
          | false =>
            obtain ⟨f, hf2⟩ : ∃ f, findC t xs.2.2.1 now = f := ⟨_, rfl⟩
            have HF := Lib.hid hf2
            have HFL := Lib.hid (findC_lt t xs.2.2.1 now)
            rw [hf2] at HFL
            clear hf2
            go_wp2_with fail
            refine (specFindCertificate _ _ t xs.2.2.1 now _ f HF.out (HA.out.on hb.out) J5.out HP.out hf.out.key).mono ?_
            rintro e w7 ⟨rfl, hb1⟩
            clear q0 q1 q2 q3 p0 p1 p2 p3 p4 c9 J5 HN9
            replace HO6 := Lib.hid (HO6.out.on hb1)
            replace HS6 := Lib.hid (show w5.heap.size ≤ w7.heap.size from Nat.le_trans HS6.out hb1.size)
            replace hx := Lib.hid (hx.out.on hb1); replace hv := Lib.hid (hv.out.on hb1); replace hb := Lib.hid (hb.out.trans (hb1.mono hb.out.size)); clear hb1
            have q0 : w7.cell? ⟨w.heap.size, 0, none⟩ = some (.slice x0 n0 c0) := hx.out.cell 0
            have q1 : w7.cell? ⟨w.heap.size, 1, none⟩ = some (.slice x1 n1 c1) := hx.out.cell 1
            have q2 : w7.cell? ⟨w.heap.size, 2, none⟩ = some (.slice x2 n2 c2) := hx.out.cell 2
            have q3 : w7.cell? ⟨w.heap.size, 3, none⟩ = some (.slice x3 n3 c3) := hx.out.cell 3
            have p0 : w7.cell? ⟨w.heap.size + 1, 0, none⟩ = some (.slice ya ma da) := hv.out.cell 0
            have p1 : w7.cell? ⟨w.heap.size + 1, 1, none⟩ = some (.slice yb mb db) := hv.out.cell 1
            have p2 : w7.cell? ⟨w.heap.size + 1, 2, none⟩ = some (.slice yc mc dc_) := hv.out.cell 2
            have p3 : w7.cell? ⟨w.heap.size + 1, 3, none⟩ = some (.int .i64 xs.2.2.2.1) := hv.out.cell 3
            have p4 : w7.cell? ⟨w.heap.size + 1, 4, none⟩ = some (.int .i64 xs.2.2.2.2) := hv.out.cell 4
            by_cases hneg : f < 0
            · have HNEG := Lib.hid (show findC t xs.2.2.1 now < 0 by rw [HF.out]; exact hneg)
              obtain ⟨e1, e2⟩ := chT_none (t := t) (x := x) (now := now) (by rw [hch.out, chainT_lost HS.out HAN.out HNEG.out]; rfl)
              have E1 := Lib.hid (show R = [] from HRR.out.symm.trans e1); have E2 := Lib.hid (show z = false from HZZ.out.symm.trans e2)
              clear e1 e2
              go_wp2_with fail
              go_ret2
              exact ⟨_, ret_vb11 E2.out.symm, (by rw [E1.out]; exact empty_names w7 _ hb.out.size), hb.out.alloc hb.out.size _⟩
            · obtain ⟨i, rfl⟩ : ∃ i : Nat, f = (i : Int) := ⟨f.toNat, by omega⟩
              have hi : i < t.2.2.2.length := by have h5 := HFL.out; simp at h5; omega
              have HFC := Lib.hid (HP.out.certs (nth t.2.2.2 i) (nth_mem hi))
              obtain ⟨hn3, hcap, b, off, za, na_, ea, zb, nb_, eb, zc, nc_, ec, rfl, r0, r1, r2, r3, r4, hcd⟩ := cert_at G3.out hi
              have HCD := Lib.hid hcd
              have s0 := kc r0 hb.out; have s1 := kc r1 hb.out; have s2 := kc r2 hb.out; have s3 := kc r3 hb.out; have s4 := kc r4 hb.out
              have f0 := hv.out.frozen 0; have f1 := hv.out.frozen 1; have f2 := hv.out.frozen 2; have f3 := hv.out.frozen 3; have f4 := hv.out.frozen 4
              have hi3 : i < n3 := by omega
              have Z1 := Lib.hid (show Ret.Blk ((((((w7).setCell ⟨(w.heap.size + 1), 0, none⟩ (.slice za na_ ea)).setCell ⟨(w.heap.size + 1), 1, none⟩ (.slice zb nb_ eb)).setCell ⟨(w.heap.size + 1), 2, none⟩ (.slice zc nc_ ec)).setCell ⟨(w.heap.size + 1), 3, none⟩ (.int .i64 (nth t.2.2.2 i).2.2.2.1)).setCell ⟨(w.heap.size + 1), 4, none⟩ (.int .i64 (nth t.2.2.2 i).2.2.2.2)) (w.heap.size + 1) #[.slice za na_ ea, .slice zb nb_ eb, .slice zc nc_ ec, .int .i64 (nth t.2.2.2 i).2.2.2.1, .int .i64 (nth t.2.2.2 i).2.2.2.2] 34 from Ring.blk_five hv.out)
              have Z2 := Lib.hid (show Ret.Blk ((((((w7).setCell ⟨(w.heap.size + 1), 0, none⟩ (.slice za na_ ea)).setCell ⟨(w.heap.size + 1), 1, none⟩ (.slice zb nb_ eb)).setCell ⟨(w.heap.size + 1), 2, none⟩ (.slice zc nc_ ec)).setCell ⟨(w.heap.size + 1), 3, none⟩ (.int .i64 (nth t.2.2.2 i).2.2.2.1)).setCell ⟨(w.heap.size + 1), 4, none⟩ (.int .i64 (nth t.2.2.2 i).2.2.2.2)) w.heap.size #[.slice x0 n0 c0, .slice x1 n1 c1, .slice x2 n2 c2, .slice (some ⟨b, off, none⟩) n3 c3] 29 from blk_five_other hx.out (by omega))
              have Z3 := Lib.hid (show Below w.heap.size w ((((((w7).setCell ⟨(w.heap.size + 1), 0, none⟩ (.slice za na_ ea)).setCell ⟨(w.heap.size + 1), 1, none⟩ (.slice zb nb_ eb)).setCell ⟨(w.heap.size + 1), 2, none⟩ (.slice zc nc_ ec)).setCell ⟨(w.heap.size + 1), 3, none⟩ (.int .i64 (nth t.2.2.2 i).2.2.2.1)).setCell ⟨(w.heap.size + 1), 4, none⟩ (.int .i64 (nth t.2.2.2 i).2.2.2.2)) from Ring.below_five hb.out (by omega))
              have Z4 := Lib.hid (show kLNn.Own (w.heap.size + 2) ((((((w7).setCell ⟨(w.heap.size + 1), 0, none⟩ (.slice za na_ ea)).setCell ⟨(w.heap.size + 1), 1, none⟩ (.slice zb nb_ eb)).setCell ⟨(w.heap.size + 1), 2, none⟩ (.slice zc nc_ ec)).setCell ⟨(w.heap.size + 1), 3, none⟩ (.int .i64 (nth t.2.2.2 i).2.2.2.1)).setCell ⟨(w.heap.size + 1), 4, none⟩ (.int .i64 (nth t.2.2.2 i).2.2.2.2)).heap.size ((((((w7).setCell ⟨(w.heap.size + 1), 0, none⟩ (.slice za na_ ea)).setCell ⟨(w.heap.size + 1), 1, none⟩ (.slice zb nb_ eb)).setCell ⟨(w.heap.size + 1), 2, none⟩ (.slice zc nc_ ec)).setCell ⟨(w.heap.size + 1), 3, none⟩ (.int .i64 (nth t.2.2.2 i).2.2.2.1)).setCell ⟨(w.heap.size + 1), 4, none⟩ (.int .i64 (nth t.2.2.2 i).2.2.2.2)) ⟨x5, k + 1, c5, L ++ [(⟨x4, n4, c4, xs.2.2.1⟩ : Nnm)]⟩ from own_five (HO6.out.mono (Nat.le_refl _) (by simp [World.setCell]; exact HS6.out)) (by omega))
              have Z5 := Lib.hid (show chainT t now 4 x = (chainT t now (4 - (k + 1)) (nth t.2.2.2 i)).map ((L ++ [(⟨x4, n4, c4, xs.2.2.1⟩ : Nnm)]).map kNn.strip ++ ·) by rw [hch.out, chainT_next HS.out HAN.out HF.out, map_snoc, HSTR.out, hj2.out])
              clear hx hv hb HO6 hn3 hcd r0 r1 r2 r3 r4 hi hch HSTR HFL
              go_wp2_with fail
              go_roundw
              case rel => exact ⟨k + 1, by omega, _, _, _, nth t.2.2.2 i, za, zb, zc, na_, ea, nb_, eb, nc_, ec, rfl, HL6, Z4, Z5, Z2, Z1, HCD, HFC, Z3⟩
              case measure => simp [lenV]; omega
    · obtain rfl : k = 4 := by omega
      clear hlt
      obtain ⟨e1, e2⟩ := chT_none (t := t) (x := x) (now := now) (by rw [hch.out, show chainT t now (4 - 4) xs = none from rfl]; rfl)
      have E1 := Lib.hid (show R = [] from HRR.out.symm.trans e1); have E2 := Lib.hid (show z = false from HZZ.out.symm.trans e2)
      clear e1 e2
      go_wp2_with fail
      go_ret2
      exact ⟨_, ret_vb11 E2.out.symm, (by rw [E1.out]; exact empty_names wr _ hb.out.size), hb.out.alloc hb.out.size _⟩

end Go.Proofs.YtcidfmmeonhkhaaGreatDoor.Row
/- Lists of elements of a kind, marked part by part: what a part's marking leaves of the list. For any kind and any program. No conditions. -/
namespace Go.Proofs.YtcidfmmeonhkhaaGreatDoor.Row
open Go.ChangeShapes Go.WideShapes Go.ChangeAt Go.RowKit Go.Instr
set_option linter.unusedVariables false
set_option linter.unusedSectionVars false
set_option maxRecDepth 100000

section
variable {α M β N : Type} [Inhabited M] {k : Kd α M} {l : Kd β N} {B E : Nat} {w w' : World} {P : Program}
/-- A helper marks a part of what lies as a kind: the part's value, how many numbers it takes, what it leaves. -/
def MarkF (P : Program) (k : Kd α M) (fn : FuncId) (arg : M → Value) (adv : α → Nat) (mk : Int → α → α) : Prop :=
  ∀ (B E : Nat) (x : M) (w : World) (q : Int), k.Own B E w x → adv (k.strip x) ≤ 100000000 → 0 ≤ q → q + (adv (k.strip x) : Int) ≤ 100000000000 →
    Calls P fn #[arg x, .int .i64 q] w fun e w' => e = .returned (.int .i64 (q + (adv (k.strip x) : Int))) ∧ ∃ x', k.cells x' = k.cells x ∧ k.blocks x' = k.blocks x ∧ k.strip x' = mk q (k.strip x) ∧ k.Own B E w' x' ∧ WroteBy (k.blocks x) w w'
theorem MarkF.fst {fn : FuncId} {arg : M → Value} {adv : α → Nat} {mk : Int → α → α} (h : MarkF P k fn arg adv mk) (l : Kd β N) : MarkF P (k.pair l) fn (fun x => arg x.1) (fun a => adv a.1) (fun q a => (mk q a.1, a.2)) := by
  intro B E x w q ho hl h0 h1
  obtain ⟨m, n⟩ := x
  obtain ⟨o1, o2, hd⟩ := ho.parts
  refine (h B E m w q o1 hl h0 h1).mono ?_
  rintro e w' ⟨rfl, m', c, b, s, o, hw⟩
  refine ⟨rfl, (m', n), ?_, ?_, ?_, ?_, ?_⟩
  · show k.cells m' ++ l.cells n = k.cells m ++ l.cells n
    rw [c]
  · show k.blocks m' ++ l.blocks n = k.blocks m ++ l.blocks n
    rw [b]
  · show (k.strip m', l.strip n) = (mk q (k.strip m), l.strip n)
    rw [s]
  · exact Kd.Own.join o (hw.own o2 (fun g hg hg2 => hd g hg2 hg)) (by rw [b]; exact hd)
  · exact hw.more (fun g hg => List.mem_append_left _ hg)
theorem MarkF.snd {fn : FuncId} {arg : N → Value} {adv : β → Nat} {mk : Int → β → β} (h : MarkF P l fn arg adv mk) (k : Kd α M) : MarkF P (k.pair l) fn (fun x => arg x.2) (fun a => adv a.2) (fun q a => (a.1, mk q a.2)) := by
  intro B E x w q ho hl h0 h1
  obtain ⟨m, n⟩ := x
  obtain ⟨o1, o2, hd⟩ := ho.parts
  refine (h B E n w q o2 hl h0 h1).mono ?_
  rintro e w' ⟨rfl, n', c, b, s, o, hw⟩
  refine ⟨rfl, (m, n'), ?_, ?_, ?_, ?_, ?_⟩
  · show k.cells m ++ l.cells n' = k.cells m ++ l.cells n
    rw [c]
  · show k.blocks m ++ l.blocks n' = k.blocks m ++ l.blocks n
    rw [b]
  · show (k.strip m, l.strip n') = (k.strip m, mk q (l.strip n))
    rw [s]
  · exact Kd.Own.join (hw.own o1 (fun g hg hg2 => hd g hg hg2)) o (by rw [b]; exact hd)
  · exact hw.more (fun g hg => List.mem_append_right _ hg)

/-! ### a list and one of its elements -/
theorem flat_disj {γ : Type} {f : γ → List Nat} {L : List γ} (h : (L.flatMap f).Nodup) {i j : Nat} (hi : i < L.length) (hj : j < L.length) (hne : i ≠ j) : ∀ q ∈ f L[i], q ∉ f L[j] := by
  have h2 := (List.pairwise_flatMap.1 h).2
  have h3 := List.pairwise_iff_getElem.1 h2
  intro q hq hq2
  rcases Nat.lt_or_gt_of_ne hne with hl | hl
  · exact h3 i j hi hj hl q hq q hq2 rfl
  · exact h3 j i hj hi hl q hq2 q hq rfl
theorem flatB_one {γ : Type} {f : γ → List Nat} {L : List γ} (h : (L.flatMap f).Nodup) {j : Nat} (hj : j < L.length) : (f L[j]).Nodup :=
  (List.pairwise_flatMap.1 h).1 _ (List.getElem_mem hj)
theorem flatMap_set {γ δ : Type} {f : γ → List δ} {L : List γ} {j : Nat} (hj : j < L.length) {y : γ} (e : f y = f L[j]) : (L.set j y).flatMap f = L.flatMap f := by
  rw [List.flatMap_def, List.flatMap_def, List.map_set]
  congr 1
  have : f y = (L.map f)[j]'(by simpa using hj) := by simp [e]
  rw [this, List.set_getElem_self]
variable {e : TypeId} {ad : Option Addr} {n cap j : Nat} {L : List M}
theorem Kd.Own.row (h : (k.slice e).Own B E w ⟨ad, n, cap, L⟩) : OwnK e k.cells k.size B w (.slice ad n cap) L := h.1.1
theorem Kd.Own.apart (h : (k.slice e).Own B E w ⟨ad, n, cap, L⟩) : (L.flatMap k.blocks).Nodup ∧ ∀ g, (Value.slice ad n cap).ownBlock = some g → g ∉ L.flatMap k.blocks := by
  have h2 : ((Value.slice ad n cap).ownBlock.toList ++ L.flatMap k.blocks).Nodup := h.2.1
  have h3 := List.nodup_append.1 h2
  exact ⟨h3.2.1, fun g hg hg2 => h3.2.2 g (by simp [hg]) g hg2 rfl⟩
theorem Kd.Own.elem (h : (k.slice e).Own B E w ⟨ad, n, cap, L⟩) (hj : j < L.length) : k.Own B E w (nth L j) := by
  rw [nth_eq hj]
  refine ⟨h.1.2 _ (List.getElem_mem hj), flatB_one h.apart.1 hj, fun g hg => h.2.2 g ?_⟩
  exact List.mem_append_right _ (List.mem_flatMap.2 ⟨_, List.getElem_mem hj, hg⟩)
/-- An element's part was written: the list stands, with the element as it is now. -/
theorem Kd.Own.part (h : (k.slice e).Own B E w ⟨ad, n, cap, L⟩) (hj : j < L.length) {x' : M} (hc : k.cells x' = k.cells (nth L j)) (hb : k.blocks x' = k.blocks (nth L j)) (ho : k.Own B E w' x') (hw : WroteBy (k.blocks (nth L j)) w w') :
    (k.slice e).Own B E w' ⟨ad, n, cap, L.set j x'⟩ ∧ WroteBy (L.flatMap k.blocks) w w' := by
  rw [nth_eq hj] at hc hb hw
  obtain ⟨hnd, hrow⟩ := h.apart
  have hfb := flatMap_set hj hb
  have hfc : Row.flat k.cells (L.set j x') = Row.flat k.cells L := by
    unfold Row.flat
    exact flatMap_set hj hc
  refine ⟨⟨⟨?_, fun y hy => ?_⟩, ?_, ?_⟩, hw.more (fun g hg => List.mem_flatMap.2 ⟨_, List.getElem_mem hj, hg⟩)⟩
  · have hk : OwnK e k.cells k.size B w' (.slice ad n cap) L := ownK_keep h.row (fun g hg => hw.block g (h.row.lt g hg).2 (fun hg2 => hrow g hg (List.mem_flatMap.2 ⟨_, List.getElem_mem hj, hg2⟩)))
    show OwnK e k.cells k.size B w' (.slice ad n cap) (L.set j x')
    unfold OwnK at hk ⊢
    rw [List.length_set, hfc]
    exact hk
  · obtain ⟨i, hi, rfl⟩ := List.getElem_of_mem (show y ∈ L.set j x' from hy)
    have hi2 : i < L.length := by simpa using hi
    by_cases e1 : j = i
    · subst e1
      rw [List.getElem_set_self]
      exact ho.1
    · rw [List.getElem_set_ne e1]
      refine k.own_keep (h.1.2 _ (List.getElem_mem hi2)) (fun g hg => hw.block g (k.own_lt (h.1.2 _ (List.getElem_mem hi2)) g hg).2 (fun hg2 => flat_disj hnd hi2 hj (fun e2 => e1 e2.symm) g hg hg2))
  · show ((Value.slice ad n cap).ownBlock.toList ++ (L.set j x').flatMap k.blocks).Nodup
    rw [hfb]
    exact h.2.1
  · intro g hg
    have hg2 : g ∈ (Value.slice ad n cap).ownBlock.toList ++ (L.set j x').flatMap k.blocks := hg
    rw [hfb] at hg2
    exact h.2.2 g hg2
/-- A cell of an element is stored, and nothing beneath it changes. -/
theorem Kd.Own.put {g : Nat} (h : (k.slice e).Own B E w ⟨some ⟨g, 0, none⟩, n, cap, L⟩) (hn : n = L.length) (hj : j < L.length) {i : Nat} (hi : i < k.size) {u : Value} {x' : M} (hc : k.cells x' = (k.cells (nth L j)).set i u) (hb : k.blocks x' = k.blocks (nth L j)) (ho : ∀ {W : World}, k.own B W (nth L j) → k.own B W x') :
    (k.slice e).Own B E (w.setCell ⟨g, j * k.size + i, none⟩ u) ⟨some ⟨g, 0, none⟩, n, cap, L.set j x'⟩ ∧ w.grownBy (w.setCell ⟨g, j * k.size + i, none⟩ u) (some g) := by
  obtain ⟨a1, a2⟩ := ownK_store (fun m => k.len m) h.row hn hj hi hc
  obtain ⟨hnd, hrow⟩ := h.apart
  have hg0 := hrow g rfl
  have hfb := flatMap_set (f := k.blocks) hj (by rw [hb, nth_eq hj])
  have keep : ∀ {y : M}, y ∈ L → k.own B (w.setCell ⟨g, j * k.size + i, none⟩ u) y := fun {y} hy => k.own_keep (h.1.2 y hy) (fun q hq => a2.block q (k.own_lt (h.1.2 y hy) q hq).2 (fun e1 => hg0 (by cases e1; exact List.mem_flatMap.2 ⟨y, hy, hq⟩)))
  refine ⟨⟨⟨a1, fun y hy => ?_⟩, ?_, ?_⟩, a2⟩
  · rcases List.mem_or_eq_of_mem_set (show y ∈ L.set j x' from hy) with hy | rfl
    · exact keep hy
    · exact ho (keep (nth_mem hj))
  · show ((Value.slice (some ⟨g, 0, none⟩) n cap).ownBlock.toList ++ (L.set j x').flatMap k.blocks).Nodup
    rw [hfb]
    exact h.2.1
  · intro q hq
    have hg2 : q ∈ (Value.slice (some ⟨g, 0, none⟩) n cap).ownBlock.toList ++ (L.set j x').flatMap k.blocks := hq
    rw [hfb] at hg2
    exact h.2.2 q hg2
end
/-! ### what the marking of a list leaves -/
section
variable {α : Type} [Inhabited α] (a : α → Nat) (f : Int → α → α)
def advK : List α → Nat
  | [] => 0
  | x :: r => a x + advK r
def mkLK (q : Int) : List α → List α
  | [] => []
  | x :: r => f q x :: mkLK (q + (a x : Int)) r
theorem advK_append : ∀ (l m : List α), advK a (l ++ m) = advK a l + advK a m
  | [], m => by simp [advK]
  | x :: l, m => by simp [advK, advK_append l m]; omega
theorem advK_take {l : List α} {j : Nat} (h : j < l.length) : advK a (l.take (j + 1)) = advK a (l.take j) + a (nth l j) := by
  rw [List.take_succ_eq_append_getElem h, advK_append, nth_eq h]; simp [advK]
theorem advK_take_le (l : List α) (j : Nat) : advK a (l.take j) ≤ advK a l := by
  have := advK_append a (l.take j) (l.drop j)
  rw [List.take_append_drop] at this; omega
theorem mkLK_append (q : Int) : ∀ (l m : List α), mkLK a f q (l ++ m) = mkLK a f q l ++ mkLK a f (q + (advK a l : Int)) m
  | [], m => by simp [mkLK, advK]
  | x :: l, m => by
    simp only [List.cons_append, mkLK, advK, mkLK_append _ l m]
    congr 3
    simp; omega
theorem mkLK_length (q : Int) : ∀ l : List α, (mkLK a f q l).length = l.length
  | [] => rfl
  | x :: r => by simp [mkLK, mkLK_length _ r]
theorem mkLK_take (q : Int) {l : List α} {j : Nat} (h : j < l.length) : mkLK a f q (l.take (j + 1)) = mkLK a f q (l.take j) ++ [f (q + (advK a (l.take j) : Int)) (nth l j)] := by
  rw [List.take_succ_eq_append_getElem h, mkLK_append, nth_eq h]; rfl
theorem mkLK_at (q : Int) {l : List α} {j : Nat} (h : j < l.length) : nth (mkLK a f q l) j = f (q + (advK a (l.take j) : Int)) (nth l j) := by
  have e := mkLK_append a f q (l.take (j + 1)) (l.drop (j + 1))
  rw [List.take_append_drop, mkLK_take a f q h] at e
  have h2 : (mkLK a f q (l.take j)).length = j := by rw [mkLK_length, List.length_take]; omega
  rw [e]
  simp only [nth, List.getD]
  rw [List.append_assoc, List.getElem?_append_right (by omega), h2]
  simp
end
end Go.Proofs.YtcidfmmeonhkhaaGreatDoor.Row
/- Names and bytes as parts that are marked; an element of a list, step by step. No conditions but that lengths fit. -/
namespace Go.Proofs.YtcidfmmeonhkhaaGreatDoor.Row
open Go.ChangeShapes Go.WideShapes Go.ChangeAt Go.RowKit Go.Instr
set_option linter.unusedVariables false
set_option linter.unusedSectionVars false
set_option maxRecDepth 100000

theorem markF_N : MarkF Tryz.prog kN 115 (fun m => m.v) (fun l => l.length) (fun q l => marks markT q l.length) := by
  intro B E m w k h hl h0 h1
  have ho := kN_own1 h.1
  rw [kN_strip] at hl h1 ⊢
  refine (markStringS B m.v m.els w k ho hl h0 (by omega)).mono ?_
  rintro e w' ⟨a, b, c⟩
  refine ⟨a, ⟨m.ad, m.n, m.cap, marks markT k m.els.length⟩, rfl, by rw [kN_blocks, kN_blocks]; rfl, by rw [kN_strip], ⟨kN_own2 b, ?_, ?_⟩, WroteBy.of c (fun g hg => by rw [kN_blocks]; simp [hg])⟩
  · have := h.2.1
    rw [kN_blocks] at this ⊢
    exact this
  · have := h.2.2
    rw [kN_blocks] at this ⊢
    exact this
theorem markF_B : MarkF Tryz.prog kB 114 (fun m => m.v) (fun l => l.length) (fun q l => Sl.marks .u8 q l.length) := by
  intro B E m w k h hl h0 h1
  have ho := kB_own1 h.1
  rw [kB_strip] at hl h1 ⊢
  refine (Sl.markByteS B m.v m.els w k ho hl h0 (by omega)).mono ?_
  rintro e w' ⟨a, b, c⟩
  refine ⟨a, ⟨m.ad, m.n, m.cap, Sl.marks .u8 k m.els.length⟩, rfl, by rw [kB_blocks, kB_blocks]; rfl, by rw [kB_strip], ⟨kB_own2 b, ?_, ?_⟩, WroteBy.of c (fun g hg => by rw [kB_blocks]; simp [hg])⟩
  · have := h.2.1
    rw [kB_blocks] at this ⊢
    exact this
  · have := h.2.2
    rw [kB_blocks] at this ⊢
    exact this
section
variable {α M : Type} [Inhabited M] {k : Kd α M} {B E : Nat} {w w' : World} {e : TypeId} {ad : Option Addr} {n cap j g : Nat} {Z : List M} {x x' : M}
theorem nth_set9 {γ : Type} [Inhabited γ] {Z : List γ} {j : Nat} (hj : j < Z.length) (x : γ) : nth (Z.set j x) j = x := by
  rw [nth_eq (by simpa using hj), List.getElem_set_self]
theorem set_nth9 {γ : Type} [Inhabited γ] {Z : List γ} {j : Nat} (hj : j < Z.length) : Z.set j (nth Z j) = Z := by
  rw [nth_eq hj, List.set_getElem_self]
theorem Kd.Own.elem9 (h : (k.slice e).Own B E w ⟨ad, n, cap, Z.set j x⟩) (hj : j < Z.length) : k.Own B E w x := by
  have := Kd.Own.elem h (j := j) (by simpa using hj)
  rwa [nth_set9 hj] at this
theorem Kd.Own.part9 (h : (k.slice e).Own B E w ⟨ad, n, cap, Z.set j x⟩) (hj : j < Z.length) (hc : k.cells x' = k.cells x) (hb : k.blocks x' = k.blocks x) (ho : k.Own B E w' x') (hw : WroteBy (k.blocks x) w w') :
    (k.slice e).Own B E w' ⟨ad, n, cap, Z.set j x'⟩ := by
  have := (Kd.Own.part h (j := j) (by simpa using hj) (x' := x') (by rw [nth_set9 hj]; exact hc) (by rw [nth_set9 hj]; exact hb) ho (by rw [nth_set9 hj]; exact hw)).1
  rwa [List.set_set] at this
theorem Kd.Own.put9 (h : (k.slice e).Own B E w ⟨some ⟨g, 0, none⟩, n, cap, Z.set j x⟩) (hn : n = Z.length) (hj : j < Z.length) {i : Nat} (hi : i < k.size) {u : Value} (hc : k.cells x' = (k.cells x).set i u) (hb : k.blocks x' = k.blocks x) (ho : ∀ {W : World}, k.own B W x → k.own B W x') :
    (k.slice e).Own B E (w.setCell ⟨g, j * k.size + i, none⟩ u) ⟨some ⟨g, 0, none⟩, n, cap, Z.set j x'⟩ := by
  have := (Kd.Own.put h (j := j) (by simpa using hn) (by simpa using hj) hi (u := u) (x' := x') (by rw [nth_set9 hj]; exact hc) (by rw [nth_set9 hj]; exact hb) (by rw [nth_set9 hj]; exact ho)).1
  rwa [List.set_set] at this
theorem Kd.Own.cell9 (h : (k.slice e).Own B E w ⟨some ⟨g, 0, none⟩, n, cap, Z.set j x⟩) (hn : n = Z.length) (hj : j < Z.length) {i : Nat} (hi : i < k.size) : w.cell? ⟨g, j * k.size + i, none⟩ = (k.cells x)[i]? ∧ w.frozen? ⟨g, j * k.size + i, none⟩ = false := by
  have := ownK_cell (fun m => k.len m) h.row (by simpa using hn) (j := j) (by simpa using hj) hi
  rwa [nth_set9 hj] at this
theorem nth_over {γ : Type} [Inhabited γ] {M L : List γ} {j : Nat} (hm : M.length = j) (hj : j < L.length) : nth (M ++ L.drop j) j = nth L j := by
  simp only [nth, List.getD]
  rw [List.getElem?_append_right (by rw [hm]; exact Nat.le_refl _), hm]
  simp
theorem set_over {γ : Type} [Inhabited γ] {M L : List γ} {j : Nat} (hm : M.length = j) (hj : j < L.length) (x : γ) : (M ++ L.drop j).set j x = M ++ [x] ++ L.drop (j + 1) := by
  have hd : L.drop j = nth L j :: L.drop (j + 1) := by rw [nth_eq hj, List.getElem_cons_drop]
  rw [List.set_append_right _ _ (by rw [hm]; exact Nat.le_refl _), hm, Nat.sub_self, hd, List.set_cons_zero, List.append_assoc]
  rfl
end
end Go.Proofs.YtcidfmmeonhkhaaGreatDoor.Row
/- Lists of Name: marked and looked at. No conditions but that lengths fit. -/
namespace Go.Proofs.YtcidfmmeonhkhaaGreatDoor.Row
open Go.ChangeShapes Go.WideShapes Go.ChangeAt Go.RowKit Go.Instr
set_option linter.unusedVariables false
set_option maxRecDepth 100000

def mvNn (z : Nnt) : Nat := z.length
def meNn (q : Int) (z : Nnt) : Nnt := (marks markT (q) z.length)
theorem mfNn0 (B E : Nat) (x : Nnm) (w : World) (q : Int) (a : Nat) (ha : (kNn.strip x).length = a) (ho : kNn.Own B E w x) (hl : a ≤ 100000000) (h0 : 0 ≤ q) (h1 : q + (a : Int) ≤ 100000000000) :
    Calls Tryz.prog 115 #[x.v, .int .i64 q] w fun e w' => e = .returned (.int .i64 (q + (a : Int))) ∧ ∃ x', kNn.cells x' = kNn.cells x ∧ kNn.blocks x' = kNn.blocks x ∧ kNn.strip x' = (marks markT (q) (kNn.strip x).length) ∧ kNn.Own B E w' x' ∧ WroteBy (kNn.blocks x) w w' := by
  subst ha
  exact markF_N B E x w q ho hl h0 h1

set_option maxHeartbeats 4000000 in
theorem markNameSK (B E : Nat) (m : Rw Nnm) (w : World) (k : Int) (h : kLNn.Own B E w m) (hl : advK mvNn (kLNn.strip m) ≤ 100000000) (h0 : 0 ≤ k) (h1 : k + (advK mvNn (kLNn.strip m) : Int) ≤ 100000000000) :
    Calls Tryz.prog 46 #[kLNn.val m, .int .i64 k] w fun e w' => e = .returned (.int .i64 (k + (advK mvNn (kLNn.strip m) : Int))) ∧ ∃ m', kLNn.val m' = kLNn.val m ∧ kLNn.blocks m' = kLNn.blocks m ∧ kLNn.strip m' = mkLK mvNn meNn k (kLNn.strip m) ∧ kLNn.Own B E w' m' ∧ WroteBy (kLNn.blocks m) w w' := by
  obtain ⟨ad, n, cap, L⟩ := m
  replace h : (kNn.slice 32).Own B E w ⟨ad, n, cap, L⟩ := h
  replace hl : advK mvNn (L.map kNn.strip) ≤ 100000000 := hl
  replace h1 : k + (advK mvNn (L.map kNn.strip) : Int) ≤ 100000000000 := h1
  show Calls Tryz.prog 46 #[.slice ad n cap, .int .i64 k] w fun e w' => e = .returned (.int .i64 (k + (advK mvNn (L.map kNn.strip) : Int))) ∧ ∃ m' : Rw Nnm, Rw.v m' = .slice ad n cap ∧ (kNn.slice 32).blocks m' = (kNn.slice 32).blocks ⟨ad, n, cap, L⟩ ∧ m'.els.map kNn.strip = mkLK mvNn meNn k (L.map kNn.strip) ∧ (kNn.slice 32).Own B E w' m' ∧ WroteBy ((kNn.slice 32).blocks ⟨ad, n, cap, L⟩) w w'
  rcases h.row.form with ⟨hv, hL⟩ | ⟨g, cap', hv, g1, g2, g3, g4⟩
  · cases hv
    subst hL
    have H := Lib.hid h; clear h
    go_enter Tryz.func46, Tryz.ntmps46
    go_wp2
    refine wp_loop_rounds 1 ?_
    rw [rounds_succ]
    go_wp2
    go_ret
    exact ⟨ret_int (by simp [advK]), ⟨⟨none, 0, 0, []⟩, rfl, rfl, rfl, H.out, WroteBy.refl _ _⟩⟩
  · cases hv
    have HROWLT := g2
    obtain ⟨n, hn⟩ : ∃ n, n = L.length := ⟨_, rfl⟩
    rw [← hn] at h g3 ⊢
    obtain ⟨l, hl9⟩ : ∃ l, L.map kNn.strip = l := ⟨_, rfl⟩
    rw [hl9] at hl h1 ⊢
    have hll : l.length = n := by rw [← hl9, List.length_map, hn]
    obtain ⟨bs, hbs⟩ : ∃ bs, (kNn.slice 32).blocks ⟨some ⟨g, 0, none⟩, n, cap, L⟩ = bs := ⟨_, rfl⟩
    have hgb : g ∈ bs := by rw [← hbs]; exact List.mem_append_left _ (by simp [Value.ownBlock, Rw.v])
    have heb : ∀ x ∈ L, ∀ q ∈ kNn.blocks x, q ∈ bs := fun x hx q hq => by rw [← hbs]; exact List.mem_append_right _ (List.mem_flatMap.2 ⟨x, hx, hq⟩)
    have hmaxl : n ≤ 140737488351232 ∨ True := Or.inr trivial
    have hn2 : n ≤ maxLen := by rw [hn]; exact h.row.len
    unfold maxLen at hn2
    rw [hbs]
    have HN := Lib.hid hn; have HT := Lib.hid hl9; have HLL := Lib.hid hll; have HBS := Lib.hid hbs; have HGB := Lib.hid hgb; have HEB := Lib.hid heb
    have HST := Lib.hid (fun j (hj : j < n) => advK_take mvNn (l := l) (j := j) (by rw [hll]; exact hj))
    have HLE := Lib.hid (fun j => advK_take_le mvNn l j)
    have HB : Hid ((kNn.slice 32).Own B E w ⟨some ⟨g, 0, none⟩, n, cap, [] ++ L.drop 0⟩) := Lib.hid (by simpa using h)
    clear hn h hl9 hll hbs hgb heb hmaxl
    go_enter Tryz.func46, Tryz.ntmps46
    go_wp2
    go_loopw [1, 5] (fun kv i wr => ∃ j : Nat, j ≤ n ∧ i = .int .i64 j ∧ ∃ p : Int, kv = .int .i64 p ∧ 0 ≤ p ∧ p ≤ 100000000000 ∧ Hid (p = k + (advK mvNn (l.take j) : Int)) ∧ ∃ M : List Nnm, Hid (M.length = j) ∧ Hid (M.map kNn.strip = mkLK mvNn meNn k (l.take j)) ∧ Hid (M.map kNn.blocks = (L.take j).map kNn.blocks) ∧ Hid ((kNn.slice 32).Own B E wr ⟨some ⟨g, 0, none⟩, n, cap, M ++ L.drop j⟩) ∧ Hid (WroteBy bs w wr)) (fun _ i _ => n - (intOf i).toNat)
    case atStart => exact ⟨0, Nat.zero_le _, rfl, k, rfl, h0, by omega, Lib.hid (by simp [advK]), [], Lib.hid rfl, Lib.hid (by simp [mkLK]), Lib.hid rfl, HB, Lib.hid (WroteBy.refl _ _)⟩
    case round =>
      obtain ⟨j, hj, rfl, p, rfl, hp0, hp1, HP, M, HM1, HM2, HM3, HO, HW⟩ := hrel
      by_cases hlt : j < n
      · have hjL : j < L.length := by have := HN.out; omega
        obtain ⟨x0, hx0⟩ : ∃ x, nth L j = x := ⟨_, rfl⟩
        obtain ⟨Z, hZ⟩ : ∃ Z, M ++ L.drop j = Z := ⟨_, rfl⟩
        have hZl : n = Z.length := by rw [← hZ, List.length_append, HM1.out, List.length_drop]; have := HN.out; omega
        have hjZ : j < Z.length := by omega
        have hx9 : nth Z j = x0 := by rw [← hZ, nth_over HM1.out hjL, hx0]
        have ho := HO.out
        rw [hZ, ← set_nth9 hjZ, hx9] at ho
        have hst := HST.out j hlt
        rw [show nth l j = kNn.strip x0 by rw [← HT.out, nth_map _ hjL, hx0]] at hst
        have hle := HLE.out (j + 1)
        have hxb := HEB.out x0 (by rw [← hx0]; exact nth_mem hjL)
        obtain ⟨a0, ha0⟩ : ∃ a, (kNn.strip x0).length = a := ⟨_, rfl⟩
        have hmv : mvNn (kNn.strip x0) = a0 := by unfold mvNn; rw [ha0]
        rw [hmv] at hst
        have hp := HP.out
        have ba0 : a0 ≤ 100000000 := by omega
        have btot : p + ((a0 : Nat) : Int) ≤ 100000000000 := by omega
        have HX0 := Lib.hid hx0; have HZ := Lib.hid hZ; have HZL := Lib.hid hZl; have HJZ := Lib.hid hjZ; have HO0 := Lib.hid ho; have HSTP := Lib.hid hst; have HXB := Lib.hid hxb; have HJL := Lib.hid hjL; have HMV := Lib.hid hmv
        have HA0_0 := Lib.hid ha0
        have HW0 := HW
        clear hx0 hZ hZl hjZ hx9 ho hst hle hxb hp hjL hmv ha0
        have c : wr.cell? ⟨g, j, none⟩ = some x0.v := (by have h9 := (HO0.out.cell9 HZL.out HJZ.out (i := 0) (by decide)).1; rw [show kNn.size = 1 from rfl, Nat.mul_one, Nat.add_zero] at h9; exact h9)
        go_wp2_with fail
        clear c
        refine (mfNn0 B E x0 wr (p) a0 HA0_0.out (HO0.out.elem9 HJZ.out) ba0 (by omega) (by omega)).mono ?_
        rintro e w1 ⟨rfl, x1, hc, hb, hs, ho, hw⟩
        have HO1 := Lib.hid (HO0.out.part9 HJZ.out hc hb ho hw); have HB1 := Lib.hid hb; have HS1 := Lib.hid hs
        have HW1 := Lib.hid (HW0.out.trans (hw.more (fun q hq => HXB.out q hq)))
        clear hc hb hs ho hw
        have HOF : Hid ((kNn.slice 32).Own B E w1 ⟨some ⟨g, 0, none⟩, n, cap, Z.set j x1⟩) := Lib.hid HO1.out
        have HWF : Hid (WroteBy bs w w1) := Lib.hid HW1.out
        have HSF : Hid (kNn.strip x1 = meNn p (kNn.strip x0)) := Lib.hid (by
          show kNn.strip x1 = _
          unfold meNn
          simp only [HS1.out, HA0_0.out])
        have HBF : Hid (kNn.blocks x1 = kNn.blocks x0) := Lib.hid (show _ = _ from HB1.out)
        clear HO0 HW0 HO1 HW1 HB1 HS1
        go_wp2_with fail
        go_roundw
        case rel =>
          refine ⟨j + 1, by omega, by go_num, p + (a0 : Int), by go_num, by omega, by omega, Lib.hid ?_, M ++ [x1], Lib.hid ?_, Lib.hid ?_, Lib.hid ?_, Lib.hid ?_, HWF⟩
          · rw [HSTP.out, HP.out]; omega
          · simp [HM1.out]
          · rw [List.map_append, HM2.out, mkLK_take _ _ _ (by rw [HLL.out]; exact hlt), show nth l j = kNn.strip x0 by rw [← HT.out, nth_map _ HJL.out, HX0.out], ← HP.out, ← HSF.out]
            rfl
          · rw [List.map_append, HM3.out, List.take_succ_eq_append_getElem HJL.out, List.map_append, ← nth_eq HJL.out, HX0.out]
            simp only [List.map_cons, List.map_nil]
            rw [HBF.out]
          · have h9 := HOF.out
            rw [← HZ.out, set_over HM1.out HJL.out] at h9
            exact h9
        case measure => simp [intOf]; omega
      · obtain rfl : j = n := by omega
        clear hlt
        go_wp2
        go_ret
        have hn := HN.out
        have hp := HP.out
        have e1 : l.take j = l := List.take_of_length_le (by rw [HLL.out]; exact Nat.le_refl _)
        have e2 : L.take j = L := List.take_of_length_le (by omega)
        have e3 : L.drop j = [] := List.drop_eq_nil_of_le (by omega)
        have hh := HO.out
        have hm2 := HM2.out
        have hm3 := HM3.out
        rw [e1] at hp hm2
        rw [e2] at hm3
        rw [e3, List.append_nil] at hh
        refine ⟨ret_int hp, ⟨some ⟨g, 0, none⟩, j, cap, M⟩, rfl, ?_, hm2, hh, HW.out⟩
        rw [← HBS.out]
        show _ ++ M.flatMap kNn.blocks = _ ++ L.flatMap kNn.blocks
        rw [List.flatMap_def, List.flatMap_def, hm3]
        rfl

set_option maxHeartbeats 4000000 in
theorem heldNameSK (V : Value) (l : List Nnt) (w : World) (k : Int) (h : kLNn.At w V (mkLK mvNn meNn k l)) (hl : advK mvNn l ≤ 100000000) (hlen : l.length ≤ 100000000) (h0 : 0 ≤ k) (h1 : k + (advK mvNn l : Int) ≤ 100000000000) :
    Calls Tryz.prog 47 #[V, .int .i64 k] w fun e w' => e = .returned (.int .i64 (k + (advK mvNn l : Int))) ∧ Below w.heap.size w w' := by
  obtain ⟨ad, n, cap, L, rfl, hn, hL, hh, hel⟩ := kLNn_at h
  have hll : l.length = n := by have := congrArg List.length hL; rw [List.length_map, mkLK_length] at this; omega
  rw [hll] at hlen
  have HN := Lib.hid hn; have HT := Lib.hid hL; have HH := Lib.hid hh; have HEL := Lib.hid hel; have HLL := Lib.hid hll
  have HST := Lib.hid (fun j (hj : j < n) => advK_take mvNn (l := l) (j := j) (by rw [hll]; exact hj))
  have HLE := Lib.hid (fun j => advK_take_le mvNn l j)
  clear h hn hL hh hel hll
  go_enter Tryz.func47, Tryz.ntmps47
  go_wp2
  go_loopw [1, 5] (fun kv i wr => ∃ j : Nat, j ≤ n ∧ i = .int .i64 j ∧ ∃ p : Int, kv = .int .i64 p ∧ 0 ≤ p ∧ p ≤ 100000000000 ∧ Hid (p = k + (advK mvNn (l.take j) : Int)) ∧ Hid (Below w.heap.size w wr)) (fun _ i _ => n - (intOf i).toNat)
  case atStart => exact ⟨0, Nat.zero_le _, rfl, k, rfl, h0, by omega, Lib.hid (by simp [advK]), Lib.hid (Below.refl _ _)⟩
  case round =>
    obtain ⟨j, hj, rfl, p, rfl, hp0, hp1, HP, hb⟩ := hrel
    by_cases hlt : j < n
    · have hn := HN.out
      obtain ⟨b, off, x0, n0, c0, rfl, -, hc0, ha⟩ := kLNn_elem (HH.out.on hb.out) (fun y hy => kNn.holds_on (HEL.out y hy) hb.out) (j := j) (by omega)
      have hme : kNn.strip (nth L j) = meNn p (nth l j) := by rw [← nth_map kNn.strip (by omega), HT.out, mkLK_at _ _ _ (by rw [HLL.out]; exact hlt), ← HP.out]
      rw [hme] at ha 
      have hst := HST.out j hlt
      have hle := HLE.out (j + 1)
      obtain ⟨z, hz⟩ : ∃ z, nth l j = z := ⟨_, rfl⟩
      rw [hz] at ha hst 
      obtain ⟨v9, e9, h9_0⟩ := kN_at ha
      cases e9
      obtain ⟨a0, ha0⟩ : ∃ a, z.length = a := ⟨_, rfl⟩
      have hmv : mvNn z = a0 := by unfold mvNn; rw [ha0]
      rw [hmv] at hst
      have hp := HP.out
      have G0 := Lib.hid (show Holds Value.string wr (.slice x0 n0 c0) (marks markT (p) a0) from by have h8 := h9_0; simp only [meNn, ha0] at h8; exact h8)
      have HC0 := Lib.hid (show wr.cell? ⟨b, off + j, none⟩ = some (.slice x0 n0 c0) from hc0)
      have ba0 : a0 ≤ 100000000 := by omega
      have btot : p + ((a0 : Nat) : Int) ≤ 100000000000 := by omega
      have HSTP := Lib.hid hst
      clear hn ha hme hst hle hmv hp hz hc0 ha0 h9_0
      have c : wr.cell? ⟨b, off + j, none⟩ = some (.slice x0 n0 c0) := HC0.out
      go_wp2_with fail
      clear c
      refine (heldStringS _ _ (p) a0 G0.out ba0 (by omega) (by omega)).mono ?_
      rintro e w1 ⟨rfl, hb1⟩
      replace hb := Lib.hid (hb.out.trans (hb1.mono hb.out.size)); clear hb1
      have bq : ¬ p + (a0 : Int) < 0 := by omega
      go_wp2_with fail
      go_roundw
      case rel => exact ⟨j + 1, by omega, by go_num, p + (a0 : Int), by go_num, by omega, by omega, Lib.hid (by rw [HSTP.out, HP.out]; omega), hb⟩
      case measure => simp [intOf]; omega
    · obtain rfl : j = n := by omega
      clear hlt
      go_wp2
      go_ret
      have hp := HP.out
      rw [show l.take j = l from List.take_of_length_le (by rw [HLL.out]; exact Nat.le_refl _)] at hp
      exact ⟨ret_int hp, hb.out⟩
end Go.Proofs.YtcidfmmeonhkhaaGreatDoor.Row
