/- Contract of the reference model's draw of a pattern and a name that it may mean: what is drawn lies in memory of the call's own; all else but the cursor is as it was. -/
import Derived.Test.YtoibmgnmnmeklaaDrawPat
namespace Go.Proofs.Ytoibmgnmnmeklaa.Draw
open Go.ChangeShapes Go.WideShapes Go.ChangeAt Go.RowKit Go.Instr
open Go.Proofs.Ytoibmgnmnmeklaa.Row (bulk bulk_append bulk_one bulk_nil bulk_cons elemSTR oneStr nth)
open Go.Proofs.Ytoibmgnmnmeklaa.Ret (NC)
set_option linter.unusedVariables false
set_option maxRecDepth 100000

def PairIn (B : Nat) (x : Value) (w : World) : Prop := ∃ u m u2 m2, x = .tuple #[.agg #[u], .agg #[u2]] ∧ OwnS B w u m ∧ bulk m ≤ 1000 ∧ OwnS B w u2 m2 ∧ bulk m2 ≤ 1200000
theorem endPair {w0 : World} {p : Nat} {v : Value} {l : List UInt8} {w W : World} {u u2 : Value} {m m2 : List ByteArray} (h0 : w0.heap.size ≤ w.heap.size) (hwp : w.heap.size ≠ p) (hwp1 : w.heap.size + 1 ≠ p) (h1 : NC W w.heap.size (.slice none 0 0)) (h2 : NC W (w.heap.size + 1) (.slice none 0 0)) (ho : OwnS (w.heap.size + 1 + 1) W u m) (ho2 : OwnS (w.heap.size + 1 + 1) W u2 m2) (hc : Cur w0 p v l W) (hk : Keep p w W) :
    ((W.setCell ⟨w.heap.size, 0, none⟩ u).setCell ⟨w.heap.size + 1, 0, none⟩ u2).cell? ⟨w.heap.size, 0, none⟩ = some u ∧ ((W.setCell ⟨w.heap.size, 0, none⟩ u).setCell ⟨w.heap.size + 1, 0, none⟩ u2).cell? ⟨w.heap.size + 1, 0, none⟩ = some u2 ∧
    OwnS w.heap.size ((W.setCell ⟨w.heap.size, 0, none⟩ u).setCell ⟨w.heap.size + 1, 0, none⟩ u2) u m ∧ OwnS w.heap.size ((W.setCell ⟨w.heap.size, 0, none⟩ u).setCell ⟨w.heap.size + 1, 0, none⟩ u2) u2 m2 ∧
    Cur w0 p v l ((W.setCell ⟨w.heap.size, 0, none⟩ u).setCell ⟨w.heap.size + 1, 0, none⟩ u2) ∧ Keep p w ((W.setCell ⟨w.heap.size, 0, none⟩ u).setCell ⟨w.heap.size + 1, 0, none⟩ u2) := by
  have g1 := NC.set_same h1 u
  have g2 := h2.other (a := ⟨w.heap.size, 0, none⟩) (by show w.heap.size ≠ w.heap.size + 1; omega) u
  refine ⟨(g1.other (a := ⟨w.heap.size + 1, 0, none⟩) (by show w.heap.size + 1 ≠ w.heap.size; omega) u2).1, Ret.set_same g2.1, ?_, ?_, (hc.set h0 hwp u).set (by omega) hwp1 u2, (hk.set (Nat.le_refl _) u).set (by omega) u2⟩
  · exact ((ho.grown (Ret.grownBy_set _ _ u) (Row.nb ho (b := w.heap.size) (by omega))).grown (Ret.grownBy_set _ _ u2) (Row.nb ho (b := w.heap.size + 1) (by omega))).mono (by omega)
  · exact ((ho2.grown (Ret.grownBy_set _ _ u) (Row.nb ho2 (b := w.heap.size) (by omega))).grown (Ret.grownBy_set _ _ u2) (Row.nb ho2 (b := w.heap.size + 1) (by omega))).mono (by omega)

set_option maxHeartbeats 8000000 in
theorem l5Pair (w0 : World) (p : Nat) (v : Value) (l : List UInt8) (w : World) (hc : Cur w0 p v l w) :
    Calls Try.prog 50 #[.pointer (some ⟨p, 0, none⟩)] w (DrawnW w0 p v l w (PairIn w.heap.size)) := by
  have hpl := hc.lt
  have HB := Lib.hid (l5Any w0 p v l _ ((hc.alloc (.cells #[.slice none 0 0] 26)).alloc (.cells #[.slice none 0 0] 27)))
  have HK0 := Lib.hid ((keep_alloc p w (.cells #[.slice none 0 0] 26)).trans (keep_alloc p _ (.cells #[.slice none 0 0] 27)))
  have HR0 := Lib.hid ((NC.new' (w := w) (.slice none 0 0) 26 rfl).alloc (.cells #[.slice none 0 0] 27))
  have HS0 := Lib.hid (NC.new' (w := w.alloc (.cells #[.slice none 0 0] 26)) (.slice none 0 0) 27 (n := w.heap.size + 1) (by simp))
  have HC0 := Lib.hid hc
  clear hc
  go_enter Try.func50, Try.ntmps50
  go_wp2_with fail
  refine HB.out.mono ?_
  rintro e w1 ⟨y, rfl, ⟨u, mp, rfl, ho, hm⟩, hc1, hk1⟩
  obtain ⟨xp, np, cp, rfl, hn, hcap, ho⟩ := ho.shapeN
  have hz1 := hk1.size
  simp only [World.size_alloc] at hz1 ho
  have hal : Below w1.heap.size w1 ((w1.alloc (.cells #[.slice xp np cp] 26)).alloc (.cells #[.slice none 0 0] 27)) := ((Below.refl _ _).alloc (Nat.le_refl _) _).alloc (by simp) _
  have hal2 : Below ((w1.alloc (.cells #[.slice xp np cp] 26)).alloc (.cells #[.slice none 0 0] 27)).heap.size ((w1.alloc (.cells #[.slice xp np cp] 26)).alloc (.cells #[.slice none 0 0] 27)) (((w1.alloc (.cells #[.slice xp np cp] 26)).alloc (.cells #[.slice none 0 0] 27)).alloc (.cells #[.string { data := #[97] }, .string { data := #[98] }, .string { data := #[49] }] 9)) := (Below.refl _ _).alloc (Nat.le_refl _) _
  have HC1 := Lib.hid ((hc1.on hal).on hal2)
  have HK1 := Lib.hid (((HK0.out.trans hk1).trans (Keep.of_below (p := p) hal)).trans (Keep.of_below (p := p) hal2))
  have HR1 := Lib.hid (((NC.keep HR0.out hk1 (by omega)).on hal).on hal2)
  have HS1 := Lib.hid (((NC.keep HS0.out hk1 (by omega)).on hal).on hal2)
  have HXP1 := Lib.hid (((Ret.Box.new' (w := w1) (.slice xp np cp) 26 rfl).on ((Below.refl _ _).alloc (Nat.le_refl _) (.cells #[.slice none 0 0] 27))).on hal2)
  have HX1 := Lib.hid ((Ret.Box.new' (w := w1.alloc (.cells #[.slice xp np cp] 26)) (.slice none 0 0) 27 (n := w1.heap.size + 1) (by simp)).on hal2)
  have HOP1 := Lib.hid ((ho.on hal).on hal2)
  have hpq : ∀ q, (Value.slice xp np cp).ownBlock = some q → q < w1.heap.size := fun q hq => (ho.lt q hq).2
  have HDS := Lib.hid (strAt w0 p v l (((w1.alloc (.cells #[.slice xp np cp] 26)).alloc (.cells #[.slice none 0 0] 27)).alloc (.cells #[.string { data := #[97] }, .string { data := #[98] }, .string { data := #[49] }] 9)) HC1.out (w1.heap.size + 1 + 1) (by have := hc1.lt; omega) [{ data := #[97] }, { data := #[98] }, { data := #[49] }] 3 rfl (by decide) (by decide) 20 (by decide) (fun j h => lits_at (by simp) rfl j h))
  have hpw1 := hc1.lt
  have HN := Lib.hid hn
  have HMP := Lib.hid hm
  have HSZP := Lib.hid (fun k (hk : k < mp.length) => Row.size_nth hm hk)
  have hnp : np ≤ 1000 := by have := Row.bulk_len mp; omega
  clear hc1 hk1 ho hal hal2 HB hn
  go_wp2_with fail
  refine HDS.out.mono ?_
  rintro e w2 ⟨y, rfl, ⟨t6, rfl, ht6⟩, hc2, hk2⟩
  obtain ⟨gp, hgp⟩ : ∃ gp, gp = w1.heap.size := ⟨_, rfl⟩
  rw [← hgp] at hz1 hpq hpw1 HXP1 HX1 ⊢
  have HSZ := Lib.hid HC0.out.below.size
  have HWB := Lib.hid (show w.heap.size ≤ gp + 1 + 1 by omega)
  have HGW := Lib.hid (show w.heap.size ≤ gp + 1 by omega)
  have HGP := Lib.hid (show gp + 1 ≠ p by omega)
  have HPB := Lib.hid (show p < gp + 1 + 1 by omega)
  have HRP := Lib.hid (show w.heap.size ≠ p by omega); have HRB := Lib.hid (show w.heap.size < gp + 1 + 1 by omega); have HRG := Lib.hid (show w.heap.size ≠ gp + 1 by omega)
  have HSP := Lib.hid (show w.heap.size + 1 ≠ p by omega); have HSB := Lib.hid (show w.heap.size + 1 < gp + 1 + 1 by omega); have HSG := Lib.hid (show w.heap.size + 1 ≠ gp + 1 by omega)
  have HXPP := Lib.hid (show gp ≠ p by omega); have HXPB := Lib.hid (show gp < gp + 1 + 1 by omega); have HXPG := Lib.hid (show gp ≠ gp + 1 by omega)
  have HOPP := Lib.hid (show p < w.heap.size + 1 + 1 by omega)
  have HOPB := Lib.hid (fun q hq => (show q < gp + 1 + 1 ∧ q ≠ gp + 1 by have := hpq q hq; omega))
  have HC2 := Lib.hid hc2
  have HK2 := Lib.hid (HK1.out.trans hk2)
  have HR2 := Lib.hid (NC.keep HR1.out hk2 HRP.out); have HS2 := Lib.hid (NC.keep HS1.out hk2 HSP.out)
  have HXP2 := Lib.hid (box_keep HXP1.out hk2 HXPP.out); have HX2 := Lib.hid (box_keep HX1.out hk2 HGP.out)
  have HOP2 := Lib.hid (rown_keep HOP1.out hk2 HOPP.out)
  have HBB2 := Lib.hid HX2.out.lt
  clear hc2 hk2 HDS HC1 HK1 HR1 HS1 HXP1 HX1 HOP1 hgp hpq HR0 HS0 HK0
  go_wp2_with fail
  go_loopw [7] (fun iv wr => ∃ (k : Nat) (x : Option Addr) (n c : Nat) (m : List ByteArray), k ≤ np ∧ iv = .int .i64 k ∧ bulk m ≤ 1100 * k ∧ Hid (NC wr w.heap.size (.slice none 0 0)) ∧ Hid (NC wr (w.heap.size + 1) (.slice none 0 0)) ∧ Hid (Ret.Box wr gp (.slice xp np cp) 26) ∧ Hid (OwnS (w.heap.size + 1 + 1) wr (.slice xp np cp) mp) ∧ Hid (Ret.Box wr (gp + 1) (.slice x n c) 27) ∧ Hid (OwnS (gp + 1 + 1) wr (.slice x n c) m) ∧ Hid (Cur w0 p v l wr) ∧ Hid (Keep p w wr)) (fun iv _ => np - (intOf iv).toNat)
  case atStart => exact ⟨0, none, 0, 0, [], Nat.zero_le _, rfl, by rw [bulk_nil]; omega, HR2, HS2, HXP2, HOP2, HX2, Lib.hid (Row.Own.nil _ _ _ _), HC2, HK2⟩
  case round =>
    obtain ⟨k, x, n, c, m, hk, rfl, hm, HR, HS, HXP, HOP, HX, HO, HC, HK⟩ := hrel
    have HBB := Lib.hid HX.out.lt
    have hxp := HXP.out.cell
    by_cases hlt : k < np
    · have hkm : k < mp.length := by have := HN.out; omega
      have hsz := HSZP.out k hkm
      obtain ⟨b, off, rfl, hd⟩ := HOP.out.holds.at hkm
      have hx1 := HX.out.cell
      have hx2 := HX.out.frozen
      clear hkm
      cases hq1 : ((nth mp k).toList == [42, 42]) with
      | true =>
        have HLM := Lib.hid (show (m.length + 1) * 16 ≤ 140737488355328 by have := Row.bulk_len m; omega)
        have HLX := Lib.hid (show m.length + 1 ≤ maxLen by have := Row.bulk_len m; unfold maxLen; omega)
        have hal : Below wr.heap.size wr (wr.alloc (.cells #[.string ({ data := #[97] })] 9)) := (Below.refl _ _).alloc (Nat.le_refl _) _
        have HO3A := Lib.hid (HO.out.on hal); have HX3A := Lib.hid (HX.out.on hal); have HC3 := HC; have HK3 := HK
        have HR3 := HR
        have HS3 := HS
        have HXP3 := HXP
        have HOP3 := HOP
        have hB3 : gp + 1 + 1 ≤ (wr.alloc (.cells #[.string ({ data := #[97] })] 9)).heap.size := by have := HBB.out; have := HK.out.size; simp; omega
        clear hal
        have hxc := HX3A.out.cell
        go_wp2_with (at_builtin; refine Row.wpList_app (enc := Value.string) (B := gp + 1 + 1) (l := m) (m := [{ data := #[97] }]) rfl _ _ rfl Try.underlying24 elemSTR rfl rfl rfl HO3A.out (Row.holds_one Value.string 9 wr _) oneStr HLM.out HLX.out hB3 ?_)
        intro v4 w4 ho4 hg4
        obtain ⟨x4, n4, c4, rfl, hn4, hcc4, ho4⟩ := ho4.shapeN
        have HO4 := Lib.hid ho4; have HG4 := Lib.hid hg4; have HN4 := Lib.hid hn4
        have HX4 := Lib.hid (HX3A.out.grown hg4 (Row.Own.notBox HO3A.out HX3A.out (by decide)))
        have hx4 := HX4.out.cell
        have hx5 := HX4.out.frozen
        clear ho4 hg4 hn4 hxc
        have HZ5 := Lib.hid (storeP HSZ.out HWB.out HGW.out HGP.out HPB.out (by decide) HO3A.out (HC3.out.on ((Below.refl _ _).alloc (Nat.le_refl _) _)) (HK3.out.trans (keep_alloc p wr _)) HG4.out HO4.out HX4.out)
        have HO5 := Lib.hid HZ5.out.1; have HC5 := Lib.hid HZ5.out.2.1; have HK5 := Lib.hid HZ5.out.2.2.1; have HX5 := Lib.hid HZ5.out.2.2.2.1
        have HR5 := Lib.hid (HZ5.out.2.2.2.2.1 _ _ (HR3.out.on ((Below.refl _ _).alloc (Nat.le_refl _) _)) HRB.out HRG.out)
        have HS5 := Lib.hid (HZ5.out.2.2.2.2.1 _ _ (HS3.out.on ((Below.refl _ _).alloc (Nat.le_refl _) _)) HSB.out HSG.out)
        have HXP5 := Lib.hid (HZ5.out.2.2.2.2.2.1 _ _ _ (HXP3.out.on ((Below.refl _ _).alloc (Nat.le_refl _) _)) HXPB.out HXPG.out)
        have HOP5 := Lib.hid (HZ5.out.2.2.2.2.2.2 _ _ _ (HOP3.out.on ((Below.refl _ _).alloc (Nat.le_refl _) _)) HOPB.out)
        have hz5 : bulk (m ++ [{ data := #[97] }]) ≤ 1100 * (k + 1) := by rw [bulk_append, bulk_one, z97]; omega
        clear HZ5
        go_wp2_with fail
        go_roundw
        case rel => exact ⟨k + 1, _, _, _, _, by omega, by go_num, hz5, HR5, HS5, HXP5, HOP5, HX5, HO5, HC5, HK5⟩
        case measure => simp [intOf]; omega
      | false =>
        cases hq2 : ((nth mp k).toList == [63, 120]) with
        | true =>
          have HLM := Lib.hid (show (m.length + 1) * 16 ≤ 140737488355328 by have := Row.bulk_len m; omega)
          have HLX := Lib.hid (show m.length + 1 ≤ maxLen by have := Row.bulk_len m; unfold maxLen; omega)
          have hal : Below wr.heap.size wr (wr.alloc (.cells #[.string (t6)] 9)) := (Below.refl _ _).alloc (Nat.le_refl _) _
          have HO3A := Lib.hid (HO.out.on hal); have HX3A := Lib.hid (HX.out.on hal); have HC3 := HC; have HK3 := HK
          have HR3 := HR
          have HS3 := HS
          have HXP3 := HXP
          have HOP3 := HOP
          have hB3 : gp + 1 + 1 ≤ (wr.alloc (.cells #[.string (t6)] 9)).heap.size := by have := HBB.out; have := HK.out.size; simp; omega
          clear hal
          have hxc := HX3A.out.cell
          go_wp2_with (at_builtin; refine Row.wpList_app (enc := Value.string) (B := gp + 1 + 1) (l := m) (m := [t6]) rfl _ _ rfl Try.underlying24 elemSTR rfl rfl rfl HO3A.out (Row.holds_one Value.string 9 wr _) oneStr HLM.out HLX.out hB3 ?_)
          intro v4 w4 ho4 hg4
          obtain ⟨x4, n4, c4, rfl, hn4, hcc4, ho4⟩ := ho4.shapeN
          have HO4 := Lib.hid ho4; have HG4 := Lib.hid hg4; have HN4 := Lib.hid hn4
          have HX4 := Lib.hid (HX3A.out.grown hg4 (Row.Own.notBox HO3A.out HX3A.out (by decide)))
          have hx4 := HX4.out.cell
          have hx5 := HX4.out.frozen
          clear ho4 hg4 hn4 hxc
          have HZ5 := Lib.hid (storeP HSZ.out HWB.out HGW.out HGP.out HPB.out (by decide) HO3A.out (HC3.out.on ((Below.refl _ _).alloc (Nat.le_refl _) _)) (HK3.out.trans (keep_alloc p wr _)) HG4.out HO4.out HX4.out)
          have HO5 := Lib.hid HZ5.out.1; have HC5 := Lib.hid HZ5.out.2.1; have HK5 := Lib.hid HZ5.out.2.2.1; have HX5 := Lib.hid HZ5.out.2.2.2.1
          have HR5 := Lib.hid (HZ5.out.2.2.2.2.1 _ _ (HR3.out.on ((Below.refl _ _).alloc (Nat.le_refl _) _)) HRB.out HRG.out)
          have HS5 := Lib.hid (HZ5.out.2.2.2.2.1 _ _ (HS3.out.on ((Below.refl _ _).alloc (Nat.le_refl _) _)) HSB.out HSG.out)
          have HXP5 := Lib.hid (HZ5.out.2.2.2.2.2.1 _ _ _ (HXP3.out.on ((Below.refl _ _).alloc (Nat.le_refl _) _)) HXPB.out HXPG.out)
          have HOP5 := Lib.hid (HZ5.out.2.2.2.2.2.2 _ _ _ (HOP3.out.on ((Below.refl _ _).alloc (Nat.le_refl _) _)) HOPB.out)
          have hz5 : bulk (m ++ [t6]) ≤ 1100 * (k + 1) := by rw [bulk_append, bulk_one]; omega
          clear HZ5
          go_wp2_with fail
          go_roundw
          case rel => exact ⟨k + 1, _, _, _, _, by omega, by go_num, hz5, HR5, HS5, HXP5, HOP5, HX5, HO5, HC5, HK5⟩
          case measure => simp [intOf]; omega
        | false =>
          cases hq3 : ((nth mp k).toList == [63, 121]) with
          | true =>
            have HLM := Lib.hid (show (m.length + 1) * 16 ≤ 140737488355328 by have := Row.bulk_len m; omega)
            have HLX := Lib.hid (show m.length + 1 ≤ maxLen by have := Row.bulk_len m; unfold maxLen; omega)
            have hal : Below wr.heap.size wr (wr.alloc (.cells #[.string (t6)] 9)) := (Below.refl _ _).alloc (Nat.le_refl _) _
            have HO3A := Lib.hid (HO.out.on hal); have HX3A := Lib.hid (HX.out.on hal); have HC3 := HC; have HK3 := HK
            have HR3 := HR
            have HS3 := HS
            have HXP3 := HXP
            have HOP3 := HOP
            have hB3 : gp + 1 + 1 ≤ (wr.alloc (.cells #[.string (t6)] 9)).heap.size := by have := HBB.out; have := HK.out.size; simp; omega
            clear hal
            have hxc := HX3A.out.cell
            go_wp2_with (at_builtin; refine Row.wpList_app (enc := Value.string) (B := gp + 1 + 1) (l := m) (m := [t6]) rfl _ _ rfl Try.underlying24 elemSTR rfl rfl rfl HO3A.out (Row.holds_one Value.string 9 wr _) oneStr HLM.out HLX.out hB3 ?_)
            intro v4 w4 ho4 hg4
            obtain ⟨x4, n4, c4, rfl, hn4, hcc4, ho4⟩ := ho4.shapeN
            have HO4 := Lib.hid ho4; have HG4 := Lib.hid hg4; have HN4 := Lib.hid hn4
            have HX4 := Lib.hid (HX3A.out.grown hg4 (Row.Own.notBox HO3A.out HX3A.out (by decide)))
            have hx4 := HX4.out.cell
            have hx5 := HX4.out.frozen
            clear ho4 hg4 hn4 hxc
            have HZ5 := Lib.hid (storeP HSZ.out HWB.out HGW.out HGP.out HPB.out (by decide) HO3A.out (HC3.out.on ((Below.refl _ _).alloc (Nat.le_refl _) _)) (HK3.out.trans (keep_alloc p wr _)) HG4.out HO4.out HX4.out)
            have HO5 := Lib.hid HZ5.out.1; have HC5 := Lib.hid HZ5.out.2.1; have HK5 := Lib.hid HZ5.out.2.2.1; have HX5 := Lib.hid HZ5.out.2.2.2.1
            have HR5 := Lib.hid (HZ5.out.2.2.2.2.1 _ _ (HR3.out.on ((Below.refl _ _).alloc (Nat.le_refl _) _)) HRB.out HRG.out)
            have HS5 := Lib.hid (HZ5.out.2.2.2.2.1 _ _ (HS3.out.on ((Below.refl _ _).alloc (Nat.le_refl _) _)) HSB.out HSG.out)
            have HXP5 := Lib.hid (HZ5.out.2.2.2.2.2.1 _ _ _ (HXP3.out.on ((Below.refl _ _).alloc (Nat.le_refl _) _)) HXPB.out HXPG.out)
            have HOP5 := Lib.hid (HZ5.out.2.2.2.2.2.2 _ _ _ (HOP3.out.on ((Below.refl _ _).alloc (Nat.le_refl _) _)) HOPB.out)
            have hz5 : bulk (m ++ [t6]) ≤ 1100 * (k + 1) := by rw [bulk_append, bulk_one]; omega
            clear HZ5
            go_wp2_with fail
            go_roundw
            case rel => exact ⟨k + 1, _, _, _, _, by omega, by go_num, hz5, HR5, HS5, HXP5, HOP5, HX5, HO5, HC5, HK5⟩
            case measure => simp [intOf]; omega
          | false =>
            cases hq4 : ((nth mp k).toList == [42]) with
            | false =>
              have HLM := Lib.hid (show (m.length + 1) * 16 ≤ 140737488355328 by have := Row.bulk_len m; omega)
              have HLX := Lib.hid (show m.length + 1 ≤ maxLen by have := Row.bulk_len m; unfold maxLen; omega)
              have hal : Below wr.heap.size wr (wr.alloc (.cells #[.string (nth mp k)] 9)) := (Below.refl _ _).alloc (Nat.le_refl _) _
              have HO3A := Lib.hid (HO.out.on hal); have HX3A := Lib.hid (HX.out.on hal); have HC3 := HC; have HK3 := HK
              have HR3 := HR
              have HS3 := HS
              have HXP3 := HXP
              have HOP3 := HOP
              have hB3 : gp + 1 + 1 ≤ (wr.alloc (.cells #[.string (nth mp k)] 9)).heap.size := by have := HBB.out; have := HK.out.size; simp; omega
              clear hal
              have hxc := HX3A.out.cell
              go_wp2_with (at_builtin; refine Row.wpList_app (enc := Value.string) (B := gp + 1 + 1) (l := m) (m := [nth mp k]) rfl _ _ rfl Try.underlying24 elemSTR rfl rfl rfl HO3A.out (Row.holds_one Value.string 9 wr _) oneStr HLM.out HLX.out hB3 ?_)
              intro v4 w4 ho4 hg4
              obtain ⟨x4, n4, c4, rfl, hn4, hcc4, ho4⟩ := ho4.shapeN
              have HO4 := Lib.hid ho4; have HG4 := Lib.hid hg4; have HN4 := Lib.hid hn4
              have HX4 := Lib.hid (HX3A.out.grown hg4 (Row.Own.notBox HO3A.out HX3A.out (by decide)))
              have hx4 := HX4.out.cell
              have hx5 := HX4.out.frozen
              clear ho4 hg4 hn4 hxc
              have HZ5 := Lib.hid (storeP HSZ.out HWB.out HGW.out HGP.out HPB.out (by decide) HO3A.out (HC3.out.on ((Below.refl _ _).alloc (Nat.le_refl _) _)) (HK3.out.trans (keep_alloc p wr _)) HG4.out HO4.out HX4.out)
              have HO5 := Lib.hid HZ5.out.1; have HC5 := Lib.hid HZ5.out.2.1; have HK5 := Lib.hid HZ5.out.2.2.1; have HX5 := Lib.hid HZ5.out.2.2.2.1
              have HR5 := Lib.hid (HZ5.out.2.2.2.2.1 _ _ (HR3.out.on ((Below.refl _ _).alloc (Nat.le_refl _) _)) HRB.out HRG.out)
              have HS5 := Lib.hid (HZ5.out.2.2.2.2.1 _ _ (HS3.out.on ((Below.refl _ _).alloc (Nat.le_refl _) _)) HSB.out HSG.out)
              have HXP5 := Lib.hid (HZ5.out.2.2.2.2.2.1 _ _ _ (HXP3.out.on ((Below.refl _ _).alloc (Nat.le_refl _) _)) HXPB.out HXPG.out)
              have HOP5 := Lib.hid (HZ5.out.2.2.2.2.2.2 _ _ _ (HOP3.out.on ((Below.refl _ _).alloc (Nat.le_refl _) _)) HOPB.out)
              have hz5 : bulk (m ++ [nth mp k]) ≤ 1100 * (k + 1) := by rw [bulk_append, bulk_one]; omega
              clear HZ5
              go_wp2_with fail
              go_roundw
              case rel => exact ⟨k + 1, _, _, _, _, by omega, by go_num, hz5, HR5, HS5, HXP5, HOP5, HX5, HO5, HC5, HK5⟩
              case measure => simp [intOf]; omega
            | true =>
              have HLM := Lib.hid (show (m.length + 1) * 16 ≤ 140737488355328 by have := Row.bulk_len m; omega)
              have HLX := Lib.hid (show m.length + 1 ≤ maxLen by have := Row.bulk_len m; unfold maxLen; omega)
              have hal : Below wr.heap.size wr (wr.alloc (.cells #[.string { data := #[97] }, .string { data := #[98] }, .string { data := #[49] }] 9)).drew := ((Below.refl _ _).alloc (Nat.le_refl _) _).drew
              have HCA := Lib.hid (HC.out.on hal); have HKA := Lib.hid (HK.out.trans (Keep.of_below (p := p) hal)); have HXA := Lib.hid (HX.out.on hal); have HOA := Lib.hid (HO.out.on hal)
              have HRA := Lib.hid (HR.out.on hal)
              have HSA := Lib.hid (HS.out.on hal)
              have HXPA := Lib.hid (HXP.out.on hal)
              have HOPA := Lib.hid (HOP.out.on hal)
              have hxA : (wr.alloc (.cells #[.string { data := #[97] }, .string { data := #[98] }, .string { data := #[49] }] 9)).cell? ⟨gp + 1, 0, none⟩ = some (.slice x n c) := HXA.out.cell
              have hpr := HC.out.lt
              clear hal
              go_wp2_with fail
              go_region_law (first | (refine step_app (enc := Value.string) (B := gp + 1 + 1) (l := m) (m := [t3]) rfl _ _ (by rfl) Try.underlying24 elemSTR rfl (by rfl) (by rfl) HO3A.out (Row.holds_one Value.string 9 w3 t3) oneStr HLM.out HLX.out hB3 ?_; intro v4 w4 ho4 hg4; obtain ⟨x4, n4, c4, rfl, hn4, hcc4, ho4⟩ := ho4.shapeN; have HO4 := Lib.hid ho4; have HG4 := Lib.hid hg4; have HN4 := Lib.hid hn4; have HX4 := Lib.hid (HX3A.out.grown hg4 (Row.Own.notBox HO3A.out HX3A.out (by decide))); have hx4 := HX4.out.cell; have hx5 := HX4.out.frozen; clear ho4 hg4 hn4) | (go_simp; go_at_call 60; refine (strAt w0 p v l (wr.alloc (.cells #[.string { data := #[97] }, .string { data := #[98] }, .string { data := #[49] }] 9)).drew HCA.out wr.heap.size (by omega) [{ data := #[97] }, { data := #[98] }, { data := #[49] }] 3 rfl (by decide) (by decide) 20 (by decide) (fun j h => lits_at rfl rfl j h)).mono ?_; rintro e w3 ⟨y3, rfl, ⟨t3, rfl, ht3⟩, hc3, hk3⟩; have HC3 := Lib.hid hc3; have HK3 := Lib.hid (HKA.out.trans hk3); have HX3 := Lib.hid (box_keep HXA.out hk3 HGP.out); have HO3 := Lib.hid (rown_keep HOA.out hk3 HPB.out); have HR3 := Lib.hid (NC.keep HRA.out hk3 HRP.out); have HS3 := Lib.hid (NC.keep HSA.out hk3 HSP.out); have HXP3 := Lib.hid (box_keep HXPA.out hk3 HXPP.out); have HOP3 := Lib.hid (rown_keep HOPA.out hk3 HOPP.out); have HO3A := Lib.hid (HO3.out.on ((Below.refl _ _).alloc (Nat.le_refl _) (.cells #[.string t3] 9))); have HX3A := Lib.hid (HX3.out.on ((Below.refl _ _).alloc (Nat.le_refl _) (.cells #[.string t3] 9))); have hxc3 := HX3.out.cell; have hxa3 := HX3A.out.cell; have hB3 : gp + 1 + 1 ≤ (w3.alloc (.cells #[.string t3] 9)).heap.size := (by have := HBB.out; have := HX3.out.lt; simp; omega); clear hc3 hk3))
              all_goals
                have HZ5 := Lib.hid (storeP HSZ.out HWB.out HGW.out HGP.out HPB.out (by decide) HO3A.out (HC3.out.on ((Below.refl _ _).alloc (Nat.le_refl _) _)) (HK3.out.trans (keep_alloc p w3 _)) HG4.out HO4.out HX4.out)
                have HO5 := Lib.hid HZ5.out.1; have HC5 := Lib.hid HZ5.out.2.1; have HK5 := Lib.hid HZ5.out.2.2.1; have HX5 := Lib.hid HZ5.out.2.2.2.1
                have HR5 := Lib.hid (HZ5.out.2.2.2.2.1 _ _ (HR3.out.on ((Below.refl _ _).alloc (Nat.le_refl _) _)) HRB.out HRG.out)
                have HS5 := Lib.hid (HZ5.out.2.2.2.2.1 _ _ (HS3.out.on ((Below.refl _ _).alloc (Nat.le_refl _) _)) HSB.out HSG.out)
                have HXP5 := Lib.hid (HZ5.out.2.2.2.2.2.1 _ _ _ (HXP3.out.on ((Below.refl _ _).alloc (Nat.le_refl _) _)) HXPB.out HXPG.out)
                have HOP5 := Lib.hid (HZ5.out.2.2.2.2.2.2 _ _ _ (HOP3.out.on ((Below.refl _ _).alloc (Nat.le_refl _) _)) HOPB.out)
                clear hx1 hx2 hxA hxc3 hxa3 hx4 hx5
                have hz5 : bulk (m ++ [t3]) ≤ 1100 * (k + 1) := by rw [bulk_append, bulk_one]; omega
                clear HZ5
                go_wp2_with fail
                go_roundw
                case rel => exact ⟨k + 1, _, _, _, _, by omega, by go_num, hz5, HR5, HS5, HXP5, HOP5, HX5, HO5, HC5, HK5⟩
                case measure => simp [intOf]; omega
    · obtain rfl : k = np := by omega
      have HD := Lib.hid (once w0 p v l wr 3 HC.out)
      clear hlt
      have hgz : w.heap.size + 1 < gp := by omega
      go_wp2_with fail
      refine HD.out.mono ?_
      rintro e w3 ⟨y, rfl, ⟨b, rfl⟩, hc3, hk3⟩
      have HRE := Lib.hid (NC.keep HR.out hk3 HRP.out); have HSE := Lib.hid (NC.keep HS.out hk3 HSP.out); have HXPE := Lib.hid (box_keep HXP.out hk3 HXPP.out); have HXE := Lib.hid (box_keep HX.out hk3 HGP.out); have HOPE := Lib.hid (rown_keep HOP.out hk3 HOPP.out); have HOE := Lib.hid (rown_keep HO.out hk3 HPB.out); have HCE := Lib.hid hc3; have HKE := Lib.hid (HK.out.trans hk3)
      have hdr : Below w3.heap.size w3 w3.drew := (Below.refl _ _).drew
      have HRD := Lib.hid ((NC.keep HR.out hk3 HRP.out).on hdr); have HSD := Lib.hid ((NC.keep HS.out hk3 HSP.out).on hdr)
      have HXPD := Lib.hid ((box_keep HXP.out hk3 HXPP.out).on hdr); have HXD := Lib.hid ((box_keep HX.out hk3 HGP.out).on hdr)
      have HOPD := Lib.hid ((rown_keep HOP.out hk3 HOPP.out).on hdr); have HOD := Lib.hid ((rown_keep HO.out hk3 HPB.out).on hdr)
      have HCD := Lib.hid (hc3.on hdr); have HKD := Lib.hid ((HK.out.trans hk3).trans (Keep.of_below (p := p) hdr))
      clear hdr hc3 hk3 HD hxp HR HS HXP HX HOP HO HC HK
      have hgp3 := HXPD.out.lt
      cases b
      · have hl1 := HXPE.out.cell
        have hl2 := HXE.out.cell
        obtain ⟨hr5, hf5⟩ := HRE.out
        obtain ⟨hs5, hg5⟩ := HSE.out
        have hdw : ∀ w' : World, Below w'.heap.size w' w'.drew := fun w' => (Below.refl _ _).drew
        have HDW := Lib.hid hdw
        have HQ := Lib.hid (endPair HSZ.out HRP.out HSP.out HRE.out HSE.out HOPE.out (HOE.out.mono (by omega)) HCE.out HKE.out)
        clear hdw
        go_wp2_with fail
        go_region
        all_goals
          clear hl1 hl2
          go_wp2_with fail
          refine bodyPost_ret (Ret.results_cc rfl _ _ w.heap.size (w.heap.size + 1) [_] [_] rfl rfl Row.aggPt Row.aggN (Ret.one (show _ = _ from HQ.out.1)) (Ret.one (show _ = _ from HQ.out.2.1))) rfl ?_
          exact ⟨_, rfl, ⟨_, mp, _, m, rfl, HQ.out.2.2.1.on (HDW.out _), HMP.out, HQ.out.2.2.2.1.on (HDW.out _), by omega⟩, HQ.out.2.2.2.2.1.on (HDW.out _), HQ.out.2.2.2.2.2.trans (Keep.of_below (HDW.out _))⟩
      · have KS := Lib.hid (show w3.drew.cell? ⟨gp, 0, none⟩ = some (.slice xp k cp) from HXPD.out.cell)
        go_wp2_with fail
        go_region_held3 (fun w' => w'.cell? ⟨gp, 0, none⟩ = some (.slice xp k cp)) (first | exact KS.out | exact hxc5 | exact hxs1 | exact hxs2 | exact hxs3 | exact hxs4) ((go_at_call 77; refine (l4Any w0 p v l w3.drew HCD.out).mono ?_; rintro e w5 ⟨y, rfl, ⟨u5, m5, rfl, ho5, hm5⟩, hc5, hk5⟩; obtain ⟨x5, n5, c5, rfl, -, -, ho5⟩ := ho5.shapeN; have HR5 := Lib.hid (NC.keep HRD.out hk5 HRP.out); have HS5 := Lib.hid (NC.keep HSD.out hk5 HSP.out); have HX5 := Lib.hid (box_keep HXPD.out hk5 HXPP.out); have hxc5 := HX5.out.cell; obtain ⟨hr5, hf5⟩ := HR5.out; obtain ⟨hs5, hg5⟩ := HS5.out; have HO5 := Lib.hid (rown_keep HOPD.out hk5 HOPP.out); have HP5 := Lib.hid (ho5.mono (B' := w.heap.size + 1 + 1) (show w.heap.size + 1 + 1 ≤ w3.drew.heap.size by omega)); have HC5 := Lib.hid hc5; have HK5 := Lib.hid (HKD.out.trans hk5); have hxs1 : ((w5.setCell ⟨w.heap.size, 0, none⟩ (.slice xp k cp))).cell? ⟨gp, 0, none⟩ = some (.slice xp k cp) := (HX5.out.grown (Ret.grownBy_set _ ⟨w.heap.size, 0, none⟩ (.slice xp k cp)) (fun e => by have h9 : gp = w.heap.size := (Option.some.inj e); omega)).cell; have hxs2 : (((w5.setCell ⟨w.heap.size, 0, none⟩ (.slice xp k cp)).setCell ⟨w.heap.size + 1, 0, none⟩ (.slice x5 n5 c5))).cell? ⟨gp, 0, none⟩ = some (.slice xp k cp) := ((HX5.out.grown (Ret.grownBy_set _ ⟨w.heap.size, 0, none⟩ (.slice xp k cp)) (fun e => by have h9 : gp = w.heap.size := (Option.some.inj e); omega)).grown (Ret.grownBy_set _ ⟨w.heap.size + 1, 0, none⟩ (.slice x5 n5 c5)) (fun e => by have h9 : gp = w.heap.size + 1 := (Option.some.inj e); omega)).cell; have hxs3 : ((w5.setCell ⟨w.heap.size + 1, 0, none⟩ (.slice x5 n5 c5))).cell? ⟨gp, 0, none⟩ = some (.slice xp k cp) := (HX5.out.grown (Ret.grownBy_set _ ⟨w.heap.size + 1, 0, none⟩ (.slice x5 n5 c5)) (fun e => by have h9 : gp = w.heap.size + 1 := (Option.some.inj e); omega)).cell; have hxs4 : (((w5.setCell ⟨w.heap.size + 1, 0, none⟩ (.slice x5 n5 c5)).setCell ⟨w.heap.size, 0, none⟩ (.slice xp k cp))).cell? ⟨gp, 0, none⟩ = some (.slice xp k cp) := ((HX5.out.grown (Ret.grownBy_set _ ⟨w.heap.size + 1, 0, none⟩ (.slice x5 n5 c5)) (fun e => by have h9 : gp = w.heap.size + 1 := (Option.some.inj e); omega)).grown (Ret.grownBy_set _ ⟨w.heap.size, 0, none⟩ (.slice xp k cp)) (fun e => by have h9 : gp = w.heap.size := (Option.some.inj e); omega)).cell; clear hc5 hk5 ho5))
        have HQ := Lib.hid (endPair HSZ.out HRP.out HSP.out HR5.out HS5.out HO5.out HP5.out HC5.out HK5.out)
        clear hxc5 hxs1 hxs2 hxs3 hxs4
        go_wp2_with fail
        refine bodyPost_ret (Ret.results_cc rfl _ _ w.heap.size (w.heap.size + 1) [_] [_] rfl rfl Row.aggPt Row.aggN (Ret.one HQ.out.1) (Ret.one HQ.out.2.1)) rfl ?_
        exact ⟨_, rfl, ⟨_, mp, _, m5, rfl, HQ.out.2.2.1, HMP.out, HQ.out.2.2.2.1, by omega⟩, HQ.out.2.2.2.2.1, HQ.out.2.2.2.2.2⟩
end Go.Proofs.Ytoibmgnmnmeklaa.Draw
