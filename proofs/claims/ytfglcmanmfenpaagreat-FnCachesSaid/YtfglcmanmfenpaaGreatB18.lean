/- Contracts and mathematics, joined: CacheV. No conditions but those that each states. -/
import Derived.WalkKit
import Derived.Deep.RegionHeld3
import Derived.Test.YtfglcmanmfenpaaGreatB14
/- The program's CacheData. No conditions but that lengths fit. -/
namespace Go.Proofs.YtfglcmanmfenpaaGreat.Row
open Go.ChangeShapes Go.WideShapes Go.ChangeAt Go.RowKit Go.Instr
set_option linter.unusedVariables false
set_option maxRecDepth 100000
set_option maxHeartbeats 8000000 in
theorem implCacheData (V U : Value) (x : Cnt) (d : Dzt) (now : Int) (w : World) (h : kCn.At w V x) (g : kDz.At w U d) (hp : FitC x) (hd : wtDz d ≤ 1200000) :
    Calls Tryz.prog 6 #[V, U, .int .i64 now] w fun e w' => ∃ U, e = .returned U ∧ kCn.In w.heap.size w'.heap.size w' U (cacheC x d now) ∧ Below w.heap.size w w' := by
  obtain ⟨ya, ma, da, yb, mb, db, yc, mc, dc_, rfl, g⟩ := kDz_shapeA g
  have hgn : kN.At w (.agg #[.slice ya ma da]) d.1 := by
    obtain ⟨a0, a1, a2, b0, b1, b2, d0, d1, d2, e, g0, -, -⟩ := kDz_at g
    simp only [Value.agg.injEq, Array.mk.injEq, List.cons.injEq, Value.slice.injEq, and_true] at e
    obtain ⟨⟨rfl, rfl, rfl⟩, -⟩ := e
    exact g0
  obtain ⟨x1_0, n1_0, c1_0, rfl, g1⟩ := kCn_at h
  clear h
  obtain ⟨cc, l⟩ := x
  have hfit := hp
  obtain ⟨hl, hp7⟩ := hp.fields
  clear hp
  have hp := hp7
  clear hp7
  dsimp only at g1 hl hp ⊢
  have b0 := (Below.refl w.heap.size w).alloc (Nat.le_refl _) (.cells #[.int .i64 cc, .slice x1_0 n1_0 c1_0] 26)
  have b1 := (Below.refl (w.alloc (.cells #[.int .i64 cc, .slice x1_0 n1_0 c1_0] 26)).heap.size (w.alloc (.cells #[.int .i64 cc, .slice x1_0 n1_0 c1_0] 26))).alloc (Nat.le_refl _) (.cells #[.slice ya ma da, .slice yb mb db, .slice yc mc dc_, .int .i64 d.2.2.2.1, .int .i64 d.2.2.2.2] 31)
  have b2 := (Below.refl ((w.alloc (.cells #[.int .i64 cc, .slice x1_0 n1_0 c1_0] 26)).alloc (.cells #[.slice ya ma da, .slice yb mb db, .slice yc mc dc_, .int .i64 d.2.2.2.1, .int .i64 d.2.2.2.2] 31)).heap.size ((w.alloc (.cells #[.int .i64 cc, .slice x1_0 n1_0 c1_0] 26)).alloc (.cells #[.slice ya ma da, .slice yb mb db, .slice yc mc dc_, .int .i64 d.2.2.2.1, .int .i64 d.2.2.2.2] 31))).alloc (Nat.le_refl _) (.cells #[.int .i64 0, .slice none 0 0] 26)
  have b012 := (b0.trans (b1.mono b0.size)).trans (b2.mono (Nat.le_trans b0.size b1.size))
  have hX0 := ((Ret.Blk.new w #[.int .i64 cc, .slice x1_0 n1_0 c1_0] 26).on b1).on b2
  have hX1 := (Ret.Blk.new' (w := (w.alloc (.cells #[.int .i64 cc, .slice x1_0 n1_0 c1_0] 26))) (n := w.heap.size + 1) #[.slice ya ma da, .slice yb mb db, .slice yc mc dc_, .int .i64 d.2.2.2.1, .int .i64 d.2.2.2.2] 31 (by simp)).on b2
  have hX2 := Ret.Blk.new' (w := ((w.alloc (.cells #[.int .i64 cc, .slice x1_0 n1_0 c1_0] 26)).alloc (.cells #[.slice ya ma da, .slice yb mb db, .slice yc mc dc_, .int .i64 d.2.2.2.1, .int .i64 d.2.2.2.2] 31))) (n := w.heap.size + 1 + 1) #[.int .i64 0, .slice none 0 0] 26 (by simp)
  have hS3 : (((w.alloc (.cells #[.int .i64 cc, .slice x1_0 n1_0 c1_0] 26)).alloc (.cells #[.slice ya ma da, .slice yb mb db, .slice yc mc dc_, .int .i64 d.2.2.2.1, .int .i64 d.2.2.2.2] 31)).alloc (.cells #[.int .i64 0, .slice none 0 0] 26)).heap.size = w.heap.size + 3 := by simp
  have HA := Lib.hid (cn_of (cc := cc) (g1.on b012)); have HG := Lib.hid g; have HGN := Lib.hid hgn; have HDB := Lib.hid hd
  have q0 : (((w.alloc (.cells #[.int .i64 cc, .slice x1_0 n1_0 c1_0] 26)).alloc (.cells #[.slice ya ma da, .slice yb mb db, .slice yc mc dc_, .int .i64 d.2.2.2.1, .int .i64 d.2.2.2.2] 31)).alloc (.cells #[.int .i64 0, .slice none 0 0] 26)).cell? ⟨w.heap.size, 0, none⟩ = some (.int .i64 cc) := hX0.cell 0
  have q1 : (((w.alloc (.cells #[.int .i64 cc, .slice x1_0 n1_0 c1_0] 26)).alloc (.cells #[.slice ya ma da, .slice yb mb db, .slice yc mc dc_, .int .i64 d.2.2.2.1, .int .i64 d.2.2.2.2] 31)).alloc (.cells #[.int .i64 0, .slice none 0 0] 26)).cell? ⟨w.heap.size, 1, none⟩ = some (.slice x1_0 n1_0 c1_0) := hX0.cell 1
  obtain ⟨T, hT⟩ : ∃ T, cacheC (cc, l) d now = T := ⟨_, rfl⟩
  rw [hT]
  have HTT := Lib.hid hT; clear hT
  go_enter Tryz.func6, Tryz.ntmps6
  go_wp2_with fail
  refine (implCloneStore _ (cc, l) _ HA.out hfit).mono ?_
  rintro e w1 ⟨U, rfl, hi, hb1⟩
  obtain ⟨m, rfl, hs, hi⟩ := hi.split
  obtain ⟨ce, r⟩ := m
  obtain ⟨xu, nu, cu, Lu⟩ := r
  obtain ⟨rfl, hsl⟩ : ce = cc ∧ Lu.map kCe.strip = l := by
    have e1 : (ce, Lu.map kCe.strip) = (cc, l) := hs
    injection e1 with e1 e2
    exact ⟨e1, e2⟩
  obtain ⟨-, hi2, -⟩ := Kd.Own.parts hi
  rw [hS3] at hi2
  rw [show kCn.val ((ce, (⟨xu, nu, cu, Lu⟩ : Rw Cem)) : Cnm) = .agg #[.int .i64 ce, .slice xu nu cu] from rfl]
  have hal := (Below.refl w1.heap.size w1).alloc (Nat.le_refl _) (.cells #[.int .i64 ce, .slice xu nu cu] 60)
  have HG1 := Lib.hid (show w.heap.size + 3 ≤ w1.heap.size by rw [← hS3]; exact hb1.size)
  have HX0 := Lib.hid ((hX0.on hb1).on hal); have HX1 := Lib.hid ((hX1.on hb1).on hal); have HX2 := Lib.hid ((hX2.on hb1).on hal)
  have HXD := Lib.hid (Ret.Blk.new w1 #[.int .i64 ce, .slice xu nu cu] 60)
  have HO := Lib.hid (hi2.upto hal); have HSL := Lib.hid hsl
  have HB := Lib.hid (b012.trans ((hb1.trans (hal.mono hb1.size)).mono b012.size))
  have HLU := Lib.hid (show Lu.length ≤ 1100000 by have h9 := hl; rw [← hsl, List.length_map] at h9; exact h9)
  have HPU := Lib.hid (show ∀ x ∈ Lu.map kCe.strip, wtCe x ≤ 1200000 by rw [hsl]; exact hp)
  clear hi hi2 hs hsl hb1 hal hX0 hX1 hX2 b0 b1 b2 b012 g1 g hgn hd HA hfit hl hp hS3 q0 q1
  by_cases hc1 : ce < 1
  · have hc2 : ¬ (1 : Int) ≤ ce := by omega
    have HRES : Hid (T = (ce, l)) := Lib.hid (by rw [← HTT.out]; unfold cacheC; exact if_pos hc1)
    have p0 : (w1.alloc (.cells #[.int .i64 ce, .slice xu nu cu] 60)).cell? ⟨w1.heap.size, 0, none⟩ = some (.int .i64 ce) := HXD.out.cell 0
    have p1 : (w1.alloc (.cells #[.int .i64 ce, .slice xu nu cu] 60)).cell? ⟨w1.heap.size, 1, none⟩ = some (.slice xu nu cu) := HXD.out.cell 1
    have r0 := HX2.out.frozen 0; have r1 := HX2.out.frozen 1; have r2 := HX2.out.cell 0; have r3 := HX2.out.cell 1
    have Z := Lib.hid ((HX2.out.set 0 (.int .i64 ce)).set 1 (.slice xu nu cu))
    have ZO := Lib.hid (own_setS (i := 1) (u := .slice xu nu cu) (own_setS (i := 0) (u := .int .i64 ce) HO.out (g := w.heap.size + 1 + 1) (by omega)) (g := w.heap.size + 1 + 1) (by omega))
    have ZB := Lib.hid ((HB.out.setCell (p := ⟨w.heap.size + 1 + 1, 0, none⟩) (by show w.heap.size ≤ w.heap.size + 1 + 1; omega) (.int .i64 ce)).setCell (p := ⟨w.heap.size + 1 + 1, 1, none⟩) (by show w.heap.size ≤ w.heap.size + 1 + 1; omega) (.slice xu nu cu))
    go_wp2_with fail
    refine bodyPost_ret (Ret.results_c rfl _ _ (w.heap.size + 1 + 1) [.int .i64 ce, .slice xu nu cu] rfl aggCn Z.out.cells) rfl ?_
    rw [HRES.out]
    exact ⟨_, rfl, cn_in ZO.out (by omega) HSL.out ZB.out.size, ZB.out⟩
  · have hc2 : (1 : Int) ≤ ce := by omega
    obtain ⟨v, hv⟩ : ∃ v, validD d = v := ⟨_, rfl⟩
    have HV := Lib.hid hv; clear hv
    have k0 : (w1.alloc (.cells #[.int .i64 ce, .slice xu nu cu] 60)).cell? ⟨w1.heap.size, 0, none⟩ = some (.int .i64 ce) := HXD.out.cell 0
    have e0 : (w1.alloc (.cells #[.int .i64 ce, .slice xu nu cu] 60)).cell? ⟨w.heap.size + 1, 0, none⟩ = some (.slice ya ma da) := HX1.out.cell 0
    have e1 : (w1.alloc (.cells #[.int .i64 ce, .slice xu nu cu] 60)).cell? ⟨w.heap.size + 1, 1, none⟩ = some (.slice yb mb db) := HX1.out.cell 1
    have e2 : (w1.alloc (.cells #[.int .i64 ce, .slice xu nu cu] 60)).cell? ⟨w.heap.size + 1, 2, none⟩ = some (.slice yc mc dc_) := HX1.out.cell 2
    have e3 : (w1.alloc (.cells #[.int .i64 ce, .slice xu nu cu] 60)).cell? ⟨w.heap.size + 1, 3, none⟩ = some (.int .i64 d.2.2.2.1) := HX1.out.cell 3
    have e4 : (w1.alloc (.cells #[.int .i64 ce, .slice xu nu cu] 60)).cell? ⟨w.heap.size + 1, 4, none⟩ = some (.int .i64 d.2.2.2.2) := HX1.out.cell 4
    go_wp2_with fail
    refine (iValZ v HV.out (HG.out.on HB.out) (Nat.le_trans HDB.out (by decide))).mono ?_
    rintro e w2 ⟨rfl, hb2⟩
    have HG2 := Lib.hid (Nat.le_trans HG1.out (Nat.le_trans (by simp) hb2.size) : w.heap.size + 3 ≤ w2.heap.size)
    replace HX1 := Lib.hid (HX1.out.on hb2); replace HX2 := Lib.hid (HX2.out.on hb2); replace HXD := Lib.hid (HXD.out.on hb2); replace HO := Lib.hid (HO.out.upto hb2); replace HB := Lib.hid (HB.out.trans (hb2.mono HB.out.size))
    clear hb2 k0 e0 e1 e2 e3 e4 HX0
    cases v with
    | false =>
      have HRES : Hid (T = (ce, l)) := Lib.hid (by rw [← HTT.out]; unfold cacheC; dsimp only; rw [if_neg (show ¬ ce < 1 by omega), HV.out]; rfl)
      have p0 : w2.cell? ⟨w1.heap.size, 0, none⟩ = some (.int .i64 ce) := HXD.out.cell 0
      have p1 : w2.cell? ⟨w1.heap.size, 1, none⟩ = some (.slice xu nu cu) := HXD.out.cell 1
      have r0 := HX2.out.frozen 0; have r1 := HX2.out.frozen 1; have r2 := HX2.out.cell 0; have r3 := HX2.out.cell 1
      have Z := Lib.hid ((HX2.out.set 0 (.int .i64 ce)).set 1 (.slice xu nu cu))
      have ZO := Lib.hid (own_setS (i := 1) (u := .slice xu nu cu) (own_setS (i := 0) (u := .int .i64 ce) HO.out (g := w.heap.size + 1 + 1) (by omega)) (g := w.heap.size + 1 + 1) (by omega))
      have ZB := Lib.hid ((HB.out.setCell (p := ⟨w.heap.size + 1 + 1, 0, none⟩) (by show w.heap.size ≤ w.heap.size + 1 + 1; omega) (.int .i64 ce)).setCell (p := ⟨w.heap.size + 1 + 1, 1, none⟩) (by show w.heap.size ≤ w.heap.size + 1 + 1; omega) (.slice xu nu cu))
      go_wp2_with fail
      refine bodyPost_ret (Ret.results_c rfl _ _ (w.heap.size + 1 + 1) [.int .i64 ce, .slice xu nu cu] rfl aggCn Z.out.cells) rfl ?_
      rw [HRES.out]
      exact ⟨_, rfl, cn_in ZO.out (by omega) HSL.out ZB.out.size, ZB.out⟩
    | true =>
      have HRES : Hid (T = (ce, roomE ce (rmE l d.1) ++ [(d, now)])) := Lib.hid (by rw [← HTT.out]; unfold cacheC; dsimp only; rw [if_neg (show ¬ ce < 1 by omega), HV.out]; rfl)
      have e0 : w2.cell? ⟨w.heap.size + 1, 0, none⟩ = some (.slice ya ma da) := HX1.out.cell 0
      go_wp2_with fail
      refine (iNamed ya ma da _).mono ?_
      rintro e w3 ⟨gN, rfl, hgN, hXN, hb3⟩
      replace HX1 := Lib.hid (HX1.out.on hb3); replace HX2 := Lib.hid (HX2.out.on hb3); replace HXD := Lib.hid (HXD.out.on hb3)
      have HORow := Lib.hid (fun g hg => (HO.out.1.1.lt g hg) : ∀ g, (Value.slice xu nu cu).ownBlock = some g → w.heap.size + 3 ≤ g ∧ g < w2.heap.size)
      replace HO := Lib.hid (HO.out.upto hb3); replace HB := Lib.hid (HB.out.trans (hb3.mono HB.out.size)); replace HG2 := Lib.hid (Nat.le_trans HG2.out hb3.size)
      have HCL : Hid (ClosR Tryz.prog kCe 72 #[.pointer (some ⟨gN, 0, none⟩)] (isE d.1) (fun x => wtCe x ≤ 1200000) w3 (Value.slice xu nu cu).ownBlock) := Lib.hid (closNd gN ya ma da d.1 w3 _ (fun er => by have := (HORow.out _ er.symm).2; omega) hXN (fun W hW => HGN.out.on (HB.out.grown hW HB.out.size (fun g hg => by have := (HORow.out g hg).1; omega))) (wtDz_lens d HDB.out).1)
      clear hb3 hXN hgN e0 HORow
      go_wp2_with fail
      refine (removeNd ⟨gN, 0, none⟩ (isE d.1) (fun x => wtCe x ≤ 1200000) (w.heap.size + 3) (w.heap.size + 3) w1.heap.size ce xu nu cu Lu _ HXD.out HO.out HLU.out HPU.out HCL.out (Nat.le_refl _) HG1.out HG2.out).mono ?_
      rintro e w4 ⟨rfl, ad', n', cap', L', hx4, ho4, hs4, hl4, hb4⟩
      have HXD4 := Lib.hid hx4; have HO4 := Lib.hid ho4; have HL4 := Lib.hid (Nat.le_trans hl4 HLU.out)
      have HS4 : Hid (L'.map kCe.strip = rmE l d.1) := Lib.hid (by rw [hs4, HSL.out]; rfl)
      replace HX1 := Lib.hid (blk_lowC HX1.out hb4 (by omega)); replace HX2 := Lib.hid (blk_lowC HX2.out hb4 (by omega))
      replace HB := Lib.hid (HB.out.trans (hb4.mono (Nat.le_add_right _ _))); replace HG2 := Lib.hid (Nat.le_trans HG2.out hb4.size)
      clear hx4 ho4 hs4 hl4 hb4 HXD HO HCL HLU HPU HSL
      have HF : Hid (Five w4 (w.heap.size + 1) 0 (.slice ya ma da) (.slice yb mb db) (.slice yc mc dc_) d.2.2.2.1 d.2.2.2.2) := Lib.hid ⟨HX1.out.cell 0, HX1.out.cell 1, HX1.out.cell 2, HX1.out.cell 3, HX1.out.cell 4⟩
      go_wp2_with fail
      refine (iClnZ (w.heap.size + 1) 0 _ _ _ d _ HF.out (HG.out.on HB.out) (Nat.le_trans HDB.out (by decide))).mono ?_
      rintro e w5 ⟨U, rfl, hi5, hb5⟩
      obtain ⟨m5, za, na, ea, zb, nb, eb, zc, nc, ec, rfl, hs5, hd5, ho5⟩ := kDz_split hi5
      replace HX2 := Lib.hid (HX2.out.on hb5); replace HXD4 := Lib.hid (HXD4.out.on hb5)
      have HM : Hid (kCe.Own (w.heap.size + 3) w5.heap.size w5 ((m5, now) : Cem)) := Lib.hid (kCe_own (ho5.mono HG2.out (Nat.le_refl _)) now (Nat.le_trans HG2.out hb5.size))
      have HDJ : Hid (∀ g ∈ kCe.blocks ((m5, now) : Cem), g ∉ L'.flatMap kCe.blocks) := Lib.hid (fun g hg hgm => by
        have h1 : g ∈ kDz.blocks m5 := by
          have h2 : g ∈ kDz.blocks m5 ++ kInt.blocks now := hg
          rcases List.mem_append.1 h2 with h2 | h2
          · exact h2
          · cases h2
        have h3 := (ho5.lt g h1).1
        have h4 := (HO4.out.lt g (List.mem_append_right _ hgm)).2.1
        omega)
      have HCS : Hid (kCe.cells ((m5, now) : Cem) = [.slice za na ea, .slice zb nb eb, .slice zc nc ec, .int .i64 d.2.2.2.1, .int .i64 d.2.2.2.2, .int .i64 now]) := Lib.hid (by show kDz.cells m5 ++ kInt.cells now = _; rw [hd5]; rfl)
      have HST : Hid (kCe.strip ((m5, now) : Cem) = (d, now)) := Lib.hid (Prod.ext hs5 rfl)
      replace HO4 := Lib.hid (HO4.out.upto hb5); replace HB := Lib.hid (HB.out.trans (hb5.mono HB.out.size)); replace HG2 := Lib.hid (Nat.le_trans HG2.out hb5.size)
      clear hi5 ho5 hs5 hd5 hb5 HF
      go_wp2_with fail
      refine (implAdd (w.heap.size + 3) (w.heap.size + 3) w1.heap.size ce ad' n' cap' L' (d, now) (m5, now) za na ea zb nb eb zc nc ec _ HXD4.out HO4.out HL4.out hc2 HST.out HCS.out HM.out HDJ.out (Nat.le_refl _) HG1.out HG2.out).mono ?_
      rintro e w6 ⟨rfl, ad6, n6, cap6, L6, hx6, ho6, hs6, hb6⟩
      have HXD6 := Lib.hid hx6; have HO6 := Lib.hid ho6
      have HS6 : Hid (L6.map kCe.strip = roomE ce (rmE l d.1) ++ [(d, now)]) := Lib.hid (by rw [hs6, HS4.out])
      have HX26 := Lib.hid (blk_lowC HX2.out hb6 (by omega)); have HB6 := Lib.hid (HB.out.trans (hb6.mono (Nat.le_add_right _ _)))
      clear hx6 ho6 hs6 hb6 HX2 HB
      have p0 : w6.cell? ⟨w1.heap.size, 0, none⟩ = some (.int .i64 ce) := HXD6.out.cell 0
      have p1 : w6.cell? ⟨w1.heap.size, 1, none⟩ = some (.slice ad6 n6 cap6) := HXD6.out.cell 1
      have r0 := HX26.out.frozen 0; have r1 := HX26.out.frozen 1; have r2 := HX26.out.cell 0; have r3 := HX26.out.cell 1
      have Z := Lib.hid ((HX26.out.set 0 (.int .i64 ce)).set 1 (.slice ad6 n6 cap6))
      have ZO := Lib.hid (own_setS (i := 1) (u := .slice ad6 n6 cap6) (own_setS (i := 0) (u := .int .i64 ce) HO6.out (g := w.heap.size + 1 + 1) (by omega)) (g := w.heap.size + 1 + 1) (by omega))
      have ZB := Lib.hid ((HB6.out.setCell (p := ⟨w.heap.size + 1 + 1, 0, none⟩) (by show w.heap.size ≤ w.heap.size + 1 + 1; omega) (.int .i64 ce)).setCell (p := ⟨w.heap.size + 1 + 1, 1, none⟩) (by show w.heap.size ≤ w.heap.size + 1 + 1; omega) (.slice ad6 n6 cap6))
      go_wp2_with fail
      refine bodyPost_ret (Ret.results_c rfl _ _ (w.heap.size + 1 + 1) [.int .i64 ce, .slice ad6 n6 cap6] rfl aggCn Z.out.cells) rfl ?_
      rw [HRES.out]
      exact ⟨_, rfl, cn_in ZO.out (by omega) HS6.out ZB.out.size, ZB.out⟩
end Go.Proofs.YtfglcmanmfenpaaGreat.Row
