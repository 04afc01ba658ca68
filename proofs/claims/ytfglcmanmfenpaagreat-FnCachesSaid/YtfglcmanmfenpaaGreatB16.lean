/- Contracts and mathematics, joined: CacheC, CacheW. No conditions but those that each states. -/
import Derived.WalkKit
import Derived.Deep.RegionHeld3
import Derived.Deep.RegionLaw
import Derived.Test.YtfglcmanmfenpaaGreatB9
import Derived.Test.YtfglcmanmfenpaaGreatB14
/- The model's copies of the content store: l12Copy, EvictStale. No conditions but that lengths fit. -/
namespace Go.Proofs.YtfglcmanmfenpaaGreat.Row
open Go.ChangeShapes Go.WideShapes Go.ChangeAt Go.RowKit Go.Instr
set_option linter.unusedVariables false
set_option maxRecDepth 100000
set_option maxHeartbeats 8000000 in
theorem l12Copy (V : Value) (x : Cnt) (w : World) (h : kCn.At w V x) (hp : FitC x) :
    Calls Tryz.prog 48 #[V] w fun e w' => ∃ U, e = .returned U ∧ kCn.In w.heap.size w'.heap.size w' U (x) ∧ Below w.heap.size w w' := by
  obtain ⟨x1_0, n1_0, c1_0, rfl, g1⟩ := kCn_at h
  clear h
  obtain ⟨cc, l⟩ := x
  obtain ⟨hl, hp⟩ := hp.fields
  dsimp only at g1 hl hp ⊢
  have b0 := (Below.refl w.heap.size w).alloc (Nat.le_refl _) (.cells #[.int .i64 cc, .slice x1_0 n1_0 c1_0] 26)
  have b1 := (Below.refl (w.alloc (.cells #[.int .i64 cc, .slice x1_0 n1_0 c1_0] 26)).heap.size (w.alloc (.cells #[.int .i64 cc, .slice x1_0 n1_0 c1_0] 26))).alloc (Nat.le_refl _) (.cells #[.int .i64 0, .slice none 0 0] 26)
  have b2 := (Below.refl ((w.alloc (.cells #[.int .i64 cc, .slice x1_0 n1_0 c1_0] 26)).alloc (.cells #[.int .i64 0, .slice none 0 0] 26)).heap.size ((w.alloc (.cells #[.int .i64 cc, .slice x1_0 n1_0 c1_0] 26)).alloc (.cells #[.int .i64 0, .slice none 0 0] 26))).alloc (Nat.le_refl _) (.cells #[.int .i64 cc, .slice none 0 0] 26)
  have b012 := (b0.trans (b1.mono b0.size)).trans (b2.mono (Nat.le_trans b0.size b1.size))
  have HX0 := Lib.hid (((Ret.Blk.new w #[.int .i64 cc, .slice x1_0 n1_0 c1_0] 26).on b1).on b2)
  have HX1 := Lib.hid ((Ret.Blk.new' (w := (w.alloc (.cells #[.int .i64 cc, .slice x1_0 n1_0 c1_0] 26))) (n := w.heap.size + 1) #[.int .i64 0, .slice none 0 0] 26 (by simp)).on b2)
  have HX2 := Lib.hid (Ret.Blk.new' (w := ((w.alloc (.cells #[.int .i64 cc, .slice x1_0 n1_0 c1_0] 26)).alloc (.cells #[.int .i64 0, .slice none 0 0] 26))) (n := w.heap.size + 1 + 1) #[.int .i64 cc, .slice none 0 0] 26 (by simp))
  have hnil : kLCe.Own (w.heap.size + 1 + 1 + 1) (((w.alloc (.cells #[.int .i64 cc, .slice x1_0 n1_0 c1_0] 26)).alloc (.cells #[.int .i64 0, .slice none 0 0] 26)).alloc (.cells #[.int .i64 cc, .slice none 0 0] 26)).heap.size (((w.alloc (.cells #[.int .i64 cc, .slice x1_0 n1_0 c1_0] 26)).alloc (.cells #[.int .i64 0, .slice none 0 0] 26)).alloc (.cells #[.int .i64 cc, .slice none 0 0] 26)) ⟨none, 0, 0, []⟩ := le_nil _ _
  obtain ⟨x, n, cx, L, e9, hn, ht, hh, hel⟩ := kLCe_at g1
  cases e9
  have hlen : l.length = n1_0 := by rw [← ht, List.length_map]; exact hn.symm
  rw [hlen] at hl
  have hcap : n1_0 ≤ c1_0 := by obtain ⟨x', n', cap', hv, hn', hc', -⟩ := hh.shapeN; cases hv; exact hc'
  have HN := Lib.hid hn; have HT := Lib.hid ht; have HH := Lib.hid hh; have HEL := Lib.hid hel; have HLEN := Lib.hid hlen; have HP := Lib.hid hp; have HNIL := Lib.hid hnil; have HB0 := Lib.hid b012
  clear hn ht hh hel hlen hp g1 hnil b0 b1 b2 b012
  go_enter Tryz.func48, Tryz.ntmps48
  go_wp2
  go_loopw [4] (fun iv wr => ∃ k : Nat, k ≤ n1_0 ∧ iv = .int .i64 k ∧ ∃ xu nu cu Lu, Hid (Lu.length ≤ k) ∧ Hid (Lu.map kCe.strip = l.take k) ∧ Hid (kLCe.Own (w.heap.size + 1 + 1 + 1) wr.heap.size wr ⟨xu, nu, cu, Lu⟩) ∧ Hid (Ret.Blk wr (w.heap.size + 1 + 1) #[.int .i64 cc, .slice xu nu cu] 26) ∧ Hid (Ret.Blk wr (w.heap.size + 1) #[.int .i64 0, .slice none 0 0] 26) ∧ Hid (Ret.Blk wr w.heap.size #[.int .i64 cc, .slice x1_0 n1_0 c1_0] 26) ∧ Hid (Below w.heap.size w wr) ∧ Hid ((w.heap.size + 1 + 1 + 1) ≤ wr.heap.size)) (fun iv _ => n1_0 - (intOf iv).toNat)
  case atStart => exact ⟨0, Nat.zero_le _, rfl, none, 0, 0, [], Lib.hid (Nat.le_refl _), Lib.hid (by simp), HNIL, HX2, HX1, HX0, HB0, Lib.hid (by simp)⟩
  case round =>
    obtain ⟨k, hk, rfl, xu, nu, cu, Lu, hM, hst, ho, hx2, hx1, hx0, hb, hsz⟩ := hrel
    have q1 : wr.cell? ⟨w.heap.size, 1, none⟩ = some (.slice x1_0 n1_0 c1_0) := hx0.out.cell 1
    have q2 : wr.cell? ⟨w.heap.size + 1 + 1, 1, none⟩ = some (.slice xu nu cu) := hx2.out.cell 1
    by_cases hlt : k < n1_0
    · have hlen := HN.out
      obtain ⟨b, off, y0, m0, d0, y1, m1, d1, y2, m2, d2, rfl, -, hc0, hc1, hc2, hc3, hc4, hc5, hA⟩ := kLCe_elem (HH.out.on hb.out) (fun y hy => kCe.holds_on (HEL.out y hy) hb.out) (j := k) (by omega)
      have hpt : nth l k = kCe.strip (nth L k) := by rw [← HT.out, nth_map _ (by omega)]
      have hps := HP.out (nth l k) (nth_mem (by have := HLEN.out; omega))
      rw [← hpt] at hA hc3 hc4 hc5
      obtain ⟨hD, hNM⟩ := kCe_parts hA
      have HA := Lib.hid hA; have HD := Lib.hid hD; have HNM := Lib.hid hNM; have HPS := Lib.hid hps; have HPD := Lib.hid (show wtDz (nth l k).1 ≤ 1200000 from hps); have HPN := Lib.hid (show bulk (nth l k).1.1 ≤ 1200000 from (wtDz_lens _ hps).1)
      have H0 := Lib.hid hc0; have H1 := Lib.hid hc1; have H2 := Lib.hid hc2; have H3 := Lib.hid hc3; have H4 := Lib.hid hc4; have H5 := Lib.hid hc5
      clear hlen hpt hps hA hD hNM
      go_wp2_with fail
      refine (sCpyZ HD.out (Nat.le_trans HPD.out (by decide))).mono ?_
      rintro e w1 ⟨U, rfl, hi1, hb1⟩
      obtain ⟨m1, ya, ma, da, yb, mb, db, yc, mc, dc_, rfl, hs1, hd1, hi1⟩ := kDz_split hi1
      have hal := (Below.refl w1.heap.size w1).alloc (Nat.le_refl _) (.cells #[.slice ya ma da, .slice yb mb db, .slice yc mc dc_, .int .i64 (nth l k).1.2.2.2.1, .int .i64 (nth l k).1.2.2.2.2] 31)
      have hda := hal.drew
      have hbb := hb1.trans (hal.mono hb1.size)
      have X0 := (hx0.out.on hb1).on hal; have X2 := (hx2.out.on hb1).on hal
      have hx := (Ret.Blk.new w1 #[.slice ya ma da, .slice yb mb db, .slice yc mc dc_, .int .i64 (nth l k).1.2.2.2.1, .int .i64 (nth l k).1.2.2.2.2] 31)
      have e0 : (w1.alloc (.cells #[.slice ya ma da, .slice yb mb db, .slice yc mc dc_, .int .i64 (nth l k).1.2.2.2.1, .int .i64 (nth l k).1.2.2.2.2] 31)).cell? ⟨w.heap.size, 1, none⟩ = some (.slice (some ⟨b, off, none⟩) n1_0 c1_0) := X0.cell 1
      have e1 : (w1.alloc (.cells #[.slice ya ma da, .slice yb mb db, .slice yc mc dc_, .int .i64 (nth l k).1.2.2.2.1, .int .i64 (nth l k).1.2.2.2.2] 31)).cell? ⟨w.heap.size + 1 + 1, 1, none⟩ = some (.slice xu nu cu) := X2.cell 1
      have e2 : (w1.alloc (.cells #[.slice ya ma da, .slice yb mb db, .slice yc mc dc_, .int .i64 (nth l k).1.2.2.2.1, .int .i64 (nth l k).1.2.2.2.2] 31)).cell? ⟨b, off + k * 6 + 5, none⟩ = some (.int .i64 (nth l k).2) := kc H5.out hbb
      have y0_ : (w1.alloc (.cells #[.slice ya ma da, .slice yb mb db, .slice yc mc dc_, .int .i64 (nth l k).1.2.2.2.1, .int .i64 (nth l k).1.2.2.2.2] 31)).cell? ⟨w1.heap.size, 0, none⟩ = some (.slice ya ma da) := hx.cell 0
      have y1_ : (w1.alloc (.cells #[.slice ya ma da, .slice yb mb db, .slice yc mc dc_, .int .i64 (nth l k).1.2.2.2.1, .int .i64 (nth l k).1.2.2.2.2] 31)).cell? ⟨w1.heap.size, 1, none⟩ = some (.slice yb mb db) := hx.cell 1
      have y2_ : (w1.alloc (.cells #[.slice ya ma da, .slice yb mb db, .slice yc mc dc_, .int .i64 (nth l k).1.2.2.2.1, .int .i64 (nth l k).1.2.2.2.2] 31)).cell? ⟨w1.heap.size, 2, none⟩ = some (.slice yc mc dc_) := hx.cell 2
      have y3_ : (w1.alloc (.cells #[.slice ya ma da, .slice yb mb db, .slice yc mc dc_, .int .i64 (nth l k).1.2.2.2.1, .int .i64 (nth l k).1.2.2.2.2] 31)).cell? ⟨w1.heap.size, 3, none⟩ = some (.int .i64 (nth l k).1.2.2.2.1) := hx.cell 3
      have y4_ : (w1.alloc (.cells #[.slice ya ma da, .slice yb mb db, .slice yc mc dc_, .int .i64 (nth l k).1.2.2.2.1, .int .i64 (nth l k).1.2.2.2.2] 31)).cell? ⟨w1.heap.size, 4, none⟩ = some (.int .i64 (nth l k).1.2.2.2.2) := hx.cell 4
      have e1L : ((w1.alloc (.cells #[.slice ya ma da, .slice yb mb db, .slice yc mc dc_, .int .i64 (nth l k).1.2.2.2.1, .int .i64 (nth l k).1.2.2.2.2] 31)).alloc (.cells #[.slice ya ma da, .slice yb mb db, .slice yc mc dc_, .int .i64 (nth l k).1.2.2.2.1, .int .i64 (nth l k).1.2.2.2.2, .int .i64 (nth l k).2] 64)).cell? ⟨w.heap.size + 1 + 1, 1, none⟩ = some (.slice xu nu cu) := (X2.on ((Below.refl _ _).alloc (Nat.le_refl _) (.cells #[.slice ya ma da, .slice yb mb db, .slice yc mc dc_, .int .i64 (nth l k).1.2.2.2.1, .int .i64 (nth l k).1.2.2.2.2, .int .i64 (nth l k).2] 64))).cell 1
      have e1M : ((w1.alloc (.cells #[.slice ya ma da, .slice yb mb db, .slice yc mc dc_, .int .i64 (nth l k).1.2.2.2.1, .int .i64 (nth l k).1.2.2.2.2] 31)).alloc (.cells #[.slice ya ma da, .slice yb mb db, .slice yc mc dc_, .int .i64 (nth l k).1.2.2.2.1, .int .i64 (nth l k).1.2.2.2.2, .int .i64 (nth l k).2] 64)).drew.cell? ⟨w.heap.size + 1 + 1, 1, none⟩ = some (.slice xu nu cu) := e1L
      have e0d : (w1.alloc (.cells #[.slice ya ma da, .slice yb mb db, .slice yc mc dc_, .int .i64 (nth l k).1.2.2.2.1, .int .i64 (nth l k).1.2.2.2.2] 31)).drew.cell? ⟨w.heap.size, 1, none⟩ = some (.slice (some ⟨b, off, none⟩) n1_0 c1_0) := e0
      have e1d : (w1.alloc (.cells #[.slice ya ma da, .slice yb mb db, .slice yc mc dc_, .int .i64 (nth l k).1.2.2.2.1, .int .i64 (nth l k).1.2.2.2.2] 31)).drew.cell? ⟨w.heap.size + 1 + 1, 1, none⟩ = some (.slice xu nu cu) := e1
      have e2d : (w1.alloc (.cells #[.slice ya ma da, .slice yb mb db, .slice yc mc dc_, .int .i64 (nth l k).1.2.2.2.1, .int .i64 (nth l k).1.2.2.2.2] 31)).drew.cell? ⟨b, off + k * 6 + 5, none⟩ = some (.int .i64 (nth l k).2) := e2
      have y0d : (w1.alloc (.cells #[.slice ya ma da, .slice yb mb db, .slice yc mc dc_, .int .i64 (nth l k).1.2.2.2.1, .int .i64 (nth l k).1.2.2.2.2] 31)).drew.cell? ⟨w1.heap.size, 0, none⟩ = some (.slice ya ma da) := y0_
      have y1d : (w1.alloc (.cells #[.slice ya ma da, .slice yb mb db, .slice yc mc dc_, .int .i64 (nth l k).1.2.2.2.1, .int .i64 (nth l k).1.2.2.2.2] 31)).drew.cell? ⟨w1.heap.size, 1, none⟩ = some (.slice yb mb db) := y1_
      have y2d : (w1.alloc (.cells #[.slice ya ma da, .slice yb mb db, .slice yc mc dc_, .int .i64 (nth l k).1.2.2.2.1, .int .i64 (nth l k).1.2.2.2.2] 31)).drew.cell? ⟨w1.heap.size, 2, none⟩ = some (.slice yc mc dc_) := y2_
      have y3d : (w1.alloc (.cells #[.slice ya ma da, .slice yb mb db, .slice yc mc dc_, .int .i64 (nth l k).1.2.2.2.1, .int .i64 (nth l k).1.2.2.2.2] 31)).drew.cell? ⟨w1.heap.size, 3, none⟩ = some (.int .i64 (nth l k).1.2.2.2.1) := y3_
      have y4d : (w1.alloc (.cells #[.slice ya ma da, .slice yb mb db, .slice yc mc dc_, .int .i64 (nth l k).1.2.2.2.1, .int .i64 (nth l k).1.2.2.2.2] 31)).drew.cell? ⟨w1.heap.size, 4, none⟩ = some (.int .i64 (nth l k).1.2.2.2.2) := y4_
      have hbl := hda.alloc hda.size (.cells #[.slice ya ma da, .slice yb mb db, .slice yc mc dc_, .int .i64 (nth l k).1.2.2.2.1, .int .i64 (nth l k).1.2.2.2.2, .int .i64 (nth l k).2] 64)
      have hOA : OwnK 64 kCe.cells 6 (w.heap.size + 1 + 1 + 1) ((w1.alloc (.cells #[.slice ya ma da, .slice yb mb db, .slice yc mc dc_, .int .i64 (nth l k).1.2.2.2.1, .int .i64 (nth l k).1.2.2.2.2] 31)).drew.alloc (.cells #[.slice ya ma da, .slice yb mb db, .slice yc mc dc_, .int .i64 (nth l k).1.2.2.2.1, .int .i64 (nth l k).1.2.2.2.2, .int .i64 (nth l k).2] 64)) (.slice xu nu cu) Lu := ((ho.out.on hb1).on hbl).1.1
      have hS1 := one_ce (W := (w1.alloc (.cells #[.slice ya ma da, .slice yb mb db, .slice yc mc dc_, .int .i64 (nth l k).1.2.2.2.1, .int .i64 (nth l k).1.2.2.2.2] 31)).drew) (u := (nth l k).2) (g := w1.heap.size + 1) hd1 (by simp)
      have hlm : (Lu.length + 1) * 96 ≤ 140737488355328 := by have := hM.out; omega
      have hlx : Lu.length + 1 ≤ maxLen := by have := hM.out; unfold maxLen; omega
      have hB3 : (w.heap.size + 1 + 1 + 1) ≤ ((w1.alloc (.cells #[.slice ya ma da, .slice yb mb db, .slice yc mc dc_, .int .i64 (nth l k).1.2.2.2.1, .int .i64 (nth l k).1.2.2.2.2] 31)).drew.alloc (.cells #[.slice ya ma da, .slice yb mb db, .slice yc mc dc_, .int .i64 (nth l k).1.2.2.2.1, .int .i64 (nth l k).1.2.2.2.2, .int .i64 (nth l k).2] 64)).heap.size := Nat.le_trans (Nat.le_trans hsz.out hb1.size) hbl.size
      have HOA := Lib.hid hOA; have HS1 := Lib.hid hS1; have HLM := Lib.hid hlm; have HLX := Lib.hid hlx; have HB3 := Lib.hid hB3; have HI1 := Lib.hid hi1; have HB1 := Lib.hid hb1; have HBL := Lib.hid hbl; have HSS := Lib.hid hs1
      have HX0 := Lib.hid (((hx0.out.on hb1).on hbl)); have HX1 := Lib.hid (((hx1.out.on hb1).on hbl)); have HX2 := Lib.hid (((hx2.out.on hb1).on hbl))
      have HB4 := Lib.hid (hb.out.trans ((hb1.trans (hbl.mono hb1.size)).mono hb.out.size))
      clear hc0 hc1 hc2 hc3 hc4 hc5 hi1 hb1 hd1 hs1 hal hda hbb X0 X2 hx hbl hOA hS1 hlm hlx hB3 q1 q2
      go_wp2_with fail
      go_region_law (refine step_appK kindCe (B := (w.heap.size + 1 + 1 + 1)) (l := Lu) (m := [((m1, (nth l k).2) : Cem)]) rfl _ _ (by rfl) Tryz.underlying24 (by rfl) (by rfl) HOA.out HS1.out HLM.out HLX.out HB3.out ?_; intro v4 w4 ho4 hg4; obtain ⟨x4, n4, c4, rfl, -, -, ho4⟩ := ho4.shapeN; have hlt4 : ∀ g, (Value.slice xu nu cu).ownBlock = some g → (w.heap.size + 1 + 1 + 1) ≤ g := fun g hg => (HOA.out.lt g hg).1; have hX2 := HX2.out.grown hg4 (fun e => by have := hlt4 _ e.symm; omega); have z0 := hX2.cell 1; have z1 := hX2.frozen 1; have HX2' := Lib.hid hX2; have HX0' := Lib.hid (HX0.out.grown hg4 (fun e => by have := hlt4 _ e.symm; omega)); have HX1' := Lib.hid (HX1.out.grown hg4 (fun e => by have := hlt4 _ e.symm; omega)); have HO4 := Lib.hid (ce_grow ho.out HB1.out HI1.out HBL.out ho4 hg4 hsz.out); have HB5 := Lib.hid (HB4.out.grown hg4 HB4.out.size (fun g hg => Nat.le_trans (Nat.le_trans (Nat.le_trans (Nat.le_succ _) (Nat.le_succ _)) (Nat.le_succ _)) (hlt4 g hg))); have HSZ := Lib.hid (Nat.le_trans HB3.out hg4.size); clear ho4 hg4 hlt4 hX2)
      all_goals
        have HST := Lib.hid (show (Lu ++ [((m1, (nth l k).2) : Cem)]).map kCe.strip = l.take (k + 1) by
          rw [List.map_append, hst.out, take_nx (by have := HLEN.out; omega)]
          show _ ++ [(kDz.strip m1, (nth l k).2)] = _
          rw [HSS.out])
        clear y0_ y1_ y2_ y3_ y4_ y0d y1d y2d y3d y4d e0 e1 e2 e0d e1d e2d e1L e1M
        go_wp2_with fail
        go_roundw
        case rel => exact ⟨k + 1, by omega, by go_num, x4, n4, c4, Lu ++ [((m1, (nth l k).2) : Cem)], Lib.hid (by have := hM.out; simp; omega), HST, Lib.hid (own_setS HO4.out (by omega)), Lib.hid (HX2'.out.set 1 (.slice x4 n4 c4)), Lib.hid (HX1'.out.other (by show w.heap.size + 1 + 1 ≠ w.heap.size + 1; omega) _), Lib.hid (HX0'.out.other (by show w.heap.size + 1 + 1 ≠ w.heap.size; omega) _), Lib.hid (HB5.out.setCell (by show w.heap.size ≤ w.heap.size + 1 + 1; omega) _), Lib.hid (by rw [World.size_setCell]; exact HSZ.out)⟩
        case measure => simp [intOf]; omega
    · obtain rfl : k = n1_0 := by omega
      clear hlt
      have p0 : wr.cell? ⟨w.heap.size + 1 + 1, 0, none⟩ = some (.int .i64 cc) := hx2.out.cell 0
      have r0 := hx1.out.frozen 0; have r1 := hx1.out.frozen 1; have r2 := hx1.out.cell 0; have r3 := hx1.out.cell 1
      have Z := Lib.hid ((hx1.out.set 0 (.int .i64 cc)).set 1 (.slice xu nu cu))
      have ZO := Lib.hid (own_setS (i := 1) (u := .slice xu nu cu) (own_setS (i := 0) (u := .int .i64 cc) ho.out (g := w.heap.size + 1) (by omega)) (g := w.heap.size + 1) (by omega))
      have ZB := Lib.hid ((hb.out.setCell (p := ⟨w.heap.size + 1, 0, none⟩) (by show w.heap.size ≤ w.heap.size + 1; omega) (.int .i64 cc)).setCell (p := ⟨w.heap.size + 1, 1, none⟩) (by show w.heap.size ≤ w.heap.size + 1; omega) (.slice xu nu cu))
      have HRES := Lib.hid (show Lu.map kCe.strip = l by rw [hst.out, List.take_of_length_le (by rw [HLEN.out]; exact Nat.le_refl _)])
      go_wp2_with fail
      refine bodyPost_ret (Ret.results_c rfl _ _ (w.heap.size + 1) [.int .i64 cc, .slice xu nu cu] rfl aggCn Z.out.cells) rfl ?_
      exact ⟨_, rfl, cn_in ZO.out (by omega) HRES.out ZB.out.size, ZB.out⟩
set_option maxHeartbeats 8000000 in
theorem specEvictStale (V : Value) (x : Cnt) (now : Int) (w : World) (h : kCn.At w V x) (hp : FitC x) :
    Calls Tryz.prog 19 #[V, .int .i64 now] w fun e w' => ∃ U, e = .returned U ∧ kCn.In w.heap.size w'.heap.size w' U (evictC x now) ∧ Below w.heap.size w w' := by
  obtain ⟨x1_0, n1_0, c1_0, rfl, g1⟩ := kCn_at h
  clear h
  obtain ⟨cc, l⟩ := x
  obtain ⟨hl, hp⟩ := hp.fields
  dsimp only at g1 hl hp ⊢
  have b0 := (Below.refl w.heap.size w).alloc (Nat.le_refl _) (.cells #[.int .i64 cc, .slice x1_0 n1_0 c1_0] 26)
  have b1 := (Below.refl (w.alloc (.cells #[.int .i64 cc, .slice x1_0 n1_0 c1_0] 26)).heap.size (w.alloc (.cells #[.int .i64 cc, .slice x1_0 n1_0 c1_0] 26))).alloc (Nat.le_refl _) (.cells #[.int .i64 0, .slice none 0 0] 26)
  have b2 := (Below.refl ((w.alloc (.cells #[.int .i64 cc, .slice x1_0 n1_0 c1_0] 26)).alloc (.cells #[.int .i64 0, .slice none 0 0] 26)).heap.size ((w.alloc (.cells #[.int .i64 cc, .slice x1_0 n1_0 c1_0] 26)).alloc (.cells #[.int .i64 0, .slice none 0 0] 26))).alloc (Nat.le_refl _) (.cells #[.int .i64 cc, .slice none 0 0] 26)
  have b012 := (b0.trans (b1.mono b0.size)).trans (b2.mono (Nat.le_trans b0.size b1.size))
  have HX0 := Lib.hid (((Ret.Blk.new w #[.int .i64 cc, .slice x1_0 n1_0 c1_0] 26).on b1).on b2)
  have HX1 := Lib.hid ((Ret.Blk.new' (w := (w.alloc (.cells #[.int .i64 cc, .slice x1_0 n1_0 c1_0] 26))) (n := w.heap.size + 1) #[.int .i64 0, .slice none 0 0] 26 (by simp)).on b2)
  have HX2 := Lib.hid (Ret.Blk.new' (w := ((w.alloc (.cells #[.int .i64 cc, .slice x1_0 n1_0 c1_0] 26)).alloc (.cells #[.int .i64 0, .slice none 0 0] 26))) (n := w.heap.size + 1 + 1) #[.int .i64 cc, .slice none 0 0] 26 (by simp))
  have hnil : kLCe.Own (w.heap.size + 1 + 1 + 1) (((w.alloc (.cells #[.int .i64 cc, .slice x1_0 n1_0 c1_0] 26)).alloc (.cells #[.int .i64 0, .slice none 0 0] 26)).alloc (.cells #[.int .i64 cc, .slice none 0 0] 26)).heap.size (((w.alloc (.cells #[.int .i64 cc, .slice x1_0 n1_0 c1_0] 26)).alloc (.cells #[.int .i64 0, .slice none 0 0] 26)).alloc (.cells #[.int .i64 cc, .slice none 0 0] 26)) ⟨none, 0, 0, []⟩ := le_nil _ _
  obtain ⟨x, n, cx, L, e9, hn, ht, hh, hel⟩ := kLCe_at g1
  cases e9
  have hlen : l.length = n1_0 := by rw [← ht, List.length_map]; exact hn.symm
  rw [hlen] at hl
  have hcap : n1_0 ≤ c1_0 := by obtain ⟨x', n', cap', hv, hn', hc', -⟩ := hh.shapeN; cases hv; exact hc'
  have HN := Lib.hid hn; have HT := Lib.hid ht; have HH := Lib.hid hh; have HEL := Lib.hid hel; have HLEN := Lib.hid hlen; have HP := Lib.hid hp; have HNIL := Lib.hid hnil; have HB0 := Lib.hid b012
  clear hn ht hh hel hlen hp g1 hnil b0 b1 b2 b012
  go_enter Tryz.func19, Tryz.ntmps19
  go_wp2
  go_loopw [6] (fun iv wr => ∃ k : Nat, k ≤ n1_0 ∧ iv = .int .i64 k ∧ ∃ xu nu cu Lu, Hid (Lu.length ≤ k) ∧ Hid (Lu.map kCe.strip = (l.take k).filter (frE now)) ∧ Hid (kLCe.Own (w.heap.size + 1 + 1 + 1) wr.heap.size wr ⟨xu, nu, cu, Lu⟩) ∧ Hid (Ret.Blk wr (w.heap.size + 1 + 1) #[.int .i64 cc, .slice xu nu cu] 26) ∧ Hid (Ret.Blk wr (w.heap.size + 1) #[.int .i64 0, .slice none 0 0] 26) ∧ Hid (Ret.Blk wr w.heap.size #[.int .i64 cc, .slice x1_0 n1_0 c1_0] 26) ∧ Hid (Below w.heap.size w wr) ∧ Hid ((w.heap.size + 1 + 1 + 1) ≤ wr.heap.size)) (fun iv _ => n1_0 - (intOf iv).toNat)
  case atStart => exact ⟨0, Nat.zero_le _, rfl, none, 0, 0, [], Lib.hid (Nat.le_refl _), Lib.hid (by simp), HNIL, HX2, HX1, HX0, HB0, Lib.hid (by simp)⟩
  case round =>
    obtain ⟨k, hk, rfl, xu, nu, cu, Lu, hM, hst, ho, hx2, hx1, hx0, hb, hsz⟩ := hrel
    have q1 : wr.cell? ⟨w.heap.size, 1, none⟩ = some (.slice x1_0 n1_0 c1_0) := hx0.out.cell 1
    have q2 : wr.cell? ⟨w.heap.size + 1 + 1, 1, none⟩ = some (.slice xu nu cu) := hx2.out.cell 1
    by_cases hlt : k < n1_0
    · have hlen := HN.out
      obtain ⟨b, off, y0, m0, d0, y1, m1, d1, y2, m2, d2, rfl, -, hc0, hc1, hc2, hc3, hc4, hc5, hA⟩ := kLCe_elem (HH.out.on hb.out) (fun y hy => kCe.holds_on (HEL.out y hy) hb.out) (j := k) (by omega)
      have hpt : nth l k = kCe.strip (nth L k) := by rw [← HT.out, nth_map _ (by omega)]
      have hps := HP.out (nth l k) (nth_mem (by have := HLEN.out; omega))
      rw [← hpt] at hA hc3 hc4 hc5
      obtain ⟨hD, hNM⟩ := kCe_parts hA
      have HA := Lib.hid hA; have HD := Lib.hid hD; have HNM := Lib.hid hNM; have HPS := Lib.hid hps; have HPD := Lib.hid (show wtDz (nth l k).1 ≤ 1200000 from hps); have HPN := Lib.hid (show bulk (nth l k).1.1 ≤ 1200000 from (wtDz_lens _ hps).1)
      have H0 := Lib.hid hc0; have H1 := Lib.hid hc1; have H2 := Lib.hid hc2; have H3 := Lib.hid hc3; have H4 := Lib.hid hc4; have H5 := Lib.hid hc5
      clear hlen hpt hps hA hD hNM
      obtain ⟨q, hq⟩ : ∃ q, frE now (nth l k) = q := ⟨_, rfl⟩
      have HF := Lib.hid hq; clear hq
      go_wp2_with fail
      refine (sFrZ now q HF.out HD.out).mono ?_
      rintro e wf ⟨rfl, hbf⟩
      clear q1 q2 hc0 hc1 hc2 hc3 hc4 hc5
      replace hx2 := Lib.hid (hx2.out.on hbf); replace hx1 := Lib.hid (hx1.out.on hbf); replace hx0 := Lib.hid (hx0.out.on hbf); replace hsz := Lib.hid (Nat.le_trans hsz.out hbf.size); replace hb := Lib.hid (hb.out.trans (hbf.mono hb.out.size)); replace ho := Lib.hid (ho.out.upto hbf); replace HD := Lib.hid (HD.out.on hbf)
      replace H0 := Lib.hid (kc H0.out hbf); replace H1 := Lib.hid (kc H1.out hbf); replace H2 := Lib.hid (kc H2.out hbf); replace H3 := Lib.hid (kc H3.out hbf); replace H4 := Lib.hid (kc H4.out hbf); replace H5 := Lib.hid (kc H5.out hbf)
      clear hbf
      have q1 : wf.cell? ⟨w.heap.size, 1, none⟩ = some (.slice (some ⟨b, off, none⟩) n1_0 c1_0) := hx0.out.cell 1
      have q2 : wf.cell? ⟨w.heap.size + 1 + 1, 1, none⟩ = some (.slice xu nu cu) := hx2.out.cell 1
      have hc0 := H0.out; have hc1 := H1.out; have hc2 := H2.out; have hc3 := H3.out; have hc4 := H4.out; have hc5 := H5.out
      cases q with
      | false =>
        have HST := Lib.hid (show Lu.map kCe.strip = (l.take (k + 1)).filter (frE now) by rw [hst.out, filter_sk (by have := HLEN.out; omega) HF.out])
        clear hc0 hc1 hc2 hc3 hc4 hc5 q1 q2
        go_wp2_with fail
        go_roundw
        case rel => exact ⟨k + 1, by omega, by go_num, xu, nu, cu, Lu, Lib.hid (by have := hM.out; omega), HST, ho, hx2, hx1, hx0, hb, hsz⟩
        case measure => simp [intOf]; omega
      | true =>
        go_wp2_with fail
        refine (sCpyZ HD.out (Nat.le_trans HPD.out (by decide))).mono ?_
        rintro e w1 ⟨U, rfl, hi1, hb1⟩
        obtain ⟨m1, ya, ma, da, yb, mb, db, yc, mc, dc_, rfl, hs1, hd1, hi1⟩ := kDz_split hi1
        have hal := (Below.refl w1.heap.size w1).alloc (Nat.le_refl _) (.cells #[.slice ya ma da, .slice yb mb db, .slice yc mc dc_, .int .i64 (nth l k).1.2.2.2.1, .int .i64 (nth l k).1.2.2.2.2] 31)
        have hda := hal.drew
        have hbb := hb1.trans (hal.mono hb1.size)
        have X0 := (hx0.out.on hb1).on hal; have X2 := (hx2.out.on hb1).on hal
        have hx := (Ret.Blk.new w1 #[.slice ya ma da, .slice yb mb db, .slice yc mc dc_, .int .i64 (nth l k).1.2.2.2.1, .int .i64 (nth l k).1.2.2.2.2] 31)
        have e0 : (w1.alloc (.cells #[.slice ya ma da, .slice yb mb db, .slice yc mc dc_, .int .i64 (nth l k).1.2.2.2.1, .int .i64 (nth l k).1.2.2.2.2] 31)).cell? ⟨w.heap.size, 1, none⟩ = some (.slice (some ⟨b, off, none⟩) n1_0 c1_0) := X0.cell 1
        have e1 : (w1.alloc (.cells #[.slice ya ma da, .slice yb mb db, .slice yc mc dc_, .int .i64 (nth l k).1.2.2.2.1, .int .i64 (nth l k).1.2.2.2.2] 31)).cell? ⟨w.heap.size + 1 + 1, 1, none⟩ = some (.slice xu nu cu) := X2.cell 1
        have e2 : (w1.alloc (.cells #[.slice ya ma da, .slice yb mb db, .slice yc mc dc_, .int .i64 (nth l k).1.2.2.2.1, .int .i64 (nth l k).1.2.2.2.2] 31)).cell? ⟨b, off + k * 6 + 5, none⟩ = some (.int .i64 (nth l k).2) := kc H5.out hbb
        have y0_ : (w1.alloc (.cells #[.slice ya ma da, .slice yb mb db, .slice yc mc dc_, .int .i64 (nth l k).1.2.2.2.1, .int .i64 (nth l k).1.2.2.2.2] 31)).cell? ⟨w1.heap.size, 0, none⟩ = some (.slice ya ma da) := hx.cell 0
        have y1_ : (w1.alloc (.cells #[.slice ya ma da, .slice yb mb db, .slice yc mc dc_, .int .i64 (nth l k).1.2.2.2.1, .int .i64 (nth l k).1.2.2.2.2] 31)).cell? ⟨w1.heap.size, 1, none⟩ = some (.slice yb mb db) := hx.cell 1
        have y2_ : (w1.alloc (.cells #[.slice ya ma da, .slice yb mb db, .slice yc mc dc_, .int .i64 (nth l k).1.2.2.2.1, .int .i64 (nth l k).1.2.2.2.2] 31)).cell? ⟨w1.heap.size, 2, none⟩ = some (.slice yc mc dc_) := hx.cell 2
        have y3_ : (w1.alloc (.cells #[.slice ya ma da, .slice yb mb db, .slice yc mc dc_, .int .i64 (nth l k).1.2.2.2.1, .int .i64 (nth l k).1.2.2.2.2] 31)).cell? ⟨w1.heap.size, 3, none⟩ = some (.int .i64 (nth l k).1.2.2.2.1) := hx.cell 3
        have y4_ : (w1.alloc (.cells #[.slice ya ma da, .slice yb mb db, .slice yc mc dc_, .int .i64 (nth l k).1.2.2.2.1, .int .i64 (nth l k).1.2.2.2.2] 31)).cell? ⟨w1.heap.size, 4, none⟩ = some (.int .i64 (nth l k).1.2.2.2.2) := hx.cell 4
        have e1L : ((w1.alloc (.cells #[.slice ya ma da, .slice yb mb db, .slice yc mc dc_, .int .i64 (nth l k).1.2.2.2.1, .int .i64 (nth l k).1.2.2.2.2] 31)).alloc (.cells #[.slice ya ma da, .slice yb mb db, .slice yc mc dc_, .int .i64 (nth l k).1.2.2.2.1, .int .i64 (nth l k).1.2.2.2.2, .int .i64 (nth l k).2] 64)).cell? ⟨w.heap.size + 1 + 1, 1, none⟩ = some (.slice xu nu cu) := (X2.on ((Below.refl _ _).alloc (Nat.le_refl _) (.cells #[.slice ya ma da, .slice yb mb db, .slice yc mc dc_, .int .i64 (nth l k).1.2.2.2.1, .int .i64 (nth l k).1.2.2.2.2, .int .i64 (nth l k).2] 64))).cell 1
        have e1M : ((w1.alloc (.cells #[.slice ya ma da, .slice yb mb db, .slice yc mc dc_, .int .i64 (nth l k).1.2.2.2.1, .int .i64 (nth l k).1.2.2.2.2] 31)).alloc (.cells #[.slice ya ma da, .slice yb mb db, .slice yc mc dc_, .int .i64 (nth l k).1.2.2.2.1, .int .i64 (nth l k).1.2.2.2.2, .int .i64 (nth l k).2] 64)).drew.cell? ⟨w.heap.size + 1 + 1, 1, none⟩ = some (.slice xu nu cu) := e1L
        have e0d : (w1.alloc (.cells #[.slice ya ma da, .slice yb mb db, .slice yc mc dc_, .int .i64 (nth l k).1.2.2.2.1, .int .i64 (nth l k).1.2.2.2.2] 31)).drew.cell? ⟨w.heap.size, 1, none⟩ = some (.slice (some ⟨b, off, none⟩) n1_0 c1_0) := e0
        have e1d : (w1.alloc (.cells #[.slice ya ma da, .slice yb mb db, .slice yc mc dc_, .int .i64 (nth l k).1.2.2.2.1, .int .i64 (nth l k).1.2.2.2.2] 31)).drew.cell? ⟨w.heap.size + 1 + 1, 1, none⟩ = some (.slice xu nu cu) := e1
        have e2d : (w1.alloc (.cells #[.slice ya ma da, .slice yb mb db, .slice yc mc dc_, .int .i64 (nth l k).1.2.2.2.1, .int .i64 (nth l k).1.2.2.2.2] 31)).drew.cell? ⟨b, off + k * 6 + 5, none⟩ = some (.int .i64 (nth l k).2) := e2
        have y0d : (w1.alloc (.cells #[.slice ya ma da, .slice yb mb db, .slice yc mc dc_, .int .i64 (nth l k).1.2.2.2.1, .int .i64 (nth l k).1.2.2.2.2] 31)).drew.cell? ⟨w1.heap.size, 0, none⟩ = some (.slice ya ma da) := y0_
        have y1d : (w1.alloc (.cells #[.slice ya ma da, .slice yb mb db, .slice yc mc dc_, .int .i64 (nth l k).1.2.2.2.1, .int .i64 (nth l k).1.2.2.2.2] 31)).drew.cell? ⟨w1.heap.size, 1, none⟩ = some (.slice yb mb db) := y1_
        have y2d : (w1.alloc (.cells #[.slice ya ma da, .slice yb mb db, .slice yc mc dc_, .int .i64 (nth l k).1.2.2.2.1, .int .i64 (nth l k).1.2.2.2.2] 31)).drew.cell? ⟨w1.heap.size, 2, none⟩ = some (.slice yc mc dc_) := y2_
        have y3d : (w1.alloc (.cells #[.slice ya ma da, .slice yb mb db, .slice yc mc dc_, .int .i64 (nth l k).1.2.2.2.1, .int .i64 (nth l k).1.2.2.2.2] 31)).drew.cell? ⟨w1.heap.size, 3, none⟩ = some (.int .i64 (nth l k).1.2.2.2.1) := y3_
        have y4d : (w1.alloc (.cells #[.slice ya ma da, .slice yb mb db, .slice yc mc dc_, .int .i64 (nth l k).1.2.2.2.1, .int .i64 (nth l k).1.2.2.2.2] 31)).drew.cell? ⟨w1.heap.size, 4, none⟩ = some (.int .i64 (nth l k).1.2.2.2.2) := y4_
        have hbl := hda.alloc hda.size (.cells #[.slice ya ma da, .slice yb mb db, .slice yc mc dc_, .int .i64 (nth l k).1.2.2.2.1, .int .i64 (nth l k).1.2.2.2.2, .int .i64 (nth l k).2] 64)
        have hOA : OwnK 64 kCe.cells 6 (w.heap.size + 1 + 1 + 1) ((w1.alloc (.cells #[.slice ya ma da, .slice yb mb db, .slice yc mc dc_, .int .i64 (nth l k).1.2.2.2.1, .int .i64 (nth l k).1.2.2.2.2] 31)).drew.alloc (.cells #[.slice ya ma da, .slice yb mb db, .slice yc mc dc_, .int .i64 (nth l k).1.2.2.2.1, .int .i64 (nth l k).1.2.2.2.2, .int .i64 (nth l k).2] 64)) (.slice xu nu cu) Lu := ((ho.out.on hb1).on hbl).1.1
        have hS1 := one_ce (W := (w1.alloc (.cells #[.slice ya ma da, .slice yb mb db, .slice yc mc dc_, .int .i64 (nth l k).1.2.2.2.1, .int .i64 (nth l k).1.2.2.2.2] 31)).drew) (u := (nth l k).2) (g := w1.heap.size + 1) hd1 (by simp)
        have hlm : (Lu.length + 1) * 96 ≤ 140737488355328 := by have := hM.out; omega
        have hlx : Lu.length + 1 ≤ maxLen := by have := hM.out; unfold maxLen; omega
        have hB3 : (w.heap.size + 1 + 1 + 1) ≤ ((w1.alloc (.cells #[.slice ya ma da, .slice yb mb db, .slice yc mc dc_, .int .i64 (nth l k).1.2.2.2.1, .int .i64 (nth l k).1.2.2.2.2] 31)).drew.alloc (.cells #[.slice ya ma da, .slice yb mb db, .slice yc mc dc_, .int .i64 (nth l k).1.2.2.2.1, .int .i64 (nth l k).1.2.2.2.2, .int .i64 (nth l k).2] 64)).heap.size := Nat.le_trans (Nat.le_trans hsz.out hb1.size) hbl.size
        have HOA := Lib.hid hOA; have HS1 := Lib.hid hS1; have HLM := Lib.hid hlm; have HLX := Lib.hid hlx; have HB3 := Lib.hid hB3; have HI1 := Lib.hid hi1; have HB1 := Lib.hid hb1; have HBL := Lib.hid hbl; have HSS := Lib.hid hs1
        have HX0 := Lib.hid (((hx0.out.on hb1).on hbl)); have HX1 := Lib.hid (((hx1.out.on hb1).on hbl)); have HX2 := Lib.hid (((hx2.out.on hb1).on hbl))
        have HB4 := Lib.hid (hb.out.trans ((hb1.trans (hbl.mono hb1.size)).mono hb.out.size))
        clear hc0 hc1 hc2 hc3 hc4 hc5 hi1 hb1 hd1 hs1 hal hda hbb X0 X2 hx hbl hOA hS1 hlm hlx hB3 q1 q2
        go_wp2_with fail
        go_region_law (refine step_appK kindCe (B := (w.heap.size + 1 + 1 + 1)) (l := Lu) (m := [((m1, (nth l k).2) : Cem)]) rfl _ _ (by rfl) Tryz.underlying24 (by rfl) (by rfl) HOA.out HS1.out HLM.out HLX.out HB3.out ?_; intro v4 w4 ho4 hg4; obtain ⟨x4, n4, c4, rfl, -, -, ho4⟩ := ho4.shapeN; have hlt4 : ∀ g, (Value.slice xu nu cu).ownBlock = some g → (w.heap.size + 1 + 1 + 1) ≤ g := fun g hg => (HOA.out.lt g hg).1; have hX2 := HX2.out.grown hg4 (fun e => by have := hlt4 _ e.symm; omega); have z0 := hX2.cell 1; have z1 := hX2.frozen 1; have HX2' := Lib.hid hX2; have HX0' := Lib.hid (HX0.out.grown hg4 (fun e => by have := hlt4 _ e.symm; omega)); have HX1' := Lib.hid (HX1.out.grown hg4 (fun e => by have := hlt4 _ e.symm; omega)); have HO4 := Lib.hid (ce_grow ho.out HB1.out HI1.out HBL.out ho4 hg4 hsz.out); have HB5 := Lib.hid (HB4.out.grown hg4 HB4.out.size (fun g hg => Nat.le_trans (Nat.le_trans (Nat.le_trans (Nat.le_succ _) (Nat.le_succ _)) (Nat.le_succ _)) (hlt4 g hg))); have HSZ := Lib.hid (Nat.le_trans HB3.out hg4.size); clear ho4 hg4 hlt4 hX2)
        all_goals
          have HST := Lib.hid (show (Lu ++ [((m1, (nth l k).2) : Cem)]).map kCe.strip = (l.take (k + 1)).filter (frE now) by
            rw [List.map_append, hst.out, filter_nx (by have := HLEN.out; omega) HF.out]
            show _ ++ [(kDz.strip m1, (nth l k).2)] = _
            rw [HSS.out])
          clear y0_ y1_ y2_ y3_ y4_ y0d y1d y2d y3d y4d e0 e1 e2 e0d e1d e2d e1L e1M
          go_wp2_with fail
          go_roundw
          case rel => exact ⟨k + 1, by omega, by go_num, x4, n4, c4, Lu ++ [((m1, (nth l k).2) : Cem)], Lib.hid (by have := hM.out; simp; omega), HST, Lib.hid (own_setS HO4.out (by omega)), Lib.hid (HX2'.out.set 1 (.slice x4 n4 c4)), Lib.hid (HX1'.out.other (by show w.heap.size + 1 + 1 ≠ w.heap.size + 1; omega) _), Lib.hid (HX0'.out.other (by show w.heap.size + 1 + 1 ≠ w.heap.size; omega) _), Lib.hid (HB5.out.setCell (by show w.heap.size ≤ w.heap.size + 1 + 1; omega) _), Lib.hid (by rw [World.size_setCell]; exact HSZ.out)⟩
          case measure => simp [intOf]; omega
    · obtain rfl : k = n1_0 := by omega
      clear hlt
      have p0 : wr.cell? ⟨w.heap.size + 1 + 1, 0, none⟩ = some (.int .i64 cc) := hx2.out.cell 0
      have r0 := hx1.out.frozen 0; have r1 := hx1.out.frozen 1; have r2 := hx1.out.cell 0; have r3 := hx1.out.cell 1
      have Z := Lib.hid ((hx1.out.set 0 (.int .i64 cc)).set 1 (.slice xu nu cu))
      have ZO := Lib.hid (own_setS (i := 1) (u := .slice xu nu cu) (own_setS (i := 0) (u := .int .i64 cc) ho.out (g := w.heap.size + 1) (by omega)) (g := w.heap.size + 1) (by omega))
      have ZB := Lib.hid ((hb.out.setCell (p := ⟨w.heap.size + 1, 0, none⟩) (by show w.heap.size ≤ w.heap.size + 1; omega) (.int .i64 cc)).setCell (p := ⟨w.heap.size + 1, 1, none⟩) (by show w.heap.size ≤ w.heap.size + 1; omega) (.slice xu nu cu))
      have HRES := Lib.hid (show Lu.map kCe.strip = l.filter (frE now) by rw [hst.out, List.take_of_length_le (by rw [HLEN.out]; exact Nat.le_refl _)])
      go_wp2_with fail
      refine bodyPost_ret (Ret.results_c rfl _ _ (w.heap.size + 1) [.int .i64 cc, .slice xu nu cu] rfl aggCn Z.out.cells) rfl ?_
      exact ⟨_, rfl, cn_in ZO.out (by omega) HRES.out ZB.out.size, ZB.out⟩
end Go.Proofs.YtfglcmanmfenpaaGreat.Row
/- The model's l12Without, Touch, CacheData. No conditions but that lengths fit. -/
namespace Go.Proofs.YtfglcmanmfenpaaGreat.Row
open Go.ChangeShapes Go.WideShapes Go.ChangeAt Go.RowKit Go.Instr
set_option linter.unusedVariables false
set_option maxRecDepth 100000
theorem holds_rest2 {w : World} {b off n cap i : Nat} {L : List Cem} (h : HoldsK kCe.cells 6 w (.slice (some ⟨b, off, none⟩) n cap) L) (hi : i ≤ L.length) : HoldsK kCe.cells 6 w (.slice (if cap = i then some ⟨b, off, none⟩ else some ⟨b, off + i * 6, none⟩) (n - i) (cap - i)) (L.drop i) := by
  have hn := h.lenEq
  obtain ⟨x', n', cap', hv, hn', hc', -⟩ := h.shapeN
  cases hv
  by_cases e : cap = i
  · rw [if_pos e]
    exact holds_dropIf szCe_cells h hi (Or.inr (by omega))
  · rw [if_neg e]
    exact holds_dropIf szCe_cells h hi (Or.inl rfl)
set_option maxHeartbeats 8000000 in
theorem l12Without (x : Option Addr) (n c : Nat) (L : List Cem) (k : Nat) (w : World) (h : HoldsK kCe.cells 6 w (.slice x n c) L) (hk : k < L.length) (hl : L.length ≤ 1100000) :
    Calls Tryz.prog 52 #[.slice x n c, .int .i64 k] w fun e w' => ∃ x' n' c', e = .returned (.slice x' n' c') ∧ OwnK 64 kCe.cells 6 w.heap.size w' (.slice x' n' c') (L.eraseIdx k) ∧ Below w.heap.size w w' := by
  have hnl := h.lenEq
  obtain ⟨x', n', cap', hv, hn', hc', -⟩ := h.shapeN
  cases hv
  obtain ⟨b, off, rfl, -⟩ := h.at szCe_cells hk
  have hT := h.take szCe_cells (i := k) (by omega)
  have hR := holds_rest2 (i := k + 1) h (by omega)
  have hbe := (Below.refl w.heap.size w).alloc (Nat.le_refl _) (.cells #[] 64)
  have hbd := hbe.drew
  have hE : OwnK 64 kCe.cells 6 w.heap.size (w.drew.alloc (.cells #[] 64)) (.slice (some ⟨w.heap.size, 0, none⟩) 0 0) [] := ownK_empty kCe.cells 6 64 w.drew
  have HE := Lib.hid hE
  have HT := Lib.hid (hT.on (show Below w.heap.size w (w.drew.alloc (.cells #[] 64)) from (Below.refl w.heap.size w).drew.alloc (Nat.le_refl _) _))
  have HR := Lib.hid hR
  have HBE := Lib.hid (show Below w.heap.size w (w.drew.alloc (.cells #[] 64)) from (Below.refl w.heap.size w).drew.alloc (Nat.le_refl _) _)
  have hkn : k < n := by omega
  have hkc : k ≤ c := by omega
  have hk1n : k + 1 ≤ n := by omega
  have hk1c : k + 1 ≤ c := by omega
  have u0 : (0 : Int) ≤ (k : Int) + 1 := by omega
  have u1 : (k : Int) + 1 ≤ (n : Int) := by omega
  have u2 : ((k : Int) + 1).toNat = k + 1 := by omega
  have HTL := Lib.hid (show (L.take k).length = k by rw [List.length_take]; omega); have HDL := Lib.hid (show (L.drop (k + 1)).length = n - (k + 1) by rw [List.length_drop]; omega)
  have hn11 : n ≤ 1100000 := by omega
  have hk11 : k ≤ 1100000 := by omega
  have hki : (k : Int) ≤ 1100000 := by omega
  have hk0 : (0 : Int) ≤ (k : Int) := by omega
  have hw : IntKind.i64.wrap ((k : Int) + 1) = ((k + 1 : Nat) : Int) := by rw [Go.IntWalk.i64_left, Go.IntWalk.wrap64_in _ (by omega)]; rfl
  have HNE := Lib.hid (show (if c = k + 1 then (some ⟨b, off, none⟩ : Option Addr) else some ⟨b, off + (k + 1) * 6, none⟩) ≠ none by split <;> simp)
  clear h hT hR hbe hbd hE hnl hn' hk hl
  go_enter Tryz.func52, Tryz.ntmps52
  go_wp2_with fail
  go_region_law (first | (refine step_appKx kindCe (B := w.heap.size) (l := [] ++ L.take k) (m := L.drop (k + 1)) rfl _ _ (by rfl) Tryz.underlying24 (by rfl) (by rfl) HNE.out HO1.out (HR.out.on HB1.out) (by rw [List.nil_append, HTL.out, HDL.out]; omega) (by rw [List.nil_append, HTL.out, HDL.out]; unfold maxLen; omega) HB1.out.size ?_; intro v5 w5 ho5 hg5; have HO2 := Lib.hid ho5; have HB2 := Lib.hid (HB1.out.grown hg5 HB1.out.size (fun g hg => (HO1.out.lt g hg).1)); clear ho5 hg5) | (refine step_appK kindCe (B := w.heap.size) (l := ([] : List Cem)) (m := L.take k) rfl _ _ (by rfl) Tryz.underlying24 (by rfl) (by rfl) HE.out HT.out (by rw [HTL.out]; simp; omega) (by rw [HTL.out]; unfold maxLen; simp; omega) HBE.out.size ?_; intro v4 w4 ho4 hg4; have HO1 := Lib.hid ho4; have HB1 := Lib.hid (HBE.out.grown hg4 HBE.out.size (fun g hg => (HE.out.lt g hg).1)); clear ho4 hg4))
  all_goals
    clear HR HNE
    generalize (if c = k + 1 then (some ⟨b, off, none⟩ : Option Addr) else some ⟨b, off + (k + 1) * 6, none⟩) = xo7
    obtain ⟨x5, n5, c5, rfl, -, -, ho5⟩ := HO2.out.shapeN
    have HO5 := Lib.hid ho5; clear ho5
    go_wp2_with fail
    go_ret
    exact ⟨x5, n5, c5, rfl, by rw [erase_parts]; simpa using HO5.out, HB2.out⟩
end Go.Proofs.YtfglcmanmfenpaaGreat.Row
