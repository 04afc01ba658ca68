/- Contracts and mathematics, joined: RingH, KRing, DrawR0. No conditions but those that each states. -/
import Derived.Test.YtnblopilgfdjkaaGreatB20
import Derived.Test.YtnblopilgfdjkaaGreatB15
import Derived.Test.YtnblopilgfdjkaaGreatB18
import Derived.Test.YtnblopilgfdjkaaGreatB12
/- Contracts of SignWithKey, the model's and the program's. No conditions but that lengths fit. -/
namespace Go.Proofs.YtnblopilgfdjkaaGreat.Row.Ring
open Go.ChangeShapes Go.WideShapes Go.ChangeAt Go.RowKit Go.Instr
set_option linter.unusedVariables false
set_option maxRecDepth 100000

theorem sgOk_zero {T : List (List ByteArray × Int)} {key n : List ByteArray} {b : List Int} {u r : Int} (hr : lkN T key = r) (h : (r == 0) = true) : sgOk T key n b u = false := by unfold sgOk; rw [hr, h]; rfl
theorem sgOk_val {T : List (List ByteArray × Int)} {key n : List ByteArray} {b : List Int} {u r M : Int} {z : Bool} (hr : lkN T key = r) (h : (r == 0) = false) (hM : Seal.mac r (portD (n, b, key, u, 0)) = M) (hz : validD (n, b, key, u, M) = z) : sgOk T key n b u = z ∧ sgX T key n b u = (n, b, key, u, M) := by
  have e : sgX T key n b u = (n, b, key, u, M) := by unfold sgX sgD; rw [hr, hM]
  refine ⟨?_, e⟩
  unfold sgOk
  rw [hr, h, e, hz]; rfl
theorem sgK_no {T : List (List ByteArray × Int)} {key n : List ByteArray} {b : List Int} {u : Int} (h : sgOk T key n b u = false) : sgK T key n b u = zD := by unfold sgK; rw [h]; rfl
theorem sgK_yes {T : List (List ByteArray × Int)} {key n : List ByteArray} {b : List Int} {u : Int} (h : sgOk T key n b u = true) : sgK T key n b u = sgX T key n b u := by unfold sgK; rw [h]; rfl

set_option maxHeartbeats 8000000 in
theorem specSignWithKey (v uk un vb : Value) (T : List (List ByteArray × Int)) (lk ln : List ByteArray) (lb : List Int) (u : Int) (w : World) (h : TabHolds w v T) (gk : Holds Value.string w uk lk) (gn : Holds Value.string w un ln) (gb : Sl.Holds .u8 w vb lb) (hB : Sl.Byt lb) (hl : T.length ≤ 4000000) (hT : smT T) (hk : bulk lk ≤ 1200000) (hn : bulk ln ≤ 1200000) (hlb : lb.length ≤ 1200000) :
    Calls Tryz.prog 7 #[v, .agg #[uk], .agg #[un], vb, .int .i64 u] w (GivesDB w (sgK T lk ln lb u) (sgOk T lk ln lb u)) := by
  obtain ⟨L, rfl, h⟩ := h
  obtain ⟨xl, nl, cl, rfl, -, -, hh⟩ := h.shapeN
  obtain ⟨xk, nk, ck, rfl, -, -, hk1⟩ := gk.shapeN
  obtain ⟨xn, nn, cn, rfl, -, -, hn1⟩ := gn.shapeN
  obtain ⟨xb, nb, cb, rfl, -, -, hb1⟩ := Holds.shapeN (enc := Value.int .u8) gb
  replace hb1 : Sl.Holds .u8 w (.slice xb nb cb) lb := hb1
  have ha := (Below.refl w.heap.size w).alloc (Nat.le_refl _) (.cells #[.slice xk nk ck] 27)
  have hb := ha.alloc (by simp) (.cells #[.slice xn nn cn] 27)
  have hc := hb.alloc (by simp <;> omega) (.cells (dc (.slice none 0 0) (.slice none 0 0) (.slice none 0 0) 0 0) 31)
  have HB := Lib.hid hc
  have HXK := Lib.hid (((Ret.Box.new w (.slice xk nk ck) 27).on ((Below.refl _ _).alloc (Nat.le_refl _) (.cells #[.slice xn nn cn] 27))).on ((Below.refl _ _).alloc (Nat.le_refl _) (.cells (dc (.slice none 0 0) (.slice none 0 0) (.slice none 0 0) 0 0) 31)))
  have HXN := Lib.hid ((Ret.Box.new' (w := w.alloc (.cells #[.slice xk nk ck] 27)) (.slice xn nn cn) 27 (n := w.heap.size + 1) (by simp)).on ((Below.refl _ _).alloc (Nat.le_refl _) (.cells (dc (.slice none 0 0) (.slice none 0 0) (.slice none 0 0) 0 0) 31)))
  have HR := Lib.hid (Ret.Blk.new' (w := (w.alloc (.cells #[.slice xk nk ck] 27)).alloc (.cells #[.slice xn nn cn] 27)) (n := w.heap.size + 2) (dc (.slice none 0 0) (.slice none 0 0) (.slice none 0 0) 0 0) 31 (by simp))
  have HS := Lib.hid (show (((w.alloc (.cells #[.slice xk nk ck] 27)).alloc (.cells #[.slice xn nn cn] 27)).alloc (.cells (dc (.slice none 0 0) (.slice none 0 0) (.slice none 0 0) 0 0) 31)).heap.size = w.heap.size + 3 by simp)
  have HH := Lib.hid (hh.on hc); have HK := Lib.hid (hk1.on hc); have HN := Lib.hid (hn1.on hc); have HBB := Lib.hid (hb1.on hc)
  have HL := Lib.hid (show (strip L).length ≤ 4000000 from hl); have HT := Lib.hid hT; have HKB := Lib.hid (show bulk lk ≤ 9000000 by omega); have HBY := Lib.hid hB
  have HSM := Lib.hid (show smD (ln, lb, lk, u, 0) from ⟨hn, hlb, hk⟩)
  have HK1 := Lib.hid hk; have HN1 := Lib.hid hn
  obtain ⟨r, hr⟩ : ∃ r, lkN (strip L) lk = r := ⟨_, rfl⟩
  obtain ⟨M, hM⟩ : ∃ M, Seal.mac r (portD (ln, lb, lk, u, 0)) = M := ⟨_, rfl⟩
  obtain ⟨z, hz⟩ : ∃ z, validD (ln, lb, lk, u, M) = z := ⟨_, rfl⟩
  have HRR := Lib.hid hr; have HM := Lib.hid hM; have HZ := Lib.hid hz
  clear ha hb hc hh hk1 hn1 hb1 h gk gn gb hB hl hT hk hn hlb hr hM hz
  go_enter Tryz.func7, Tryz.ntmps7
  go_wp2_with fail
  refine signR1 HH HK HN HBB HL HT HKB HBY HSM HRR HM (Lib.hid HXK.out.cell) (Lib.hid HXN.out.cell) ?_
  intro u13 u14 u15 u16 u17 u18 u19 u20 u21 gD ma da mb db mc dc_ ya yb yc w2 hgd hxd hd hb2
  have hs0 : (((w.alloc (.cells #[.slice xk nk ck] 27)).alloc (.cells #[.slice xn nn cn] 27)).alloc (.cells (#[.slice none 0 0, .slice none 0 0, .slice none 0 0, .int .i64 0, .int .i64 0]) 31)).heap.size = w.heap.size + 3 := by simp
  have hs2 := hb2.size
  have hg3 : w.heap.size + 3 ≤ gD := by omega
  have HX := Lib.hid (show Ret.Blk ((((((w2).setCell ⟨gD, 0, none⟩ (.slice ya ma da)).setCell ⟨gD, 1, none⟩ (.slice yb mb db)).setCell ⟨gD, 2, none⟩ (.slice yc mc dc_)).setCell ⟨gD, 3, none⟩ (.int .i64 u)).setCell ⟨gD, 4, none⟩ (.int .i64 M)) gD (dc (.slice ya ma da) (.slice yb mb db) (.slice yc mc dc_) u M) 31 from blk_five hxd)
  have HD := Lib.hid (show DOwn w.heap.size ((((((w2).setCell ⟨gD, 0, none⟩ (.slice ya ma da)).setCell ⟨gD, 1, none⟩ (.slice yb mb db)).setCell ⟨gD, 2, none⟩ (.slice yc mc dc_)).setCell ⟨gD, 3, none⟩ (.int .i64 u)).setCell ⟨gD, 4, none⟩ (.int .i64 M)) (.slice ya ma da) (.slice yb mb db) (.slice yc mc dc_) (ln, lb, lk, u, M) from (hd.mono (by omega)).five hxd)
  replace HXK := Lib.hid (show Ret.Box ((((((w2).setCell ⟨gD, 0, none⟩ (.slice ya ma da)).setCell ⟨gD, 1, none⟩ (.slice yb mb db)).setCell ⟨gD, 2, none⟩ (.slice yc mc dc_)).setCell ⟨gD, 3, none⟩ (.int .i64 u)).setCell ⟨gD, 4, none⟩ (.int .i64 M)) w.heap.size (.slice xk nk ck) 27 from box_five (HXK.out.on hb2) (by omega))
  replace HR := Lib.hid (show Ret.Blk ((((((w2).setCell ⟨gD, 0, none⟩ (.slice ya ma da)).setCell ⟨gD, 1, none⟩ (.slice yb mb db)).setCell ⟨gD, 2, none⟩ (.slice yc mc dc_)).setCell ⟨gD, 3, none⟩ (.int .i64 u)).setCell ⟨gD, 4, none⟩ (.int .i64 M)) (w.heap.size + 2) (dc (.slice none 0 0) (.slice none 0 0) (.slice none 0 0) 0 0) 31 from blk_five_other (HR.out.on hb2) (by omega))
  have HBW := Lib.hid (show Below (((w.alloc (.cells #[.slice xk nk ck] 27)).alloc (.cells #[.slice xn nn cn] 27)).alloc (.cells (#[.slice none 0 0, .slice none 0 0, .slice none 0 0, .int .i64 0, .int .i64 0]) 31)).heap.size (((w.alloc (.cells #[.slice xk nk ck] 27)).alloc (.cells #[.slice xn nn cn] 27)).alloc (.cells (#[.slice none 0 0, .slice none 0 0, .slice none 0 0, .int .i64 0, .int .i64 0]) 31)) ((((((w2).setCell ⟨gD, 0, none⟩ (.slice ya ma da)).setCell ⟨gD, 1, none⟩ (.slice yb mb db)).setCell ⟨gD, 2, none⟩ (.slice yc mc dc_)).setCell ⟨gD, 3, none⟩ (.int .i64 u)).setCell ⟨gD, 4, none⟩ (.int .i64 M)) from below_five hb2 hgd)
  have HSZ := Lib.hid (show w.heap.size + 3 ≤ ((((((w2).setCell ⟨gD, 0, none⟩ (.slice ya ma da)).setCell ⟨gD, 1, none⟩ (.slice yb mb db)).setCell ⟨gD, 2, none⟩ (.slice yc mc dc_)).setCell ⟨gD, 3, none⟩ (.int .i64 u)).setCell ⟨gD, 4, none⟩ (.int .i64 M)).heap.size from by have h1 := HBW.out.size; omega)
  replace HB := Lib.hid (HB.out.trans (HBW.out.mono (by omega)))
  replace HH := Lib.hid (HH.out.on HBW.out); replace HK := Lib.hid (HK.out.on HBW.out)
  clear hgd hxd hd hb2 hs0 hs2 hg3 HBW HS HN HBB HXN
  generalize ((((((w2).setCell ⟨gD, 0, none⟩ (.slice ya ma da)).setCell ⟨gD, 1, none⟩ (.slice yb mb db)).setCell ⟨gD, 2, none⟩ (.slice yc mc dc_)).setCell ⟨gD, 3, none⟩ (.int .i64 u)).setCell ⟨gD, 4, none⟩ (.int .i64 M)) = w3 at *
  have hxk := HXK.out.cell
  go_wp2_with fail
  refine (secV r HRR.out ⟨L, rfl, HH.out⟩ HK.out HL.out HT.out HKB.out).mono ?_
  rintro e w4 ⟨rfl, hb4⟩
  have HSZ4 := Lib.hid (show w.heap.size + 3 ≤ w4.heap.size from by have h1 := HSZ.out; have h2 := hb4.size; omega)
  replace HX := Lib.hid (HX.out.on hb4); replace HD := Lib.hid (HD.out.on hb4); replace HR := Lib.hid (HR.out.on hb4)
  replace HB := Lib.hid (HB.out.trans (hb4.mono HB.out.size))
  clear hb4 hxk HSZ HXK HH HK
  by_cases hr0 : r = 0
  · have ht : (r == 0) = true := by simpa using hr0
    have HOK := Lib.hid (sgOk_zero (n := ln) (b := lb) (u := u) HRR.out ht)
    clear hr0
    obtain ⟨r0, r1, r2, r3, r4⟩ := cells5 HR.out
    obtain ⟨t0, t1, t2, t3, t4⟩ := froz5 HR.out
    have Z1 := Lib.hid (show Ret.Blk ((((((w4).setCell ⟨w.heap.size + 2, 0, none⟩ (.slice none 0 0)).setCell ⟨w.heap.size + 2, 1, none⟩ (.slice none 0 0)).setCell ⟨w.heap.size + 2, 2, none⟩ (.slice none 0 0)).setCell ⟨w.heap.size + 2, 3, none⟩ (.int .i64 0)).setCell ⟨w.heap.size + 2, 4, none⟩ (.int .i64 0)) (w.heap.size + 2) (dc (.slice none 0 0) (.slice none 0 0) (.slice none 0 0) 0 0) 31 from blk_five HR.out)
    have Z2 := Lib.hid (show Below w.heap.size w ((((((w4).setCell ⟨w.heap.size + 2, 0, none⟩ (.slice none 0 0)).setCell ⟨w.heap.size + 2, 1, none⟩ (.slice none 0 0)).setCell ⟨w.heap.size + 2, 2, none⟩ (.slice none 0 0)).setCell ⟨w.heap.size + 2, 3, none⟩ (.int .i64 0)).setCell ⟨w.heap.size + 2, 4, none⟩ (.int .i64 0)) from below_five HB.out (by omega))
    clear HR
    go_wp2_with fail
    refine bodyPost_ret (Ret.results_ct rfl _ _ (w.heap.size + 2) (dc (.slice none 0 0) (.slice none 0 0) (.slice none 0 0) 0 0).toList rfl aggD Z1.out.cells) rfl ?_
    rw [HOK.out, sgK_no HOK.out]
    exact ⟨nil, nil, nil, rfl, dOwn_zero _ _, Z2.out⟩
  · have ht : (r == 0) = false := by simpa using hr0
    have HOKX := Lib.hid (sgOk_val HRR.out ht HM.out HZ.out)
    obtain ⟨s0, s1, s2, s3, s4⟩ := cells5 HX.out
    clear hr0
    go_wp2_with fail
    refine (specValidData _ _ _ (ln, lb, lk, u, M) _ HD.out.hold (Nat.le_trans HN1.out (by decide)) (Nat.le_trans HK1.out (by decide))).mono ?_
    rintro e w5 ⟨rfl, hb5⟩
    rw [HZ.out]
    replace HX := Lib.hid (HX.out.on hb5); replace HD := Lib.hid (HD.out.on hb5); replace HR := Lib.hid (HR.out.on hb5)
    replace HB := Lib.hid (HB.out.trans (hb5.mono HB.out.size))
    clear hb5 s0 s1 s2 s3 s4
    cases z with
    | false =>
      have HOK := Lib.hid HOKX.out.1
      obtain ⟨r0, r1, r2, r3, r4⟩ := cells5 HR.out
      obtain ⟨t0, t1, t2, t3, t4⟩ := froz5 HR.out
      have Z1 := Lib.hid (show Ret.Blk ((((((w5).setCell ⟨w.heap.size + 2, 0, none⟩ (.slice none 0 0)).setCell ⟨w.heap.size + 2, 1, none⟩ (.slice none 0 0)).setCell ⟨w.heap.size + 2, 2, none⟩ (.slice none 0 0)).setCell ⟨w.heap.size + 2, 3, none⟩ (.int .i64 0)).setCell ⟨w.heap.size + 2, 4, none⟩ (.int .i64 0)) (w.heap.size + 2) (dc (.slice none 0 0) (.slice none 0 0) (.slice none 0 0) 0 0) 31 from blk_five HR.out)
      have Z2 := Lib.hid (show Below w.heap.size w ((((((w5).setCell ⟨w.heap.size + 2, 0, none⟩ (.slice none 0 0)).setCell ⟨w.heap.size + 2, 1, none⟩ (.slice none 0 0)).setCell ⟨w.heap.size + 2, 2, none⟩ (.slice none 0 0)).setCell ⟨w.heap.size + 2, 3, none⟩ (.int .i64 0)).setCell ⟨w.heap.size + 2, 4, none⟩ (.int .i64 0)) from below_five HB.out (by omega))
      clear HR
      go_wp2_with fail
      refine bodyPost_ret (Ret.results_ct rfl _ _ (w.heap.size + 2) (dc (.slice none 0 0) (.slice none 0 0) (.slice none 0 0) 0 0).toList rfl aggD Z1.out.cells) rfl ?_
      rw [HOK.out, sgK_no HOK.out]
      exact ⟨nil, nil, nil, rfl, dOwn_zero _ _, Z2.out⟩
    | true =>
      have HOK := Lib.hid HOKX.out.1; have HSX := Lib.hid HOKX.out.2
      obtain ⟨r0, r1, r2, r3, r4⟩ := cells5 HR.out
      obtain ⟨t0, t1, t2, t3, t4⟩ := froz5 HR.out
      have Z1 := Lib.hid (show Ret.Blk ((((((w5).setCell ⟨w.heap.size + 2, 0, none⟩ (.slice ya ma da)).setCell ⟨w.heap.size + 2, 1, none⟩ (.slice yb mb db)).setCell ⟨w.heap.size + 2, 2, none⟩ (.slice yc mc dc_)).setCell ⟨w.heap.size + 2, 3, none⟩ (.int .i64 u)).setCell ⟨w.heap.size + 2, 4, none⟩ (.int .i64 M)) (w.heap.size + 2) (dc (.slice ya ma da) (.slice yb mb db) (.slice yc mc dc_) u M) 31 from blk_five HR.out)
      have Z2 := Lib.hid (show Below w.heap.size w ((((((w5).setCell ⟨w.heap.size + 2, 0, none⟩ (.slice ya ma da)).setCell ⟨w.heap.size + 2, 1, none⟩ (.slice yb mb db)).setCell ⟨w.heap.size + 2, 2, none⟩ (.slice yc mc dc_)).setCell ⟨w.heap.size + 2, 3, none⟩ (.int .i64 u)).setCell ⟨w.heap.size + 2, 4, none⟩ (.int .i64 M)) from below_five HB.out (by omega))
      have Z3 := Lib.hid (show DOwn w.heap.size ((((((w5).setCell ⟨w.heap.size + 2, 0, none⟩ (.slice ya ma da)).setCell ⟨w.heap.size + 2, 1, none⟩ (.slice yb mb db)).setCell ⟨w.heap.size + 2, 2, none⟩ (.slice yc mc dc_)).setCell ⟨w.heap.size + 2, 3, none⟩ (.int .i64 u)).setCell ⟨w.heap.size + 2, 4, none⟩ (.int .i64 M)) (.slice ya ma da) (.slice yb mb db) (.slice yc mc dc_) (ln, lb, lk, u, M) from HD.out.five HR.out)
      obtain ⟨s0, s1, s2, s3, s4⟩ := cells5 HX.out
      clear HR
      clear HX
      go_wp2_with fail
      refine bodyPost_ret (Ret.results_ct rfl _ _ (w.heap.size + 2) (dc (.slice ya ma da) (.slice yb mb db) (.slice yc mc dc_) u M).toList rfl aggD Z1.out.cells) rfl ?_
      rw [HOK.out, sgK_yes HOK.out, HSX.out]
      exact ⟨_, _, _, rfl, Z3.out, Z2.out⟩

set_option maxHeartbeats 8000000 in
theorem implSignWithKey (v uk un vb : Value) (T : List (List ByteArray × Int)) (lk ln : List ByteArray) (lb : List Int) (u : Int) (w : World) (h : TabHolds w v T) (gk : Holds Value.string w uk lk) (gn : Holds Value.string w un ln) (gb : Sl.Holds .u8 w vb lb) (hB : Sl.Byt lb) (hl : T.length ≤ 4000000) (hT : smT T) (hk : bulk lk ≤ 1200000) (hn : bulk ln ≤ 1200000) (hlb : lb.length ≤ 1200000) :
    Calls Tryz.prog 6 #[v, .agg #[uk], .agg #[un], vb, .int .i64 u] w (GivesDB w (sgK T lk ln lb u) (sgOk T lk ln lb u)) := by
  obtain ⟨L, rfl, h⟩ := h
  obtain ⟨xl, nl, cl, rfl, -, -, hh⟩ := h.shapeN
  obtain ⟨xk, nk, ck, rfl, -, -, hk1⟩ := gk.shapeN
  obtain ⟨xn, nn, cn, rfl, -, -, hn1⟩ := gn.shapeN
  obtain ⟨xb, nb, cb, rfl, -, -, hb1⟩ := Holds.shapeN (enc := Value.int .u8) gb
  replace hb1 : Sl.Holds .u8 w (.slice xb nb cb) lb := hb1
  have ha := (Below.refl w.heap.size w).alloc (Nat.le_refl _) (.cells #[.slice xk nk ck] 27)
  have hb := ha.alloc (by simp) (.cells #[.slice xn nn cn] 27)
  have hc := hb.alloc (by simp <;> omega) (.cells (dc (.slice none 0 0) (.slice none 0 0) (.slice none 0 0) 0 0) 31)
  have HB := Lib.hid hc
  have HXK := Lib.hid (((Ret.Box.new w (.slice xk nk ck) 27).on ((Below.refl _ _).alloc (Nat.le_refl _) (.cells #[.slice xn nn cn] 27))).on ((Below.refl _ _).alloc (Nat.le_refl _) (.cells (dc (.slice none 0 0) (.slice none 0 0) (.slice none 0 0) 0 0) 31)))
  have HXN := Lib.hid ((Ret.Box.new' (w := w.alloc (.cells #[.slice xk nk ck] 27)) (.slice xn nn cn) 27 (n := w.heap.size + 1) (by simp)).on ((Below.refl _ _).alloc (Nat.le_refl _) (.cells (dc (.slice none 0 0) (.slice none 0 0) (.slice none 0 0) 0 0) 31)))
  have HR := Lib.hid (Ret.Blk.new' (w := (w.alloc (.cells #[.slice xk nk ck] 27)).alloc (.cells #[.slice xn nn cn] 27)) (n := w.heap.size + 2) (dc (.slice none 0 0) (.slice none 0 0) (.slice none 0 0) 0 0) 31 (by simp))
  have HS := Lib.hid (show (((w.alloc (.cells #[.slice xk nk ck] 27)).alloc (.cells #[.slice xn nn cn] 27)).alloc (.cells (dc (.slice none 0 0) (.slice none 0 0) (.slice none 0 0) 0 0) 31)).heap.size = w.heap.size + 3 by simp)
  have HH := Lib.hid (hh.on hc); have HK := Lib.hid (hk1.on hc); have HN := Lib.hid (hn1.on hc); have HBB := Lib.hid (hb1.on hc)
  have HL := Lib.hid (show (strip L).length ≤ 4000000 from hl); have HT := Lib.hid hT; have HKB := Lib.hid (show bulk lk ≤ 9000000 by omega); have HBY := Lib.hid hB
  have HSM := Lib.hid (show smD (ln, lb, lk, u, 0) from ⟨hn, hlb, hk⟩)
  have HK1 := Lib.hid hk; have HN1 := Lib.hid hn
  obtain ⟨r, hr⟩ : ∃ r, lkN (strip L) lk = r := ⟨_, rfl⟩
  obtain ⟨M, hM⟩ : ∃ M, Seal.mac r (portD (ln, lb, lk, u, 0)) = M := ⟨_, rfl⟩
  obtain ⟨z, hz⟩ : ∃ z, validD (ln, lb, lk, u, M) = z := ⟨_, rfl⟩
  have HRR := Lib.hid hr; have HM := Lib.hid hM; have HZ := Lib.hid hz
  clear ha hb hc hh hk1 hn1 hb1 h gk gn gb hB hl hT hk hn hlb hr hM hz
  go_enter Tryz.func6, Tryz.ntmps6
  have hxk := HXK.out.cell
  go_wp2_with fail
  refine (isecV r HRR.out ⟨L, rfl, HH.out⟩ HK.out HL.out HT.out HKB.out).mono ?_
  rintro e w1 ⟨rfl, hb1⟩
  have HSZ1 := Lib.hid (show w.heap.size + 3 ≤ w1.heap.size from by have h1 := HS.out; have h2 := hb1.size; omega)
  replace HXK := Lib.hid (HXK.out.on hb1); replace HXN := Lib.hid (HXN.out.on hb1); replace HR := Lib.hid (HR.out.on hb1)
  have HD0 := Lib.hid (show DHold w1 (.slice xn nn cn) (.slice xb nb cb) (.slice xk nk ck) (ln, lb, lk, u, 0) from ⟨HN.out.on hb1, HBB.out.on hb1, HK.out.on hb1⟩)
  replace HB := Lib.hid (HB.out.trans (hb1.mono HB.out.size))
  clear hb1 hxk HS HH HK HN HBB
  by_cases hr0 : r = 0
  · have ht : (r == 0) = true := by simpa using hr0
    have HOK := Lib.hid (sgOk_zero (n := ln) (b := lb) (u := u) HRR.out ht)
    clear hr0
    obtain ⟨r0, r1, r2, r3, r4⟩ := cells5 HR.out
    obtain ⟨t0, t1, t2, t3, t4⟩ := froz5 HR.out
    have Z1 := Lib.hid (show Ret.Blk ((((((w1).setCell ⟨w.heap.size + 2, 0, none⟩ (.slice none 0 0)).setCell ⟨w.heap.size + 2, 1, none⟩ (.slice none 0 0)).setCell ⟨w.heap.size + 2, 2, none⟩ (.slice none 0 0)).setCell ⟨w.heap.size + 2, 3, none⟩ (.int .i64 0)).setCell ⟨w.heap.size + 2, 4, none⟩ (.int .i64 0)) (w.heap.size + 2) (dc (.slice none 0 0) (.slice none 0 0) (.slice none 0 0) 0 0) 31 from blk_five HR.out)
    have Z2 := Lib.hid (show Below w.heap.size w ((((((w1).setCell ⟨w.heap.size + 2, 0, none⟩ (.slice none 0 0)).setCell ⟨w.heap.size + 2, 1, none⟩ (.slice none 0 0)).setCell ⟨w.heap.size + 2, 2, none⟩ (.slice none 0 0)).setCell ⟨w.heap.size + 2, 3, none⟩ (.int .i64 0)).setCell ⟨w.heap.size + 2, 4, none⟩ (.int .i64 0)) from below_five HB.out (by omega))
    clear HR
    go_wp2_with fail
    refine bodyPost_ret (Ret.results_ct rfl _ _ (w.heap.size + 2) (dc (.slice none 0 0) (.slice none 0 0) (.slice none 0 0) 0 0).toList rfl aggD Z1.out.cells) rfl ?_
    rw [HOK.out, sgK_no HOK.out]
    exact ⟨nil, nil, nil, rfl, dOwn_zero _ _, Z2.out⟩
  · have ht : (r == 0) = false := by simpa using hr0
    have HOKX := Lib.hid (sgOk_val HRR.out ht HM.out HZ.out)
    have hxk := HXK.out.cell; have hxn := HXN.out.cell
    clear hr0
    go_wp2_with fail
    refine (implSignV M HM.out HD0.out HBY.out HSM.out).mono ?_
    rintro e w2 ⟨ya, ma, da, yb, mb, db, yc, mc, dc_, rfl, hd, hb2⟩
    have hal := (Below.refl w2.heap.size w2).alloc (Nat.le_refl _) (.cells (dc (.slice ya ma da) (.slice yb mb db) (.slice yc mc dc_) u M) 31)
    have HSZ2 := Lib.hid (show w.heap.size + 3 ≤ w2.heap.size from by have h1 := HSZ1.out; have h2 := hb2.size; omega)
    have HX := Lib.hid (Ret.Blk.new w2 (dc (.slice ya ma da) (.slice yb mb db) (.slice yc mc dc_) u M) 31)
    have HD := Lib.hid (show DOwn w.heap.size (w2.alloc (.cells (dc (.slice ya ma da) (.slice yb mb db) (.slice yc mc dc_) u M) 31)) (.slice ya ma da) (.slice yb mb db) (.slice yc mc dc_) (ln, lb, lk, u, M) from (hd.mono (by have h1 := HSZ1.out; omega)).on hal)
    replace HR := Lib.hid ((HR.out.on hb2).on hal)
    replace HB := Lib.hid ((HB.out.trans (hb2.mono HB.out.size)).trans (hal.mono (by have h1 := HSZ2.out; omega)))
    have HSZ3 := Lib.hid (show w.heap.size + 3 ≤ (w2.alloc (.cells (dc (.slice ya ma da) (.slice yb mb db) (.slice yc mc dc_) u M) 31)).heap.size from by rw [World.size_alloc]; have h1 := HSZ2.out; omega)
    obtain ⟨s0, s1, s2, s3, s4⟩ := cells5 HX.out
    clear hd hb2 hal hxk hxn HD0 HXK HXN HSZ1
    go_wp2_with fail
    refine (implValidData _ _ _ (ln, lb, lk, u, M) _ HD.out.hold (Nat.le_trans HN1.out (by decide)) (Nat.le_trans HK1.out (by decide))).mono ?_
    rintro e w5 ⟨rfl, hb5⟩
    rw [HZ.out]
    replace HX := Lib.hid (HX.out.on hb5); replace HD := Lib.hid (HD.out.on hb5); replace HR := Lib.hid (HR.out.on hb5)
    replace HB := Lib.hid (HB.out.trans (hb5.mono HB.out.size))
    clear hb5 s0 s1 s2 s3 s4
    cases z with
    | false =>
      have HOK := Lib.hid HOKX.out.1
      obtain ⟨r0, r1, r2, r3, r4⟩ := cells5 HR.out
      obtain ⟨t0, t1, t2, t3, t4⟩ := froz5 HR.out
      have Z1 := Lib.hid (show Ret.Blk ((((((w5).setCell ⟨w.heap.size + 2, 0, none⟩ (.slice none 0 0)).setCell ⟨w.heap.size + 2, 1, none⟩ (.slice none 0 0)).setCell ⟨w.heap.size + 2, 2, none⟩ (.slice none 0 0)).setCell ⟨w.heap.size + 2, 3, none⟩ (.int .i64 0)).setCell ⟨w.heap.size + 2, 4, none⟩ (.int .i64 0)) (w.heap.size + 2) (dc (.slice none 0 0) (.slice none 0 0) (.slice none 0 0) 0 0) 31 from blk_five HR.out)
      have Z2 := Lib.hid (show Below w.heap.size w ((((((w5).setCell ⟨w.heap.size + 2, 0, none⟩ (.slice none 0 0)).setCell ⟨w.heap.size + 2, 1, none⟩ (.slice none 0 0)).setCell ⟨w.heap.size + 2, 2, none⟩ (.slice none 0 0)).setCell ⟨w.heap.size + 2, 3, none⟩ (.int .i64 0)).setCell ⟨w.heap.size + 2, 4, none⟩ (.int .i64 0)) from below_five HB.out (by omega))
      clear HR
      go_wp2_with fail
      refine bodyPost_ret (Ret.results_ct rfl _ _ (w.heap.size + 2) (dc (.slice none 0 0) (.slice none 0 0) (.slice none 0 0) 0 0).toList rfl aggD Z1.out.cells) rfl ?_
      rw [HOK.out, sgK_no HOK.out]
      exact ⟨nil, nil, nil, rfl, dOwn_zero _ _, Z2.out⟩
    | true =>
      have HOK := Lib.hid HOKX.out.1; have HSX := Lib.hid HOKX.out.2
      obtain ⟨r0, r1, r2, r3, r4⟩ := cells5 HR.out
      obtain ⟨t0, t1, t2, t3, t4⟩ := froz5 HR.out
      have Z1 := Lib.hid (show Ret.Blk ((((((w5).setCell ⟨w.heap.size + 2, 0, none⟩ (.slice ya ma da)).setCell ⟨w.heap.size + 2, 1, none⟩ (.slice yb mb db)).setCell ⟨w.heap.size + 2, 2, none⟩ (.slice yc mc dc_)).setCell ⟨w.heap.size + 2, 3, none⟩ (.int .i64 u)).setCell ⟨w.heap.size + 2, 4, none⟩ (.int .i64 M)) (w.heap.size + 2) (dc (.slice ya ma da) (.slice yb mb db) (.slice yc mc dc_) u M) 31 from blk_five HR.out)
      have Z2 := Lib.hid (show Below w.heap.size w ((((((w5).setCell ⟨w.heap.size + 2, 0, none⟩ (.slice ya ma da)).setCell ⟨w.heap.size + 2, 1, none⟩ (.slice yb mb db)).setCell ⟨w.heap.size + 2, 2, none⟩ (.slice yc mc dc_)).setCell ⟨w.heap.size + 2, 3, none⟩ (.int .i64 u)).setCell ⟨w.heap.size + 2, 4, none⟩ (.int .i64 M)) from below_five HB.out (by omega))
      have Z3 := Lib.hid (show DOwn w.heap.size ((((((w5).setCell ⟨w.heap.size + 2, 0, none⟩ (.slice ya ma da)).setCell ⟨w.heap.size + 2, 1, none⟩ (.slice yb mb db)).setCell ⟨w.heap.size + 2, 2, none⟩ (.slice yc mc dc_)).setCell ⟨w.heap.size + 2, 3, none⟩ (.int .i64 u)).setCell ⟨w.heap.size + 2, 4, none⟩ (.int .i64 M)) (.slice ya ma da) (.slice yb mb db) (.slice yc mc dc_) (ln, lb, lk, u, M) from HD.out.five HR.out)
      obtain ⟨s0, s1, s2, s3, s4⟩ := cells5 HX.out
      clear HR
      clear HX
      go_wp2_with fail
      refine bodyPost_ret (Ret.results_ct rfl _ _ (w.heap.size + 2) (dc (.slice ya ma da) (.slice yb mb db) (.slice yc mc dc_) u M).toList rfl aggD Z1.out.cells) rfl ?_
      rw [HOK.out, sgK_yes HOK.out, HSX.out]
      exact ⟨_, _, _, rfl, Z3.out, Z2.out⟩
end Go.Proofs.YtnblopilgfdjkaaGreat.Row.Ring
/- Lists of keys, and a key, in the words of the exact laws; chapter 9's functions, the model's and the program's, in these words. No conditions but that lengths fit. -/
namespace Go.Proofs.YtnblopilgfdjkaaGreat.Row.Ring
open Go.ChangeShapes Go.WideShapes Go.ChangeAt Go.RowKit Go.Instr
set_option linter.unusedVariables false
set_option maxRecDepth 100000

abbrev Kt := List (List ByteArray × Int)
def kK.At (w : World) (V : Value) (T : Kt) : Prop := TabHolds w V T
def kK.In (B E : Nat) (w : World) (V : Value) (T : Kt) : Prop := TabIn B E w V T
section
variable {B E B' E' : Nat} {w w' : World} {V : Value} {T : Kt}
theorem kK.At.on (h : kK.At w V T) (hb : Below w.heap.size w w') : kK.At w' V T := TabHolds.on h hb
theorem kK.In.on (h : kK.In B E w V T) (hb : Below w.heap.size w w') : kK.In B E w' V T := TabIn.on h hb
theorem kK.In.at (h : kK.In B E w V T) : kK.At w V T := TabIn.holds h
theorem kK_shape (h : kK.In B E w V T) : ∃ x n c, V = .slice x n c ∧ kK.In B E w (.slice x n c) T := by
  obtain ⟨x, n, c, rfl, -, -, -⟩ := (TabIn.holds h).shapeN
  exact ⟨x, n, c, rfl, h⟩
theorem kK_shapeA (h : kK.At w V T) : ∃ x n c, V = .slice x n c ∧ kK.At w (.slice x n c) T := by
  obtain ⟨x, n, c, rfl, -, -, h⟩ := TabHolds.shapeN h
  exact ⟨x, n, c, rfl, h⟩
end
/-! ### a key -/
abbrev K1 := List ByteArray × Int
def k1.At (w : World) (V : Value) (x : K1) : Prop := ∃ v, V = .agg #[v, .int .i64 x.2] ∧ Holds Value.string w v x.1
def k1.In (B E : Nat) (w : World) (V : Value) (x : K1) : Prop := ∃ v, V = .agg #[v, .int .i64 x.2] ∧ Own 9 Value.string B w v x.1 ∧ ∀ g, v.ownBlock = some g → g < E
section
variable {B E B' E' : Nat} {w w' : World} {V : Value} {x : K1}
theorem k1.At.on (h : k1.At w V x) (hb : Below w.heap.size w w') : k1.At w' V x := by
  obtain ⟨v, rfl, h⟩ := h
  exact ⟨v, rfl, h.on hb⟩
theorem k1.In.on (h : k1.In B E w V x) (hb : Below w.heap.size w w') : k1.In B E w' V x := by
  obtain ⟨v, rfl, h, h1⟩ := h
  exact ⟨v, rfl, h.on hb, h1⟩
theorem k1.In.at (h : k1.In B E w V x) : k1.At w V x := by
  obtain ⟨v, rfl, h, h1⟩ := h
  exact ⟨v, rfl, h.holds⟩
theorem k1_shapeA (h : k1.At w V x) : ∃ y n c, V = .agg #[.slice y n c, .int .i64 x.2] ∧ k1.At w (.agg #[.slice y n c, .int .i64 x.2]) x := by
  obtain ⟨v, rfl, h⟩ := h
  obtain ⟨y, n, c, rfl, -⟩ := h.shapeN
  exact ⟨y, n, c, rfl, _, rfl, h⟩
end
def WfK1 (x : K1) : Prop := (∀ y ∈ x.1, y.size ≤ maxLen) ∧ (Lit.int .i64 x.2).wf = true
def mk1 (k : Int) (x : K1) : K1 := (marks markT k x.1.length, x.2)
/-! ### the functions -/
theorem len_bulkT {T : Kt} (h : bulkT T ≤ 1200000) : T.length ≤ 3000000 := by have := bulkT_len T; omega
theorem sm_bulkT {T : Kt} (h : bulkT T ≤ 1200000) : smT T := smT_of (by omega)
theorem of_ring {w : World} {V : Value} {T : Kt} {B : Nat} (h : TabOwn B w V T) : kK.In B w.heap.size w V T := TabIn.of h
theorem specValidKeysK (V : Value) (T : Kt) (w : World) (h : kK.At w V T) (hl : bulkT T ≤ 1200000) :
    Calls Tryz.prog 23 #[V] w fun e w' => e = .returned (.bool (validK T)) ∧ Below w.heap.size w w' := specValidKeys V T w h (Nat.le_trans (len_bulkT hl) (by decide)) (sm_bulkT hl)
theorem specSecretOfK (V U : Value) (T : Kt) (m : List ByteArray) (w : World) (h : kK.At w V T) (g : kN.At w U m) (hl : bulkT T ≤ 1200000) (hm : bulk m ≤ 1200000) :
    Calls Tryz.prog 21 #[V, U] w fun e w' => e = .returned (.int .i64 (lkN T m)) ∧ Below w.heap.size w w' := by
  obtain ⟨v, rfl, g9⟩ := kN_at g
  exact specSecretOf V v T m w h g9 (Nat.le_trans (len_bulkT hl) (by decide)) (sm_bulkT hl) (by omega)
theorem specSignWithKeyK (V U1 U2 U3 : Value) (T : Kt) (lk ln : List ByteArray) (lb : List Int) (u : Int) (w : World) (h : kK.At w V T) (g1 : kN.At w U1 lk) (g2 : kN.At w U2 ln) (g3 : kB.At w U3 lb) (hB : Sl.Byt lb) (hl : bulkT T ≤ 1200000) (h1 : bulk lk ≤ 1200000) (h2 : bulk ln ≤ 1200000) (h3 : lb.length ≤ 1200000) :
    Calls Tryz.prog 7 #[V, U1, U2, U3, .int .i64 u] w fun e w' => ∃ X, e = .returned (.tuple #[X, .bool (sgOk T lk ln lb u)]) ∧ kD.In w.heap.size w'.heap.size w' X (sgK T lk ln lb u) ∧ Below w.heap.size w w' := by
  obtain ⟨v1, rfl, g8⟩ := kN_at g1
  obtain ⟨v2, rfl, g9⟩ := kN_at g2
  exact giveDB (specSignWithKey V v1 v2 U3 T lk ln lb u w h g8 g9 (kS_at g3) hB (Nat.le_trans (len_bulkT hl) (by decide)) (sm_bulkT hl) h1 h2 h3)
theorem specVerifySignatureK (V U : Value) (T : Kt) (x : Dt) (w : World) (h : kK.At w V T) (g : kD.At w U x) (gn : WfD x) (hl : bulkT T ≤ 1200000) (hx : bulkD x ≤ 1200000) :
    Calls Tryz.prog 15 #[V, U] w fun e w' => e = .returned (.bool (verD (lkN T x.2.2.1) x)) ∧ Below w.heap.size w w' := specVerifySignature V U T x w h g gn (Nat.le_trans (len_bulkT hl) (by decide)) (sm_bulkT hl) hx
theorem specMatchingKeysK (V U : Value) (T : Kt) (x : Dt) (w : World) (h : kK.At w V T) (g : kD.At w U x) (gn : WfD x) (hl : bulkT T ≤ 1200000) (hx : bulkD x ≤ 1200000) :
    Calls Tryz.prog 18 #[V, U] w fun e w' => ∃ U, e = .returned U ∧ kI.In w.heap.size w'.heap.size w' U (matK T x) ∧ Below w.heap.size w w' := giveI (specMatchingKeys V U T x w h g gn (Nat.le_trans (len_bulkT hl) (by decide)) (sm_bulkT hl) hx)
theorem specAddKeyK (V U : Value) (T : Kt) (x : K1) (w : World) (h : kK.At w V T) (g : k1.At w U x) (hl : bulkT T ≤ 1200000) (hx : bulk x.1 ≤ 1200000) :
    Calls Tryz.prog 11 #[V, U] w fun e w' => ∃ X, e = .returned (.tuple #[X, .bool (validK (T ++ [x]))]) ∧ kK.In w.heap.size w'.heap.size w' X (addK T x) ∧ Below w.heap.size w w' := by
  obtain ⟨v, rfl, g⟩ := g
  exact (specAddKey V v T x.1 x.2 w h g (len_bulkT hl) (sm_bulkT hl) (by omega)).mono fun e w' ⟨v, a, b, c⟩ => ⟨v, a, of_ring b, c⟩
theorem specFormatKeysK (V : Value) (T : Kt) (w : World) (h : kK.At w V T) (hl : bulkT T ≤ 1200000) :
    Calls Tryz.prog 25 #[V] w fun e w' => e = .returned (.string (fmtK T)) ∧ Below w.heap.size w w' := specFormatKeys V T w h (by omega)
theorem implValidKeysK (V : Value) (T : Kt) (w : World) (h : kK.At w V T) (hn : ∀ t ∈ T, t.1.length ≤ 9223372036854775807 ∧ (∀ x ∈ t.1, x.size ≤ maxLen) ∧ (Lit.int .i64 t.2).wf = true) (hl : bulkT T ≤ 1200000) :
    Calls Tryz.prog 22 #[V] w fun e w' => e = .returned (.bool (validK T)) ∧ Below w.heap.size w w' := implValidKeys V T w h (Nat.le_trans (len_bulkT hl) (by decide)) (sm_bulkT hl) (fun t ht => (hn t ht).2.2)
theorem implSecretOfK (V U : Value) (T : Kt) (m : List ByteArray) (w : World) (h : kK.At w V T) (g : kN.At w U m) (hl : bulkT T ≤ 1200000) (hm : bulk m ≤ 1200000) :
    Calls Tryz.prog 20 #[V, U] w fun e w' => e = .returned (.int .i64 (lkN T m)) ∧ Below w.heap.size w w' := by
  obtain ⟨v, rfl, g9⟩ := kN_at g
  exact implSecretOf V v T m w h g9 (Nat.le_trans (len_bulkT hl) (by decide)) (sm_bulkT hl) (by omega)
theorem implSignWithKeyK (V U1 U2 U3 : Value) (T : Kt) (lk ln : List ByteArray) (lb : List Int) (u : Int) (w : World) (h : kK.At w V T) (g1 : kN.At w U1 lk) (g2 : kN.At w U2 ln) (g3 : kB.At w U3 lb) (hB : Sl.Byt lb) (hl : bulkT T ≤ 1200000) (h1 : bulk lk ≤ 1200000) (h2 : bulk ln ≤ 1200000) (h3 : lb.length ≤ 1200000) :
    Calls Tryz.prog 6 #[V, U1, U2, U3, .int .i64 u] w fun e w' => ∃ X, e = .returned (.tuple #[X, .bool (sgOk T lk ln lb u)]) ∧ kD.In w.heap.size w'.heap.size w' X (sgK T lk ln lb u) ∧ Below w.heap.size w w' := by
  obtain ⟨v1, rfl, g8⟩ := kN_at g1
  obtain ⟨v2, rfl, g9⟩ := kN_at g2
  exact giveDB (implSignWithKey V v1 v2 U3 T lk ln lb u w h g8 g9 (kS_at g3) hB (Nat.le_trans (len_bulkT hl) (by decide)) (sm_bulkT hl) h1 h2 h3)
theorem implVerifySignatureK (V U : Value) (T : Kt) (x : Dt) (w : World) (h : kK.At w V T) (g : kD.At w U x) (gn : WfD x) (hl : bulkT T ≤ 1200000) (hx : bulkD x ≤ 1200000) :
    Calls Tryz.prog 14 #[V, U] w fun e w' => e = .returned (.bool (verD (lkN T x.2.2.1) x)) ∧ Below w.heap.size w w' := implVerifySignature V U T x w h g gn (Nat.le_trans (len_bulkT hl) (by decide)) (sm_bulkT hl) hx
theorem implMatchingKeysK (V U : Value) (T : Kt) (x : Dt) (w : World) (h : kK.At w V T) (g : kD.At w U x) (gn : WfD x) (hl : bulkT T ≤ 1200000) (hx : bulkD x ≤ 1200000) :
    Calls Tryz.prog 17 #[V, U] w fun e w' => ∃ U, e = .returned U ∧ kI.In w.heap.size w'.heap.size w' U (matK T x) ∧ Below w.heap.size w w' := giveI (implMatchingKeys V U T x w h g gn (Nat.le_trans (len_bulkT hl) (by decide)) (sm_bulkT hl) hx)
theorem implAddKeyK (V U : Value) (T : Kt) (x : K1) (w : World) (h : kK.At w V T) (g : k1.At w U x) (hn : ∀ t ∈ T, t.1.length ≤ 9223372036854775807 ∧ (∀ x ∈ t.1, x.size ≤ maxLen) ∧ (Lit.int .i64 t.2).wf = true) (gn : WfK1 x) (hl : bulkT T ≤ 1200000) (hx : bulk x.1 ≤ 1200000) :
    Calls Tryz.prog 10 #[V, U] w fun e w' => ∃ X, e = .returned (.tuple #[X, .bool (validK (T ++ [x]))]) ∧ kK.In w.heap.size w'.heap.size w' X (addK T x) ∧ Below w.heap.size w w' := by
  obtain ⟨v, rfl, g⟩ := g
  exact (implAddKey V v T x.1 x.2 w h g (len_bulkT hl) (sm_bulkT hl) (fun t ht => (hn t ht).2.2) gn.2 (by omega)).mono fun e w' ⟨v, a, b, c⟩ => ⟨v, a, of_ring b, c⟩
theorem implFormatKeysK (V : Value) (T : Kt) (w : World) (h : kK.At w V T) (hl : bulkT T ≤ 1200000) :
    Calls Tryz.prog 24 #[V] w fun e w' => e = .returned (.string (fmtK T)) ∧ Below w.heap.size w w' := implFormatKeys V T w h (by omega)
end Go.Proofs.YtnblopilgfdjkaaGreat.Row.Ring
/- Names that lie in blocks of texts: what keeps them; the reference model's ParseName and l4Of in these words. No conditions but that lengths fit. -/
namespace Go.Proofs.YtnblopilgfdjkaaGreat.Row
open Go.ChangeShapes Go.WideShapes Go.ChangeAt Go.RowKit Go.Instr
set_option linter.unusedVariables false
set_option maxRecDepth 100000

/-- Block g holds texts. -/
def TY (w : World) (g : Nat) : Prop := ∃ cur, w.heap[g]? = some (.cells cur 9 (0, 0))
theorem TY.lt {w : World} {g : Nat} (h : TY w g) : g < w.heap.size := by
  obtain ⟨cur, h⟩ := h
  exact (Array.getElem?_eq_some_iff.1 h).1
theorem TY.on {w w' : World} {g : Nat} (h : TY w g) (hb : Below w.heap.size w w') : TY w' g := by
  have hl := h.lt
  obtain ⟨cur, h⟩ := h
  exact ⟨cur, (hb.block g hl).trans h⟩
theorem TY.set {w : World} {g b i : Nat} {u : Value} (h : TY w g) (hne : b ≠ g) : TY (w.setCell ⟨b, i, none⟩ u) g := by
  obtain ⟨cur, h⟩ := h
  exact ⟨cur, (Go.RowKit.Below.heap_setCell w ⟨b, i, none⟩ u g (fun e => hne e.symm)).trans h⟩
/-- v holds the name l, in a block of texts from B on. -/
def HB (B : Nat) (w : World) (v : Value) (l : List ByteArray) : Prop := Holds Value.string w v l ∧ ∀ b off n c, v = .slice (some ⟨b, off, none⟩) n c → B ≤ b ∧ TY w b
section
variable {B : Nat} {w w' : World} {v : Value} {l : List ByteArray}
theorem HB.holds (h : HB B w v l) : Holds Value.string w v l := h.1
theorem HB.nil (B : Nat) (w : World) : HB B w (.slice none 0 0) [] := ⟨Holds.nil _ _, fun b off n c e => by cases e⟩
theorem HB.of (h : Own 9 Value.string B w v l) : HB B w v l := ⟨h.holds, fun b off n c e => by
  rcases h.2 with ⟨h2, _⟩ | ⟨g, cap, cur, hv, hB, hc, _⟩
  · rw [h2] at e; cases e
  · rw [hv] at e
    cases e
    exact ⟨hB, cur, hc⟩⟩
theorem HB.mono (h : HB B w v l) {B' : Nat} (hB : B' ≤ B) : HB B' w v l := ⟨h.1, fun b off n c e => ⟨Nat.le_trans hB (h.2 b off n c e).1, (h.2 b off n c e).2⟩⟩
theorem HB.on (h : HB B w v l) (hb : Below w.heap.size w w') : HB B w' v l := ⟨h.1.on hb, fun b off n c e => ⟨(h.2 b off n c e).1, (h.2 b off n c e).2.on hb⟩⟩
/-- What leaves the blocks of texts from B on leaves the name. -/
theorem HB.same (h : HB B w v l) (hg : ∀ g, B ≤ g → TY w g → w'.heap[g]? = w.heap[g]?) : HB B w' v l := by
  have hty := h.2
  obtain ⟨x, cap, hv, hc, hh⟩ := h.1
  refine ⟨⟨x, cap, hv, hc, ?_⟩, fun b off n c e => ?_⟩
  · rcases hh with h0 | ⟨b, off, rfl, hcell⟩
    · exact Or.inl h0
    · refine Or.inr ⟨b, off, rfl, fun j hj => ?_⟩
      obtain ⟨h1, h2⟩ := hty b off _ _ hv
      rw [World.cell?_of_block (w := w) (hg b h1 h2)]
      exact hcell j hj
  · obtain ⟨h1, h2⟩ := hty b off n c e
    refine ⟨h1, ?_⟩
    have := hg b h1 h2
    obtain ⟨cur, h2⟩ := h2
    exact ⟨cur, this.trans h2⟩
theorem HB.setT (h : HB B w v l) {g i : Nat} {cs : Array Value} {t : TypeId} {u : Value} (hb : Ret.Blk w g cs t) (hne : t ≠ 9) : HB B (w.setCell ⟨g, i, none⟩ u) v l :=
  h.same fun q _ ⟨cur, hq⟩ => Go.RowKit.Below.heap_setCell w ⟨g, i, none⟩ u q (fun e => by
    have e1 : q = g := e
    rw [e1, show w.heap[g]? = some (.cells cs t) from hb] at hq
    cases hq
    exact hne rfl)
theorem HB.grownK (h : HB B w v l) {α : Type} {enc : α → List Value} {sz B' : Nat} {e : TypeId} {u : Value} {m : List α} (ho : OwnK e enc sz B' w u m) (hne : e ≠ 9) (hg : w.grownBy w' u.ownBlock) : HB B w' v l :=
  h.same fun q _ ⟨cur, hq⟩ => hg.block q (Array.getElem?_eq_some_iff.1 hq).1 (fun e1 => by
    rcases ho.2 with ⟨h2, _⟩ | ⟨g, cap, cur2, hv, _, hc, _⟩
    · rw [h2] at e1; cases e1
    · rw [hv] at e1
      have e2 : q = g := by simpa [Value.ownBlock] using e1
      rw [e2, hc] at hq
      cases hq
      exact hne rfl)
theorem HB.shapeN (h : HB B w v l) : ∃ x n cap, v = .slice x n cap ∧ n = l.length ∧ HB B w (.slice x n cap) l := by
  obtain ⟨x, n, cap, rfl, hn, -, -⟩ := h.1.shapeN
  exact ⟨x, n, cap, rfl, hn, h⟩
end
def GivesN9 (w : World) (l : List ByteArray) (b : Bool) (e : Ending) (w' : World) : Prop := ∃ v, e = .returned (.tuple #[.agg #[v], .bool b]) ∧ HB w.heap.size w' v l ∧ Below w.heap.size w w'

set_option maxHeartbeats 2000000 in
theorem specParseNameB (s : ByteArray) (w : World) (hs : s.size ≤ 10000000) :
    Calls Tryz.prog 60 #[.string s] w (GivesN9 w (pN s) (pOk s)) := by
  have HB0 := Lib.hid ((Below.refl w.heap.size w).alloc (Nat.le_refl _) (.cells #[.slice none 0 0] 27))
  have HR := Lib.hid (Ret.NC.new' (w := w) (.slice none 0 0) 27 rfl)
  by_cases h47 : s = mk [47]
  · obtain ⟨p1, p2⟩ := pOk_slash
    rw [← h47] at p1 p2
    have HP := Lib.hid p1; have HPN := Lib.hid p2
    have hq : (s.toList == [47]) = true := by rw [h47, tl47]; rfl
    clear p1 p2 h47
    go_enter Tryz.func60, Tryz.ntmps60
    go_wp2
    refine bodyPost_ret (Ret.results_ct rfl _ _ w.heap.size [_] rfl aggN (Ret.one HR.out.1)) rfl ?_
    exact ⟨_, ret_nb HP.out.symm, by rw [HPN.out]; exact HB.nil _ _, HB0.out⟩
  · have h47l : s.toList ≠ [47] := fun e => h47 (toList_inj (e.trans tl47.symm))
    have hq : (s.toList == [47]) = false := by simpa using h47l
    have H47 := Lib.hid h47
    have hpos := split_pos s
    have hbk := bulk_split s
    have hlb := bulk_len (splitB s)
    obtain ⟨n, hn⟩ : ∃ n, n = (splitB s).length := ⟨_, rfl⟩
    rw [← hn] at hpos hlb
    have hnb : n ≤ 10000001 := by omega
    have HN := Lib.hid hn
    have HBK := Lib.hid hbk
    clear h47 h47l hn hbk hlb
    go_enter Tryz.func60, Tryz.ntmps60
    go_wp2_with fail
    refine (l4Split s _ hs).mono ?_
    rintro e w1 ⟨v1, rfl, ho1, hb1⟩
    have HB1 := Lib.hid (HB0.out.trans (hb1.mono HB0.out.size))
    have HR1 := Lib.hid (HR.out.on hb1)
    have hty9 : ∀ b off n c, v1 = .slice (some ⟨b, off, none⟩) n c → TY w1 b := fun b off n c e => ((HB.of ho1).2 b off n c e).2
    obtain ⟨g, c1, rfl, hg1, hg2, hc1⟩ : ∃ g c1, v1 = .slice (some ⟨g, 0, none⟩) n c1 ∧ w.heap.size + 1 ≤ g ∧ g < w1.heap.size ∧ n ≤ c1 := by
      rcases ho1.form with ⟨_, h2⟩ | ⟨g, c1, h1, h2, h3, h4, h5⟩
      · exact absurd (congrArg List.length h2) (by rw [← HN.out]; simp; omega)
      · exact ⟨g, c1, by rw [h1, HN.out], by simpa using h2, h3, by rw [HN.out]; exact h4⟩
    have HH1 := Lib.hid ho1.holds
    have HTY := Lib.hid (hty9 g 0 n c1 rfl)
    clear ho1 hb1 hty9
    by_cases h2 : n = 1
    · subst h2
      have HP := Lib.hid (split_no H47.out (fun rest h hr => by
        have h3 := HN.out
        rw [h] at h3
        simp at h3
        exact absurd h3 hr))
      have HPN := Lib.hid (pN_no HP.out)
      by_cases hc : c1 = 1
      · subst hc
        obtain ⟨hk2, hf2⟩ := HR1.out.alloc (.cells #[.slice (some ⟨g, 0, none⟩) 0 0] 27)
        obtain ⟨q1, q2, q3⟩ := endN (w := w) (g := w.heap.size) (B := w.heap.size + 1) (v := .slice none 0 0) (l := []) (by omega) (by omega) (Own.nil _ _ _ _) hk2 (HB1.out.alloc HB1.out.size (.cells #[.slice (some ⟨g, 0, none⟩) 0 0] 27))
        have HQ1 := Lib.hid q1; have HQ2 := Lib.hid q2; have HQ3 := Lib.hid q3
        clear q1 q2 q3
        go_wp2
        refine bodyPost_ret (Ret.results_ct rfl _ _ w.heap.size [_] rfl aggN (Ret.one HQ1.out)) rfl ?_
        exact ⟨_, ret_nb HP.out.symm, by rw [HPN.out]; exact HB.of HQ2.out, HQ3.out⟩
      · have hc2 : ¬ c1 - 1 = 0 := by omega
        obtain ⟨hk2, hf2⟩ := HR1.out.alloc (.cells #[.slice (some ⟨g, 1, none⟩) 0 (c1 - 1)] 27)
        obtain ⟨q1, q2, q3⟩ := endN (w := w) (g := w.heap.size) (B := w.heap.size + 1) (v := .slice none 0 0) (l := []) (by omega) (by omega) (Own.nil _ _ _ _) hk2 (HB1.out.alloc HB1.out.size (.cells #[.slice (some ⟨g, 1, none⟩) 0 (c1 - 1)] 27))
        have HQ1 := Lib.hid q1; have HQ2 := Lib.hid q2; have HQ3 := Lib.hid q3
        clear q1 q2 q3
        go_wp2
        refine bodyPost_ret (Ret.results_ct rfl _ _ w.heap.size [_] rfl aggN (Ret.one HQ1.out)) rfl ?_
        exact ⟨_, ret_nb HP.out.symm, by rw [HPN.out]; exact HB.of HQ2.out, HQ3.out⟩
    · have hn2 : 2 ≤ n := by omega
      have hn3 : decide ((n : Int) < 2) = false := by simp; omega
      have hc2 : ¬ c1 = 1 := by omega
      obtain ⟨b0, off0, he0, hcell⟩ := HH1.out.at (j := 0) (by rw [← HN.out]; omega)
      cases he0
      have HD := Lib.hid ((HH1.out.drop (j := 1) (by rw [← HN.out]; omega)).on ((Below.refl _ _).alloc (Nat.le_refl _) (.cells #[.slice (some ⟨g, 1, none⟩) (n - 1) (c1 - 1)] 27)))
      have HL := Lib.hid (show splitB s = nth (splitB s) 0 :: (splitB s).drop 1 by
        have := drop_nth (l := splitB s) (k := 0) (by rw [← HN.out]; omega)
        rw [List.drop_zero] at this
        exact this)
      have HDN := Lib.hid (show (splitB s).drop 1 ≠ [] by
        intro e
        have := congrArg List.length e
        rw [List.length_drop, ← HN.out] at this
        simp at this; omega)
      have HBD := Lib.hid (show bulk ((splitB s).drop 1) ≤ 100000000 by
        have h3 := HBK.out
        rw [HL.out, bulk_cons] at h3
        omega)
      have HR2 := Lib.hid (HR1.out.alloc (.cells #[.slice (some ⟨g, 1, none⟩) (n - 1) (c1 - 1)] 27))
      have HT2 := Lib.hid (Ret.NC.new' (w := w1) (.slice (some ⟨g, 1, none⟩) (n - 1) (c1 - 1)) 27 rfl)
      have HB2 := Lib.hid (HB1.out.alloc HB1.out.size (.cells #[.slice (some ⟨g, 1, none⟩) (n - 1) (c1 - 1)] 27))
      rw [Nat.add_zero] at hcell
      by_cases hx : nth (splitB s) 0 = mk []
      · have hxe : (nth (splitB s) 0).toList.isEmpty = true := by rw [hx, tl0]; rfl
        have HX := Lib.hid hx
        clear hx
        go_wp2_with fail
        refine (specValidName _ _ _ HD.out HBD.out).mono ?_
        rintro e w3 ⟨rfl, hb3⟩
        have HR3 := Lib.hid (HR2.out.on hb3)
        have HT3 := Lib.hid (HT2.out.on hb3)
        have HD3 := Lib.hid (HD.out.on hb3)
        have HTY3 := Lib.hid ((HTY.out.on ((Below.refl w1.heap.size w1).alloc (Nat.le_refl _) (.cells #[.slice (some ⟨g, 1, none⟩) (n - 1) (c1 - 1)] 27))).on hb3)
        have HB3 := Lib.hid (HB2.out.trans (hb3.mono HB2.out.size))
        clear hb3
        cases hv : validN ((splitB s).drop 1) with
        | true =>
          obtain ⟨p1, p2⟩ := split_yes (by have := HL.out; rw [HX.out] at this; exact this) HDN.out hv
          have HP := Lib.hid p1; have HPN := Lib.hid p2
          obtain ⟨hk2, hf2⟩ := HR3.out
          obtain ⟨hk3, -⟩ := HT3.out
          have HQ1 := Lib.hid (Ret.set_same (v := .slice (some ⟨g, 1, none⟩) (n - 1) (c1 - 1)) hk2)
          have HQ2 := Lib.hid (HD3.out.grown (Ret.grownBy_set w3 ⟨w.heap.size, 0, none⟩ (.slice (some ⟨g, 1, none⟩) (n - 1) (c1 - 1))) (fun g1 h1 e1 => by simp [Value.ownBlock] at h1 e1; omega))
          have HQ3 := Lib.hid (HB3.out.setCell (p := ⟨w.heap.size, 0, none⟩) (Nat.le_refl _) (.slice (some ⟨g, 1, none⟩) (n - 1) (c1 - 1)))
          clear p1 p2 hv
          go_wp2
          refine bodyPost_ret (Ret.results_ct rfl _ _ w.heap.size [_] rfl aggN (Ret.one HQ1.out)) rfl ?_
          exact ⟨_, ret_nb HP.out.symm, by rw [HPN.out]; exact ⟨HQ2.out, fun b off n c e => by cases e; exact ⟨by omega, HTY3.out.set (by omega)⟩⟩, HQ3.out⟩
        | false =>
          have HP := Lib.hid (split_no H47.out (fun rest h hr => by
            have h3 := HL.out
            rw [h] at h3
            have h4 := (List.cons.inj h3).2
            rw [h4, ← h]; exact hv))
          have HPN := Lib.hid (pN_no HP.out)
          obtain ⟨hk2, hf2⟩ := HR3.out
          obtain ⟨q1, q2, q3⟩ := endN (w := w) (g := w.heap.size) (B := w.heap.size + 1) (v := .slice none 0 0) (l := []) (by omega) (by omega) (Own.nil _ _ _ _) hk2 HB3.out
          have HQ1 := Lib.hid q1; have HQ2 := Lib.hid q2; have HQ3 := Lib.hid q3
          clear q1 q2 q3 hv
          go_wp2
          refine bodyPost_ret (Ret.results_ct rfl _ _ w.heap.size [_] rfl aggN (Ret.one HQ1.out)) rfl ?_
          exact ⟨_, ret_nb HP.out.symm, by rw [HPN.out]; exact HB.of HQ2.out, HQ3.out⟩
      · have hxe : (nth (splitB s) 0).toList.isEmpty = false := by
          have : (nth (splitB s) 0).toList ≠ [] := fun e => hx (toList_inj (e.trans tl0.symm))
          simpa using this
        have HP := Lib.hid (split_no H47.out (fun rest h hr => by
          have h3 := HL.out
          rw [h] at h3
          exact absurd (by rw [h]; exact (List.cons.inj h3).1.symm) hx))
        have HPN := Lib.hid (pN_no HP.out)
        clear hx
        obtain ⟨hk2, hf2⟩ := HR2.out
        obtain ⟨q1, q2, q3⟩ := endN (w := w) (g := w.heap.size) (B := w.heap.size + 1) (v := .slice none 0 0) (l := []) (by omega) (by omega) (Own.nil _ _ _ _) hk2 HB2.out
        have HQ1 := Lib.hid q1; have HQ2 := Lib.hid q2; have HQ3 := Lib.hid q3
        clear q1 q2 q3
        go_wp2
        refine bodyPost_ret (Ret.results_ct rfl _ _ w.heap.size [_] rfl aggN (Ret.one HQ1.out)) rfl ?_
        exact ⟨_, ret_nb HP.out.symm, by rw [HPN.out]; exact HB.of HQ2.out, HQ3.out⟩


set_option maxHeartbeats 2000000 in
theorem l4OfB (s : ByteArray) (w : World) (hs : s.size ≤ 10000000) :
    Calls Tryz.prog 30 #[.string s] w fun e w' => ∃ u, e = .returned (.agg #[u]) ∧ HB w.heap.size w' u (pN s) ∧ Below w.heap.size w w' := by
  have HB0 := Lib.hid ((Below.refl w.heap.size w).alloc (Nat.le_refl _) (.cells #[.slice none 0 0] 27))
  have HX0 := Lib.hid (Ret.Box.new w (.slice none 0 0) 27)
  have HP := Lib.hid (specParseNameB s (w.alloc (.cells #[.slice none 0 0] 27)) hs)
  go_enter Tryz.func30, Tryz.ntmps30
  go_wp2_with fail
  refine HP.out.mono ?_
  rintro e w1 ⟨u, rfl, ho, hb⟩
  obtain ⟨x, n, c, rfl, -, ho⟩ := ho.shapeN
  have ha := (Below.refl w1.heap.size w1).alloc (Nat.le_refl _) (.cells #[.slice x n c] 27)
  have HX1 := Lib.hid ((HX0.out.on hb).on ha)
  have HO1 := Lib.hid (ho.on ha)
  have hq := (Ret.Box.new w1 (.slice x n c) 27).cell
  have hz := HX1.out.cell
  have hf := HX1.out.frozen
  have HBF := Lib.hid ((HB0.out.trans (hb.mono HB0.out.size)).trans (ha.mono (Nat.le_trans HB0.out.size hb.size)))
  have HW := Lib.hid (HBF.out.grown (Ret.grownBy_set _ ⟨w.heap.size, 0, none⟩ (.slice x n c)) HBF.out.size (fun g hg => by cases hg; exact Nat.le_refl _))
  have HH := Lib.hid ((HO1.out.mono (by simp)).setT (g := w.heap.size) (i := 0) (u := .slice x n c) (B := w.heap.size) (show Ret.Blk _ w.heap.size #[.slice none 0 0] 27 from HX1.out) (by decide))
  have HC := Lib.hid (Ret.set_same (v := .slice x n c) HX1.out.cell)
  clear ha ho hb
  go_wp2_with fail
  refine bodyPost_ret (Ret.results_c rfl _ _ w.heap.size [_] rfl aggN (Ret.one HC.out)) rfl ?_
  exact ⟨_, rfl, HH.out, HW.out⟩
end Go.Proofs.YtnblopilgfdjkaaGreat.Row
