/- Contracts and mathematics, joined: DrawSeal, DrawThing, DrawC0. No conditions but those that each states. -/
import Derived.Test.YtfglcmanmfenpaaGreatB22
import Derived.Test.YtfglcmanmfenpaaGreatB23
import Derived.Laws.OwnMore
import Derived.Test.YtfglcmanmfenpaaGreatB8
import Derived.Test.YtfglcmanmfenpaaGreatB9
/- Contracts of the reference model's draws of chapter 3: secrets, slices of integers and of bytes, texts. What was in memory stays as it was. -/
namespace Go.Proofs.YtfglcmanmfenpaaGreat.Draw
open Go.ChangeShapes Go.WideShapes Go.ChangeAt Go.RowKit Go.Instr
open Sl (Holds Own Byt nth wpList_app holds_one own_empty elemBYTE elemINT)
set_option linter.unusedVariables false
set_option maxRecDepth 100000
set_option maxHeartbeats 1000000 in
theorem word (w0 : World) (p : Nat) (v : Value) (l : List UInt8) (w : World) (hc : Cur w0 p v l w) :
    Calls Tryz.prog 67 #[.pointer (some ⟨p, 0, none⟩)] w (Drawn w0 p v l w Is64) := by
  have h := once w0 p v l w 10 hc
  have HD := Lib.hid h; clear h hc
  go_enter Tryz.func67, Tryz.ntmps67
  go_wp2_with fail
  refine HD.out.mono ?_
  rintro e w1 ⟨y, rfl, ⟨b, rfl⟩, hc, hk⟩
  have C := Lib.hid hc; have K := Lib.hid hk
  clear hc hk HD
  cases b
  · have h := once w0 p v l _ 4 C.out
    have HD := Lib.hid h; clear h
    go_wp2_with fail
    refine HD.out.mono ?_
    rintro e w2 ⟨y, rfl, ⟨b, rfl⟩, hc, hk⟩
    replace C := Lib.hid hc; replace K := Lib.hid (K.out.trans hk)
    clear hc hk HD
    cases b
    · have h := below w0 p v l _ 1000000 C.out
      have HD := Lib.hid h; clear h
      go_wp2_with fail
      refine HD.out.mono ?_
      rintro e w3 ⟨y, rfl, ⟨r, rfl, hr, _⟩, hc, hk⟩
      have hr := hr (by omega)
      replace C := Lib.hid hc; replace K := Lib.hid (K.out.trans hk)
      clear hc hk HD
      have h := below w0 p v l _ 2000 C.out
      have HD := Lib.hid h; clear h
      go_wp2_with fail
      refine HD.out.mono ?_
      rintro e w4 ⟨y, rfl, ⟨q, rfl, hq, _⟩, hc, hk⟩
      have hq := hq (by omega)
      replace C := Lib.hid hc; replace K := Lib.hid (K.out.trans hk)
      clear hc hk HD
      have hm : 0 ≤ r * q := Int.mul_nonneg hr.1 hq.1
      have hm2 : r * q ≤ 1000000 * 2000 := Int.mul_le_mul (by omega) (by omega) hq.1 (by omega)
      go_wp2_with fail
      go_ret
      exact ⟨_, rfl, ⟨_, rfl, wf_of (by omega) (by omega)⟩, C.out, K.out⟩
    · have h := intLit w0 p v l _ C.out [0, 1, 2147483646] _ rfl 3 rfl (by decide) (by decide) Is64 (wf_lits (by decide))
      have HD := Lib.hid h; clear h
      go_wp2_with fail
      refine HD.out.mono ?_
      rintro e w3 ⟨y, rfl, ⟨a, rfl, ha⟩, hc, hk⟩
      replace C := Lib.hid hc; replace K := Lib.hid (K.out.trans hk); have HA := Lib.hid ha
      clear hc hk HD ha
      go_wp2_with fail
      go_ret
      exact ⟨_, rfl, ⟨_, rfl, HA.out⟩, C.out, K.out⟩
  · have h := intLit w0 p v l _ C.out [-1, 2147483647, 2147483648] _ rfl 3 rfl (by decide) (by decide) Is64 (wf_lits (by decide))
    have HD := Lib.hid h; clear h
    go_wp2_with fail
    refine HD.out.mono ?_
    rintro e w3 ⟨y, rfl, ⟨a, rfl, ha⟩, hc, hk⟩
    replace C := Lib.hid hc; replace K := Lib.hid (K.out.trans hk); have HA := Lib.hid ha
    clear hc hk HD ha
    go_wp2_with fail
    go_ret
    exact ⟨_, rfl, ⟨_, rfl, HA.out⟩, C.out, K.out⟩
def QDrawDigest (w : World) (e : Ending) (w' : World) : Prop := ∃ (x0 : Value) (m0 : List Int), e = .returned (x0) ∧ Own 3 .i64 w.heap.size w' x0 m0 ∧ (∀ y ∈ m0, (Lit.int .i64 y).wf = true) ∧ m0.length ≤ 100 ∧ Below w.heap.size w w'
def QDrawComputeMAC (w : World) (e : Ending) (w' : World) : Prop := ∃ (n0 : Int) (x1 : Value) (m1 : List Int), e = .returned (.tuple #[.int .i64 n0, x1]) ∧ (Lit.int .i64 n0).wf = true ∧ Own 3 .i64 w.heap.size w' x1 m1 ∧ (∀ y ∈ m1, (Lit.int .i64 y).wf = true) ∧ m1.length ≤ 100 ∧ Below w.heap.size w w'
def QDrawValidSecret (w : World) (e : Ending) (w' : World) : Prop := ∃ (n0 : Int), e = .returned (.int .i64 n0) ∧ (Lit.int .i64 n0).wf = true ∧ Below w.heap.size w w'
def QDrawBytesToInts (w : World) (e : Ending) (w' : World) : Prop := ∃ (x0 : Value) (m0 : List Int), e = .returned (x0) ∧ Own 5 .u8 w.heap.size w' x0 m0 ∧ Byt m0 ∧ m0.length ≤ 100 ∧ Below w.heap.size w w'
def QDrawEncrypt (w : World) (e : Ending) (w' : World) : Prop := ∃ (n0 : Int) (x1 : Value) (m1 : List Int), e = .returned (.tuple #[.int .i64 n0, x1]) ∧ (Lit.int .i64 n0).wf = true ∧ Own 5 .u8 w.heap.size w' x1 m1 ∧ Byt m1 ∧ m1.length ≤ 100 ∧ Below w.heap.size w w'
def QDrawDeriveSecret (w : World) (e : Ending) (w' : World) : Prop := ∃ (n0 : Int) (t1 : ByteArray), e = .returned (.tuple #[.int .i64 n0, .string t1]) ∧ (Lit.int .i64 n0).wf = true ∧ t1.size ≤ 100 ∧ Below w.heap.size w w'
def QDrawEqualInts (w : World) (e : Ending) (w' : World) : Prop := ∃ (x0 : Value) (m0 : List Int) (x1 : Value) (m1 : List Int), e = .returned (.tuple #[x0, x1]) ∧ Own 3 .i64 w.heap.size w' x0 m0 ∧ (∀ y ∈ m0, (Lit.int .i64 y).wf = true) ∧ m0.length ≤ 100 ∧ Own 3 .i64 w.heap.size w' x1 m1 ∧ (∀ y ∈ m1, (Lit.int .i64 y).wf = true) ∧ m1.length ≤ 100 ∧ Below w.heap.size w w'
end Go.Proofs.YtfglcmanmfenpaaGreat.Draw
/- Contracts of the reference model's draws of data packets. What was in memory stays as it was, but for the cursor. -/
namespace Go.Proofs.YtfglcmanmfenpaaGreat.Draw
open Go.ChangeShapes Go.WideShapes Go.ChangeAt Go.RowKit Go.Instr
open Go.Proofs.YtfglcmanmfenpaaGreat.Row (bulk bulk_append bulk_one bulk_nil bulk_cons Dt dc aggD bulkD advD WfD DHold DOwn)
open Go.Proofs.YtfglcmanmfenpaaGreat.Ret (NC Blk Box)
set_option linter.unusedVariables false
set_option maxRecDepth 100000
def DataK (K B : Nat) (V : Value) (w : World) : Prop := ∃ xa na ca xb nb cb xc nc cc, ∃ y : Dt, V = .agg #[.slice xa na ca, .slice xb nb cb, .slice xc nc cc, .int .i64 y.2.2.2.1, .int .i64 y.2.2.2.2] ∧ DO3 B w (.slice xa na ca) (.slice xb nb cb) (.slice xc nc cc) y ∧ bulkD y ≤ K ∧ WfD y
set_option maxHeartbeats 8000000 in
theorem l8Draw (w0 : World) (p : Nat) (v : Value) (l : List UInt8) (w : World) (hc : Cur w0 p v l w) :
    Calls Tryz.prog 65 #[.pointer (some ⟨p, 0, none⟩)] w (DrawnW w0 p v l w (DataK 1500 w.heap.size)) := by
  have hpl := hc.lt
  have hca := hc.alloc (.cells (dc (.slice none 0 0) (.slice none 0 0) (.slice none 0 0) 0 0) 31)
  have HK0 := Lib.hid (keep_alloc p w (.cells (dc (.slice none 0 0) (.slice none 0 0) (.slice none 0 0) 0 0) 31))
  have HR0 := Lib.hid (Blk.new w (dc (.slice none 0 0) (.slice none 0 0) (.slice none 0 0) 0 0) 31)
  have HC0 := Lib.hid hc
  have HD := Lib.hid (l4Name w0 p v l _ hca)
  clear hc hca
  go_enter Tryz.func65, Tryz.ntmps65
  go_wp2_with fail
  refine HD.out.mono ?_
  rintro e w1 ⟨y, rfl, ⟨u, m, rfl, ho, hm⟩, hc1, hk1⟩
  obtain ⟨x, n, c, rfl, hn, -, ho⟩ := ho.shapeN
  have hz1 := hk1.size
  simp only [World.size_alloc] at hz1 ho
  have hal : Below w1.heap.size w1 (w1.alloc (.cells #[.slice x n c] 29)) := (Below.refl _ _).alloc (Nat.le_refl _) _
  have HC1 := Lib.hid (hc1.on hal)
  have HK1 := Lib.hid ((HK0.out.trans hk1).trans (Keep.of_below (p := p) hal))
  have HR1 := Lib.hid ((blk_keep HR0.out hk1 (by omega)).on hal)
  have HX1 := Lib.hid (Ret.Box.new w1 (.slice x n c) 29)
  have HO1 := Lib.hid (ho.on hal)
  have hgp : w1.heap.size ≠ p := by have := hc1.lt; omega
  have hgw : w1.heap.size ≠ w.heap.size := by omega
  have hwp : w.heap.size ≠ p := by omega
  have hpw : p < w.heap.size + 1 := by omega
  have hwg : w.heap.size ≤ w1.heap.size := by omega
  have HN := Lib.hid hn
  clear hal ho hc1 hk1 hn HD HR0 HK0 hz1
  go_upto_region 2 with fail
  generalize w1.alloc (.cells #[.slice x n c] 29) = W at *
  generalize w1.heap.size = g at *
  have hx1 := HX1.out.cell
  have hxf := HX1.out.frozen
  by_cases hn0 : n = 0
  · subst hn0
    have hal2 : Below W.heap.size W (W.alloc (.cells #[.string { data := #[97] }] 9)) := (Below.refl _ _).alloc (Nat.le_refl _) _
    have hx2 : (W.alloc (.cells #[.string { data := #[97] }] 9)).cell? ⟨g, 0, none⟩ = some (.slice x 0 c) := (HX1.out.on hal2).cell
    have hx3 : (W.alloc (.cells #[.string { data := #[97] }] 9)).frozen? ⟨g, 0, none⟩ = false := (HX1.out.on hal2).frozen
    have hgl := HX1.out.lt
    have HCA := Lib.hid ((HC1.out.on hal2).setI 0 (Nat.le_trans HC0.out.below.size hwg) hgp (.slice (some ⟨W.heap.size, 0, none⟩) 1 1))
    have HKA := Lib.hid ((HK1.out.trans (Keep.of_below (p := p) hal2)).setI 0 hwg (.slice (some ⟨W.heap.size, 0, none⟩) 1 1))
    have HRA := Lib.hid ((HR1.out.on hal2).grown (Ret.grownBy_set _ ⟨g, 0, none⟩ (.slice (some ⟨W.heap.size, 0, none⟩) 1 1)) (fun e => hgw (Option.some.inj e).symm))
    have HXA := Lib.hid ((HX1.out.on hal2).set (.slice (some ⟨W.heap.size, 0, none⟩) 1 1))
    have HOA := Lib.hid ((Row.own_set (g := g) (i := 0) (u := .slice (some ⟨W.heap.size, 0, none⟩) 1 1) (Row.own_one Value.string 9 W { data := #[97] }) hgl).mono (B' := w.heap.size + 1) (by have := HR1.out.lt; omega))
    have HBM : Hid (bulk [({ data := #[97] } : ByteArray)] ≤ 1000) := Lib.hid (by rw [bulk_one]; decide)
    clear hal2 hgl
    go_upto_region 4 with fail
    generalize (W.alloc (.cells #[.string { data := #[97] }] 9)).setCell ⟨g, 0, none⟩ (.slice (some ⟨W.heap.size, 0, none⟩) 1 1) = V at *
    clear HC1 HK1 HR1 HX1 HO1 hx2 hx3 hx1 hxf
    refine dr4 HCA HXA HOA (Lib.hid hgp) (Lib.hid hpw) ?_
    intro u13 u14 u15 u16 u17 u18 u19 u20 u21 u22 u23 u24 u25 gD nb cb nc cc xb xc lb lc r60 wx d1 d2 xd on ob oc hyb hmb hbc h0 h1 hc2 hk2
    have hr0 := HRA.out.lt
    have hs0 := HCA.out.below.size
    have hgl := HXA.out.lt
    have hwr : w.heap.size + 1 ≤ V.heap.size := by omega
    have h3 : DO3 (w.heap.size + 1) wx (.slice (some ⟨W.heap.size, 0, none⟩) 1 1) (.slice xb nb cb) (.slice none 0 0) ([({ data := #[97] } : ByteArray)], lb, [], 0, 0) := ⟨on, Sl.Own.mono ob hwr, Row.Own.nil _ _ _ _⟩
    have h4 := h3.fiveT (a1 := .slice (some ⟨W.heap.size, 0, none⟩) 1 1) (b1 := .slice xb nb cb) (c1 := .slice xc nc cc) (f := 40 + r60) (s := 0) xd
    have OA := Lib.hid h4.1; have OB := Lib.hid h4.2.1
    have OC := Lib.hid (holdS_five (ya := (some ⟨W.heap.size, 0, none⟩)) (ma := 1) (da := 1) (yb := xb) (mb := nb) (db := cb) (yc := xc) (mc := nc) (dc' := cc) (f1 := 40 + r60) (s1 := 0) oc xd)
    have XG := Lib.hid (set5 (a := .slice (some ⟨W.heap.size, 0, none⟩) 1 1) (b := .slice xb nb cb) (c := .slice xc nc cc) (f := 40 + r60) (s := 0) xd)
    have XR := Lib.hid (blk5 (q := gD) (a := .slice (some ⟨W.heap.size, 0, none⟩) 1 1) (b := .slice xb nb cb) (c := .slice xc nc cc) (f := 40 + r60) (s := 0) (blk_keep HRA.out hk2 hwp) (show w.heap.size ≠ gD by omega))
    have C2 := Lib.hid (cur5 (a := .slice (some ⟨W.heap.size, 0, none⟩) 1 1) (b := .slice xb nb cb) (c := .slice xc nc cc) (f := 40 + r60) (s := 0) hc2 (show w0.heap.size ≤ gD by omega) d2)
    have K2 := Lib.hid (keep5 (a := .slice (some ⟨W.heap.size, 0, none⟩) 1 1) (b := .slice xb nb cb) (c := .slice xc nc cc) (f := 40 + r60) (s := 0) (HKA.out.trans hk2) (show w.heap.size ≤ gD by omega))
    have HYB := Lib.hid hyb
    have HBL := Lib.hid (show bulkD ([({ data := #[97] } : ByteArray)], lb, lc, 40 + r60, 0) ≤ 1500 by have h9 := HBM.out; unfold bulkD; simp only; omega)
    have hgr : gD ≠ w.heap.size := by omega
    clear h3 h4 xd on ob oc hc2 hk2 hyb hmb hbc
    go_wp2_with fail
    refine dr5 C2 XG XR OA OB OC (Lib.hid d2) (Lib.hid hwp) (Lib.hid hgr) (Lib.hid hpw) HYB (Lib.hid (Nat.le_trans HBL.out (by decide))) ?_
    intro u26 u27 u28 u29 ya yb yc ma da mb db mc dc_ t M wy xr2 os hM ht0 ht1 hc3 hk3
    have hsz := K2.out.size
    have Z1 := Lib.hid (set5 (a := .slice ya ma da) (b := .slice yb mb db) (c := .slice yc mc dc_) (f := 40 + r60) (s := M) xr2)
    have Z2 := Lib.hid ((os.fiveT (a1 := .slice ya ma da) (b1 := .slice yb mb db) (c1 := .slice yc mc dc_) (f := 40 + r60) (s := M) xr2).mono hsz)
    have Z3 := Lib.hid (cur5 (a := .slice ya ma da) (b := .slice yb mb db) (c := .slice yc mc dc_) (f := 40 + r60) (s := M) hc3 (Nat.le_trans HC0.out.below.size (Nat.le_refl _)) hwp)
    have Z4 := Lib.hid (keep5 (a := .slice ya ma da) (b := .slice yb mb db) (c := .slice yc mc dc_) (f := 40 + r60) (s := M) (K2.out.trans hk3) (Nat.le_refl _))
    have HMI := Lib.hid (Seal.mac_in t (Row.portD ([({ data := #[97] } : ByteArray)], lb, lc, 40 + r60, 0)))
    have HMM := Lib.hid hM
    clear xr2 os hM hc3 hk3 hsz
    go_wp2_with fail
    refine bodyPost_ret (Ret.results_c rfl _ _ w.heap.size (dc (.slice ya ma da) (.slice yb mb db) (.slice yc mc dc_) (40 + r60) M).toList rfl aggD Z1.out.cells) rfl ?_
    exact ⟨_, rfl, ⟨ya, ma, da, yb, mb, db, yc, mc, dc_, ([({ data := #[97] } : ByteArray)], lb, lc, 40 + r60, M), rfl, Z2.out, HBL.out, wfD_of (Nat.le_trans HBL.out (by decide)) HYB.out (wf_of (by show _ ≤ 40 + r60; omega) (by show 40 + r60 ≤ _; omega)) (wf_of (by have h9 := HMI.out; rw [← HMM.out] at h9; show _ ≤ M; omega) (by have h9 := HMI.out; rw [← HMM.out] at h9; show M ≤ _; omega))⟩, Z3.out, Z4.out⟩
  · have hne : ((n : Int) == 0) = false := by simpa using hn0
    have HBM : Hid (bulk m ≤ 1000) := Lib.hid (by omega)
    clear hn0
    go_wp2_with fail
    clear hx1 hxf
    refine dr4 HC1 HX1 HO1 (Lib.hid hgp) (Lib.hid hpw) ?_
    intro u13 u14 u15 u16 u17 u18 u19 u20 u21 u22 u23 u24 u25 gD nb cb nc cc xb xc lb lc r60 wx d1 d2 xd on ob oc hyb hmb hbc h0 h1 hc2 hk2
    have hr0 := HR1.out.lt
    have hs0 := HC1.out.below.size
    have hgl := HX1.out.lt
    have hwr : w.heap.size + 1 ≤ W.heap.size := by omega
    have h3 : DO3 (w.heap.size + 1) wx (.slice x n c) (.slice xb nb cb) (.slice none 0 0) (m, lb, [], 0, 0) := ⟨on, Sl.Own.mono ob hwr, Row.Own.nil _ _ _ _⟩
    have h4 := h3.fiveT (a1 := .slice x n c) (b1 := .slice xb nb cb) (c1 := .slice xc nc cc) (f := 40 + r60) (s := 0) xd
    have OA := Lib.hid h4.1; have OB := Lib.hid h4.2.1
    have OC := Lib.hid (holdS_five (ya := x) (ma := n) (da := c) (yb := xb) (mb := nb) (db := cb) (yc := xc) (mc := nc) (dc' := cc) (f1 := 40 + r60) (s1 := 0) oc xd)
    have XG := Lib.hid (set5 (a := .slice x n c) (b := .slice xb nb cb) (c := .slice xc nc cc) (f := 40 + r60) (s := 0) xd)
    have XR := Lib.hid (blk5 (q := gD) (a := .slice x n c) (b := .slice xb nb cb) (c := .slice xc nc cc) (f := 40 + r60) (s := 0) (blk_keep HR1.out hk2 hwp) (show w.heap.size ≠ gD by omega))
    have C2 := Lib.hid (cur5 (a := .slice x n c) (b := .slice xb nb cb) (c := .slice xc nc cc) (f := 40 + r60) (s := 0) hc2 (show w0.heap.size ≤ gD by omega) d2)
    have K2 := Lib.hid (keep5 (a := .slice x n c) (b := .slice xb nb cb) (c := .slice xc nc cc) (f := 40 + r60) (s := 0) (HK1.out.trans hk2) (show w.heap.size ≤ gD by omega))
    have HYB := Lib.hid hyb
    have HBL := Lib.hid (show bulkD (m, lb, lc, 40 + r60, 0) ≤ 1500 by have h9 := HBM.out; unfold bulkD; simp only; omega)
    have hgr : gD ≠ w.heap.size := by omega
    clear h3 h4 xd on ob oc hc2 hk2 hyb hmb hbc
    go_wp2_with fail
    refine dr5 C2 XG XR OA OB OC (Lib.hid d2) (Lib.hid hwp) (Lib.hid hgr) (Lib.hid hpw) HYB (Lib.hid (Nat.le_trans HBL.out (by decide))) ?_
    intro u26 u27 u28 u29 ya yb yc ma da mb db mc dc_ t M wy xr2 os hM ht0 ht1 hc3 hk3
    have hsz := K2.out.size
    have Z1 := Lib.hid (set5 (a := .slice ya ma da) (b := .slice yb mb db) (c := .slice yc mc dc_) (f := 40 + r60) (s := M) xr2)
    have Z2 := Lib.hid ((os.fiveT (a1 := .slice ya ma da) (b1 := .slice yb mb db) (c1 := .slice yc mc dc_) (f := 40 + r60) (s := M) xr2).mono hsz)
    have Z3 := Lib.hid (cur5 (a := .slice ya ma da) (b := .slice yb mb db) (c := .slice yc mc dc_) (f := 40 + r60) (s := M) hc3 (Nat.le_trans HC0.out.below.size (Nat.le_refl _)) hwp)
    have Z4 := Lib.hid (keep5 (a := .slice ya ma da) (b := .slice yb mb db) (c := .slice yc mc dc_) (f := 40 + r60) (s := M) (K2.out.trans hk3) (Nat.le_refl _))
    have HMI := Lib.hid (Seal.mac_in t (Row.portD (m, lb, lc, 40 + r60, 0)))
    have HMM := Lib.hid hM
    clear xr2 os hM hc3 hk3 hsz
    go_wp2_with fail
    refine bodyPost_ret (Ret.results_c rfl _ _ w.heap.size (dc (.slice ya ma da) (.slice yb mb db) (.slice yc mc dc_) (40 + r60) M).toList rfl aggD Z1.out.cells) rfl ?_
    exact ⟨_, rfl, ⟨ya, ma, da, yb, mb, db, yc, mc, dc_, (m, lb, lc, 40 + r60, M), rfl, Z2.out, HBL.out, wfD_of (Nat.le_trans HBL.out (by decide)) HYB.out (wf_of (by show _ ≤ 40 + r60; omega) (by show 40 + r60 ≤ _; omega)) (wf_of (by have h9 := HMI.out; rw [← HMM.out] at h9; show _ ≤ M; omega) (by have h9 := HMI.out; rw [← HMM.out] at h9; show M ≤ _; omega))⟩, Z3.out, Z4.out⟩
set_option maxHeartbeats 8000000 in
theorem l8Any (w0 : World) (p : Nat) (v : Value) (l : List UInt8) (w : World) (hc : Cur w0 p v l w) :
    Calls Tryz.prog 32 #[.pointer (some ⟨p, 0, none⟩)] w (DrawnW w0 p v l w (DataK 3000 w.heap.size)) := by
  have hpl := hc.lt
  have hca := hc.alloc (.cells (dc (.slice none 0 0) (.slice none 0 0) (.slice none 0 0) 0 0) 31)
  have HK0 := Lib.hid (keep_alloc p w (.cells (dc (.slice none 0 0) (.slice none 0 0) (.slice none 0 0) 0 0) 31))
  have HR0 := Lib.hid (Blk.new w (dc (.slice none 0 0) (.slice none 0 0) (.slice none 0 0) 0 0) 31)
  have HC0 := Lib.hid hc
  have HD := Lib.hid (l8Draw w0 p v l _ hca)
  clear hc hca
  go_enter Tryz.func32, Tryz.ntmps32
  go_wp2_with fail
  refine HD.out.mono ?_
  rintro e w1 ⟨V, rfl, ⟨xa, na, ca, xb, nb, cb, xc, nc, cc, y, rfl, ho, hbl, hwf⟩, hc1, hk1⟩
  obtain ⟨la, lb, lc, f, s⟩ := y
  have hz1 := hk1.size
  simp only [World.size_alloc] at hz1 ho
  simp only
  have hal : Below w1.heap.size w1 (w1.alloc (.cells (dc (.slice xa na ca) (.slice xb nb cb) (.slice xc nc cc) f s) 31)) := (Below.refl _ _).alloc (Nat.le_refl _) _
  have HL := Lib.hid (below w0 p v l _ 12 (hc1.on hal))
  have HK1 := Lib.hid ((HK0.out.trans hk1).trans (Keep.of_below (p := p) hal))
  have HR1 := Lib.hid ((blk_keep HR0.out hk1 (by omega)).on hal)
  have HG1 := Lib.hid (Blk.new w1 (dc (.slice xa na ca) (.slice xb nb cb) (.slice xc nc cc) f s) 31)
  have HO1 := Lib.hid (ho.on hal)
  have hgp : w1.heap.size ≠ p := by have := hc1.lt; omega
  have hgw : w1.heap.size ≠ w.heap.size := by omega
  have hwp : w.heap.size ≠ p := by omega
  have hpw : p < w.heap.size + 1 := by omega
  have hwg : w.heap.size ≤ w1.heap.size := by omega
  have HBL0 := Lib.hid hbl; have HBL := Lib.hid (show bulkD (la, lb, lc, f, s) ≤ 3000 from Nat.le_trans hbl (by decide)); have HWF := Lib.hid hwf
  have HYB := Lib.hid (show Sl.Byt lb from Sl.byt_of_wf hwf.2.1)
  clear hal ho hc1 hk1 HD HR0 HK0 hz1 hbl hwf
  go_upto_region 2 with fail
  generalize w1.alloc (.cells (dc (.slice xa na ca) (.slice xb nb cb) (.slice xc nc cc) f s) 31) = V at *
  generalize w1.heap.size = g at *
  go_wp2_with fail
  refine HL.out.mono ?_
  rintro e w2 ⟨y, rfl, ⟨r, rfl, hr, -⟩, hc2, hk2⟩
  have HG := Lib.hid (blk_keep HG1.out hk2 hgp)
  have HR := Lib.hid (blk_keep HR1.out hk2 hwp)
  have HO := Lib.hid (HO1.out.keep hk2 hpw)
  have HC := Lib.hid hc2
  have HK := Lib.hid (HK1.out.trans hk2)
  have hg2 : w.heap.size + 1 ≤ w2.heap.size := by have := HR.out.lt; omega
  clear hc2 hk2 hr HG1 HR1 HO1 HK1 HL
  by_cases hk0 : r = 0
  · subst hk0
    have HI := Lib.hid (l4Any w0 p v l w2 HC.out)
    go_wp2_with fail
    refine HI.out.mono ?_
    rintro e w3 ⟨y, rfl, ⟨u, m2, rfl, ho, hm2⟩, hc3, hk3⟩
    obtain ⟨x2, n2, c2, rfl, -, -, ho⟩ := ho.shapeN
    replace HG := Lib.hid (blk_keep HG.out hk3 hgp); replace HR := Lib.hid (blk_keep HR.out hk3 hwp); replace HK := Lib.hid (HK.out.trans hk3); replace HO := Lib.hid (HO.out.keep hk3 hpw); replace HC := Lib.hid hc3
    obtain ⟨f0, f1, f2, f3, f4⟩ := keepC5 HG.out
    have ff := HG.out.frozen 0
    replace HC := Lib.hid (HC.out.setI 0 (Nat.le_trans HC0.out.below.size hwg) hgp (.slice x2 n2 c2))
    replace HK := Lib.hid (HK.out.setI 0 hwg (.slice x2 n2 c2))
    replace HR := Lib.hid (HR.out.other (a := ⟨g, 0, none⟩) hgw (.slice x2 n2 c2))
    have HON := Lib.hid (show DO3 (w.heap.size + 1) (w3.setCell ⟨g, 0, none⟩ (.slice x2 n2 c2)) (.slice x2 n2 c2) (.slice xb nb cb) (.slice xc nc cc) (m2, lb, lc, f, s) from (show DO3 (w.heap.size + 1) w3 (.slice x2 n2 c2) (.slice xb nb cb) (.slice xc nc cc) (m2, lb, lc, f, s) from ⟨ho.mono (by omega), HO.out.2.1, HO.out.2.2⟩).setT HG.out)
    have HM2 := Lib.hid hm2
    clear ho hm2 hc3 hk3 HI HO
    go_upto_region 13 with fail
    replace HG := Lib.hid (HG.out.set 0 (.slice x2 n2 c2))
    clear f0 f1 f2 f3 f4 ff
    generalize w3.setCell ⟨g, 0, none⟩ (.slice x2 n2 c2) = W at *
    have HO := HON; clear HON
    obtain ⟨p0, p1, p2, p3, p4⟩ := keepC5 HG.out
    obtain ⟨r0, r1, r2, r3, r4⟩ := keepC5 HR.out
    have t0 := HR.out.frozen 0; have t1 := HR.out.frozen 1; have t2 := HR.out.frozen 2; have t3 := HR.out.frozen 3; have t4 := HR.out.frozen 4
    have Z1 := Lib.hid (set5 (a := .slice x2 n2 c2) (b := .slice xb nb cb) (c := .slice xc nc cc) (f := f) (s := s) HR.out)
    have Z2 := Lib.hid ((HO.out.fiveT (a1 := .slice x2 n2 c2) (b1 := .slice xb nb cb) (c1 := .slice xc nc cc) (f := f) (s := s) HR.out).mono (Nat.le_succ w.heap.size))
    have Z3 := Lib.hid (cur5 (a := .slice x2 n2 c2) (b := .slice xb nb cb) (c := .slice xc nc cc) (f := f) (s := s) HC.out HC0.out.below.size hwp)
    have Z4 := Lib.hid (keep5 (a := .slice x2 n2 c2) (b := .slice xb nb cb) (c := .slice xc nc cc) (f := f) (s := s) HK.out (Nat.le_refl _))
    go_wp2_with fail
    refine bodyPost_ret (Ret.results_c rfl _ _ w.heap.size (dc (.slice x2 n2 c2) (.slice xb nb cb) (.slice xc nc cc) (f) (s)).toList rfl aggD Z1.out.cells) rfl ?_
    exact ⟨_, rfl, ⟨_, _, _, _, _, _, _, _, _, (m2, lb, lc, f, s), rfl, Z2.out, (by have h9 := HBL0.out; have h8 := HM2.out; unfold bulkD at h9 ⊢; simp only at h9 ⊢; omega), wfD_of (x := (m2, lb, lc, f, s)) (by have h9 := HBL0.out; have h8 := HM2.out; unfold bulkD at h9 ⊢; simp only at h9 ⊢; omega) HYB.out HWF.out.2.2.2.1 HWF.out.2.2.2.2⟩, Z3.out, Z4.out⟩
  · have e0 : (r == 0) = false := by simpa using hk0
    by_cases hk1 : r = 1
    · subst hk1
      have HI := Lib.hid (l4Any w0 p v l w2 HC.out)
      go_wp2_with fail
      refine HI.out.mono ?_
      rintro e w3 ⟨y, rfl, ⟨u, m2, rfl, ho, hm2⟩, hc3, hk3⟩
      obtain ⟨x2, n2, c2, rfl, -, -, ho⟩ := ho.shapeN
      replace HG := Lib.hid (blk_keep HG.out hk3 hgp); replace HR := Lib.hid (blk_keep HR.out hk3 hwp); replace HK := Lib.hid (HK.out.trans hk3); replace HO := Lib.hid (HO.out.keep hk3 hpw); replace HC := Lib.hid hc3
      obtain ⟨f0, f1, f2, f3, f4⟩ := keepC5 HG.out
      have ff := HG.out.frozen 2
      replace HC := Lib.hid (HC.out.setI 2 (Nat.le_trans HC0.out.below.size hwg) hgp (.slice x2 n2 c2))
      replace HK := Lib.hid (HK.out.setI 2 hwg (.slice x2 n2 c2))
      replace HR := Lib.hid (HR.out.other (a := ⟨g, 2, none⟩) hgw (.slice x2 n2 c2))
      have HON := Lib.hid (show DO3 (w.heap.size + 1) (w3.setCell ⟨g, 2, none⟩ (.slice x2 n2 c2)) (.slice xa na ca) (.slice xb nb cb) (.slice x2 n2 c2) (la, lb, m2, f, s) from (show DO3 (w.heap.size + 1) w3 (.slice xa na ca) (.slice xb nb cb) (.slice x2 n2 c2) (la, lb, m2, f, s) from ⟨HO.out.1, HO.out.2.1, ho.mono (by omega)⟩).setT HG.out)
      have HM2 := Lib.hid hm2
      clear ho hm2 hc3 hk3 HI HO
      go_upto_region 13 with fail
      replace HG := Lib.hid (HG.out.set 2 (.slice x2 n2 c2))
      clear f0 f1 f2 f3 f4 ff
      generalize w3.setCell ⟨g, 2, none⟩ (.slice x2 n2 c2) = W at *
      have HO := HON; clear HON
      obtain ⟨p0, p1, p2, p3, p4⟩ := keepC5 HG.out
      obtain ⟨r0, r1, r2, r3, r4⟩ := keepC5 HR.out
      have t0 := HR.out.frozen 0; have t1 := HR.out.frozen 1; have t2 := HR.out.frozen 2; have t3 := HR.out.frozen 3; have t4 := HR.out.frozen 4
      have Z1 := Lib.hid (set5 (a := .slice xa na ca) (b := .slice xb nb cb) (c := .slice x2 n2 c2) (f := f) (s := s) HR.out)
      have Z2 := Lib.hid ((HO.out.fiveT (a1 := .slice xa na ca) (b1 := .slice xb nb cb) (c1 := .slice x2 n2 c2) (f := f) (s := s) HR.out).mono (Nat.le_succ w.heap.size))
      have Z3 := Lib.hid (cur5 (a := .slice xa na ca) (b := .slice xb nb cb) (c := .slice x2 n2 c2) (f := f) (s := s) HC.out HC0.out.below.size hwp)
      have Z4 := Lib.hid (keep5 (a := .slice xa na ca) (b := .slice xb nb cb) (c := .slice x2 n2 c2) (f := f) (s := s) HK.out (Nat.le_refl _))
      go_wp2_with fail
      refine bodyPost_ret (Ret.results_c rfl _ _ w.heap.size (dc (.slice xa na ca) (.slice xb nb cb) (.slice x2 n2 c2) (f) (s)).toList rfl aggD Z1.out.cells) rfl ?_
      exact ⟨_, rfl, ⟨_, _, _, _, _, _, _, _, _, (la, lb, m2, f, s), rfl, Z2.out, (by have h9 := HBL0.out; have h8 := HM2.out; unfold bulkD at h9 ⊢; simp only at h9 ⊢; omega), wfD_of (x := (la, lb, m2, f, s)) (by have h9 := HBL0.out; have h8 := HM2.out; unfold bulkD at h9 ⊢; simp only at h9 ⊢; omega) HYB.out HWF.out.2.2.2.1 HWF.out.2.2.2.2⟩, Z3.out, Z4.out⟩
    · have e1 : (r == 1) = false := by simpa using hk1
      by_cases hk2 : r = 2
      · subst hk2
        have HI := Lib.hid (intLit2 w0 p v l w2 HC.out [-1, 100000, 100001] _ rfl 3 rfl (by decide) (by decide) (-1) 100001 (by decide))
        go_wp2_with fail
        refine HI.out.mono ?_
        rintro e w3 ⟨y, rfl, ⟨q, rfl, hq1, hq2⟩, hc3, hk3⟩
        replace HG := Lib.hid (blk_keep HG.out hk3 hgp); replace HR := Lib.hid (blk_keep HR.out hk3 hwp); replace HK := Lib.hid (HK.out.trans hk3); replace HO := Lib.hid (HO.out.keep hk3 hpw); replace HC := Lib.hid hc3
        obtain ⟨f0, f1, f2, f3, f4⟩ := keepC5 HG.out
        have ff := HG.out.frozen 3
        replace HC := Lib.hid (HC.out.setI 3 (Nat.le_trans HC0.out.below.size hwg) hgp (.int .i64 q))
        replace HK := Lib.hid (HK.out.setI 3 hwg (.int .i64 q))
        replace HR := Lib.hid (HR.out.other (a := ⟨g, 3, none⟩) hgw (.int .i64 q))
        have HON := Lib.hid (show DO3 (w.heap.size + 1) (w3.setCell ⟨g, 3, none⟩ (.int .i64 q)) (.slice xa na ca) (.slice xb nb cb) (.slice xc nc cc) (la, lb, lc, q, s) from (show DO3 (w.heap.size + 1) w3 (.slice xa na ca) (.slice xb nb cb) (.slice xc nc cc) (la, lb, lc, q, s) from HO.out).setT HG.out)
        clear hc3 hk3 HI HO
        go_upto_region 13 with fail
        replace HG := Lib.hid (HG.out.set 3 (.int .i64 q))
        clear f0 f1 f2 f3 f4 ff
        generalize w3.setCell ⟨g, 3, none⟩ (.int .i64 q) = W at *
        have HO := HON; clear HON
        obtain ⟨p0, p1, p2, p3, p4⟩ := keepC5 HG.out
        obtain ⟨r0, r1, r2, r3, r4⟩ := keepC5 HR.out
        have t0 := HR.out.frozen 0; have t1 := HR.out.frozen 1; have t2 := HR.out.frozen 2; have t3 := HR.out.frozen 3; have t4 := HR.out.frozen 4
        have Z1 := Lib.hid (set5 (a := .slice xa na ca) (b := .slice xb nb cb) (c := .slice xc nc cc) (f := q) (s := s) HR.out)
        have Z2 := Lib.hid ((HO.out.fiveT (a1 := .slice xa na ca) (b1 := .slice xb nb cb) (c1 := .slice xc nc cc) (f := q) (s := s) HR.out).mono (Nat.le_succ w.heap.size))
        have Z3 := Lib.hid (cur5 (a := .slice xa na ca) (b := .slice xb nb cb) (c := .slice xc nc cc) (f := q) (s := s) HC.out HC0.out.below.size hwp)
        have Z4 := Lib.hid (keep5 (a := .slice xa na ca) (b := .slice xb nb cb) (c := .slice xc nc cc) (f := q) (s := s) HK.out (Nat.le_refl _))
        go_wp2_with fail
        refine bodyPost_ret (Ret.results_c rfl _ _ w.heap.size (dc (.slice xa na ca) (.slice xb nb cb) (.slice xc nc cc) (q) (s)).toList rfl aggD Z1.out.cells) rfl ?_
        exact ⟨_, rfl, ⟨_, _, _, _, _, _, _, _, _, (la, lb, lc, q, s), rfl, Z2.out, (show bulkD (la, lb, lc, q, s) ≤ 3000 from HBL.out), wfD_of (x := (la, lb, lc, q, s)) (show bulkD (la, lb, lc, q, s) ≤ 3000 from HBL.out) HYB.out (wf_of (by show _ ≤ q; omega) (by show q ≤ _; omega)) HWF.out.2.2.2.2⟩, Z3.out, Z4.out⟩
      · have e2 : (r == 2) = false := by simpa using hk2
        by_cases hk3 : r = 3
        · subst hk3
          have HI := Lib.hid (word w0 p v l w2 HC.out)
          go_wp2_with fail
          refine HI.out.mono ?_
          rintro e w3 ⟨y, rfl, ⟨q, rfl, hq⟩, hc3, hk3⟩
          have HQW := Lib.hid hq; clear hq
          replace HG := Lib.hid (blk_keep HG.out hk3 hgp); replace HR := Lib.hid (blk_keep HR.out hk3 hwp); replace HK := Lib.hid (HK.out.trans hk3); replace HO := Lib.hid (HO.out.keep hk3 hpw); replace HC := Lib.hid hc3
          obtain ⟨f0, f1, f2, f3, f4⟩ := keepC5 HG.out
          have ff := HG.out.frozen 4
          replace HC := Lib.hid (HC.out.setI 4 (Nat.le_trans HC0.out.below.size hwg) hgp (.int .i64 q))
          replace HK := Lib.hid (HK.out.setI 4 hwg (.int .i64 q))
          replace HR := Lib.hid (HR.out.other (a := ⟨g, 4, none⟩) hgw (.int .i64 q))
          have HON := Lib.hid (show DO3 (w.heap.size + 1) (w3.setCell ⟨g, 4, none⟩ (.int .i64 q)) (.slice xa na ca) (.slice xb nb cb) (.slice xc nc cc) (la, lb, lc, f, q) from (show DO3 (w.heap.size + 1) w3 (.slice xa na ca) (.slice xb nb cb) (.slice xc nc cc) (la, lb, lc, f, q) from HO.out).setT HG.out)
          clear hc3 hk3 HI HO
          go_upto_region 13 with fail
          replace HG := Lib.hid (HG.out.set 4 (.int .i64 q))
          clear f0 f1 f2 f3 f4 ff
          generalize w3.setCell ⟨g, 4, none⟩ (.int .i64 q) = W at *
          have HO := HON; clear HON
          obtain ⟨p0, p1, p2, p3, p4⟩ := keepC5 HG.out
          obtain ⟨r0, r1, r2, r3, r4⟩ := keepC5 HR.out
          have t0 := HR.out.frozen 0; have t1 := HR.out.frozen 1; have t2 := HR.out.frozen 2; have t3 := HR.out.frozen 3; have t4 := HR.out.frozen 4
          have Z1 := Lib.hid (set5 (a := .slice xa na ca) (b := .slice xb nb cb) (c := .slice xc nc cc) (f := f) (s := q) HR.out)
          have Z2 := Lib.hid ((HO.out.fiveT (a1 := .slice xa na ca) (b1 := .slice xb nb cb) (c1 := .slice xc nc cc) (f := f) (s := q) HR.out).mono (Nat.le_succ w.heap.size))
          have Z3 := Lib.hid (cur5 (a := .slice xa na ca) (b := .slice xb nb cb) (c := .slice xc nc cc) (f := f) (s := q) HC.out HC0.out.below.size hwp)
          have Z4 := Lib.hid (keep5 (a := .slice xa na ca) (b := .slice xb nb cb) (c := .slice xc nc cc) (f := f) (s := q) HK.out (Nat.le_refl _))
          go_wp2_with fail
          refine bodyPost_ret (Ret.results_c rfl _ _ w.heap.size (dc (.slice xa na ca) (.slice xb nb cb) (.slice xc nc cc) (f) (q)).toList rfl aggD Z1.out.cells) rfl ?_
          exact ⟨_, rfl, ⟨_, _, _, _, _, _, _, _, _, (la, lb, lc, f, q), rfl, Z2.out, (show bulkD (la, lb, lc, f, q) ≤ 3000 from HBL.out), wfD_of (x := (la, lb, lc, f, q)) (show bulkD (la, lb, lc, f, q) ≤ 3000 from HBL.out) HYB.out HWF.out.2.2.2.1 HQW.out⟩, Z3.out, Z4.out⟩
        · have e3 : (r == 3) = false := by simpa using hk3
          by_cases hk4 : r = 4
          · subst hk4
            have HI := Lib.hid (below w0 p v l w2 3 HC.out)
            go_wp2_with fail
            refine HI.out.mono ?_
            rintro e w3 ⟨y, rfl, ⟨q, rfl, hq, -⟩, hc3, hk3⟩
            have hq := hq (by omega)
            obtain ⟨k, rfl⟩ := Int.eq_ofNat_of_zero_le hq.1
            obtain ⟨k59, hk59⟩ : ∃ n : Nat, n = 59 + k := ⟨_, rfl⟩
            have hkk : (59 : Int) + (k : Int) = (k59 : Int) := by omega
            have hk61 : k59 ≤ 61 := by omega
            replace HG := Lib.hid (blk_keep HG.out hk3 hgp); replace HR := Lib.hid (blk_keep HR.out hk3 hwp); replace HK := Lib.hid (HK.out.trans hk3); replace HO := Lib.hid (HO.out.keep hk3 hpw); replace HC := Lib.hid hc3
            have hw43 : w.heap.size + 1 ≤ w3.heap.size := HR.out.lt
            obtain ⟨i0, hi, hz0, hz1, hz2⟩ := info_parts Sl.elemBYTE
            have HI0 := Lib.hid hi; have HZ0 := Lib.hid hz0; have HZ1 := Lib.hid hz1; have HZ2 := Lib.hid hz2
            clear hi hz0 hz1 hz2 hc3 hk3 HI hk59
            obtain ⟨f0, f1, f2, f3, f4⟩ := keepC5 HG.out
            go_wp2_with (at_make; refine wpList_make_full _ rfl _ _ 22 rfl w3.heap.size 5 i0 (.int .u8 0) 1 Tryz.underlying22 HI0.out HZ0.out HZ1.out _ _ _ _ k59 rfl rfl (by first | exact hkk | simp) (by first | exact hkk | simp) (by rw [HZ2.out]; omega) (by unfold maxLen; omega) (Nat.le_refl _) ?_)
            intro w4 hown hgrow
            have ho : Sl.Own 5 .u8 w3.heap.size w4 (.slice (some ⟨w3.heap.size, 0, none⟩) k59 k59) (List.replicate k59 0) := by
              unfold Sl.Own
              rw [List.length_replicate, List.map_replicate]
              rw [toList_madeCells_one] at hown
              exact hown
            have hb4 : Below w3.heap.size w3 w4 := (Below.refl _ _).grown hgrow (Nat.le_refl _) (fun k hk => by cases hk)
            clear f0 f1 f2 f3 f4 hown hgrow
            replace HG := Lib.hid (HG.out.on hb4); replace HR := Lib.hid (HR.out.on hb4); replace HK := Lib.hid (HK.out.trans (Keep.of_below hb4)); replace HO := Lib.hid (HO.out.on hb4); replace HC := Lib.hid (HC.out.on hb4)
            obtain ⟨f0, f1, f2, f3, f4⟩ := keepC5 HG.out
            have ff := HG.out.frozen 1
            replace HC := Lib.hid (HC.out.setI 1 (Nat.le_trans HC0.out.below.size hwg) hgp (.slice (some ⟨w3.heap.size, 0, none⟩) k59 k59))
            replace HK := Lib.hid (HK.out.setI 1 hwg (.slice (some ⟨w3.heap.size, 0, none⟩) k59 k59))
            replace HR := Lib.hid (HR.out.other (a := ⟨g, 1, none⟩) hgw (.slice (some ⟨w3.heap.size, 0, none⟩) k59 k59))
            have HON := Lib.hid (show DO3 (w.heap.size + 1) (w4.setCell ⟨g, 1, none⟩ (.slice (some ⟨w3.heap.size, 0, none⟩) k59 k59)) (.slice xa na ca) (.slice (some ⟨w3.heap.size, 0, none⟩) k59 k59) (.slice xc nc cc) (la, List.replicate k59 0, lc, f, s) from (show DO3 (w.heap.size + 1) w4 (.slice xa na ca) (.slice (some ⟨w3.heap.size, 0, none⟩) k59 k59) (.slice xc nc cc) (la, List.replicate k59 0, lc, f, s) from ⟨HO.out.1, Sl.Own.mono ho hw43, HO.out.2.2⟩).setT HG.out)
            clear ho hb4 HO
            go_upto_region 13 with fail
            replace HG := Lib.hid (HG.out.set 1 (.slice (some ⟨w3.heap.size, 0, none⟩) k59 k59))
            clear f0 f1 f2 f3 f4 ff
            generalize w4.setCell ⟨g, 1, none⟩ (.slice (some ⟨w3.heap.size, 0, none⟩) k59 k59) = W at *
            have HO := HON; clear HON
            obtain ⟨p0, p1, p2, p3, p4⟩ := keepC5 HG.out
            obtain ⟨r0, r1, r2, r3, r4⟩ := keepC5 HR.out
            have t0 := HR.out.frozen 0; have t1 := HR.out.frozen 1; have t2 := HR.out.frozen 2; have t3 := HR.out.frozen 3; have t4 := HR.out.frozen 4
            have Z1 := Lib.hid (set5 (a := .slice xa na ca) (b := .slice (some ⟨w3.heap.size, 0, none⟩) k59 k59) (c := .slice xc nc cc) (f := f) (s := s) HR.out)
            have Z2 := Lib.hid ((HO.out.fiveT (a1 := .slice xa na ca) (b1 := .slice (some ⟨w3.heap.size, 0, none⟩) k59 k59) (c1 := .slice xc nc cc) (f := f) (s := s) HR.out).mono (Nat.le_succ w.heap.size))
            have Z3 := Lib.hid (cur5 (a := .slice xa na ca) (b := .slice (some ⟨w3.heap.size, 0, none⟩) k59 k59) (c := .slice xc nc cc) (f := f) (s := s) HC.out HC0.out.below.size hwp)
            have Z4 := Lib.hid (keep5 (a := .slice xa na ca) (b := .slice (some ⟨w3.heap.size, 0, none⟩) k59 k59) (c := .slice xc nc cc) (f := f) (s := s) HK.out (Nat.le_refl _))
            go_wp2_with fail
            refine bodyPost_ret (Ret.results_c rfl _ _ w.heap.size (dc (.slice xa na ca) (.slice (some ⟨w3.heap.size, 0, none⟩) k59 k59) (.slice xc nc cc) (f) (s)).toList rfl aggD Z1.out.cells) rfl ?_
            exact ⟨_, rfl, ⟨_, _, _, _, _, _, _, _, _, (la, List.replicate k59 0, lc, f, s), rfl, Z2.out, (by have h9 := HBL0.out; unfold bulkD at h9 ⊢; simp only [List.length_replicate] at h9 ⊢; omega), wfD_of (x := (la, List.replicate k59 0, lc, f, s)) (by have h9 := HBL0.out; unfold bulkD at h9 ⊢; simp only [List.length_replicate] at h9 ⊢; omega) (fun x hx => by rw [List.eq_of_mem_replicate hx]; omega) HWF.out.2.2.2.1 HWF.out.2.2.2.2⟩, Z3.out, Z4.out⟩
          · have e4 : (r == 4) = false := by simpa using hk4
            go_upto_region 13 with fail
            obtain ⟨p0, p1, p2, p3, p4⟩ := keepC5 HG.out
            obtain ⟨r0, r1, r2, r3, r4⟩ := keepC5 HR.out
            have t0 := HR.out.frozen 0; have t1 := HR.out.frozen 1; have t2 := HR.out.frozen 2; have t3 := HR.out.frozen 3; have t4 := HR.out.frozen 4
            have Z1 := Lib.hid (set5 (a := .slice xa na ca) (b := .slice xb nb cb) (c := .slice xc nc cc) (f := f) (s := s) HR.out)
            have Z2 := Lib.hid ((HO.out.fiveT (a1 := .slice xa na ca) (b1 := .slice xb nb cb) (c1 := .slice xc nc cc) (f := f) (s := s) HR.out).mono (Nat.le_succ w.heap.size))
            have Z3 := Lib.hid (cur5 (a := .slice xa na ca) (b := .slice xb nb cb) (c := .slice xc nc cc) (f := f) (s := s) HC.out HC0.out.below.size hwp)
            have Z4 := Lib.hid (keep5 (a := .slice xa na ca) (b := .slice xb nb cb) (c := .slice xc nc cc) (f := f) (s := s) HK.out (Nat.le_refl _))
            go_wp2_with fail
            refine bodyPost_ret (Ret.results_c rfl _ _ w.heap.size (dc (.slice xa na ca) (.slice xb nb cb) (.slice xc nc cc) (f) (s)).toList rfl aggD Z1.out.cells) rfl ?_
            exact ⟨_, rfl, ⟨_, _, _, _, _, _, _, _, _, (la, lb, lc, f, s), rfl, Z2.out, HBL.out, wfD_of (x := (la, lb, lc, f, s)) HBL.out HYB.out HWF.out.2.2.2.1 HWF.out.2.2.2.2⟩, Z3.out, Z4.out⟩
end Go.Proofs.YtfglcmanmfenpaaGreat.Draw
/- Soft kinds of the content store, for draws; stores that are small. No conditions. -/
namespace Go.Proofs.YtfglcmanmfenpaaGreat.Row
open Go.ChangeShapes Go.WideShapes Go.ChangeAt Go.RowKit Go.Instr
set_option linter.unusedVariables false
set_option maxRecDepth 100000
def sCe : Kd Cet Cem := sDz.pair kInt
def sLCe : Kd (List Cet) (Rw Cem) := sCe.slice 64
def sCn : Kd Cnt Cnm := kInt.pair sLCe
section
variable {B E : Nat} {w : World} {t : TypeId} {c : Int} {ad : Option Addr} {n cap : Nat} {L : List Cem}
theorem noRow_sCe (h : 9 ≠ t) (g : 5 ≠ t) : sCe.NoRow t := (noRow_sDz h g).pair Kd.noRow_scalar
theorem noRow_sLCe (h : 9 ≠ t) (g : 5 ≠ t) (h3 : 64 ≠ t) : sLCe.NoRow t := (noRow_sCe h g).slice h3
theorem noRow_sCn (h : 9 ≠ t) (g : 5 ≠ t) (h3 : 64 ≠ t) : sCn.NoRow t := Kd.noRow_scalar.pair (noRow_sLCe h g h3)
theorem sCe_own {m : Cem} (h : kCe.own B w m) : sCe.own B w m := ⟨sDz_own h.1, h.2⟩
theorem sLCe_own {m : Rw Cem} (h : kLCe.own B w m) : sLCe.own B w m := ⟨h.1, fun x hx => sCe_own (h.2 x hx)⟩
theorem sCn_own {m : Cnm} (h : kCn.own B w m) : sCn.own B w m := ⟨h.1, sLCe_own h.2⟩
theorem sCn_at (h : sCn.own B w (c, ⟨ad, n, cap, L⟩)) : kCn.At w (.agg #[.int .i64 c, .slice ad n cap]) (c, L.map kCe.strip) := Kd.at_of (k := kCn) (m := (c, ⟨ad, n, cap, L⟩)) (sCn.own_holds h)
theorem sCn_in {V : Value} {x : Cnt} {E : Nat} (h : kCn.In B E w V x) : ∃ (c : Int) (ad : Option Addr) (n cap : Nat) (L : List Cem), V = .agg #[.int .i64 c, .slice ad n cap] ∧ sCn.own B w (c, ⟨ad, n, cap, L⟩) ∧ (c, L.map kCe.strip) = x := by
  obtain ⟨⟨c, ad, n, cap, L⟩, rfl, hs, ho⟩ := h.split
  exact ⟨c, ad, n, cap, L, rfl, sCn_own ho.1, hs⟩
end
def smC (k : Nat) (x : Cnt) : Prop := (Lit.int .i64 x.1).wf = true ∧ x.2.length ≤ k ∧ ∀ e ∈ x.2, inCe e ∧ wtDz e.1 ≤ 4000
theorem smC.mono {k k' : Nat} {x : Cnt} (h : smC k x) (hk : k ≤ k') : smC k' x := ⟨h.1, Nat.le_trans h.2.1 hk, h.2.2⟩
theorem smC.in {k : Nat} {x : Cnt} (h : smC k x) (hk : k ≤ 100) : inCn x := ⟨h.1, Nat.le_trans h.2.1 (Nat.le_trans hk (by decide)), fun e he => (h.2.2 e he).1⟩
theorem smC.wt {k : Nat} {x : Cnt} (h : smC k x) (hk : k ≤ 100) : wtCn x ≤ 500000 := by
  have h1 := bulkK_of (f := wtCe) (l := x.2) (n := 100) (b := 4000) (Nat.le_trans h.2.1 hk) (fun e he => (h.2.2 e he).2)
  exact Nat.le_trans h1 (by decide)
theorem smC.fit {k : Nat} {x : Cnt} (h : smC k x) (hk : k ≤ 100) : FitC x := Nat.le_trans (h.wt hk) (by decide)
theorem smC_new {k : Int} (h : (Lit.int .i64 k).wf = true) : smC 0 (newC k) := by
  refine ⟨?_, Nat.le_refl 0, fun e he => by cases he⟩
  show (Lit.int .i64 (if Num.inB k 0 8 = true then k else 0)).wf = true
  split
  · exact h
  · decide
theorem smC_cache {k : Nat} {x : Cnt} {d : Dzt} {now : Int} (h : smC k x) (hd : inDz d) (hw : wtDz d ≤ 4000) (hn : (Lit.int .i64 now).wf = true) : smC (k + 1) (cacheC x d now) := by
  unfold cacheC
  split
  · exact h.mono (Nat.le_succ _)
  · split
    · have s := (roomE_sub' x.1 (rmE x.2 d.1)).trans (rmE_sub x.2 d.1)
      refine ⟨h.1, ?_, fun e he => ?_⟩
      · have h1 := s.length_le
        have h2 := h.2.1
        show (_ ++ [_]).length ≤ _
        rw [List.length_append, List.length_singleton]; omega
      · rcases List.mem_append.1 he with he | he
        · exact h.2.2 e (s.subset he)
        · rw [List.mem_singleton.1 he]; exact ⟨⟨hd, hn⟩, hw⟩
    · exact h.mono (Nat.le_succ _)
theorem smC_touch {k : Nat} {x : Cnt} {n : List ByteArray} {now : Int} (h : smC k x) (hn : (Lit.int .i64 now).wf = true) : smC k (touchC x n now) := by
  unfold touchC touchE
  split
  · rename_i h0
    refine ⟨h.1, by show (List.set _ _ _).length ≤ k; rw [List.length_set]; exact h.2.1, fun e he => ?_⟩
    rcases List.mem_or_eq_of_mem_set he with he | he
    · exact h.2.2 e he
    · have hlt : (ixL (isE n) x.2).toNat < x.2.length := by
        rcases ixL_cases (isE n) x.2 with ⟨e1, -⟩ | ⟨j, hj, e1, -⟩ <;> omega
      have h9 := h.2.2 (nth x.2 (ixL (isE n) x.2).toNat) (nth_mem hlt)
      rw [he]
      exact ⟨⟨h9.1.1, hn⟩, h9.2⟩
  · exact h
end Go.Proofs.YtfglcmanmfenpaaGreat.Row
namespace Go.Proofs.YtfglcmanmfenpaaGreat.Draw
open Go.ChangeShapes Go.WideShapes Go.ChangeAt Go.RowKit Go.Instr
open Go.Proofs.YtfglcmanmfenpaaGreat.Row
set_option linter.unusedVariables false
def StoreD (k B : Nat) (V : Value) (w : World) : Prop := ∃ (c : Int) (ad : Option Addr) (n cap : Nat) (L : List Cem), V = .agg #[.int .i64 c, .slice ad n cap] ∧ sCn.own B w (c, ⟨ad, n, cap, L⟩) ∧ smC k (c, L.map kCe.strip)
theorem DataK.soft {K B : Nat} {V : Value} {w : World} (h : DataK K B V w) : ∃ (xa xb xc : Option Addr) (na ca nb cb nc cc : Nat) (y : Dt), V = .agg #[.slice xa na ca, .slice xb nb cb, .slice xc nc cc, .int .i64 y.2.2.2.1, .int .i64 y.2.2.2.2] ∧ sDz.own B w (⟨xa, na, ca, y.1⟩, ⟨xb, nb, cb, y.2.1⟩, ⟨xc, nc, cc, y.2.2.1⟩, y.2.2.2.1, y.2.2.2.2) ∧ bulkD y ≤ K ∧ inDz y ∨ K > 1000000 := by
  obtain ⟨xa, na, ca, xb, nb, cb, xc, nc, cc, y, rfl, ho, hb, hw⟩ := h
  by_cases hK : K ≤ 1000000
  · refine ⟨xa, xb, xc, na, ca, nb, cb, nc, cc, y, Or.inl ⟨rfl, ?_, hb, ?_⟩⟩
    · exact sDz_own ⟨kN_own2 ho.1, ⟨ownK_single.2 ho.2.1, fun _ _ => trivial⟩, kN_own2 ho.2.2, trivial, trivial⟩
    · have h9 : bulk y.1 + y.2.1.length + bulk y.2.2.1 ≤ K := hb
      have h1 := bulk_len y.1
      have h2 := bulk_len y.2.2.1
      exact ⟨⟨by omega, hw.1⟩, ⟨by unfold okB; omega, hw.2.1⟩, ⟨by omega, hw.2.2.1⟩, hw.2.2.2⟩
  · exact ⟨xa, xb, xc, na, ca, nb, cb, nc, cc, y, Or.inr (by omega)⟩
theorem DataK.soft' {K B : Nat} {V : Value} {w : World} (hK : K ≤ 1000000) (h : DataK K B V w) : ∃ (xa xb xc : Option Addr) (na ca nb cb nc cc : Nat) (y : Dt), V = .agg #[.slice xa na ca, .slice xb nb cb, .slice xc nc cc, .int .i64 y.2.2.2.1, .int .i64 y.2.2.2.2] ∧ sDz.own B w (⟨xa, na, ca, y.1⟩, ⟨xb, nb, cb, y.2.1⟩, ⟨xc, nc, cc, y.2.2.1⟩, y.2.2.2.1, y.2.2.2.2) ∧ bulkD y ≤ K ∧ inDz y := by
  obtain ⟨xa, xb, xc, na, ca, nb, cb, nc, cc, y, h | h⟩ := h.soft
  · exact ⟨xa, xb, xc, na, ca, nb, cb, nc, cc, y, h⟩
  · omega
theorem sDz_at12 {B : Nat} {w : World} {xa xb xc : Option Addr} {na ca nb cb nc cc : Nat} {y : Dt} (h : sDz.own B w (⟨xa, na, ca, y.1⟩, ⟨xb, nb, cb, y.2.1⟩, ⟨xc, nc, cc, y.2.2.1⟩, y.2.2.2.1, y.2.2.2.2)) : kDz.At w (.agg #[.slice xa na ca, .slice xb nb cb, .slice xc nc cc, .int .i64 y.2.2.2.1, .int .i64 y.2.2.2.2]) y := by
  have h2 := sDz_at h
  have e : kDz.strip ((⟨xa, na, ca, y.1⟩, ⟨xb, nb, cb, y.2.1⟩, ⟨xc, nc, cc, y.2.2.1⟩, y.2.2.2.1, y.2.2.2.2) : Dzm) = y := by
    show (kN.strip _, kB.strip _, kN.strip _, y.2.2.2.1, y.2.2.2.2) = y
    rw [kN_strip, kN_strip, show kB.strip (⟨xb, nb, cb, y.2.1⟩ : Rw Int) = y.2.1 from by simp [kB, kS, Kd.slice, Kd.scalar]]
  rw [e] at h2
  exact h2
theorem sN_at12 {B : Nat} {w : World} {x : Option Addr} {n c : Nat} {l : List ByteArray} (h : sN.own B w ⟨x, n, c, l⟩) : kN.At w (.agg #[.slice x n c]) l := by
  have h2 := sN_at h
  rw [kN_strip] at h2
  exact h2
end Go.Proofs.YtfglcmanmfenpaaGreat.Draw
