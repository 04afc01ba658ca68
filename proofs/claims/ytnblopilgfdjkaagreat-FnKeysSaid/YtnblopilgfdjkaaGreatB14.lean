/- Contracts and mathematics, joined: DrawSeal, DrawThing, DrawThings, Law, ThingTop. No conditions but those that each states. -/
import Derived.Test.YtnblopilgfdjkaaGreatB11
import Derived.Test.YtnblopilgfdjkaaGreatB13
import Derived.Laws.OwnMore
import Derived.Test.YtnblopilgfdjkaaGreatB10
import Derived.Test.YtnblopilgfdjkaaGreatB5
/- Contracts of the reference model's draws of chapter 3: secrets, slices of integers and of bytes, texts. What was in memory stays as it was. -/
namespace Go.Proofs.YtnblopilgfdjkaaGreat.Draw
open Go.ChangeShapes Go.WideShapes Go.ChangeAt Go.RowKit Go.Instr
open Sl (Holds Own Byt nth wpList_app holds_one own_empty elemBYTE elemINT)
set_option linter.unusedVariables false
set_option maxRecDepth 100000

set_option maxHeartbeats 1000000 in
theorem word (w0 : World) (p : Nat) (v : Value) (l : List UInt8) (w : World) (hc : Cur w0 p v l w) :
    Calls Tryz.prog 59 #[.pointer (some ⟨p, 0, none⟩)] w (Drawn w0 p v l w Is64) := by
  have h := once w0 p v l w 10 hc
  have HD := Lib.hid h; clear h hc
  go_enter Tryz.func59, Tryz.ntmps59
  go_wp2_with fail
  refine HD.out.mono ?_
  rintro e w1 ⟨y, rfl, ⟨b, rfl⟩, hc, hk⟩
  have C := Lib.hid hc; have K := Lib.hid hk
  clear hc hk HD
  cases b
  · have h := once w0 p v l _ 4 C.out
    have HD := Lib.hid h; clear h
    go_wp2_with fail
    refine HD.out.mono ?_
    rintro e w2 ⟨y, rfl, ⟨b, rfl⟩, hc, hk⟩
    replace C := Lib.hid hc; replace K := Lib.hid (K.out.trans hk)
    clear hc hk HD
    cases b
    · have h := below w0 p v l _ 1000000 C.out
      have HD := Lib.hid h; clear h
      go_wp2_with fail
      refine HD.out.mono ?_
      rintro e w3 ⟨y, rfl, ⟨r, rfl, hr, _⟩, hc, hk⟩
      have hr := hr (by omega)
      replace C := Lib.hid hc; replace K := Lib.hid (K.out.trans hk)
      clear hc hk HD
      have h := below w0 p v l _ 2000 C.out
      have HD := Lib.hid h; clear h
      go_wp2_with fail
      refine HD.out.mono ?_
      rintro e w4 ⟨y, rfl, ⟨q, rfl, hq, _⟩, hc, hk⟩
      have hq := hq (by omega)
      replace C := Lib.hid hc; replace K := Lib.hid (K.out.trans hk)
      clear hc hk HD
      have hm : 0 ≤ r * q := Int.mul_nonneg hr.1 hq.1
      have hm2 : r * q ≤ 1000000 * 2000 := Int.mul_le_mul (by omega) (by omega) hq.1 (by omega)
      go_wp2_with fail
      go_ret
      exact ⟨_, rfl, ⟨_, rfl, wf_of (by omega) (by omega)⟩, C.out, K.out⟩
    · have h := intLit w0 p v l _ C.out [0, 1, 2147483646] _ rfl 3 rfl (by decide) (by decide) Is64 (wf_lits (by decide))
      have HD := Lib.hid h; clear h
      go_wp2_with fail
      refine HD.out.mono ?_
      rintro e w3 ⟨y, rfl, ⟨a, rfl, ha⟩, hc, hk⟩
      replace C := Lib.hid hc; replace K := Lib.hid (K.out.trans hk); have HA := Lib.hid ha
      clear hc hk HD ha
      go_wp2_with fail
      go_ret
      exact ⟨_, rfl, ⟨_, rfl, HA.out⟩, C.out, K.out⟩
  · have h := intLit w0 p v l _ C.out [-1, 2147483647, 2147483648] _ rfl 3 rfl (by decide) (by decide) Is64 (wf_lits (by decide))
    have HD := Lib.hid h; clear h
    go_wp2_with fail
    refine HD.out.mono ?_
    rintro e w3 ⟨y, rfl, ⟨a, rfl, ha⟩, hc, hk⟩
    replace C := Lib.hid hc; replace K := Lib.hid (K.out.trans hk); have HA := Lib.hid ha
    clear hc hk HD ha
    go_wp2_with fail
    go_ret
    exact ⟨_, rfl, ⟨_, rfl, HA.out⟩, C.out, K.out⟩

def QDrawDigest (w : World) (e : Ending) (w' : World) : Prop := ∃ (x0 : Value) (m0 : List Int), e = .returned (x0) ∧ Own 3 .i64 w.heap.size w' x0 m0 ∧ (∀ y ∈ m0, (Lit.int .i64 y).wf = true) ∧ m0.length ≤ 100 ∧ Below w.heap.size w w'

def QDrawComputeMAC (w : World) (e : Ending) (w' : World) : Prop := ∃ (n0 : Int) (x1 : Value) (m1 : List Int), e = .returned (.tuple #[.int .i64 n0, x1]) ∧ (Lit.int .i64 n0).wf = true ∧ Own 3 .i64 w.heap.size w' x1 m1 ∧ (∀ y ∈ m1, (Lit.int .i64 y).wf = true) ∧ m1.length ≤ 100 ∧ Below w.heap.size w w'

def QDrawValidSecret (w : World) (e : Ending) (w' : World) : Prop := ∃ (n0 : Int), e = .returned (.int .i64 n0) ∧ (Lit.int .i64 n0).wf = true ∧ Below w.heap.size w w'

def QDrawBytesToInts (w : World) (e : Ending) (w' : World) : Prop := ∃ (x0 : Value) (m0 : List Int), e = .returned (x0) ∧ Own 5 .u8 w.heap.size w' x0 m0 ∧ Byt m0 ∧ m0.length ≤ 100 ∧ Below w.heap.size w w'

def QDrawEncrypt (w : World) (e : Ending) (w' : World) : Prop := ∃ (n0 : Int) (x1 : Value) (m1 : List Int), e = .returned (.tuple #[.int .i64 n0, x1]) ∧ (Lit.int .i64 n0).wf = true ∧ Own 5 .u8 w.heap.size w' x1 m1 ∧ Byt m1 ∧ m1.length ≤ 100 ∧ Below w.heap.size w w'

def QDrawDeriveSecret (w : World) (e : Ending) (w' : World) : Prop := ∃ (n0 : Int) (t1 : ByteArray), e = .returned (.tuple #[.int .i64 n0, .string t1]) ∧ (Lit.int .i64 n0).wf = true ∧ t1.size ≤ 100 ∧ Below w.heap.size w w'

def QDrawEqualInts (w : World) (e : Ending) (w' : World) : Prop := ∃ (x0 : Value) (m0 : List Int) (x1 : Value) (m1 : List Int), e = .returned (.tuple #[x0, x1]) ∧ Own 3 .i64 w.heap.size w' x0 m0 ∧ (∀ y ∈ m0, (Lit.int .i64 y).wf = true) ∧ m0.length ≤ 100 ∧ Own 3 .i64 w.heap.size w' x1 m1 ∧ (∀ y ∈ m1, (Lit.int .i64 y).wf = true) ∧ m1.length ≤ 100 ∧ Below w.heap.size w w'

end Go.Proofs.YtnblopilgfdjkaaGreat.Draw
/- Contracts of the reference model's draws of data packets. What was in memory stays as it was, but for the cursor. -/
namespace Go.Proofs.YtnblopilgfdjkaaGreat.Draw
open Go.ChangeShapes Go.WideShapes Go.ChangeAt Go.RowKit Go.Instr
open Go.Proofs.YtnblopilgfdjkaaGreat.Row (bulk bulk_append bulk_one bulk_nil bulk_cons Dt dc aggD bulkD advD WfD DHold DOwn)
open Go.Proofs.YtnblopilgfdjkaaGreat.Ret (NC Blk Box)
set_option linter.unusedVariables false
set_option maxRecDepth 100000

/-- A drawn packet: its parts in blocks from B on, small, its numbers fit. -/
def DataK (K B : Nat) (V : Value) (w : World) : Prop := ∃ xa na ca xb nb cb xc nc cc, ∃ y : Dt, V = .agg #[.slice xa na ca, .slice xb nb cb, .slice xc nc cc, .int .i64 y.2.2.2.1, .int .i64 y.2.2.2.2] ∧ DO3 B w (.slice xa na ca) (.slice xb nb cb) (.slice xc nc cc) y ∧ bulkD y ≤ K ∧ WfD y
set_option maxHeartbeats 8000000 in
theorem l8Draw (w0 : World) (p : Nat) (v : Value) (l : List UInt8) (w : World) (hc : Cur w0 p v l w) :
    Calls Tryz.prog 89 #[.pointer (some ⟨p, 0, none⟩)] w (DrawnW w0 p v l w (DataK 1500 w.heap.size)) := by
  have hpl := hc.lt
  have hca := hc.alloc (.cells (dc (.slice none 0 0) (.slice none 0 0) (.slice none 0 0) 0 0) 31)
  have HK0 := Lib.hid (keep_alloc p w (.cells (dc (.slice none 0 0) (.slice none 0 0) (.slice none 0 0) 0 0) 31))
  have HR0 := Lib.hid (Blk.new w (dc (.slice none 0 0) (.slice none 0 0) (.slice none 0 0) 0 0) 31)
  have HC0 := Lib.hid hc
  have HD := Lib.hid (l4Name w0 p v l _ hca)
  clear hc hca
  go_enter Tryz.func89, Tryz.ntmps89
  go_wp2_with fail
  refine HD.out.mono ?_
  rintro e w1 ⟨y, rfl, ⟨u, m, rfl, ho, hm⟩, hc1, hk1⟩
  obtain ⟨x, n, c, rfl, hn, -, ho⟩ := ho.shapeN
  have hz1 := hk1.size
  simp only [World.size_alloc] at hz1 ho
  have hal : Below w1.heap.size w1 (w1.alloc (.cells #[.slice x n c] 27)) := (Below.refl _ _).alloc (Nat.le_refl _) _
  have HC1 := Lib.hid (hc1.on hal)
  have HK1 := Lib.hid ((HK0.out.trans hk1).trans (Keep.of_below (p := p) hal))
  have HR1 := Lib.hid ((blk_keep HR0.out hk1 (by omega)).on hal)
  have HX1 := Lib.hid (Ret.Box.new w1 (.slice x n c) 27)
  have HO1 := Lib.hid (ho.on hal)
  have hgp : w1.heap.size ≠ p := by have := hc1.lt; omega
  have hgw : w1.heap.size ≠ w.heap.size := by omega
  have hwp : w.heap.size ≠ p := by omega
  have hpw : p < w.heap.size + 1 := by omega
  have hwg : w.heap.size ≤ w1.heap.size := by omega
  have HN := Lib.hid hn
  clear hal ho hc1 hk1 hn HD HR0 HK0 hz1
  go_upto_region 2 with fail
  generalize w1.alloc (.cells #[.slice x n c] 27) = W at *
  generalize w1.heap.size = g at *
  have hx1 := HX1.out.cell
  have hxf := HX1.out.frozen
  by_cases hn0 : n = 0
  · subst hn0
    have hal2 : Below W.heap.size W (W.alloc (.cells #[.string { data := #[97] }] 9)) := (Below.refl _ _).alloc (Nat.le_refl _) _
    have hx2 : (W.alloc (.cells #[.string { data := #[97] }] 9)).cell? ⟨g, 0, none⟩ = some (.slice x 0 c) := (HX1.out.on hal2).cell
    have hx3 : (W.alloc (.cells #[.string { data := #[97] }] 9)).frozen? ⟨g, 0, none⟩ = false := (HX1.out.on hal2).frozen
    have hgl := HX1.out.lt
    have HCA := Lib.hid ((HC1.out.on hal2).setI 0 (Nat.le_trans HC0.out.below.size hwg) hgp (.slice (some ⟨W.heap.size, 0, none⟩) 1 1))
    have HKA := Lib.hid ((HK1.out.trans (Keep.of_below (p := p) hal2)).setI 0 hwg (.slice (some ⟨W.heap.size, 0, none⟩) 1 1))
    have HRA := Lib.hid ((HR1.out.on hal2).grown (Ret.grownBy_set _ ⟨g, 0, none⟩ (.slice (some ⟨W.heap.size, 0, none⟩) 1 1)) (fun e => hgw (Option.some.inj e).symm))
    have HXA := Lib.hid ((HX1.out.on hal2).set (.slice (some ⟨W.heap.size, 0, none⟩) 1 1))
    have HOA := Lib.hid ((Row.own_set (g := g) (i := 0) (u := .slice (some ⟨W.heap.size, 0, none⟩) 1 1) (Row.own_one Value.string 9 W { data := #[97] }) hgl).mono (B' := w.heap.size + 1) (by have := HR1.out.lt; omega))
    have HBM : Hid (bulk [({ data := #[97] } : ByteArray)] ≤ 1000) := Lib.hid (by rw [bulk_one]; decide)
    clear hal2 hgl
    go_upto_region 4 with fail
    generalize (W.alloc (.cells #[.string { data := #[97] }] 9)).setCell ⟨g, 0, none⟩ (.slice (some ⟨W.heap.size, 0, none⟩) 1 1) = V at *
    clear HC1 HK1 HR1 HX1 HO1 hx2 hx3 hx1 hxf
    refine dr4 HCA HXA HOA (Lib.hid hgp) (Lib.hid hpw) ?_
    intro u13 u14 u15 u16 u17 u18 u19 u20 u21 u22 u23 u24 u25 gD nb cb nc cc xb xc lb lc r60 wx d1 d2 xd on ob oc hyb hmb hbc h0 h1 hc2 hk2
    have hr0 := HRA.out.lt
    have hs0 := HCA.out.below.size
    have hgl := HXA.out.lt
    have hwr : w.heap.size + 1 ≤ V.heap.size := by omega
    have h3 : DO3 (w.heap.size + 1) wx (.slice (some ⟨W.heap.size, 0, none⟩) 1 1) (.slice xb nb cb) (.slice none 0 0) ([({ data := #[97] } : ByteArray)], lb, [], 0, 0) := ⟨on, Sl.Own.mono ob hwr, Row.Own.nil _ _ _ _⟩
    have h4 := h3.fiveT (a1 := .slice (some ⟨W.heap.size, 0, none⟩) 1 1) (b1 := .slice xb nb cb) (c1 := .slice xc nc cc) (f := 40 + r60) (s := 0) xd
    have OA := Lib.hid h4.1; have OB := Lib.hid h4.2.1
    have OC := Lib.hid (holdS_five (ya := (some ⟨W.heap.size, 0, none⟩)) (ma := 1) (da := 1) (yb := xb) (mb := nb) (db := cb) (yc := xc) (mc := nc) (dc' := cc) (f1 := 40 + r60) (s1 := 0) oc xd)
    have XG := Lib.hid (set5 (a := .slice (some ⟨W.heap.size, 0, none⟩) 1 1) (b := .slice xb nb cb) (c := .slice xc nc cc) (f := 40 + r60) (s := 0) xd)
    have XR := Lib.hid (blk5 (q := gD) (a := .slice (some ⟨W.heap.size, 0, none⟩) 1 1) (b := .slice xb nb cb) (c := .slice xc nc cc) (f := 40 + r60) (s := 0) (blk_keep HRA.out hk2 hwp) (show w.heap.size ≠ gD by omega))
    have C2 := Lib.hid (cur5 (a := .slice (some ⟨W.heap.size, 0, none⟩) 1 1) (b := .slice xb nb cb) (c := .slice xc nc cc) (f := 40 + r60) (s := 0) hc2 (show w0.heap.size ≤ gD by omega) d2)
    have K2 := Lib.hid (keep5 (a := .slice (some ⟨W.heap.size, 0, none⟩) 1 1) (b := .slice xb nb cb) (c := .slice xc nc cc) (f := 40 + r60) (s := 0) (HKA.out.trans hk2) (show w.heap.size ≤ gD by omega))
    have HYB := Lib.hid hyb
    have HBL := Lib.hid (show bulkD ([({ data := #[97] } : ByteArray)], lb, lc, 40 + r60, 0) ≤ 1500 by have h9 := HBM.out; unfold bulkD; simp only; omega)
    have hgr : gD ≠ w.heap.size := by omega
    clear h3 h4 xd on ob oc hc2 hk2 hyb hmb hbc
    go_wp2_with fail
    refine dr5 C2 XG XR OA OB OC (Lib.hid d2) (Lib.hid hwp) (Lib.hid hgr) (Lib.hid hpw) HYB (Lib.hid (Nat.le_trans HBL.out (by decide))) ?_
    intro u26 u27 u28 u29 ya yb yc ma da mb db mc dc_ t M wy xr2 os hM ht0 ht1 hc3 hk3
    have hsz := K2.out.size
    have Z1 := Lib.hid (set5 (a := .slice ya ma da) (b := .slice yb mb db) (c := .slice yc mc dc_) (f := 40 + r60) (s := M) xr2)
    have Z2 := Lib.hid ((os.fiveT (a1 := .slice ya ma da) (b1 := .slice yb mb db) (c1 := .slice yc mc dc_) (f := 40 + r60) (s := M) xr2).mono hsz)
    have Z3 := Lib.hid (cur5 (a := .slice ya ma da) (b := .slice yb mb db) (c := .slice yc mc dc_) (f := 40 + r60) (s := M) hc3 (Nat.le_trans HC0.out.below.size (Nat.le_refl _)) hwp)
    have Z4 := Lib.hid (keep5 (a := .slice ya ma da) (b := .slice yb mb db) (c := .slice yc mc dc_) (f := 40 + r60) (s := M) (K2.out.trans hk3) (Nat.le_refl _))
    have HMI := Lib.hid (Seal.mac_in t (Row.portD ([({ data := #[97] } : ByteArray)], lb, lc, 40 + r60, 0)))
    have HMM := Lib.hid hM
    clear xr2 os hM hc3 hk3 hsz
    go_wp2_with fail
    refine bodyPost_ret (Ret.results_c rfl _ _ w.heap.size (dc (.slice ya ma da) (.slice yb mb db) (.slice yc mc dc_) (40 + r60) M).toList rfl aggD Z1.out.cells) rfl ?_
    exact ⟨_, rfl, ⟨ya, ma, da, yb, mb, db, yc, mc, dc_, ([({ data := #[97] } : ByteArray)], lb, lc, 40 + r60, M), rfl, Z2.out, HBL.out, wfD_of (Nat.le_trans HBL.out (by decide)) HYB.out (wf_of (by show _ ≤ 40 + r60; omega) (by show 40 + r60 ≤ _; omega)) (wf_of (by have h9 := HMI.out; rw [← HMM.out] at h9; show _ ≤ M; omega) (by have h9 := HMI.out; rw [← HMM.out] at h9; show M ≤ _; omega))⟩, Z3.out, Z4.out⟩
  · have hne : ((n : Int) == 0) = false := by simpa using hn0
    have HBM : Hid (bulk m ≤ 1000) := Lib.hid (by omega)
    clear hn0
    go_wp2_with fail
    clear hx1 hxf
    refine dr4 HC1 HX1 HO1 (Lib.hid hgp) (Lib.hid hpw) ?_
    intro u13 u14 u15 u16 u17 u18 u19 u20 u21 u22 u23 u24 u25 gD nb cb nc cc xb xc lb lc r60 wx d1 d2 xd on ob oc hyb hmb hbc h0 h1 hc2 hk2
    have hr0 := HR1.out.lt
    have hs0 := HC1.out.below.size
    have hgl := HX1.out.lt
    have hwr : w.heap.size + 1 ≤ W.heap.size := by omega
    have h3 : DO3 (w.heap.size + 1) wx (.slice x n c) (.slice xb nb cb) (.slice none 0 0) (m, lb, [], 0, 0) := ⟨on, Sl.Own.mono ob hwr, Row.Own.nil _ _ _ _⟩
    have h4 := h3.fiveT (a1 := .slice x n c) (b1 := .slice xb nb cb) (c1 := .slice xc nc cc) (f := 40 + r60) (s := 0) xd
    have OA := Lib.hid h4.1; have OB := Lib.hid h4.2.1
    have OC := Lib.hid (holdS_five (ya := x) (ma := n) (da := c) (yb := xb) (mb := nb) (db := cb) (yc := xc) (mc := nc) (dc' := cc) (f1 := 40 + r60) (s1 := 0) oc xd)
    have XG := Lib.hid (set5 (a := .slice x n c) (b := .slice xb nb cb) (c := .slice xc nc cc) (f := 40 + r60) (s := 0) xd)
    have XR := Lib.hid (blk5 (q := gD) (a := .slice x n c) (b := .slice xb nb cb) (c := .slice xc nc cc) (f := 40 + r60) (s := 0) (blk_keep HR1.out hk2 hwp) (show w.heap.size ≠ gD by omega))
    have C2 := Lib.hid (cur5 (a := .slice x n c) (b := .slice xb nb cb) (c := .slice xc nc cc) (f := 40 + r60) (s := 0) hc2 (show w0.heap.size ≤ gD by omega) d2)
    have K2 := Lib.hid (keep5 (a := .slice x n c) (b := .slice xb nb cb) (c := .slice xc nc cc) (f := 40 + r60) (s := 0) (HK1.out.trans hk2) (show w.heap.size ≤ gD by omega))
    have HYB := Lib.hid hyb
    have HBL := Lib.hid (show bulkD (m, lb, lc, 40 + r60, 0) ≤ 1500 by have h9 := HBM.out; unfold bulkD; simp only; omega)
    have hgr : gD ≠ w.heap.size := by omega
    clear h3 h4 xd on ob oc hc2 hk2 hyb hmb hbc
    go_wp2_with fail
    refine dr5 C2 XG XR OA OB OC (Lib.hid d2) (Lib.hid hwp) (Lib.hid hgr) (Lib.hid hpw) HYB (Lib.hid (Nat.le_trans HBL.out (by decide))) ?_
    intro u26 u27 u28 u29 ya yb yc ma da mb db mc dc_ t M wy xr2 os hM ht0 ht1 hc3 hk3
    have hsz := K2.out.size
    have Z1 := Lib.hid (set5 (a := .slice ya ma da) (b := .slice yb mb db) (c := .slice yc mc dc_) (f := 40 + r60) (s := M) xr2)
    have Z2 := Lib.hid ((os.fiveT (a1 := .slice ya ma da) (b1 := .slice yb mb db) (c1 := .slice yc mc dc_) (f := 40 + r60) (s := M) xr2).mono hsz)
    have Z3 := Lib.hid (cur5 (a := .slice ya ma da) (b := .slice yb mb db) (c := .slice yc mc dc_) (f := 40 + r60) (s := M) hc3 (Nat.le_trans HC0.out.below.size (Nat.le_refl _)) hwp)
    have Z4 := Lib.hid (keep5 (a := .slice ya ma da) (b := .slice yb mb db) (c := .slice yc mc dc_) (f := 40 + r60) (s := M) (K2.out.trans hk3) (Nat.le_refl _))
    have HMI := Lib.hid (Seal.mac_in t (Row.portD (m, lb, lc, 40 + r60, 0)))
    have HMM := Lib.hid hM
    clear xr2 os hM hc3 hk3 hsz
    go_wp2_with fail
    refine bodyPost_ret (Ret.results_c rfl _ _ w.heap.size (dc (.slice ya ma da) (.slice yb mb db) (.slice yc mc dc_) (40 + r60) M).toList rfl aggD Z1.out.cells) rfl ?_
    exact ⟨_, rfl, ⟨ya, ma, da, yb, mb, db, yc, mc, dc_, (m, lb, lc, 40 + r60, M), rfl, Z2.out, HBL.out, wfD_of (Nat.le_trans HBL.out (by decide)) HYB.out (wf_of (by show _ ≤ 40 + r60; omega) (by show 40 + r60 ≤ _; omega)) (wf_of (by have h9 := HMI.out; rw [← HMM.out] at h9; show _ ≤ M; omega) (by have h9 := HMI.out; rw [← HMM.out] at h9; show M ≤ _; omega))⟩, Z3.out, Z4.out⟩

set_option maxHeartbeats 8000000 in
theorem l8Any (w0 : World) (p : Nat) (v : Value) (l : List UInt8) (w : World) (hc : Cur w0 p v l w) :
    Calls Tryz.prog 69 #[.pointer (some ⟨p, 0, none⟩)] w (DrawnW w0 p v l w (DataK 3000 w.heap.size)) := by
  have hpl := hc.lt
  have hca := hc.alloc (.cells (dc (.slice none 0 0) (.slice none 0 0) (.slice none 0 0) 0 0) 31)
  have HK0 := Lib.hid (keep_alloc p w (.cells (dc (.slice none 0 0) (.slice none 0 0) (.slice none 0 0) 0 0) 31))
  have HR0 := Lib.hid (Blk.new w (dc (.slice none 0 0) (.slice none 0 0) (.slice none 0 0) 0 0) 31)
  have HC0 := Lib.hid hc
  have HD := Lib.hid (l8Draw w0 p v l _ hca)
  clear hc hca
  go_enter Tryz.func69, Tryz.ntmps69
  go_wp2_with fail
  refine HD.out.mono ?_
  rintro e w1 ⟨V, rfl, ⟨xa, na, ca, xb, nb, cb, xc, nc, cc, y, rfl, ho, hbl, hwf⟩, hc1, hk1⟩
  obtain ⟨la, lb, lc, f, s⟩ := y
  have hz1 := hk1.size
  simp only [World.size_alloc] at hz1 ho
  simp only
  have hal : Below w1.heap.size w1 (w1.alloc (.cells (dc (.slice xa na ca) (.slice xb nb cb) (.slice xc nc cc) f s) 31)) := (Below.refl _ _).alloc (Nat.le_refl _) _
  have HL := Lib.hid (below w0 p v l _ 12 (hc1.on hal))
  have HK1 := Lib.hid ((HK0.out.trans hk1).trans (Keep.of_below (p := p) hal))
  have HR1 := Lib.hid ((blk_keep HR0.out hk1 (by omega)).on hal)
  have HG1 := Lib.hid (Blk.new w1 (dc (.slice xa na ca) (.slice xb nb cb) (.slice xc nc cc) f s) 31)
  have HO1 := Lib.hid (ho.on hal)
  have hgp : w1.heap.size ≠ p := by have := hc1.lt; omega
  have hgw : w1.heap.size ≠ w.heap.size := by omega
  have hwp : w.heap.size ≠ p := by omega
  have hpw : p < w.heap.size + 1 := by omega
  have hwg : w.heap.size ≤ w1.heap.size := by omega
  have HBL0 := Lib.hid hbl; have HBL := Lib.hid (show bulkD (la, lb, lc, f, s) ≤ 3000 from Nat.le_trans hbl (by decide)); have HWF := Lib.hid hwf
  have HYB := Lib.hid (show Sl.Byt lb from Sl.byt_of_wf hwf.2.1)
  clear hal ho hc1 hk1 HD HR0 HK0 hz1 hbl hwf
  go_upto_region 2 with fail
  generalize w1.alloc (.cells (dc (.slice xa na ca) (.slice xb nb cb) (.slice xc nc cc) f s) 31) = V at *
  generalize w1.heap.size = g at *
  go_wp2_with fail
  refine HL.out.mono ?_
  rintro e w2 ⟨y, rfl, ⟨r, rfl, hr, -⟩, hc2, hk2⟩
  have HG := Lib.hid (blk_keep HG1.out hk2 hgp)
  have HR := Lib.hid (blk_keep HR1.out hk2 hwp)
  have HO := Lib.hid (HO1.out.keep hk2 hpw)
  have HC := Lib.hid hc2
  have HK := Lib.hid (HK1.out.trans hk2)
  have hg2 : w.heap.size + 1 ≤ w2.heap.size := by have := HR.out.lt; omega
  clear hc2 hk2 hr HG1 HR1 HO1 HK1 HL
  by_cases hk0 : r = 0
  · subst hk0
    have HI := Lib.hid (l4Any w0 p v l w2 HC.out)
    go_wp2_with fail
    refine HI.out.mono ?_
    rintro e w3 ⟨y, rfl, ⟨u, m2, rfl, ho, hm2⟩, hc3, hk3⟩
    obtain ⟨x2, n2, c2, rfl, -, -, ho⟩ := ho.shapeN
    replace HG := Lib.hid (blk_keep HG.out hk3 hgp); replace HR := Lib.hid (blk_keep HR.out hk3 hwp); replace HK := Lib.hid (HK.out.trans hk3); replace HO := Lib.hid (HO.out.keep hk3 hpw); replace HC := Lib.hid hc3
    obtain ⟨f0, f1, f2, f3, f4⟩ := keepC5 HG.out
    have ff := HG.out.frozen 0
    replace HC := Lib.hid (HC.out.setI 0 (Nat.le_trans HC0.out.below.size hwg) hgp (.slice x2 n2 c2))
    replace HK := Lib.hid (HK.out.setI 0 hwg (.slice x2 n2 c2))
    replace HR := Lib.hid (HR.out.other (a := ⟨g, 0, none⟩) hgw (.slice x2 n2 c2))
    have HON := Lib.hid (show DO3 (w.heap.size + 1) (w3.setCell ⟨g, 0, none⟩ (.slice x2 n2 c2)) (.slice x2 n2 c2) (.slice xb nb cb) (.slice xc nc cc) (m2, lb, lc, f, s) from (show DO3 (w.heap.size + 1) w3 (.slice x2 n2 c2) (.slice xb nb cb) (.slice xc nc cc) (m2, lb, lc, f, s) from ⟨ho.mono (by omega), HO.out.2.1, HO.out.2.2⟩).setT HG.out)
    have HM2 := Lib.hid hm2
    clear ho hm2 hc3 hk3 HI HO
    go_upto_region 13 with fail
    replace HG := Lib.hid (HG.out.set 0 (.slice x2 n2 c2))
    clear f0 f1 f2 f3 f4 ff
    generalize w3.setCell ⟨g, 0, none⟩ (.slice x2 n2 c2) = W at *
    have HO := HON; clear HON
    obtain ⟨p0, p1, p2, p3, p4⟩ := keepC5 HG.out
    obtain ⟨r0, r1, r2, r3, r4⟩ := keepC5 HR.out
    have t0 := HR.out.frozen 0; have t1 := HR.out.frozen 1; have t2 := HR.out.frozen 2; have t3 := HR.out.frozen 3; have t4 := HR.out.frozen 4
    have Z1 := Lib.hid (set5 (a := .slice x2 n2 c2) (b := .slice xb nb cb) (c := .slice xc nc cc) (f := f) (s := s) HR.out)
    have Z2 := Lib.hid ((HO.out.fiveT (a1 := .slice x2 n2 c2) (b1 := .slice xb nb cb) (c1 := .slice xc nc cc) (f := f) (s := s) HR.out).mono (Nat.le_succ w.heap.size))
    have Z3 := Lib.hid (cur5 (a := .slice x2 n2 c2) (b := .slice xb nb cb) (c := .slice xc nc cc) (f := f) (s := s) HC.out HC0.out.below.size hwp)
    have Z4 := Lib.hid (keep5 (a := .slice x2 n2 c2) (b := .slice xb nb cb) (c := .slice xc nc cc) (f := f) (s := s) HK.out (Nat.le_refl _))
    go_wp2_with fail
    refine bodyPost_ret (Ret.results_c rfl _ _ w.heap.size (dc (.slice x2 n2 c2) (.slice xb nb cb) (.slice xc nc cc) (f) (s)).toList rfl aggD Z1.out.cells) rfl ?_
    exact ⟨_, rfl, ⟨_, _, _, _, _, _, _, _, _, (m2, lb, lc, f, s), rfl, Z2.out, (by have h9 := HBL0.out; have h8 := HM2.out; unfold bulkD at h9 ⊢; simp only at h9 ⊢; omega), wfD_of (x := (m2, lb, lc, f, s)) (by have h9 := HBL0.out; have h8 := HM2.out; unfold bulkD at h9 ⊢; simp only at h9 ⊢; omega) HYB.out HWF.out.2.2.2.1 HWF.out.2.2.2.2⟩, Z3.out, Z4.out⟩
  · have e0 : (r == 0) = false := by simpa using hk0
    by_cases hk1 : r = 1
    · subst hk1
      have HI := Lib.hid (l4Any w0 p v l w2 HC.out)
      go_wp2_with fail
      refine HI.out.mono ?_
      rintro e w3 ⟨y, rfl, ⟨u, m2, rfl, ho, hm2⟩, hc3, hk3⟩
      obtain ⟨x2, n2, c2, rfl, -, -, ho⟩ := ho.shapeN
      replace HG := Lib.hid (blk_keep HG.out hk3 hgp); replace HR := Lib.hid (blk_keep HR.out hk3 hwp); replace HK := Lib.hid (HK.out.trans hk3); replace HO := Lib.hid (HO.out.keep hk3 hpw); replace HC := Lib.hid hc3
      obtain ⟨f0, f1, f2, f3, f4⟩ := keepC5 HG.out
      have ff := HG.out.frozen 2
      replace HC := Lib.hid (HC.out.setI 2 (Nat.le_trans HC0.out.below.size hwg) hgp (.slice x2 n2 c2))
      replace HK := Lib.hid (HK.out.setI 2 hwg (.slice x2 n2 c2))
      replace HR := Lib.hid (HR.out.other (a := ⟨g, 2, none⟩) hgw (.slice x2 n2 c2))
      have HON := Lib.hid (show DO3 (w.heap.size + 1) (w3.setCell ⟨g, 2, none⟩ (.slice x2 n2 c2)) (.slice xa na ca) (.slice xb nb cb) (.slice x2 n2 c2) (la, lb, m2, f, s) from (show DO3 (w.heap.size + 1) w3 (.slice xa na ca) (.slice xb nb cb) (.slice x2 n2 c2) (la, lb, m2, f, s) from ⟨HO.out.1, HO.out.2.1, ho.mono (by omega)⟩).setT HG.out)
      have HM2 := Lib.hid hm2
      clear ho hm2 hc3 hk3 HI HO
      go_upto_region 13 with fail
      replace HG := Lib.hid (HG.out.set 2 (.slice x2 n2 c2))
      clear f0 f1 f2 f3 f4 ff
      generalize w3.setCell ⟨g, 2, none⟩ (.slice x2 n2 c2) = W at *
      have HO := HON; clear HON
      obtain ⟨p0, p1, p2, p3, p4⟩ := keepC5 HG.out
      obtain ⟨r0, r1, r2, r3, r4⟩ := keepC5 HR.out
      have t0 := HR.out.frozen 0; have t1 := HR.out.frozen 1; have t2 := HR.out.frozen 2; have t3 := HR.out.frozen 3; have t4 := HR.out.frozen 4
      have Z1 := Lib.hid (set5 (a := .slice xa na ca) (b := .slice xb nb cb) (c := .slice x2 n2 c2) (f := f) (s := s) HR.out)
      have Z2 := Lib.hid ((HO.out.fiveT (a1 := .slice xa na ca) (b1 := .slice xb nb cb) (c1 := .slice x2 n2 c2) (f := f) (s := s) HR.out).mono (Nat.le_succ w.heap.size))
      have Z3 := Lib.hid (cur5 (a := .slice xa na ca) (b := .slice xb nb cb) (c := .slice x2 n2 c2) (f := f) (s := s) HC.out HC0.out.below.size hwp)
      have Z4 := Lib.hid (keep5 (a := .slice xa na ca) (b := .slice xb nb cb) (c := .slice x2 n2 c2) (f := f) (s := s) HK.out (Nat.le_refl _))
      go_wp2_with fail
      refine bodyPost_ret (Ret.results_c rfl _ _ w.heap.size (dc (.slice xa na ca) (.slice xb nb cb) (.slice x2 n2 c2) (f) (s)).toList rfl aggD Z1.out.cells) rfl ?_
      exact ⟨_, rfl, ⟨_, _, _, _, _, _, _, _, _, (la, lb, m2, f, s), rfl, Z2.out, (by have h9 := HBL0.out; have h8 := HM2.out; unfold bulkD at h9 ⊢; simp only at h9 ⊢; omega), wfD_of (x := (la, lb, m2, f, s)) (by have h9 := HBL0.out; have h8 := HM2.out; unfold bulkD at h9 ⊢; simp only at h9 ⊢; omega) HYB.out HWF.out.2.2.2.1 HWF.out.2.2.2.2⟩, Z3.out, Z4.out⟩
    · have e1 : (r == 1) = false := by simpa using hk1
      by_cases hk2 : r = 2
      · subst hk2
        have HI := Lib.hid (intLit2 w0 p v l w2 HC.out [-1, 100000, 100001] _ rfl 3 rfl (by decide) (by decide) (-1) 100001 (by decide))
        go_wp2_with fail
        refine HI.out.mono ?_
        rintro e w3 ⟨y, rfl, ⟨q, rfl, hq1, hq2⟩, hc3, hk3⟩
        replace HG := Lib.hid (blk_keep HG.out hk3 hgp); replace HR := Lib.hid (blk_keep HR.out hk3 hwp); replace HK := Lib.hid (HK.out.trans hk3); replace HO := Lib.hid (HO.out.keep hk3 hpw); replace HC := Lib.hid hc3
        obtain ⟨f0, f1, f2, f3, f4⟩ := keepC5 HG.out
        have ff := HG.out.frozen 3
        replace HC := Lib.hid (HC.out.setI 3 (Nat.le_trans HC0.out.below.size hwg) hgp (.int .i64 q))
        replace HK := Lib.hid (HK.out.setI 3 hwg (.int .i64 q))
        replace HR := Lib.hid (HR.out.other (a := ⟨g, 3, none⟩) hgw (.int .i64 q))
        have HON := Lib.hid (show DO3 (w.heap.size + 1) (w3.setCell ⟨g, 3, none⟩ (.int .i64 q)) (.slice xa na ca) (.slice xb nb cb) (.slice xc nc cc) (la, lb, lc, q, s) from (show DO3 (w.heap.size + 1) w3 (.slice xa na ca) (.slice xb nb cb) (.slice xc nc cc) (la, lb, lc, q, s) from HO.out).setT HG.out)
        clear hc3 hk3 HI HO
        go_upto_region 13 with fail
        replace HG := Lib.hid (HG.out.set 3 (.int .i64 q))
        clear f0 f1 f2 f3 f4 ff
        generalize w3.setCell ⟨g, 3, none⟩ (.int .i64 q) = W at *
        have HO := HON; clear HON
        obtain ⟨p0, p1, p2, p3, p4⟩ := keepC5 HG.out
        obtain ⟨r0, r1, r2, r3, r4⟩ := keepC5 HR.out
        have t0 := HR.out.frozen 0; have t1 := HR.out.frozen 1; have t2 := HR.out.frozen 2; have t3 := HR.out.frozen 3; have t4 := HR.out.frozen 4
        have Z1 := Lib.hid (set5 (a := .slice xa na ca) (b := .slice xb nb cb) (c := .slice xc nc cc) (f := q) (s := s) HR.out)
        have Z2 := Lib.hid ((HO.out.fiveT (a1 := .slice xa na ca) (b1 := .slice xb nb cb) (c1 := .slice xc nc cc) (f := q) (s := s) HR.out).mono (Nat.le_succ w.heap.size))
        have Z3 := Lib.hid (cur5 (a := .slice xa na ca) (b := .slice xb nb cb) (c := .slice xc nc cc) (f := q) (s := s) HC.out HC0.out.below.size hwp)
        have Z4 := Lib.hid (keep5 (a := .slice xa na ca) (b := .slice xb nb cb) (c := .slice xc nc cc) (f := q) (s := s) HK.out (Nat.le_refl _))
        go_wp2_with fail
        refine bodyPost_ret (Ret.results_c rfl _ _ w.heap.size (dc (.slice xa na ca) (.slice xb nb cb) (.slice xc nc cc) (q) (s)).toList rfl aggD Z1.out.cells) rfl ?_
        exact ⟨_, rfl, ⟨_, _, _, _, _, _, _, _, _, (la, lb, lc, q, s), rfl, Z2.out, (show bulkD (la, lb, lc, q, s) ≤ 3000 from HBL.out), wfD_of (x := (la, lb, lc, q, s)) (show bulkD (la, lb, lc, q, s) ≤ 3000 from HBL.out) HYB.out (wf_of (by show _ ≤ q; omega) (by show q ≤ _; omega)) HWF.out.2.2.2.2⟩, Z3.out, Z4.out⟩
      · have e2 : (r == 2) = false := by simpa using hk2
        by_cases hk3 : r = 3
        · subst hk3
          have HI := Lib.hid (word w0 p v l w2 HC.out)
          go_wp2_with fail
          refine HI.out.mono ?_
          rintro e w3 ⟨y, rfl, ⟨q, rfl, hq⟩, hc3, hk3⟩
          have HQW := Lib.hid hq; clear hq
          replace HG := Lib.hid (blk_keep HG.out hk3 hgp); replace HR := Lib.hid (blk_keep HR.out hk3 hwp); replace HK := Lib.hid (HK.out.trans hk3); replace HO := Lib.hid (HO.out.keep hk3 hpw); replace HC := Lib.hid hc3
          obtain ⟨f0, f1, f2, f3, f4⟩ := keepC5 HG.out
          have ff := HG.out.frozen 4
          replace HC := Lib.hid (HC.out.setI 4 (Nat.le_trans HC0.out.below.size hwg) hgp (.int .i64 q))
          replace HK := Lib.hid (HK.out.setI 4 hwg (.int .i64 q))
          replace HR := Lib.hid (HR.out.other (a := ⟨g, 4, none⟩) hgw (.int .i64 q))
          have HON := Lib.hid (show DO3 (w.heap.size + 1) (w3.setCell ⟨g, 4, none⟩ (.int .i64 q)) (.slice xa na ca) (.slice xb nb cb) (.slice xc nc cc) (la, lb, lc, f, q) from (show DO3 (w.heap.size + 1) w3 (.slice xa na ca) (.slice xb nb cb) (.slice xc nc cc) (la, lb, lc, f, q) from HO.out).setT HG.out)
          clear hc3 hk3 HI HO
          go_upto_region 13 with fail
          replace HG := Lib.hid (HG.out.set 4 (.int .i64 q))
          clear f0 f1 f2 f3 f4 ff
          generalize w3.setCell ⟨g, 4, none⟩ (.int .i64 q) = W at *
          have HO := HON; clear HON
          obtain ⟨p0, p1, p2, p3, p4⟩ := keepC5 HG.out
          obtain ⟨r0, r1, r2, r3, r4⟩ := keepC5 HR.out
          have t0 := HR.out.frozen 0; have t1 := HR.out.frozen 1; have t2 := HR.out.frozen 2; have t3 := HR.out.frozen 3; have t4 := HR.out.frozen 4
          have Z1 := Lib.hid (set5 (a := .slice xa na ca) (b := .slice xb nb cb) (c := .slice xc nc cc) (f := f) (s := q) HR.out)
          have Z2 := Lib.hid ((HO.out.fiveT (a1 := .slice xa na ca) (b1 := .slice xb nb cb) (c1 := .slice xc nc cc) (f := f) (s := q) HR.out).mono (Nat.le_succ w.heap.size))
          have Z3 := Lib.hid (cur5 (a := .slice xa na ca) (b := .slice xb nb cb) (c := .slice xc nc cc) (f := f) (s := q) HC.out HC0.out.below.size hwp)
          have Z4 := Lib.hid (keep5 (a := .slice xa na ca) (b := .slice xb nb cb) (c := .slice xc nc cc) (f := f) (s := q) HK.out (Nat.le_refl _))
          go_wp2_with fail
          refine bodyPost_ret (Ret.results_c rfl _ _ w.heap.size (dc (.slice xa na ca) (.slice xb nb cb) (.slice xc nc cc) (f) (q)).toList rfl aggD Z1.out.cells) rfl ?_
          exact ⟨_, rfl, ⟨_, _, _, _, _, _, _, _, _, (la, lb, lc, f, q), rfl, Z2.out, (show bulkD (la, lb, lc, f, q) ≤ 3000 from HBL.out), wfD_of (x := (la, lb, lc, f, q)) (show bulkD (la, lb, lc, f, q) ≤ 3000 from HBL.out) HYB.out HWF.out.2.2.2.1 HQW.out⟩, Z3.out, Z4.out⟩
        · have e3 : (r == 3) = false := by simpa using hk3
          by_cases hk4 : r = 4
          · subst hk4
            have HI := Lib.hid (below w0 p v l w2 3 HC.out)
            go_wp2_with fail
            refine HI.out.mono ?_
            rintro e w3 ⟨y, rfl, ⟨q, rfl, hq, -⟩, hc3, hk3⟩
            have hq := hq (by omega)
            obtain ⟨k, rfl⟩ := Int.eq_ofNat_of_zero_le hq.1
            obtain ⟨k59, hk59⟩ : ∃ n : Nat, n = 59 + k := ⟨_, rfl⟩
            have hkk : (59 : Int) + (k : Int) = (k59 : Int) := by omega
            have hk61 : k59 ≤ 61 := by omega
            replace HG := Lib.hid (blk_keep HG.out hk3 hgp); replace HR := Lib.hid (blk_keep HR.out hk3 hwp); replace HK := Lib.hid (HK.out.trans hk3); replace HO := Lib.hid (HO.out.keep hk3 hpw); replace HC := Lib.hid hc3
            have hw43 : w.heap.size + 1 ≤ w3.heap.size := HR.out.lt
            obtain ⟨i0, hi, hz0, hz1, hz2⟩ := info_parts Sl.elemBYTE
            have HI0 := Lib.hid hi; have HZ0 := Lib.hid hz0; have HZ1 := Lib.hid hz1; have HZ2 := Lib.hid hz2
            clear hi hz0 hz1 hz2 hc3 hk3 HI hk59
            obtain ⟨f0, f1, f2, f3, f4⟩ := keepC5 HG.out
            go_wp2_with (at_make; refine wpList_make_full _ rfl _ _ 22 rfl w3.heap.size 5 i0 (.int .u8 0) 1 Tryz.underlying22 HI0.out HZ0.out HZ1.out _ _ _ _ k59 rfl rfl (by first | exact hkk | simp) (by first | exact hkk | simp) (by rw [HZ2.out]; omega) (by unfold maxLen; omega) (Nat.le_refl _) ?_)
            intro w4 hown hgrow
            have ho : Sl.Own 5 .u8 w3.heap.size w4 (.slice (some ⟨w3.heap.size, 0, none⟩) k59 k59) (List.replicate k59 0) := by
              unfold Sl.Own
              rw [List.length_replicate, List.map_replicate]
              rw [toList_madeCells_one] at hown
              exact hown
            have hb4 : Below w3.heap.size w3 w4 := (Below.refl _ _).grown hgrow (Nat.le_refl _) (fun k hk => by cases hk)
            clear f0 f1 f2 f3 f4 hown hgrow
            replace HG := Lib.hid (HG.out.on hb4); replace HR := Lib.hid (HR.out.on hb4); replace HK := Lib.hid (HK.out.trans (Keep.of_below hb4)); replace HO := Lib.hid (HO.out.on hb4); replace HC := Lib.hid (HC.out.on hb4)
            obtain ⟨f0, f1, f2, f3, f4⟩ := keepC5 HG.out
            have ff := HG.out.frozen 1
            replace HC := Lib.hid (HC.out.setI 1 (Nat.le_trans HC0.out.below.size hwg) hgp (.slice (some ⟨w3.heap.size, 0, none⟩) k59 k59))
            replace HK := Lib.hid (HK.out.setI 1 hwg (.slice (some ⟨w3.heap.size, 0, none⟩) k59 k59))
            replace HR := Lib.hid (HR.out.other (a := ⟨g, 1, none⟩) hgw (.slice (some ⟨w3.heap.size, 0, none⟩) k59 k59))
            have HON := Lib.hid (show DO3 (w.heap.size + 1) (w4.setCell ⟨g, 1, none⟩ (.slice (some ⟨w3.heap.size, 0, none⟩) k59 k59)) (.slice xa na ca) (.slice (some ⟨w3.heap.size, 0, none⟩) k59 k59) (.slice xc nc cc) (la, List.replicate k59 0, lc, f, s) from (show DO3 (w.heap.size + 1) w4 (.slice xa na ca) (.slice (some ⟨w3.heap.size, 0, none⟩) k59 k59) (.slice xc nc cc) (la, List.replicate k59 0, lc, f, s) from ⟨HO.out.1, Sl.Own.mono ho hw43, HO.out.2.2⟩).setT HG.out)
            clear ho hb4 HO
            go_upto_region 13 with fail
            replace HG := Lib.hid (HG.out.set 1 (.slice (some ⟨w3.heap.size, 0, none⟩) k59 k59))
            clear f0 f1 f2 f3 f4 ff
            generalize w4.setCell ⟨g, 1, none⟩ (.slice (some ⟨w3.heap.size, 0, none⟩) k59 k59) = W at *
            have HO := HON; clear HON
            obtain ⟨p0, p1, p2, p3, p4⟩ := keepC5 HG.out
            obtain ⟨r0, r1, r2, r3, r4⟩ := keepC5 HR.out
            have t0 := HR.out.frozen 0; have t1 := HR.out.frozen 1; have t2 := HR.out.frozen 2; have t3 := HR.out.frozen 3; have t4 := HR.out.frozen 4
            have Z1 := Lib.hid (set5 (a := .slice xa na ca) (b := .slice (some ⟨w3.heap.size, 0, none⟩) k59 k59) (c := .slice xc nc cc) (f := f) (s := s) HR.out)
            have Z2 := Lib.hid ((HO.out.fiveT (a1 := .slice xa na ca) (b1 := .slice (some ⟨w3.heap.size, 0, none⟩) k59 k59) (c1 := .slice xc nc cc) (f := f) (s := s) HR.out).mono (Nat.le_succ w.heap.size))
            have Z3 := Lib.hid (cur5 (a := .slice xa na ca) (b := .slice (some ⟨w3.heap.size, 0, none⟩) k59 k59) (c := .slice xc nc cc) (f := f) (s := s) HC.out HC0.out.below.size hwp)
            have Z4 := Lib.hid (keep5 (a := .slice xa na ca) (b := .slice (some ⟨w3.heap.size, 0, none⟩) k59 k59) (c := .slice xc nc cc) (f := f) (s := s) HK.out (Nat.le_refl _))
            go_wp2_with fail
            refine bodyPost_ret (Ret.results_c rfl _ _ w.heap.size (dc (.slice xa na ca) (.slice (some ⟨w3.heap.size, 0, none⟩) k59 k59) (.slice xc nc cc) (f) (s)).toList rfl aggD Z1.out.cells) rfl ?_
            exact ⟨_, rfl, ⟨_, _, _, _, _, _, _, _, _, (la, List.replicate k59 0, lc, f, s), rfl, Z2.out, (by have h9 := HBL0.out; unfold bulkD at h9 ⊢; simp only [List.length_replicate] at h9 ⊢; omega), wfD_of (x := (la, List.replicate k59 0, lc, f, s)) (by have h9 := HBL0.out; unfold bulkD at h9 ⊢; simp only [List.length_replicate] at h9 ⊢; omega) (fun x hx => by rw [List.eq_of_mem_replicate hx]; omega) HWF.out.2.2.2.1 HWF.out.2.2.2.2⟩, Z3.out, Z4.out⟩
          · have e4 : (r == 4) = false := by simpa using hk4
            go_upto_region 13 with fail
            obtain ⟨p0, p1, p2, p3, p4⟩ := keepC5 HG.out
            obtain ⟨r0, r1, r2, r3, r4⟩ := keepC5 HR.out
            have t0 := HR.out.frozen 0; have t1 := HR.out.frozen 1; have t2 := HR.out.frozen 2; have t3 := HR.out.frozen 3; have t4 := HR.out.frozen 4
            have Z1 := Lib.hid (set5 (a := .slice xa na ca) (b := .slice xb nb cb) (c := .slice xc nc cc) (f := f) (s := s) HR.out)
            have Z2 := Lib.hid ((HO.out.fiveT (a1 := .slice xa na ca) (b1 := .slice xb nb cb) (c1 := .slice xc nc cc) (f := f) (s := s) HR.out).mono (Nat.le_succ w.heap.size))
            have Z3 := Lib.hid (cur5 (a := .slice xa na ca) (b := .slice xb nb cb) (c := .slice xc nc cc) (f := f) (s := s) HC.out HC0.out.below.size hwp)
            have Z4 := Lib.hid (keep5 (a := .slice xa na ca) (b := .slice xb nb cb) (c := .slice xc nc cc) (f := f) (s := s) HK.out (Nat.le_refl _))
            go_wp2_with fail
            refine bodyPost_ret (Ret.results_c rfl _ _ w.heap.size (dc (.slice xa na ca) (.slice xb nb cb) (.slice xc nc cc) (f) (s)).toList rfl aggD Z1.out.cells) rfl ?_
            exact ⟨_, rfl, ⟨_, _, _, _, _, _, _, _, _, (la, lb, lc, f, s), rfl, Z2.out, HBL.out, wfD_of (x := (la, lb, lc, f, s)) HBL.out HYB.out HWF.out.2.2.2.1 HWF.out.2.2.2.2⟩, Z3.out, Z4.out⟩
end Go.Proofs.YtnblopilgfdjkaaGreat.Draw
/- Contracts of the reference model's draws of chapter 8 that its law uses: data packets, secrets, bytes, times. What was in memory stays as it was. -/
namespace Go.Proofs.YtnblopilgfdjkaaGreat.Ret
theorem results_tcD {P : Program} {fn : Func} {p u : Tmp} {ty : TypeId} (h : fn.results = #[.tmp u, .cell p ty]) (tmps : Array Value) (w : World) (b : Nat) (cs : List Value) (hp : tmps.getD p undef = .pointer (some ⟨b, 0, none⟩))
    (ha : AggOf P ty cs.length) (hc : ∀ j v, cs[j]? = some v → w.cell? ⟨b, j, none⟩ = some v) : (results fn tmps).run P w = .ok (.tuple #[tmps.getD u undef, .agg cs.toArray]) w := by
  have hp' : tmps[p]?.getD undef = .pointer (some ⟨b, 0, none⟩) := by simpa using hp
  have hl := run_loadVar_cells (P := P) w b ty cs hc ha
  simp [results, h, hp', asAddr, hl, Result.andThen]
end Go.Proofs.YtnblopilgfdjkaaGreat.Ret
namespace Go.Proofs.YtnblopilgfdjkaaGreat.Draw
open Go.ChangeShapes Go.WideShapes Go.ChangeAt Go.RowKit Go.Instr
open Go.Proofs.YtnblopilgfdjkaaGreat.Row (bulk bulk_append bulk_one bulk_nil bulk_cons Dt dc aggD bulkD advD WfD DHold DOwn kD kB kD_of kB_of)
open Go.Proofs.YtnblopilgfdjkaaGreat.Ret (NC Blk Box)
set_option linter.unusedVariables false
set_option maxRecDepth 100000

def QD (w : World) (e : Ending) (w' : World) : Prop := ∃ U y, e = .returned U ∧ kD.At w' U y ∧ bulkD y ≤ 3000 ∧ WfD y ∧ Below w.heap.size w w'
def QTD (w : World) (e : Ending) (w' : World) : Prop := ∃ t : Int, ∃ U y, e = .returned (.tuple #[.int .i64 t, U]) ∧ kD.At w' U y ∧ bulkD y ≤ 3000 ∧ WfD y ∧ Below w.heap.size w w'
def QDT (w : World) (e : Ending) (w' : World) : Prop := ∃ t : Int, ∃ U y, e = .returned (.tuple #[U, .int .i64 t]) ∧ kD.At w' U y ∧ bulkD y ≤ 3000 ∧ WfD y ∧ Below w.heap.size w w'
def QDD (w : World) (e : Ending) (w' : World) : Prop := ∃ U y U2 y2, e = .returned (.tuple #[U, U2]) ∧ kD.At w' U y ∧ bulkD y ≤ 3000 ∧ WfD y ∧ kD.At w' U2 y2 ∧ bulkD y2 ≤ 3000 ∧ WfD y2 ∧ Below w.heap.size w w'
def QB8 (w : World) (e : Ending) (w' : World) : Prop := ∃ U m, e = .returned U ∧ kB.At w' U m ∧ Sl.Byt m ∧ m.length ≤ 100000 ∧ Below w.heap.size w w'
theorem intPick3 (w0 : World) (p : Nat) (v : Value) (l : List UInt8) (w : World) (hc : Cur w0 p v l w) {q : Nat} {a b c : Int} {t : TypeId} (hb : Blk w q #[.int .i64 a, .int .i64 b, .int .i64 c] t) (hq : q ≠ p) :
    Calls Tryz.prog 35 #[.pointer (some ⟨p, 0, none⟩), .slice (some ⟨q, 0, none⟩) 3 3] w (Drawn w0 p v l w (fun x => ∃ n : Int, x = .int .i64 n)) := by
  refine (int w0 p v l w q [.int .i64 a, .int .i64 b, .int .i64 c] 3 rfl (by decide) (by decide) hc hq (fun j hj => ?_)).mono fun e w' h => ?_
  · have h3 : j < 3 := hj
    rw [hb.cell]
    obtain rfl | rfl | rfl : j = 0 ∨ j = 1 ∨ j = 2 := by omega
    all_goals rfl
  · obtain ⟨x, e1, e2, e3⟩ := h
    refine ⟨x, e1, ?_, e3⟩
    simp only [List.mem_cons, List.not_mem_nil, or_false] at e2
    rcases e2 with rfl | rfl | rfl <;> exact ⟨_, rfl⟩

end Go.Proofs.YtnblopilgfdjkaaGreat.Draw
/- Contracts of the laws' own helpers over the drawn bytes: at gives a number from 0 to 255. Nothing in memory turns. No conditions. -/
namespace Go.Proofs.YtnblopilgfdjkaaGreat.Draw
open Go.ChangeShapes Go.WideShapes Go.ChangeAt Go.RowKit Go.Instr
set_option linter.unusedVariables false
set_option maxRecDepth 100000

end Go.Proofs.YtnblopilgfdjkaaGreat.Draw
/- What FnThings uses besides the contracts: packets compared, contracts with letters. No conditions but that lengths fit. -/
namespace Go.Proofs.YtnblopilgfdjkaaGreat.Row
open Go.ChangeShapes Go.WideShapes Go.ChangeAt Go.RowKit Go.Instr
set_option linter.unusedVariables false
set_option maxRecDepth 100000

set_option maxHeartbeats 4000000 in
theorem sameThing (a b c a2 b2 c2 : Value) (x y : Dt) (w : World) (q : Bool) (hq : decide (x = y) = q) (h : DHold w a b c x) (g : DHold w a2 b2 c2 y) (hB : Sl.Byt x.2.1) (gB : Sl.Byt y.2.1) (h1 : x.1.length ≤ 9000000) (h2 : x.2.1.length ≤ 9000000) (h3 : x.2.2.1.length ≤ 9000000) (g1 : y.1.length ≤ 9000000) (g2 : y.2.1.length ≤ 9000000) (g3 : y.2.2.1.length ≤ 9000000) :
    Calls Tryz.prog 13 #[.agg (dc a b c x.2.2.2.1 x.2.2.2.2), .agg (dc a2 b2 c2 y.2.2.2.1 y.2.2.2.2)] w fun e w' => e = .returned (.bool q) ∧ Below w.heap.size w w' := by
  obtain ⟨l, m, k, f, s⟩ := x
  obtain ⟨l2, m2, k2, f2, s2⟩ := y
  simp only at h1 h2 h3 g1 g2 g3 hB gB ⊢
  obtain ⟨xa, na, ca, xb, nb, cb, xc, nc, cc, rfl, rfl, rfl⟩ := h.shape
  obtain ⟨ua, va, oa, ub, vb, ob, uc, vc, oc, rfl, rfl, rfl⟩ := g.shape
  have hb0 := (Below.refl w.heap.size w).alloc (Nat.le_refl _) (.cells (dc (.slice xa na ca) (.slice xb nb cb) (.slice xc nc cc) f s) 31)
  have HB := Lib.hid (hb0.alloc (by simp) (.cells (dc (.slice ua va oa) (.slice ub vb ob) (.slice uc vc oc) f2 s2) 31))
  have H0 := Lib.hid h; have G0 := Lib.hid g; have HY1 := Lib.hid hB; have HY2 := Lib.hid gB
  have HX := Lib.hid ((Ret.Blk.new w (dc (.slice xa na ca) (.slice xb nb cb) (.slice xc nc cc) f s) 31).on ((Below.refl _ _).alloc (Nat.le_refl _) (.cells (dc (.slice ua va oa) (.slice ub vb ob) (.slice uc vc oc) f2 s2) 31)))
  have HY := Lib.hid (Ret.Blk.new' (w := w.alloc (.cells (dc (.slice xa na ca) (.slice xb nb cb) (.slice xc nc cc) f s) 31)) (n := w.heap.size + 1) (dc (.slice ua va oa) (.slice ub vb ob) (.slice uc vc oc) f2 s2) 31 (by simp))
  have HQ := Lib.hid hq
  clear h g hq hb0 hB gB
  go_enter Tryz.func13, Tryz.ntmps13
  go_wp2_with fail
  refine (sameName _ _ l l2 _ (H0.out.on HB.out).1 (G0.out.on HB.out).1 (by omega) (by omega)).mono ?_
  rintro e w1 ⟨rfl, hb⟩
  replace HX := Lib.hid (HX.out.on hb); replace HY := Lib.hid (HY.out.on hb)
  replace HB := Lib.hid (HB.out.trans (hb.mono HB.out.size)); clear hb
  have q0 : w1.cell? ⟨w.heap.size, 0, none⟩ = some (.slice xa na ca) := HX.out.cell 0
  have q1 : w1.cell? ⟨w.heap.size, 1, none⟩ = some (.slice xb nb cb) := HX.out.cell 1
  have q2 : w1.cell? ⟨w.heap.size, 2, none⟩ = some (.slice xc nc cc) := HX.out.cell 2
  have q3 : w1.cell? ⟨w.heap.size, 3, none⟩ = some (.int .i64 f) := HX.out.cell 3
  have q4 : w1.cell? ⟨w.heap.size, 4, none⟩ = some (.int .i64 s) := HX.out.cell 4
  have p0 : w1.cell? ⟨w.heap.size + 1, 0, none⟩ = some (.slice ua va oa) := HY.out.cell 0
  have p1 : w1.cell? ⟨w.heap.size + 1, 1, none⟩ = some (.slice ub vb ob) := HY.out.cell 1
  have p2 : w1.cell? ⟨w.heap.size + 1, 2, none⟩ = some (.slice uc vc oc) := HY.out.cell 2
  have p3 : w1.cell? ⟨w.heap.size + 1, 3, none⟩ = some (.int .i64 f2) := HY.out.cell 3
  have p4 : w1.cell? ⟨w.heap.size + 1, 4, none⟩ = some (.int .i64 s2) := HY.out.cell 4
  by_cases e1 : l = l2
  · rw [eqB_true e1]
    go_wp2_with fail
    clear q0 q1 q2 q3 q4 p0 p1 p2 p3 p4
    refine (Sl.sameB _ _ m m2 _ (H0.out.on HB.out).2.1 (G0.out.on HB.out).2.1 (by omega) (by omega)).mono ?_
    rintro e w2 ⟨rfl, hb⟩
    replace HX := Lib.hid (HX.out.on hb); replace HY := Lib.hid (HY.out.on hb)
    replace HB := Lib.hid (HB.out.trans (hb.mono HB.out.size)); clear hb
    have q0 : w2.cell? ⟨w.heap.size, 0, none⟩ = some (.slice xa na ca) := HX.out.cell 0
    have q1 : w2.cell? ⟨w.heap.size, 1, none⟩ = some (.slice xb nb cb) := HX.out.cell 1
    have q2 : w2.cell? ⟨w.heap.size, 2, none⟩ = some (.slice xc nc cc) := HX.out.cell 2
    have q3 : w2.cell? ⟨w.heap.size, 3, none⟩ = some (.int .i64 f) := HX.out.cell 3
    have q4 : w2.cell? ⟨w.heap.size, 4, none⟩ = some (.int .i64 s) := HX.out.cell 4
    have p0 : w2.cell? ⟨w.heap.size + 1, 0, none⟩ = some (.slice ua va oa) := HY.out.cell 0
    have p1 : w2.cell? ⟨w.heap.size + 1, 1, none⟩ = some (.slice ub vb ob) := HY.out.cell 1
    have p2 : w2.cell? ⟨w.heap.size + 1, 2, none⟩ = some (.slice uc vc oc) := HY.out.cell 2
    have p3 : w2.cell? ⟨w.heap.size + 1, 3, none⟩ = some (.int .i64 f2) := HY.out.cell 3
    have p4 : w2.cell? ⟨w.heap.size + 1, 4, none⟩ = some (.int .i64 s2) := HY.out.cell 4
    by_cases e2 : m = m2
    · rw [Sl.eqB_true e2]
      go_wp2_with fail
      clear q0 q1 q2 q3 q4 p0 p1 p2 p3 p4
      refine (sameName _ _ k k2 _ (H0.out.on HB.out).2.2 (G0.out.on HB.out).2.2 (by omega) (by omega)).mono ?_
      rintro e w3 ⟨rfl, hb⟩
      replace HX := Lib.hid (HX.out.on hb); replace HY := Lib.hid (HY.out.on hb)
      replace HB := Lib.hid (HB.out.trans (hb.mono HB.out.size)); clear hb
      have q0 : w3.cell? ⟨w.heap.size, 0, none⟩ = some (.slice xa na ca) := HX.out.cell 0
      have q1 : w3.cell? ⟨w.heap.size, 1, none⟩ = some (.slice xb nb cb) := HX.out.cell 1
      have q2 : w3.cell? ⟨w.heap.size, 2, none⟩ = some (.slice xc nc cc) := HX.out.cell 2
      have q3 : w3.cell? ⟨w.heap.size, 3, none⟩ = some (.int .i64 f) := HX.out.cell 3
      have q4 : w3.cell? ⟨w.heap.size, 4, none⟩ = some (.int .i64 s) := HX.out.cell 4
      have p0 : w3.cell? ⟨w.heap.size + 1, 0, none⟩ = some (.slice ua va oa) := HY.out.cell 0
      have p1 : w3.cell? ⟨w.heap.size + 1, 1, none⟩ = some (.slice ub vb ob) := HY.out.cell 1
      have p2 : w3.cell? ⟨w.heap.size + 1, 2, none⟩ = some (.slice uc vc oc) := HY.out.cell 2
      have p3 : w3.cell? ⟨w.heap.size + 1, 3, none⟩ = some (.int .i64 f2) := HY.out.cell 3
      have p4 : w3.cell? ⟨w.heap.size + 1, 4, none⟩ = some (.int .i64 s2) := HY.out.cell 4
      by_cases e3 : k = k2
      · rw [eqB_true e3]
        by_cases e4 : f = f2
        · have t1 : (f == f2) = true := by simp [e4]
          obtain ⟨z, hz⟩ : ∃ z, (s == s2) = z := ⟨_, rfl⟩
          have HE : Hid (q = z) := Lib.hid (by rw [← HQ.out, ← hz]; simp [e1, e2, e3, e4]; rfl)
          clear e1 e2 e3 e4
          go_wp2
          go_ret
          exact ⟨ret_bool HE.out.symm, HB.out⟩
        · have t1 : (f == f2) = false := by simpa using e4
          have HE : Hid (q = false) := Lib.hid (by rw [← HQ.out]; simp [e4])
          clear e4
          go_wp2
          go_ret
          exact ⟨ret_bool HE.out.symm, HB.out⟩
      · rw [eqB_false e3]
        have HE : Hid (q = false) := Lib.hid (by rw [← HQ.out]; simp [e3])
        clear e3
        go_wp2
        go_ret
        exact ⟨ret_bool HE.out.symm, HB.out⟩
    · rw [Sl.eqB_false e2]
      have HE : Hid (q = false) := Lib.hid (by rw [← HQ.out]; simp [e2])
      clear e2
      go_wp2
      go_ret
      exact ⟨ret_bool HE.out.symm, HB.out⟩
  · rw [eqB_false e1]
    have HE : Hid (q = false) := Lib.hid (by rw [← HQ.out]; simp [e1])
    clear e1
    go_wp2
    go_ret
    exact ⟨ret_bool HE.out.symm, HB.out⟩

theorem eqD_self (x : Dt) : eqD x x = true := by simp [eqD]
theorem bulkD_adv (x : Dt) {n : Nat} (h : bulkD x ≤ n) : x.1.length ≤ n ∧ x.2.1.length ≤ n ∧ x.2.2.1.length ≤ n := by
  have h1 := bulk_len x.1
  have h2 := bulk_len x.2.2.1
  unfold bulkD at h
  omega
section
variable {w : World} {V U : Value} {x y : Dt} {l m : List Int}
theorem sameDV (q : Bool) (hq : eqD x y = q) (h : kD.At w V x) (g : kD.At w U y) (hB : Sl.Byt x.2.1) (gB : Sl.Byt y.2.1) (hl : bulkD x ≤ 9000000) (hm : bulkD y ≤ 9000000) :
    Calls Tryz.prog 13 #[V, U] w fun e w' => e = .returned (.bool q) ∧ Below w.heap.size w w' := by
  obtain ⟨a, b, c, rfl, h9⟩ := kD_at h
  obtain ⟨a2, b2, c2, rfl, g9⟩ := kD_at g
  have h1 := bulkD_adv x hl
  have h2 := bulkD_adv y hm
  exact sameThing a b c a2 b2 c2 x y w q hq h9 g9 hB gB h1.1 h1.2.1 h1.2.2 h2.1 h2.2.1 h2.2.2
theorem sameBV8 (e : l = m) (h : kB.At w V l) (g : kB.At w U m) (hl : l.length ≤ 9000000) :
    Calls Tryz.prog 27 #[V, U] w fun e w' => e = .returned (.bool true) ∧ Below w.heap.size w w' := by
  subst e
  exact Sl.sameB_self V U l w (kS_at h) (kS_at g) (by omega)
theorem sameIV8 (h : kI.At w V l) (g : kI.At w U l) (hl : l.length ≤ 9000000) :
    Calls Tryz.prog 16 #[V, U] w fun e w' => e = .returned (.bool true) ∧ Below w.heap.size w w' := Sl.sameI_self V U l w (kS_at h) (kS_at g) (by omega)
theorem iValV (q : Bool) (hq : validD x = q) (h : kD.At w V x) (hl : bulkD x ≤ 9000000) :
    Calls Tryz.prog 26 #[V] w fun e w' => e = .returned (.bool q) ∧ Below w.heap.size w w' := hq ▸ implValidDataK V x w h hl
theorem sValV (q : Bool) (hq : validD x = q) (h : kD.At w V x) (hl : bulkD x ≤ 9000000) :
    Calls Tryz.prog 38 #[V] w fun e w' => e = .returned (.bool q) ∧ Below w.heap.size w w' := hq ▸ specValidDataK V x w h hl
theorem kD_parts {a b c : Value} (h : kD.At w (.agg #[a, b, c, .int .i64 x.2.2.2.1, .int .i64 x.2.2.2.2]) x) : DHold w a b c x := by
  obtain ⟨a1, b1, c1, e, h9⟩ := kD_at h
  have e2 : #[a, b, c, Value.int .i64 x.2.2.2.1, Value.int .i64 x.2.2.2.2] = dc a1 b1 c1 x.2.2.2.1 x.2.2.2.2 := by injection e
  have e3 : a = a1 ∧ b = b1 ∧ c = c1 := by
    have h1 := congrArg (fun z : Array Value => z[0]?) e2
    have h2 := congrArg (fun z : Array Value => z[1]?) e2
    have h3 := congrArg (fun z : Array Value => z[2]?) e2
    exact ⟨Option.some.inj h1, Option.some.inj h2, Option.some.inj h3⟩
  obtain ⟨rfl, rfl, rfl⟩ := e3
  exact h9
end
end Go.Proofs.YtnblopilgfdjkaaGreat.Row
