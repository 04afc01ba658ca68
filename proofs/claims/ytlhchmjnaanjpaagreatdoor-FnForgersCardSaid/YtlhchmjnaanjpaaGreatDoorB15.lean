/- Contracts and mathematics, joined: Sign. No conditions but those that each states. -/
import Derived.Test.YtlhchmjnaanjpaaGreatDoorB14
/- SignData and VerifyData, model and program. No conditions but that lengths fit. -/
namespace Go.Proofs.YtlhchmjnaanjpaaGreatDoor.Row
open Go.ChangeShapes Go.WideShapes Go.ChangeAt Go.RowKit Go.Instr
set_option linter.unusedVariables false
set_option maxRecDepth 100000
def sgD (t : Int) (x : Dt) : Dt := (x.1, x.2.1, x.2.2.1, x.2.2.2.1, Seal.mac t (portD x))
def verD (t : Int) (x : Dt) : Bool := Num.inB t 1 2147483646 && (x.2.2.2.2 == Seal.mac t (portD x))
theorem sSecV {t : Int} (z : Bool) (hz : Num.inB t 1 2147483646 = z) {w : World} : Calls Tryz.prog 108 #[.int .i64 t] w fun e w' => e = .returned (.bool z) ∧ Below w.heap.size w w' := (Sl.specValidSecret t w).mono fun e w' ⟨p, q⟩ => ⟨by rw [p, hz], by subst q; exact Below.refl _ _⟩
theorem iSecV {t : Int} (z : Bool) (hz : Num.inB t 1 2147483646 = z) {w : World} : Calls Tryz.prog 117 #[.int .i64 t] w fun e w' => e = .returned (.bool z) ∧ Below w.heap.size w w' := (Sl.implValidSecret t w).mono fun e w' ⟨p, q⟩ => ⟨by rw [p, hz], by subst q; exact Below.refl _ _⟩
theorem sMacV {t : Int} (M : Int) {l : List Int} (hM : Seal.mac t l = M) {v : Value} {w : World} (h : Sl.Holds .i64 w v l) (hl : l.length ≤ 9000000) : Calls Tryz.prog 129 #[.int .i64 t, v] w fun e w' => e = .returned (.int .i64 M) ∧ Below w.heap.size w w' := (Sl.specComputeMAC t v l w h (by omega)).mono fun e w' ⟨p, q⟩ => ⟨by rw [p, hM], q⟩
theorem iMacV {t : Int} (M : Int) {x : Dt} (hM : Seal.mac t (portD x) = M) {g : Nat} {a b c : Value} {w : World} (hx : Ret.Blk w g (dc a b c x.2.2.2.1 x.2.2.2.2) 34) (h : DHold w a b c x) (hB : Sl.Byt x.2.1) (hl : smD x) : Calls Tryz.prog 118 #[.pointer (some ⟨g, 0, none⟩), .int .i64 t] w fun e w' => e = .returned (.int .i64 M) ∧ Below w.heap.size w w' := (implMac g a b c x w hx h hB hl t).mono fun e w' ⟨p, q⟩ => ⟨by rw [p, hM], q⟩
theorem own_row {α : Type} [Inhabited α] {enc : α → Value} {e : TypeId} {B g : Nat} {w w' : World} {v : Value} {l : List α} (h : Own e enc B w v l) (hg : w.grownBy w' (some g)) (hn : w.heap.size ≤ g ∨ ∀ q, v.ownBlock = some q → q ≠ g) : Own e enc B w' v l := by
  refine h.grown hg ?_
  cases hv : v.ownBlock with
  | none => exact Or.inl rfl
  | some q =>
    refine Or.inr fun e => ?_
    have h1 := (h.lt q hv).2
    have h2 : q = g := Option.some.inj e
    rcases hn with hn | hn
    · omega
    · exact hn q hv h2
set_option maxHeartbeats 4000000 in
theorem signD (g : Nat) (a b c : Value) (x : Dt) (w : World) (hx : Ret.Blk w g (dc a b c x.2.2.2.1 x.2.2.2.2) 34) (h : DHold w a b c x) (hB : Sl.Byt x.2.1) (hl : smD x) (t M : Int) (hM : Seal.mac t (portD x) = M) :
    Calls Tryz.prog 124 #[.pointer (some ⟨g, 0, none⟩), .int .i64 t] w fun e w' => e = .returned (.tuple #[]) ∧ Ret.Blk w' g (dc a b c x.2.2.2.1 M) 34 ∧ w.grownBy w' (some g) := by
  have HC := Lib.hid (iMacV M hM hx h hB hl)
  have HX := Lib.hid hx
  clear h hB hx hl hM
  go_enter Tryz.func124, Tryz.ntmps124
  go_wp2_with fail
  refine HC.out.mono ?_
  rintro e w1 ⟨rfl, hb⟩
  have HX1 := Lib.hid (HX.out.on hb)
  have HG1 := Lib.hid (Sl.grown_of_below hb (some g)); clear hb
  have q4 : w1.cell? ⟨g, 4, none⟩ = some (.int .i64 x.2.2.2.2) := HX1.out.cell 4
  have t4 := HX1.out.frozen 4
  go_wp2_with fail
  go_end0
  have h2 := HX1.out.set 4 (.int .i64 M)
  exact ⟨rfl, h2, HG1.out.trans (Ret.grownBy_set w1 ⟨g, 4, none⟩ _)⟩
theorem sl_own_row {k : IntKind} {e : TypeId} {B g : Nat} {w w' : World} {v : Value} {l : List Int} (h : Sl.Own e k B w v l) (hg : w.grownBy w' (some g)) (hn : w.heap.size ≤ g ∨ ∀ q, v.ownBlock = some q → q ≠ g) : Sl.Own e k B w' v l := own_row (enc := Value.int k) h hg hn
set_option maxHeartbeats 4000000 in
theorem implSignData (a b c : Value) (x : Dt) (t : Int) (w : World) (h : DHold w a b c x) (hB : Sl.Byt x.2.1) (hl : smD x) :
    Calls Tryz.prog 78 #[.int .i64 t, .agg (dc a b c x.2.2.2.1 x.2.2.2.2)] w (GivesD w (sgD t x)) := by
  obtain ⟨l, m, k, f, s⟩ := x
  unfold GivesD
  simp only [sgD] at hB ⊢
  have hl1 : bulk l ≤ 1200000 := hl.1
  have hl2 : m.length ≤ 1200000 := hl.2.1
  have hl3 : bulk k ≤ 1200000 := hl.2.2
  have hq1 : l.length ≤ 9000000 := by have := bulk_len l; omega
  have hq3 : k.length ≤ 9000000 := by have := bulk_len k; omega
  obtain ⟨xa, na, ca, xb, nb, cb, xc, nc, cc, rfl, rfl, rfl⟩ := h.shape
  obtain ⟨M, hM⟩ : ∃ M, Seal.mac t (portD (l, m, k, f, s)) = M := ⟨_, rfl⟩
  rw [hM]
  have HM := Lib.hid hM; have HY := Lib.hid hB; have HLB := Lib.hid hl
  have hb0 := (Below.refl w.heap.size w).alloc (Nat.le_refl _) (.cells (dc (.slice xa na ca) (.slice xb nb cb) (.slice xc nc cc) f s) 34)
  have HB := Lib.hid (hb0.alloc (by simp) (.cells (dc nil nil nil 0 0) 34))
  have H0 := Lib.hid (h.on HB.out)
  have HX := Lib.hid ((Ret.Blk.new w (dc (.slice xa na ca) (.slice xb nb cb) (.slice xc nc cc) f s) 34).on ((Below.refl _ _).alloc (Nat.le_refl _) (.cells (dc nil nil nil 0 0) 34)))
  have HR := Lib.hid (Ret.Blk.new' (w := w.alloc (.cells (dc (.slice xa na ca) (.slice xb nb cb) (.slice xc nc cc) f s) 34)) (n := w.heap.size + 1) (dc nil nil nil 0 0) 34 (by simp))
  have hz0 : ((w.alloc (.cells (dc (.slice xa na ca) (.slice xb nb cb) (.slice xc nc cc) f s) 34)).alloc (.cells (dc nil nil nil 0 0) 34)).heap.size = w.heap.size + 2 := by simp
  clear h hB hl hl1 hl3 hM hb0
  go_enter Tryz.func78, Tryz.ntmps78
  go_wp2_with fail
  refine (cloneD w.heap.size _ _ _ (l, m, k, f, s) _ HX.out H0.out (by simp only; omega) (by simp only; omega) (by simp only; omega)).mono ?_
  rintro e w1 ⟨a1, b1, c1, rfl, hd1, hb1⟩
  obtain ⟨oa, ob, oc, pab, pac, pbc⟩ := hd1
  obtain ⟨ya, ma, da, rfl, -, -, oa⟩ := oa.shapeN
  obtain ⟨yb, mb, db, rfl, -, -, ob⟩ := Own.shapeN (enc := Value.int .u8) ob
  replace ob : Sl.Own 5 .u8 _ w1 (.slice yb mb db) m := ob
  obtain ⟨yc, mc, dc_, rfl, -, -, oc⟩ := oc.shapeN
  have hs1 := hb1.size
  rw [hz0] at hs1 oa ob oc
  have hal := (Below.refl w1.heap.size w1).alloc (Nat.le_refl _) (.cells (dc (.slice ya ma da) (.slice yb mb db) (.slice yc mc dc_) f s) 34)
  replace HB := Lib.hid ((HB.out.trans (hb1.mono HB.out.size)).trans (hal.mono (by omega)))
  replace HX := Lib.hid ((HX.out.on hb1).on hal); replace HR := Lib.hid ((HR.out.on hb1).on hal)
  have HL := Lib.hid (Ret.Blk.new w1 (dc (.slice ya ma da) (.slice yb mb db) (.slice yc mc dc_) f s) 34)
  have OA := Lib.hid (oa.on hal); have OB := Lib.hid (ob.on hal); have OC := Lib.hid (oc.on hal)
  have AP := Lib.hid (show Apart (.slice ya ma da) (.slice yb mb db) ∧ Apart (.slice ya ma da) (.slice yc mc dc_) ∧ Apart (.slice yb mb db) (.slice yc mc dc_) from ⟨pab, pac, pbc⟩)
  have hla : ∀ q, (.slice ya ma da : Value).ownBlock = some q → q < w1.heap.size := fun q e => (oa.lt q e).2
  have hlb : ∀ q, (.slice yb mb db : Value).ownBlock = some q → q < w1.heap.size := fun q e => (Sl.Own.lt ob q e).2
  have hlc : ∀ q, (.slice yc mc dc_ : Value).ownBlock = some q → q < w1.heap.size := fun q e => (oc.lt q e).2
  have HLA := Lib.hid hla; have HLBB := Lib.hid hlb; have HLC := Lib.hid hlc
  have hsz : (w1.alloc (.cells (dc (.slice ya ma da) (.slice yb mb db) (.slice yc mc dc_) f s) 34)).heap.size = w1.heap.size + 1 := by simp
  clear oa ob oc pab pac pbc hb1 hal hz0 hla hlb hlc
  go_wp2_with fail
  refine (signD w1.heap.size _ _ _ (l, m, k, f, s) _ HL.out ⟨OA.out.holds, OB.out.holds, OC.out.holds⟩ HY.out HLB.out t M HM.out).mono ?_
  rintro e w2 ⟨rfl, hl2, hg2⟩
  have hs2 := hg2.size
  rw [hsz] at hs2
  replace HL := Lib.hid hl2
  replace HX := Lib.hid (HX.out.grown hg2 (by intro e; have h5 := Option.some.inj e; omega)); replace HR := Lib.hid (HR.out.grown hg2 (by intro e; have h5 := Option.some.inj e; omega))
  replace OA := Lib.hid (own_row OA.out hg2 (Or.inr fun q e => by have h5 := HLA.out q e; omega)); replace OB := Lib.hid (sl_own_row OB.out hg2 (Or.inr fun q e => by have h5 := HLBB.out q e; omega)); replace OC := Lib.hid (own_row OC.out hg2 (Or.inr fun q e => by have h5 := HLC.out q e; omega))
  replace HB := Lib.hid (HB.out.grown hg2 HB.out.size (fun g e => by have h5 := Option.some.inj e; omega))
  clear hl2 hg2
  have p0 : w2.cell? ⟨w1.heap.size, 0, none⟩ = some (.slice ya ma da) := HL.out.cell 0
  have p1 : w2.cell? ⟨w1.heap.size, 1, none⟩ = some (.slice yb mb db) := HL.out.cell 1
  have p2 : w2.cell? ⟨w1.heap.size, 2, none⟩ = some (.slice yc mc dc_) := HL.out.cell 2
  have p3 : w2.cell? ⟨w1.heap.size, 3, none⟩ = some (.int .i64 f) := HL.out.cell 3
  have p4 : w2.cell? ⟨w1.heap.size, 4, none⟩ = some (.int .i64 M) := HL.out.cell 4
  have r0 : w2.cell? ⟨w.heap.size + 1, 0, none⟩ = some (.slice none 0 0) := HR.out.cell 0
  have r1 : w2.cell? ⟨w.heap.size + 1, 1, none⟩ = some (.slice none 0 0) := HR.out.cell 1
  have r2 : w2.cell? ⟨w.heap.size + 1, 2, none⟩ = some (.slice none 0 0) := HR.out.cell 2
  have r3 : w2.cell? ⟨w.heap.size + 1, 3, none⟩ = some (.int .i64 0) := HR.out.cell 3
  have r4 : w2.cell? ⟨w.heap.size + 1, 4, none⟩ = some (.int .i64 0) := HR.out.cell 4
  have z0 := HR.out.frozen 0; have z1 := HR.out.frozen 1; have z2 := HR.out.frozen 2; have z3 := HR.out.frozen 3; have z4 := HR.out.frozen 4
  have Z1 := Lib.hid (((((HR.out.set 0 (.slice ya ma da)).set 1 (.slice yb mb db)).set 2 (.slice yc mc dc_)).set 3 (.int .i64 f)).set 4 (.int .i64 M))
  have Z2 := Lib.hid (own_set (g := w.heap.size + 1) (i := 4) (u := .int .i64 M) (own_set (g := w.heap.size + 1) (i := 3) (u := .int .i64 f) (own_set (g := w.heap.size + 1) (i := 2) (u := .slice yc mc dc_) (own_set (g := w.heap.size + 1) (i := 1) (u := .slice yb mb db) (own_set (g := w.heap.size + 1) (i := 0) (u := .slice ya ma da) OA.out (by omega)) (by omega)) (by omega)) (by omega)) (by omega))
  have Z3 := Lib.hid (sl_own_set (g := w.heap.size + 1) (i := 4) (u := .int .i64 M) (sl_own_set (g := w.heap.size + 1) (i := 3) (u := .int .i64 f) (sl_own_set (g := w.heap.size + 1) (i := 2) (u := .slice yc mc dc_) (sl_own_set (g := w.heap.size + 1) (i := 1) (u := .slice yb mb db) (sl_own_set (g := w.heap.size + 1) (i := 0) (u := .slice ya ma da) OB.out (by omega)) (by omega)) (by omega)) (by omega)) (by omega))
  have Z4 := Lib.hid (own_set (g := w.heap.size + 1) (i := 4) (u := .int .i64 M) (own_set (g := w.heap.size + 1) (i := 3) (u := .int .i64 f) (own_set (g := w.heap.size + 1) (i := 2) (u := .slice yc mc dc_) (own_set (g := w.heap.size + 1) (i := 1) (u := .slice yb mb db) (own_set (g := w.heap.size + 1) (i := 0) (u := .slice ya ma da) OC.out (by omega)) (by omega)) (by omega)) (by omega)) (by omega))
  have Z5 := Lib.hid (((((HB.out.setCell (p := ⟨w.heap.size + 1, 0, none⟩) (by show w.heap.size ≤ w.heap.size + 1; omega) (.slice ya ma da)).setCell (p := ⟨w.heap.size + 1, 1, none⟩) (by show w.heap.size ≤ w.heap.size + 1; omega) (.slice yb mb db)).setCell (p := ⟨w.heap.size + 1, 2, none⟩) (by show w.heap.size ≤ w.heap.size + 1; omega) (.slice yc mc dc_)).setCell (p := ⟨w.heap.size + 1, 3, none⟩) (by show w.heap.size ≤ w.heap.size + 1; omega) (.int .i64 f)).setCell (p := ⟨w.heap.size + 1, 4, none⟩) (by show w.heap.size ≤ w.heap.size + 1; omega) (.int .i64 M))
  go_wp2_with fail
  refine bodyPost_ret (Ret.results_c rfl _ _ (w.heap.size + 1) (dc (.slice ya ma da) (.slice yb mb db) (.slice yc mc dc_) f M).toList rfl aggD Z1.out.cells) rfl ?_
  exact ⟨_, _, _, rfl, ⟨Z2.out.mono (by omega), Sl.Own.mono Z3.out (by omega), Z4.out.mono (by omega), AP.out⟩, Z5.out⟩
set_option maxHeartbeats 4000000 in
theorem specSignData (a b c : Value) (x : Dt) (t : Int) (w : World) (h : DHold w a b c x) (hB : Sl.Byt x.2.1) (hl : smD x) :
    Calls Tryz.prog 94 #[.int .i64 t, .agg (dc a b c x.2.2.2.1 x.2.2.2.2)] w (GivesD w (sgD t x)) := by
  obtain ⟨l, m, k, f, s⟩ := x
  unfold GivesD
  simp only [sgD] at hB ⊢
  have hl1 : bulk l ≤ 1200000 := hl.1
  have hl2 : m.length ≤ 1200000 := hl.2.1
  have hl3 : bulk k ≤ 1200000 := hl.2.2
  have hq1 : l.length ≤ 9000000 := by have := bulk_len l; omega
  have hq3 : k.length ≤ 9000000 := by have := bulk_len k; omega
  obtain ⟨xa, na, ca, xb, nb, cb, xc, nc, cc, rfl, rfl, rfl⟩ := h.shape
  obtain ⟨M, hM⟩ : ∃ M, Seal.mac t (portD (l, m, k, f, s)) = M := ⟨_, rfl⟩
  rw [hM]
  have HM := Lib.hid hM; have HY := Lib.hid hB; have HLB := Lib.hid hl
  have hb0 := (Below.refl w.heap.size w).alloc (Nat.le_refl _) (.cells (dc (.slice xa na ca) (.slice xb nb cb) (.slice xc nc cc) f s) 34)
  have HB := Lib.hid (hb0.alloc (by simp) (.cells (dc nil nil nil 0 0) 34))
  have H0 := Lib.hid (h.on HB.out)
  have HX := Lib.hid ((Ret.Blk.new w (dc (.slice xa na ca) (.slice xb nb cb) (.slice xc nc cc) f s) 34).on ((Below.refl _ _).alloc (Nat.le_refl _) (.cells (dc nil nil nil 0 0) 34)))
  have HR := Lib.hid (Ret.Blk.new' (w := w.alloc (.cells (dc (.slice xa na ca) (.slice xb nb cb) (.slice xc nc cc) f s) 34)) (n := w.heap.size + 1) (dc nil nil nil 0 0) 34 (by simp))
  have hz0 : ((w.alloc (.cells (dc (.slice xa na ca) (.slice xb nb cb) (.slice xc nc cc) f s) 34)).alloc (.cells (dc nil nil nil 0 0) 34)).heap.size = w.heap.size + 2 := by simp
  clear h hB hl hl1 hl3 hM hb0
  go_enter Tryz.func94, Tryz.ntmps94
  go_wp2_with fail
  refine (l8Copy _ _ _ (l, m, k, f, s) _ H0.out (by simp only; omega) (by simp only; omega) (by simp only; omega)).mono ?_
  rintro e w1 ⟨a1, b1, c1, rfl, hd1, hb1⟩
  obtain ⟨oa, ob, oc, pab, pac, pbc⟩ := hd1
  obtain ⟨ya, ma, da, rfl, -, -, oa⟩ := oa.shapeN
  obtain ⟨yb, mb, db, rfl, -, -, ob⟩ := Own.shapeN (enc := Value.int .u8) ob
  replace ob : Sl.Own 5 .u8 _ w1 (.slice yb mb db) m := ob
  obtain ⟨yc, mc, dc_, rfl, -, -, oc⟩ := oc.shapeN
  have hs1 := hb1.size
  rw [hz0] at hs1 oa ob oc
  have hal := (Below.refl w1.heap.size w1).alloc (Nat.le_refl _) (.cells (dc (.slice ya ma da) (.slice yb mb db) (.slice yc mc dc_) f s) 34)
  replace HB := Lib.hid ((HB.out.trans (hb1.mono HB.out.size)).trans (hal.mono (by omega)))
  have HB1 := Lib.hid (hb1.trans (hal.mono (by simp; omega)))
  replace HX := Lib.hid ((HX.out.on hb1).on hal); replace HR := Lib.hid ((HR.out.on hb1).on hal)
  have HL := Lib.hid (Ret.Blk.new w1 (dc (.slice ya ma da) (.slice yb mb db) (.slice yc mc dc_) f s) 34)
  have OA := Lib.hid (oa.on hal); have OB := Lib.hid (ob.on hal); have OC := Lib.hid (oc.on hal)
  have AP := Lib.hid (show Apart (.slice ya ma da) (.slice yb mb db) ∧ Apart (.slice ya ma da) (.slice yc mc dc_) ∧ Apart (.slice yb mb db) (.slice yc mc dc_) from ⟨pab, pac, pbc⟩)
  have hla : ∀ q, (.slice ya ma da : Value).ownBlock = some q → q < w1.heap.size := fun q e => (oa.lt q e).2
  have hlb : ∀ q, (.slice yb mb db : Value).ownBlock = some q → q < w1.heap.size := fun q e => (Sl.Own.lt ob q e).2
  have hlc : ∀ q, (.slice yc mc dc_ : Value).ownBlock = some q → q < w1.heap.size := fun q e => (oc.lt q e).2
  have HLA := Lib.hid hla; have HLBB := Lib.hid hlb; have HLC := Lib.hid hlc
  have hsz : (w1.alloc (.cells (dc (.slice ya ma da) (.slice yb mb db) (.slice yc mc dc_) f s) 34)).heap.size = w1.heap.size + 1 := by simp
  clear oa ob oc pab pac pbc hb1 hal hz0 hla hlb hlc
  have H1 := Lib.hid (H0.out.on HB1.out)
  have q0 : (w1.alloc (.cells (dc (.slice ya ma da) (.slice yb mb db) (.slice yc mc dc_) f s) 34)).cell? ⟨w.heap.size, 0, none⟩ = some (.slice xa na ca) := HX.out.cell 0
  have q1 : (w1.alloc (.cells (dc (.slice ya ma da) (.slice yb mb db) (.slice yc mc dc_) f s) 34)).cell? ⟨w.heap.size, 1, none⟩ = some (.slice xb nb cb) := HX.out.cell 1
  have q2 : (w1.alloc (.cells (dc (.slice ya ma da) (.slice yb mb db) (.slice yc mc dc_) f s) 34)).cell? ⟨w.heap.size, 2, none⟩ = some (.slice xc nc cc) := HX.out.cell 2
  have q3 : (w1.alloc (.cells (dc (.slice ya ma da) (.slice yb mb db) (.slice yc mc dc_) f s) 34)).cell? ⟨w.heap.size, 3, none⟩ = some (.int .i64 f) := HX.out.cell 3
  have q4 : (w1.alloc (.cells (dc (.slice ya ma da) (.slice yb mb db) (.slice yc mc dc_) f s) 34)).cell? ⟨w.heap.size, 4, none⟩ = some (.int .i64 s) := HX.out.cell 4
  go_wp2_with fail
  clear q0 q1 q2 q3 q4
  refine (specSignedPortion _ _ _ (l, m, k, f, s) _ H1.out HY.out HLB.out).mono ?_
  rintro e w2 ⟨v2, rfl, ho, hb⟩
  have HO := Lib.hid ho.holds
  have hs2 := hb.size
  rw [hsz] at hs2
  replace HX := Lib.hid (HX.out.on hb); replace HR := Lib.hid (HR.out.on hb); replace HL := Lib.hid (HL.out.on hb)
  replace OA := Lib.hid (OA.out.on hb); replace OB := Lib.hid (OB.out.on hb); replace OC := Lib.hid (OC.out.on hb)
  replace HB := Lib.hid (HB.out.trans (hb.mono HB.out.size))
  have HLN := Lib.hid (show (portD (l, m, k, f, s)).length ≤ 9000000 from Nat.le_trans (portD_small _) (by have := HLB.out.2.1; first | omega | (show 1000 + m.length ≤ _; simp only at this; omega)))
  clear ho hb
  go_wp2_with fail
  refine (sMacV M HM.out HO.out HLN.out).mono ?_
  rintro e w3 ⟨rfl, hb⟩
  have hs3 := hb.size
  replace HX := Lib.hid (HX.out.on hb); replace HR := Lib.hid (HR.out.on hb); replace HL := Lib.hid (HL.out.on hb)
  replace OA := Lib.hid (OA.out.on hb); replace OB := Lib.hid (OB.out.on hb); replace OC := Lib.hid (OC.out.on hb)
  replace HB := Lib.hid (HB.out.trans (hb.mono HB.out.size))
  clear hb
  have p0 : w3.cell? ⟨w1.heap.size, 0, none⟩ = some (.slice ya ma da) := HL.out.cell 0
  have p1 : w3.cell? ⟨w1.heap.size, 1, none⟩ = some (.slice yb mb db) := HL.out.cell 1
  have p2 : w3.cell? ⟨w1.heap.size, 2, none⟩ = some (.slice yc mc dc_) := HL.out.cell 2
  have p3 : w3.cell? ⟨w1.heap.size, 3, none⟩ = some (.int .i64 f) := HL.out.cell 3
  have p4 : w3.cell? ⟨w1.heap.size, 4, none⟩ = some (.int .i64 s) := HL.out.cell 4
  have t0 := HL.out.frozen 0; have t1 := HL.out.frozen 1; have t2 := HL.out.frozen 2; have t3 := HL.out.frozen 3; have t4 := HL.out.frozen 4
  have r0 : w3.cell? ⟨w.heap.size + 1, 0, none⟩ = some (.slice none 0 0) := HR.out.cell 0
  have r1 : w3.cell? ⟨w.heap.size + 1, 1, none⟩ = some (.slice none 0 0) := HR.out.cell 1
  have r2 : w3.cell? ⟨w.heap.size + 1, 2, none⟩ = some (.slice none 0 0) := HR.out.cell 2
  have r3 : w3.cell? ⟨w.heap.size + 1, 3, none⟩ = some (.int .i64 0) := HR.out.cell 3
  have r4 : w3.cell? ⟨w.heap.size + 1, 4, none⟩ = some (.int .i64 0) := HR.out.cell 4
  have z0 := HR.out.frozen 0; have z1 := HR.out.frozen 1; have z2 := HR.out.frozen 2; have z3 := HR.out.frozen 3; have z4 := HR.out.frozen 4
  have Z1 := Lib.hid ((((((HR.out.other (a := ⟨w1.heap.size, 4, none⟩) (by show w1.heap.size ≠ w.heap.size + 1; omega) (.int .i64 M)).set 0 (.slice ya ma da)).set 1 (.slice yb mb db)).set 2 (.slice yc mc dc_)).set 3 (.int .i64 f)).set 4 (.int .i64 M))
  have Z2 := Lib.hid (own_set (g := w.heap.size + 1) (i := 4) (u := .int .i64 M) (own_set (g := w.heap.size + 1) (i := 3) (u := .int .i64 f) (own_set (g := w.heap.size + 1) (i := 2) (u := .slice yc mc dc_) (own_set (g := w.heap.size + 1) (i := 1) (u := .slice yb mb db) (own_set (g := w.heap.size + 1) (i := 0) (u := .slice ya ma da) (own_row OA.out (Ret.grownBy_set _ ⟨w1.heap.size, 4, none⟩ (.int .i64 M)) (Or.inr fun q e e6 => by have h5 := HLA.out q e; have e7 : q = w1.heap.size := e6; omega)) (by omega)) (by omega)) (by omega)) (by omega)) (by omega))
  have Z3 := Lib.hid (sl_own_set (g := w.heap.size + 1) (i := 4) (u := .int .i64 M) (sl_own_set (g := w.heap.size + 1) (i := 3) (u := .int .i64 f) (sl_own_set (g := w.heap.size + 1) (i := 2) (u := .slice yc mc dc_) (sl_own_set (g := w.heap.size + 1) (i := 1) (u := .slice yb mb db) (sl_own_set (g := w.heap.size + 1) (i := 0) (u := .slice ya ma da) (sl_own_row OB.out (Ret.grownBy_set _ ⟨w1.heap.size, 4, none⟩ (.int .i64 M)) (Or.inr fun q e e6 => by have h5 := HLBB.out q e; have e7 : q = w1.heap.size := e6; omega)) (by omega)) (by omega)) (by omega)) (by omega)) (by omega))
  have Z4 := Lib.hid (own_set (g := w.heap.size + 1) (i := 4) (u := .int .i64 M) (own_set (g := w.heap.size + 1) (i := 3) (u := .int .i64 f) (own_set (g := w.heap.size + 1) (i := 2) (u := .slice yc mc dc_) (own_set (g := w.heap.size + 1) (i := 1) (u := .slice yb mb db) (own_set (g := w.heap.size + 1) (i := 0) (u := .slice ya ma da) (own_row OC.out (Ret.grownBy_set _ ⟨w1.heap.size, 4, none⟩ (.int .i64 M)) (Or.inr fun q e e6 => by have h5 := HLC.out q e; have e7 : q = w1.heap.size := e6; omega)) (by omega)) (by omega)) (by omega)) (by omega)) (by omega))
  have Z5 := Lib.hid ((((((HB.out.setCell (p := ⟨w1.heap.size, 4, none⟩) (by show w.heap.size ≤ w1.heap.size; omega) (.int .i64 M)).setCell (p := ⟨w.heap.size + 1, 0, none⟩) (by show w.heap.size ≤ w.heap.size + 1; omega) (.slice ya ma da)).setCell (p := ⟨w.heap.size + 1, 1, none⟩) (by show w.heap.size ≤ w.heap.size + 1; omega) (.slice yb mb db)).setCell (p := ⟨w.heap.size + 1, 2, none⟩) (by show w.heap.size ≤ w.heap.size + 1; omega) (.slice yc mc dc_)).setCell (p := ⟨w.heap.size + 1, 3, none⟩) (by show w.heap.size ≤ w.heap.size + 1; omega) (.int .i64 f)).setCell (p := ⟨w.heap.size + 1, 4, none⟩) (by show w.heap.size ≤ w.heap.size + 1; omega) (.int .i64 M))
  go_wp2_with fail
  refine bodyPost_ret (Ret.results_c rfl _ _ (w.heap.size + 1) (dc (.slice ya ma da) (.slice yb mb db) (.slice yc mc dc_) f M).toList rfl aggD Z1.out.cells) rfl ?_
  exact ⟨_, _, _, rfl, ⟨Z2.out.mono (by omega), Sl.Own.mono Z3.out (by omega), Z4.out.mono (by omega), AP.out⟩, Z5.out⟩
set_option maxRecDepth 100000 in
set_option maxHeartbeats 4000000 in
theorem verspec0 {Q : Exit → Act → World → Prop} {v1 v2 v4 v5 v6 v7 v8 v9 v10 v11 v12 v13 v14 v15 : Value} {w : World} {p : Nat} {t : Int} (HS : Hid (Num.inB t 1 2147483646 = false)) 
  (hQ : ∀ (u5 u6 u7 u8 u9 u10 u11 u12 u13 u14 u15 : Value)  (wx : World), Below w.heap.size w wx → Q .normal ⟨#[.int .i64 t, v1, v2, .pointer (some ⟨p, 0, none⟩), .bool false, u5, u6, u7, u8, u9, u10, u11, u12, u13, u14, u15], []⟩ wx) :
  (Code.region 1 #[⟨some 5, .move (.tmp 0), 3, "l08_thing.go:21", #[], none⟩,
   ⟨some 6, .call ⟨.value (.func 108), #[.tmp 5], #[3]⟩, 4, "l08_thing.go:21", #[⟨0, .data⟩], none⟩,
   ⟨some 7, .move (.tmp 6), 4, "l08_thing.go:21", #[⟨1, .data⟩, ⟨1, .chain⟩], none⟩,
   ⟨some 8, .fieldAddr 34 (.tmp 3) 4, 0, "l08_thing.go:21", #[⟨2, .guard⟩], some (2, true)⟩,
   ⟨some 9, .load 3 (.tmp 8), 3, "l08_thing.go:21", #[⟨3, .data⟩, ⟨2, .guard⟩], some (2, true)⟩,
   ⟨some 10, .move (.tmp 0), 3, "l08_thing.go:21", #[⟨2, .guard⟩], some (2, true)⟩,
   ⟨some 11, .load 34 (.tmp 3), 34, "l08_thing.go:21", #[⟨2, .guard⟩], some (2, true)⟩,
   ⟨some 12, .call ⟨.value (.func 130), #[.tmp 11], #[34]⟩, 79, "l08_thing.go:21", #[⟨6, .data⟩, ⟨2, .chain⟩, ⟨2, .guard⟩], some (2, true)⟩,
   ⟨some 13, .call ⟨.value (.func 129), #[.tmp 10, .tmp 12], #[3, 79]⟩, 3, "l08_thing.go:21", #[⟨5, .data⟩, ⟨7, .data⟩, ⟨7, .chain⟩, ⟨2, .guard⟩], some (2, true)⟩,
   ⟨some 14, .binOp BinOp.eql 3 (.tmp 9) (.tmp 13) 3, 4, "l08_thing.go:21", #[⟨4, .data⟩, ⟨8, .data⟩, ⟨2, .guard⟩], some (2, true)⟩,
   ⟨some 15, .pick (.tmp 7) (.tmp 14) (.const (Value.bool false)), 4, "l08_thing.go:21", #[⟨2, .data⟩, ⟨9, .data⟩], none⟩,
   ⟨some 4, .assign (.tmp 15), 4, "l08_thing.go:21", #[⟨10, .data⟩, ⟨8, .chain⟩, ⟨0, .phase⟩, ⟨1, .phase⟩, ⟨2, .phase⟩, ⟨3, .phase⟩, ⟨4, .phase⟩, ⟨5, .phase⟩, ⟨6, .phase⟩, ⟨7, .phase⟩, ⟨8, .phase⟩, ⟨9, .phase⟩, ⟨10, .phase⟩], none⟩] true).wp Tryz.prog Q ⟨#[.int .i64 t, v1, v2, .pointer (some ⟨p, 0, none⟩), v4, v5, v6, v7, v8, v9, v10, v11, v12, v13, v14, v15], []⟩ w := by
 have HQ := Lib.hid hQ; clear hQ
 have hdr : Below w.heap.size w w.drew := (Below.refl _ _).drew
 have BB := Lib.hid hdr
 refine wp_region_noPanic ?_
 refine wp_region_held_drew (S := (fun w' => True)) (by kernel_rfl) ?_ (fun hHeld => ?_)
 ·
  trivial
 clear hdr
 generalize w.drew = wd at *
 refine wpAnyH_take (i := 0) (oi := ⟨some 5, .move (.tmp 0), 3, "l08_thing.go:21", #[], none⟩) (v := ?_) rfl (by kernel_rfl) (by kernel_rfl) (by kernel_rfl) (fun _ _ _ h => h) (Or.inl ⟨by rfl, ?_⟩) (by assumption) ?_
 rotate_left
 ·
  intro w' hSw; (try dsimp only at hSw); first | (go_simp; done) | (go_simp; with_reducible rfl)
 (try simp only [Act.put, Row.pB0, Row.pB1, Row.pB2])
 refine wpAnyH_ready (rs := [1]) (by kernel_rfl) (by simp) ?_
 refine AllReadyH.cons (o := ⟨some 6, .call ⟨.value (.func 108), #[.tmp 5], #[3]⟩, 4, "l08_thing.go:21", #[⟨0, .data⟩], none⟩) rfl (fun K hK => ?_) AllReadyH.nil
 go_simp
 refine (sSecV false HS.out).mono ?_
 rintro e wn1 ⟨rfl, hb⟩
 replace BB := Lib.hid (BB.out.trans (hb.mono BB.out.size))
 clear hb
 (try go_wp2_with fail)
 clear hHeld
 refine hK.out _ _ ?_ (fun hHeld => ?_)
 ·
  trivial
 clear hK K
 (try simp only [Act.put, Row.pB0, Row.pB1, Row.pB2])
 refine wpAnyH_take (i := 2) (oi := ⟨some 7, .move (.tmp 6), 4, "l08_thing.go:21", #[⟨1, .data⟩, ⟨1, .chain⟩], none⟩) (v := ?_) rfl (by kernel_rfl) (by kernel_rfl) (by kernel_rfl) (fun _ _ _ h => h) (Or.inl ⟨by rfl, ?_⟩) (by assumption) ?_
 rotate_left
 ·
  intro w' hSw; (try dsimp only at hSw); first | (go_simp; done) | (go_simp; with_reducible rfl)
 (try simp only [Act.put, Row.pB0, Row.pB1, Row.pB2])
 refine wpAnyH_take (i := 3) (oi := ⟨some 8, .fieldAddr 34 (.tmp 3) 4, 0, "l08_thing.go:21", #[⟨2, .guard⟩], some (2, true)⟩) (v := undef) rfl (by kernel_rfl) (by kernel_rfl) (by kernel_rfl) (fun _ _ _ h => h) (Or.inr ⟨by rfl, rfl⟩) (by assumption) ?_
 (try simp only [Act.put, Row.pB0, Row.pB1, Row.pB2])
 refine wpAnyH_take (i := 4) (oi := ⟨some 9, .load 3 (.tmp 8), 3, "l08_thing.go:21", #[⟨3, .data⟩, ⟨2, .guard⟩], some (2, true)⟩) (v := undef) rfl (by kernel_rfl) (by kernel_rfl) (by kernel_rfl) (fun _ _ _ h => h) (Or.inr ⟨by rfl, rfl⟩) (by assumption) ?_
 (try simp only [Act.put, Row.pB0, Row.pB1, Row.pB2])
 refine wpAnyH_take (i := 5) (oi := ⟨some 10, .move (.tmp 0), 3, "l08_thing.go:21", #[⟨2, .guard⟩], some (2, true)⟩) (v := undef) rfl (by kernel_rfl) (by kernel_rfl) (by kernel_rfl) (fun _ _ _ h => h) (Or.inr ⟨by rfl, rfl⟩) (by assumption) ?_
 (try simp only [Act.put, Row.pB0, Row.pB1, Row.pB2])
 refine wpAnyH_take (i := 6) (oi := ⟨some 11, .load 34 (.tmp 3), 34, "l08_thing.go:21", #[⟨2, .guard⟩], some (2, true)⟩) (v := undef) rfl (by kernel_rfl) (by kernel_rfl) (by kernel_rfl) (fun _ _ _ h => h) (Or.inr ⟨by rfl, rfl⟩) (by assumption) ?_
 (try simp only [Act.put, Row.pB0, Row.pB1, Row.pB2])
 refine wpAnyH_take (i := 7) (oi := ⟨some 12, .call ⟨.value (.func 130), #[.tmp 11], #[34]⟩, 79, "l08_thing.go:21", #[⟨6, .data⟩, ⟨2, .chain⟩, ⟨2, .guard⟩], some (2, true)⟩) (v := undef) rfl (by kernel_rfl) (by kernel_rfl) (by kernel_rfl) (fun _ _ _ h => h) (Or.inr ⟨by rfl, rfl⟩) (by assumption) ?_
 (try simp only [Act.put, Row.pB0, Row.pB1, Row.pB2])
 refine wpAnyH_take (i := 8) (oi := ⟨some 13, .call ⟨.value (.func 129), #[.tmp 10, .tmp 12], #[3, 79]⟩, 3, "l08_thing.go:21", #[⟨5, .data⟩, ⟨7, .data⟩, ⟨7, .chain⟩, ⟨2, .guard⟩], some (2, true)⟩) (v := undef) rfl (by kernel_rfl) (by kernel_rfl) (by kernel_rfl) (fun _ _ _ h => h) (Or.inr ⟨by rfl, rfl⟩) (by assumption) ?_
 (try simp only [Act.put, Row.pB0, Row.pB1, Row.pB2])
 refine wpAnyH_take (i := 9) (oi := ⟨some 14, .binOp BinOp.eql 3 (.tmp 9) (.tmp 13) 3, 4, "l08_thing.go:21", #[⟨4, .data⟩, ⟨8, .data⟩, ⟨2, .guard⟩], some (2, true)⟩) (v := undef) rfl (by kernel_rfl) (by kernel_rfl) (by kernel_rfl) (fun _ _ _ h => h) (Or.inr ⟨by rfl, rfl⟩) (by assumption) ?_
 (try simp only [Act.put, Row.pB0, Row.pB1, Row.pB2])
 refine wpAnyH_take (i := 10) (oi := ⟨some 15, .pick (.tmp 7) (.tmp 14) (.const (Value.bool false)), 4, "l08_thing.go:21", #[⟨2, .data⟩, ⟨9, .data⟩], none⟩) (v := ?_) rfl (by kernel_rfl) (by kernel_rfl) (by kernel_rfl) (fun _ _ _ h => h) (Or.inl ⟨by rfl, ?_⟩) (by assumption) ?_
 rotate_left
 ·
  intro w' hSw; (try dsimp only at hSw); first | (go_simp; done) | (go_simp; with_reducible rfl)
 (try simp only [Act.put, Row.pB0, Row.pB1, Row.pB2])
 refine wpAnyH_take (i := 11) (oi := ⟨some 4, .assign (.tmp 15), 4, "l08_thing.go:21", #[⟨10, .data⟩, ⟨8, .chain⟩, ⟨0, .phase⟩, ⟨1, .phase⟩, ⟨2, .phase⟩, ⟨3, .phase⟩, ⟨4, .phase⟩, ⟨5, .phase⟩, ⟨6, .phase⟩, ⟨7, .phase⟩, ⟨8, .phase⟩, ⟨9, .phase⟩, ⟨10, .phase⟩], none⟩) (v := ?_) rfl (by kernel_rfl) (by kernel_rfl) (by kernel_rfl) (fun _ _ _ h => h) (Or.inl ⟨by rfl, ?_⟩) (by assumption) ?_
 rotate_left
 ·
  intro w' hSw; (try dsimp only at hSw); first | (go_simp; done) | (go_simp; with_reducible rfl)
 (try simp only [Act.put, Row.pB0, Row.pB1, Row.pB2])
 refine wpAnyH_done (by kernel_rfl) ?_ _
 exact NoPanic.normal (HQ.out _ _ _ _ _ _ _ _ _ _ _  _  BB.out)
set_option maxRecDepth 100000 in
set_option maxHeartbeats 4000000 in
theorem verspec1 {Q : Exit → Act → World → Prop} {v1 v2 v4 v5 v6 v7 v8 v9 v10 v11 v12 v13 v14 v15 : Value} {w : World} {p na ca nb cb nc cc : Nat} {xa xb xc : Option Addr} {f s t : Int} {la lc : List ByteArray} {lb : List Int} {M : Int} {z : Bool} (HS : Hid (Num.inB t 1 2147483646 = true)) (HD : Hid (DHold w (.slice xa na ca) (.slice xb nb cb) (.slice xc nc cc) (la, lb, lc, f, s))) (HBY : Hid (Sl.Byt lb)) (HL : Hid (smD (la, lb, lc, f, s))) (HM : Hid (Seal.mac t (portD (la, lb, lc, f, s)) = M)) (HZ : Hid ((s == M) = z)) (K0 : Hid (w.cell? ⟨p, 0, none⟩ = some (.slice xa na ca))) (K1 : Hid (w.cell? ⟨p, 1, none⟩ = some (.slice xb nb cb))) (K2 : Hid (w.cell? ⟨p, 2, none⟩ = some (.slice xc nc cc))) (K3 : Hid (w.cell? ⟨p, 3, none⟩ = some (.int .i64 f))) (K4 : Hid (w.cell? ⟨p, 4, none⟩ = some (.int .i64 s)))
  (hQ : ∀ (u5 u6 u7 u8 u9 u10 u11 u12 u13 u14 u15 : Value)  (wx : World), Below w.heap.size w wx → Q .normal ⟨#[.int .i64 t, v1, v2, .pointer (some ⟨p, 0, none⟩), .bool z, u5, u6, u7, u8, u9, u10, u11, u12, u13, u14, u15], []⟩ wx) :
  (Code.region 1 #[⟨some 5, .move (.tmp 0), 3, "l08_thing.go:21", #[], none⟩,
   ⟨some 6, .call ⟨.value (.func 108), #[.tmp 5], #[3]⟩, 4, "l08_thing.go:21", #[⟨0, .data⟩], none⟩,
   ⟨some 7, .move (.tmp 6), 4, "l08_thing.go:21", #[⟨1, .data⟩, ⟨1, .chain⟩], none⟩,
   ⟨some 8, .fieldAddr 34 (.tmp 3) 4, 0, "l08_thing.go:21", #[⟨2, .guard⟩], some (2, true)⟩,
   ⟨some 9, .load 3 (.tmp 8), 3, "l08_thing.go:21", #[⟨3, .data⟩, ⟨2, .guard⟩], some (2, true)⟩,
   ⟨some 10, .move (.tmp 0), 3, "l08_thing.go:21", #[⟨2, .guard⟩], some (2, true)⟩,
   ⟨some 11, .load 34 (.tmp 3), 34, "l08_thing.go:21", #[⟨2, .guard⟩], some (2, true)⟩,
   ⟨some 12, .call ⟨.value (.func 130), #[.tmp 11], #[34]⟩, 79, "l08_thing.go:21", #[⟨6, .data⟩, ⟨2, .chain⟩, ⟨2, .guard⟩], some (2, true)⟩,
   ⟨some 13, .call ⟨.value (.func 129), #[.tmp 10, .tmp 12], #[3, 79]⟩, 3, "l08_thing.go:21", #[⟨5, .data⟩, ⟨7, .data⟩, ⟨7, .chain⟩, ⟨2, .guard⟩], some (2, true)⟩,
   ⟨some 14, .binOp BinOp.eql 3 (.tmp 9) (.tmp 13) 3, 4, "l08_thing.go:21", #[⟨4, .data⟩, ⟨8, .data⟩, ⟨2, .guard⟩], some (2, true)⟩,
   ⟨some 15, .pick (.tmp 7) (.tmp 14) (.const (Value.bool false)), 4, "l08_thing.go:21", #[⟨2, .data⟩, ⟨9, .data⟩], none⟩,
   ⟨some 4, .assign (.tmp 15), 4, "l08_thing.go:21", #[⟨10, .data⟩, ⟨8, .chain⟩, ⟨0, .phase⟩, ⟨1, .phase⟩, ⟨2, .phase⟩, ⟨3, .phase⟩, ⟨4, .phase⟩, ⟨5, .phase⟩, ⟨6, .phase⟩, ⟨7, .phase⟩, ⟨8, .phase⟩, ⟨9, .phase⟩, ⟨10, .phase⟩], none⟩] true).wp Tryz.prog Q ⟨#[.int .i64 t, v1, v2, .pointer (some ⟨p, 0, none⟩), v4, v5, v6, v7, v8, v9, v10, v11, v12, v13, v14, v15], []⟩ w := by
 have HQ := Lib.hid hQ; clear hQ
 have hdr : Below w.heap.size w w.drew := (Below.refl _ _).drew
 have tz := HZ.out
 have BB := Lib.hid hdr
 refine wp_region_noPanic ?_
 refine wp_region_held_drew (S := (fun w' => w'.cell? ⟨p, 0, none⟩ = some (.slice xa na ca) ∧ w'.cell? ⟨p, 1, none⟩ = some (.slice xb nb cb) ∧ w'.cell? ⟨p, 2, none⟩ = some (.slice xc nc cc) ∧ w'.cell? ⟨p, 3, none⟩ = some (.int .i64 f) ∧ w'.cell? ⟨p, 4, none⟩ = some (.int .i64 s))) (by kernel_rfl) ?_ (fun hHeld => ?_)
 ·
  exact ⟨kc K0.out BB.out, kc K1.out BB.out, kc K2.out BB.out, kc K3.out BB.out, kc K4.out BB.out⟩
 clear hdr
 generalize w.drew = wd at *
 refine wpAnyH_take (i := 0) (oi := ⟨some 5, .move (.tmp 0), 3, "l08_thing.go:21", #[], none⟩) (v := ?_) rfl (by kernel_rfl) (by kernel_rfl) (by kernel_rfl) (fun _ _ _ h => h) (Or.inl ⟨by rfl, ?_⟩) (by assumption) ?_
 rotate_left
 ·
  intro w' hSw; (try dsimp only at hSw); first | (go_simp; done) | (go_simp; with_reducible rfl)
 (try simp only [Act.put, Row.pB0, Row.pB1, Row.pB2])
 refine wpAnyH_ready (rs := [1]) (by kernel_rfl) (by simp) ?_
 refine AllReadyH.cons (o := ⟨some 6, .call ⟨.value (.func 108), #[.tmp 5], #[3]⟩, 4, "l08_thing.go:21", #[⟨0, .data⟩], none⟩) rfl (fun K hK => ?_) AllReadyH.nil
 go_simp
 refine (sSecV true HS.out).mono ?_
 rintro e wn1 ⟨rfl, hb⟩
 replace BB := Lib.hid (BB.out.trans (hb.mono BB.out.size))
 clear hb
 (try go_wp2_with fail)
 clear hHeld
 refine hK.out _ _ ?_ (fun hHeld => ?_)
 ·
  (try dsimp only); exact ⟨kc K0.out BB.out, kc K1.out BB.out, kc K2.out BB.out, kc K3.out BB.out, kc K4.out BB.out⟩
 clear hK K
 (try simp only [Act.put, Row.pB0, Row.pB1, Row.pB2])
 refine wpAnyH_take (i := 2) (oi := ⟨some 7, .move (.tmp 6), 4, "l08_thing.go:21", #[⟨1, .data⟩, ⟨1, .chain⟩], none⟩) (v := ?_) rfl (by kernel_rfl) (by kernel_rfl) (by kernel_rfl) (fun _ _ _ h => h) (Or.inl ⟨by rfl, ?_⟩) (by assumption) ?_
 rotate_left
 ·
  intro w' hSw; (try dsimp only at hSw); first | (go_simp; done) | (go_simp; with_reducible rfl)
 (try simp only [Act.put, Row.pB0, Row.pB1, Row.pB2])
 refine wpAnyH_take (i := 3) (oi := ⟨some 8, .fieldAddr 34 (.tmp 3) 4, 0, "l08_thing.go:21", #[⟨2, .guard⟩], some (2, true)⟩) (v := ?_) rfl (by kernel_rfl) (by kernel_rfl) (by kernel_rfl) (fun _ _ _ h => h) (Or.inl ⟨by rfl, ?_⟩) (by assumption) ?_
 rotate_left
 ·
  intro w' hSw; (try dsimp only at hSw); first | (go_simp; done) | (go_simp; with_reducible rfl)
 (try simp only [Act.put, Row.pB0, Row.pB1, Row.pB2])
 refine wpAnyH_take (i := 4) (oi := ⟨some 9, .load 3 (.tmp 8), 3, "l08_thing.go:21", #[⟨3, .data⟩, ⟨2, .guard⟩], some (2, true)⟩) (v := ?_) rfl (by kernel_rfl) (by kernel_rfl) (by kernel_rfl) (fun _ _ _ h => h) (Or.inl ⟨by rfl, ?_⟩) (by assumption) ?_
 rotate_left
 ·
  intro w' hSw; (try dsimp only at hSw); first | (go_simp; done) | (go_simp; with_reducible rfl)
 (try simp only [Act.put, Row.pB0, Row.pB1, Row.pB2])
 refine wpAnyH_take (i := 5) (oi := ⟨some 10, .move (.tmp 0), 3, "l08_thing.go:21", #[⟨2, .guard⟩], some (2, true)⟩) (v := ?_) rfl (by kernel_rfl) (by kernel_rfl) (by kernel_rfl) (fun _ _ _ h => h) (Or.inl ⟨by rfl, ?_⟩) (by assumption) ?_
 rotate_left
 ·
  intro w' hSw; (try dsimp only at hSw); first | (go_simp; done) | (go_simp; with_reducible rfl)
 (try simp only [Act.put, Row.pB0, Row.pB1, Row.pB2])
 refine wpAnyH_take (i := 6) (oi := ⟨some 11, .load 34 (.tmp 3), 34, "l08_thing.go:21", #[⟨2, .guard⟩], some (2, true)⟩) (v := ?_) rfl (by kernel_rfl) (by kernel_rfl) (by kernel_rfl) (fun _ _ _ h => h) (Or.inl ⟨by rfl, ?_⟩) (by assumption) ?_
 rotate_left
 ·
  intro w' hSw; (try dsimp only at hSw); first | (go_simp; done) | (go_simp; with_reducible rfl)
 (try simp only [Act.put, Row.pB0, Row.pB1, Row.pB2])
 refine wpAnyH_ready (rs := [7]) (by kernel_rfl) (by simp) ?_
 refine AllReadyH.cons (o := ⟨some 12, .call ⟨.value (.func 130), #[.tmp 11], #[34]⟩, 79, "l08_thing.go:21", #[⟨6, .data⟩, ⟨2, .chain⟩, ⟨2, .guard⟩], some (2, true)⟩) rfl (fun K hK => ?_) AllReadyH.nil
 go_simp
 refine (specSignedPortion _ _ _ (la, lb, lc, f, s) _ (HD.out.on BB.out) HBY.out HL.out).mono ?_
 rintro e wn2 ⟨v12, rfl, ho, hb⟩
 have H_v12 := Lib.hid ho.holds; clear ho
 replace BB := Lib.hid (BB.out.trans (hb.mono BB.out.size))
 clear hb
 (try go_wp2_with fail)
 clear hHeld
 refine hK.out _ _ ?_ (fun hHeld => ?_)
 ·
  (try dsimp only); exact ⟨kc K0.out BB.out, kc K1.out BB.out, kc K2.out BB.out, kc K3.out BB.out, kc K4.out BB.out⟩
 clear hK K
 (try simp only [Act.put, Row.pB0, Row.pB1, Row.pB2])
 refine wpAnyH_ready (rs := [8]) (by kernel_rfl) (by simp) ?_
 refine AllReadyH.cons (o := ⟨some 13, .call ⟨.value (.func 129), #[.tmp 10, .tmp 12], #[3, 79]⟩, 3, "l08_thing.go:21", #[⟨5, .data⟩, ⟨7, .data⟩, ⟨7, .chain⟩, ⟨2, .guard⟩], some (2, true)⟩) rfl (fun K hK => ?_) AllReadyH.nil
 go_simp
 refine (sMacV M HM.out H_v12.out (Nat.le_trans (portD_small _) (by have := HL.out.2.1; simp only at this ⊢; omega))).mono ?_
 rintro e wn3 ⟨rfl, hb⟩
 replace H_v12 := Lib.hid (H_v12.out.on hb)
 replace BB := Lib.hid (BB.out.trans (hb.mono BB.out.size))
 clear hb
 (try go_wp2_with fail)
 clear hHeld
 refine hK.out _ _ ?_ (fun hHeld => ?_)
 ·
  (try dsimp only); exact ⟨kc K0.out BB.out, kc K1.out BB.out, kc K2.out BB.out, kc K3.out BB.out, kc K4.out BB.out⟩
 clear hK K
 (try simp only [Act.put, Row.pB0, Row.pB1, Row.pB2])
 refine wpAnyH_take (i := 9) (oi := ⟨some 14, .binOp BinOp.eql 3 (.tmp 9) (.tmp 13) 3, 4, "l08_thing.go:21", #[⟨4, .data⟩, ⟨8, .data⟩, ⟨2, .guard⟩], some (2, true)⟩) (v := ?_) rfl (by kernel_rfl) (by kernel_rfl) (by kernel_rfl) (fun _ _ _ h => h) (Or.inl ⟨by rfl, ?_⟩) (by assumption) ?_
 rotate_left
 ·
  intro w' hSw; (try dsimp only at hSw); first | (go_simp; done) | (go_simp; with_reducible rfl)
 (try simp only [Act.put, Row.pB0, Row.pB1, Row.pB2])
 refine wpAnyH_take (i := 10) (oi := ⟨some 15, .pick (.tmp 7) (.tmp 14) (.const (Value.bool false)), 4, "l08_thing.go:21", #[⟨2, .data⟩, ⟨9, .data⟩], none⟩) (v := ?_) rfl (by kernel_rfl) (by kernel_rfl) (by kernel_rfl) (fun _ _ _ h => h) (Or.inl ⟨by rfl, ?_⟩) (by assumption) ?_
 rotate_left
 ·
  intro w' hSw; (try dsimp only at hSw); first | (go_simp; done) | (go_simp; with_reducible rfl)
 (try simp only [Act.put, Row.pB0, Row.pB1, Row.pB2])
 refine wpAnyH_take (i := 11) (oi := ⟨some 4, .assign (.tmp 15), 4, "l08_thing.go:21", #[⟨10, .data⟩, ⟨8, .chain⟩, ⟨0, .phase⟩, ⟨1, .phase⟩, ⟨2, .phase⟩, ⟨3, .phase⟩, ⟨4, .phase⟩, ⟨5, .phase⟩, ⟨6, .phase⟩, ⟨7, .phase⟩, ⟨8, .phase⟩, ⟨9, .phase⟩, ⟨10, .phase⟩], none⟩) (v := ?_) rfl (by kernel_rfl) (by kernel_rfl) (by kernel_rfl) (fun _ _ _ h => h) (Or.inl ⟨by rfl, ?_⟩) (by assumption) ?_
 rotate_left
 ·
  intro w' hSw; (try dsimp only at hSw); first | (go_simp; done) | (go_simp; with_reducible rfl)
 (try simp only [Act.put, Row.pB0, Row.pB1, Row.pB2])
 refine wpAnyH_done (by kernel_rfl) ?_ _
 exact NoPanic.normal (HQ.out _ _ _ _ _ _ _ _ _ _ _  _  BB.out)
set_option maxRecDepth 100000 in
set_option maxHeartbeats 4000000 in
theorem verimpl0 {Q : Exit → Act → World → Prop} {v1 v2 v4 v5 v6 v7 v8 v9 v10 v11 v12 v13 : Value} {w : World} {p : Nat} {t : Int} (HS : Hid (Num.inB t 1 2147483646 = false)) 
  (hQ : ∀ (u5 u6 u7 u8 u9 u10 u11 u12 u13 : Value)  (wx : World), Below w.heap.size w wx → Q .normal ⟨#[.int .i64 t, v1, v2, .pointer (some ⟨p, 0, none⟩), .bool false, u5, u6, u7, u8, u9, u10, u11, u12, u13], []⟩ wx) :
  (Code.region 1 #[⟨some 5, .move (.tmp 0), 3, "l08_thing.go:60", #[], none⟩,
   ⟨some 6, .call ⟨.value (.func 117), #[.tmp 5], #[3]⟩, 4, "l08_thing.go:60", #[⟨0, .data⟩], none⟩,
   ⟨some 7, .move (.tmp 6), 4, "l08_thing.go:60", #[⟨1, .data⟩, ⟨1, .chain⟩], none⟩,
   ⟨some 8, .fieldAddr 34 (.tmp 3) 4, 0, "l08_thing.go:60", #[⟨2, .guard⟩], some (2, true)⟩,
   ⟨some 9, .load 3 (.tmp 8), 3, "l08_thing.go:60", #[⟨3, .data⟩, ⟨2, .guard⟩], some (2, true)⟩,
   ⟨some 10, .move (.tmp 0), 3, "l08_thing.go:60", #[⟨2, .guard⟩], some (2, true)⟩,
   ⟨some 11, .call ⟨.value (.func 118), #[.tmp 3, .tmp 10], #[34, 3]⟩, 3, "l08_thing.go:60", #[⟨5, .data⟩, ⟨2, .chain⟩, ⟨2, .guard⟩], some (2, true)⟩,
   ⟨some 12, .binOp BinOp.eql 3 (.tmp 9) (.tmp 11) 3, 4, "l08_thing.go:60", #[⟨4, .data⟩, ⟨6, .data⟩, ⟨2, .guard⟩], some (2, true)⟩,
   ⟨some 13, .pick (.tmp 7) (.tmp 12) (.const (Value.bool false)), 4, "l08_thing.go:60", #[⟨2, .data⟩, ⟨7, .data⟩], none⟩,
   ⟨some 4, .assign (.tmp 13), 4, "l08_thing.go:60", #[⟨8, .data⟩, ⟨6, .chain⟩, ⟨0, .phase⟩, ⟨1, .phase⟩, ⟨2, .phase⟩, ⟨3, .phase⟩, ⟨4, .phase⟩, ⟨5, .phase⟩, ⟨6, .phase⟩, ⟨7, .phase⟩, ⟨8, .phase⟩], none⟩] true).wp Tryz.prog Q ⟨#[.int .i64 t, v1, v2, .pointer (some ⟨p, 0, none⟩), v4, v5, v6, v7, v8, v9, v10, v11, v12, v13], []⟩ w := by
 have HQ := Lib.hid hQ; clear hQ
 have hdr : Below w.heap.size w w.drew := (Below.refl _ _).drew
 have BB := Lib.hid hdr
 refine wp_region_noPanic ?_
 refine wp_region_held_drew (S := (fun w' => True)) (by kernel_rfl) ?_ (fun hHeld => ?_)
 ·
  trivial
 clear hdr
 generalize w.drew = wd at *
 refine wpAnyH_take (i := 0) (oi := ⟨some 5, .move (.tmp 0), 3, "l08_thing.go:60", #[], none⟩) (v := ?_) rfl (by kernel_rfl) (by kernel_rfl) (by kernel_rfl) (fun _ _ _ h => h) (Or.inl ⟨by rfl, ?_⟩) (by assumption) ?_
 rotate_left
 ·
  intro w' hSw; (try dsimp only at hSw); first | (go_simp; done) | (go_simp; with_reducible rfl)
 (try simp only [Act.put, Row.pB0, Row.pB1, Row.pB2])
 refine wpAnyH_ready (rs := [1]) (by kernel_rfl) (by simp) ?_
 refine AllReadyH.cons (o := ⟨some 6, .call ⟨.value (.func 117), #[.tmp 5], #[3]⟩, 4, "l08_thing.go:60", #[⟨0, .data⟩], none⟩) rfl (fun K hK => ?_) AllReadyH.nil
 go_simp
 refine (iSecV false HS.out).mono ?_
 rintro e wn1 ⟨rfl, hb⟩
 replace BB := Lib.hid (BB.out.trans (hb.mono BB.out.size))
 clear hb
 (try go_wp2_with fail)
 clear hHeld
 refine hK.out _ _ ?_ (fun hHeld => ?_)
 ·
  trivial
 clear hK K
 (try simp only [Act.put, Row.pB0, Row.pB1, Row.pB2])
 refine wpAnyH_take (i := 2) (oi := ⟨some 7, .move (.tmp 6), 4, "l08_thing.go:60", #[⟨1, .data⟩, ⟨1, .chain⟩], none⟩) (v := ?_) rfl (by kernel_rfl) (by kernel_rfl) (by kernel_rfl) (fun _ _ _ h => h) (Or.inl ⟨by rfl, ?_⟩) (by assumption) ?_
 rotate_left
 ·
  intro w' hSw; (try dsimp only at hSw); first | (go_simp; done) | (go_simp; with_reducible rfl)
 (try simp only [Act.put, Row.pB0, Row.pB1, Row.pB2])
 refine wpAnyH_take (i := 3) (oi := ⟨some 8, .fieldAddr 34 (.tmp 3) 4, 0, "l08_thing.go:60", #[⟨2, .guard⟩], some (2, true)⟩) (v := undef) rfl (by kernel_rfl) (by kernel_rfl) (by kernel_rfl) (fun _ _ _ h => h) (Or.inr ⟨by rfl, rfl⟩) (by assumption) ?_
 (try simp only [Act.put, Row.pB0, Row.pB1, Row.pB2])
 refine wpAnyH_take (i := 4) (oi := ⟨some 9, .load 3 (.tmp 8), 3, "l08_thing.go:60", #[⟨3, .data⟩, ⟨2, .guard⟩], some (2, true)⟩) (v := undef) rfl (by kernel_rfl) (by kernel_rfl) (by kernel_rfl) (fun _ _ _ h => h) (Or.inr ⟨by rfl, rfl⟩) (by assumption) ?_
 (try simp only [Act.put, Row.pB0, Row.pB1, Row.pB2])
 refine wpAnyH_take (i := 5) (oi := ⟨some 10, .move (.tmp 0), 3, "l08_thing.go:60", #[⟨2, .guard⟩], some (2, true)⟩) (v := undef) rfl (by kernel_rfl) (by kernel_rfl) (by kernel_rfl) (fun _ _ _ h => h) (Or.inr ⟨by rfl, rfl⟩) (by assumption) ?_
 (try simp only [Act.put, Row.pB0, Row.pB1, Row.pB2])
 refine wpAnyH_take (i := 6) (oi := ⟨some 11, .call ⟨.value (.func 118), #[.tmp 3, .tmp 10], #[34, 3]⟩, 3, "l08_thing.go:60", #[⟨5, .data⟩, ⟨2, .chain⟩, ⟨2, .guard⟩], some (2, true)⟩) (v := undef) rfl (by kernel_rfl) (by kernel_rfl) (by kernel_rfl) (fun _ _ _ h => h) (Or.inr ⟨by rfl, rfl⟩) (by assumption) ?_
 (try simp only [Act.put, Row.pB0, Row.pB1, Row.pB2])
 refine wpAnyH_take (i := 7) (oi := ⟨some 12, .binOp BinOp.eql 3 (.tmp 9) (.tmp 11) 3, 4, "l08_thing.go:60", #[⟨4, .data⟩, ⟨6, .data⟩, ⟨2, .guard⟩], some (2, true)⟩) (v := undef) rfl (by kernel_rfl) (by kernel_rfl) (by kernel_rfl) (fun _ _ _ h => h) (Or.inr ⟨by rfl, rfl⟩) (by assumption) ?_
 (try simp only [Act.put, Row.pB0, Row.pB1, Row.pB2])
 refine wpAnyH_take (i := 8) (oi := ⟨some 13, .pick (.tmp 7) (.tmp 12) (.const (Value.bool false)), 4, "l08_thing.go:60", #[⟨2, .data⟩, ⟨7, .data⟩], none⟩) (v := ?_) rfl (by kernel_rfl) (by kernel_rfl) (by kernel_rfl) (fun _ _ _ h => h) (Or.inl ⟨by rfl, ?_⟩) (by assumption) ?_
 rotate_left
 ·
  intro w' hSw; (try dsimp only at hSw); first | (go_simp; done) | (go_simp; with_reducible rfl)
 (try simp only [Act.put, Row.pB0, Row.pB1, Row.pB2])
 refine wpAnyH_take (i := 9) (oi := ⟨some 4, .assign (.tmp 13), 4, "l08_thing.go:60", #[⟨8, .data⟩, ⟨6, .chain⟩, ⟨0, .phase⟩, ⟨1, .phase⟩, ⟨2, .phase⟩, ⟨3, .phase⟩, ⟨4, .phase⟩, ⟨5, .phase⟩, ⟨6, .phase⟩, ⟨7, .phase⟩, ⟨8, .phase⟩], none⟩) (v := ?_) rfl (by kernel_rfl) (by kernel_rfl) (by kernel_rfl) (fun _ _ _ h => h) (Or.inl ⟨by rfl, ?_⟩) (by assumption) ?_
 rotate_left
 ·
  intro w' hSw; (try dsimp only at hSw); first | (go_simp; done) | (go_simp; with_reducible rfl)
 (try simp only [Act.put, Row.pB0, Row.pB1, Row.pB2])
 refine wpAnyH_done (by kernel_rfl) ?_ _
 exact NoPanic.normal (HQ.out _ _ _ _ _ _ _ _ _  _  BB.out)
set_option maxRecDepth 100000 in
set_option maxHeartbeats 4000000 in
theorem verimpl1 {Q : Exit → Act → World → Prop} {v1 v2 v4 v5 v6 v7 v8 v9 v10 v11 v12 v13 : Value} {w : World} {p na ca nb cb nc cc : Nat} {xa xb xc : Option Addr} {f s t : Int} {la lc : List ByteArray} {lb : List Int} {M : Int} {z : Bool} (HS : Hid (Num.inB t 1 2147483646 = true)) (HD : Hid (DHold w (.slice xa na ca) (.slice xb nb cb) (.slice xc nc cc) (la, lb, lc, f, s))) (HBY : Hid (Sl.Byt lb)) (HL : Hid (smD (la, lb, lc, f, s))) (HM : Hid (Seal.mac t (portD (la, lb, lc, f, s)) = M)) (HZ : Hid ((s == M) = z)) (HK : Hid (Ret.Blk w p (dc (.slice xa na ca) (.slice xb nb cb) (.slice xc nc cc) f s) 34)) (K4 : Hid (w.cell? ⟨p, 4, none⟩ = some (.int .i64 s)))
  (hQ : ∀ (u5 u6 u7 u8 u9 u10 u11 u12 u13 : Value)  (wx : World), Below w.heap.size w wx → Q .normal ⟨#[.int .i64 t, v1, v2, .pointer (some ⟨p, 0, none⟩), .bool z, u5, u6, u7, u8, u9, u10, u11, u12, u13], []⟩ wx) :
  (Code.region 1 #[⟨some 5, .move (.tmp 0), 3, "l08_thing.go:60", #[], none⟩,
   ⟨some 6, .call ⟨.value (.func 117), #[.tmp 5], #[3]⟩, 4, "l08_thing.go:60", #[⟨0, .data⟩], none⟩,
   ⟨some 7, .move (.tmp 6), 4, "l08_thing.go:60", #[⟨1, .data⟩, ⟨1, .chain⟩], none⟩,
   ⟨some 8, .fieldAddr 34 (.tmp 3) 4, 0, "l08_thing.go:60", #[⟨2, .guard⟩], some (2, true)⟩,
   ⟨some 9, .load 3 (.tmp 8), 3, "l08_thing.go:60", #[⟨3, .data⟩, ⟨2, .guard⟩], some (2, true)⟩,
   ⟨some 10, .move (.tmp 0), 3, "l08_thing.go:60", #[⟨2, .guard⟩], some (2, true)⟩,
   ⟨some 11, .call ⟨.value (.func 118), #[.tmp 3, .tmp 10], #[34, 3]⟩, 3, "l08_thing.go:60", #[⟨5, .data⟩, ⟨2, .chain⟩, ⟨2, .guard⟩], some (2, true)⟩,
   ⟨some 12, .binOp BinOp.eql 3 (.tmp 9) (.tmp 11) 3, 4, "l08_thing.go:60", #[⟨4, .data⟩, ⟨6, .data⟩, ⟨2, .guard⟩], some (2, true)⟩,
   ⟨some 13, .pick (.tmp 7) (.tmp 12) (.const (Value.bool false)), 4, "l08_thing.go:60", #[⟨2, .data⟩, ⟨7, .data⟩], none⟩,
   ⟨some 4, .assign (.tmp 13), 4, "l08_thing.go:60", #[⟨8, .data⟩, ⟨6, .chain⟩, ⟨0, .phase⟩, ⟨1, .phase⟩, ⟨2, .phase⟩, ⟨3, .phase⟩, ⟨4, .phase⟩, ⟨5, .phase⟩, ⟨6, .phase⟩, ⟨7, .phase⟩, ⟨8, .phase⟩], none⟩] true).wp Tryz.prog Q ⟨#[.int .i64 t, v1, v2, .pointer (some ⟨p, 0, none⟩), v4, v5, v6, v7, v8, v9, v10, v11, v12, v13], []⟩ w := by
 have HQ := Lib.hid hQ; clear hQ
 have hdr : Below w.heap.size w w.drew := (Below.refl _ _).drew
 have tz := HZ.out
 have BB := Lib.hid hdr
 refine wp_region_noPanic ?_
 refine wp_region_held_drew (S := (fun w' => w'.cell? ⟨p, 4, none⟩ = some (.int .i64 s))) (by kernel_rfl) ?_ (fun hHeld => ?_)
 ·
  exact kc K4.out BB.out
 clear hdr
 generalize w.drew = wd at *
 refine wpAnyH_take (i := 0) (oi := ⟨some 5, .move (.tmp 0), 3, "l08_thing.go:60", #[], none⟩) (v := ?_) rfl (by kernel_rfl) (by kernel_rfl) (by kernel_rfl) (fun _ _ _ h => h) (Or.inl ⟨by rfl, ?_⟩) (by assumption) ?_
 rotate_left
 ·
  intro w' hSw; (try dsimp only at hSw); first | (go_simp; done) | (go_simp; with_reducible rfl)
 (try simp only [Act.put, Row.pB0, Row.pB1, Row.pB2])
 refine wpAnyH_ready (rs := [1]) (by kernel_rfl) (by simp) ?_
 refine AllReadyH.cons (o := ⟨some 6, .call ⟨.value (.func 117), #[.tmp 5], #[3]⟩, 4, "l08_thing.go:60", #[⟨0, .data⟩], none⟩) rfl (fun K hK => ?_) AllReadyH.nil
 go_simp
 refine (iSecV true HS.out).mono ?_
 rintro e wn1 ⟨rfl, hb⟩
 replace BB := Lib.hid (BB.out.trans (hb.mono BB.out.size))
 clear hb
 (try go_wp2_with fail)
 clear hHeld
 refine hK.out _ _ ?_ (fun hHeld => ?_)
 ·
  (try dsimp only); exact kc K4.out BB.out
 clear hK K
 (try simp only [Act.put, Row.pB0, Row.pB1, Row.pB2])
 refine wpAnyH_take (i := 2) (oi := ⟨some 7, .move (.tmp 6), 4, "l08_thing.go:60", #[⟨1, .data⟩, ⟨1, .chain⟩], none⟩) (v := ?_) rfl (by kernel_rfl) (by kernel_rfl) (by kernel_rfl) (fun _ _ _ h => h) (Or.inl ⟨by rfl, ?_⟩) (by assumption) ?_
 rotate_left
 ·
  intro w' hSw; (try dsimp only at hSw); first | (go_simp; done) | (go_simp; with_reducible rfl)
 (try simp only [Act.put, Row.pB0, Row.pB1, Row.pB2])
 refine wpAnyH_take (i := 3) (oi := ⟨some 8, .fieldAddr 34 (.tmp 3) 4, 0, "l08_thing.go:60", #[⟨2, .guard⟩], some (2, true)⟩) (v := ?_) rfl (by kernel_rfl) (by kernel_rfl) (by kernel_rfl) (fun _ _ _ h => h) (Or.inl ⟨by rfl, ?_⟩) (by assumption) ?_
 rotate_left
 ·
  intro w' hSw; (try dsimp only at hSw); first | (go_simp; done) | (go_simp; with_reducible rfl)
 (try simp only [Act.put, Row.pB0, Row.pB1, Row.pB2])
 refine wpAnyH_take (i := 4) (oi := ⟨some 9, .load 3 (.tmp 8), 3, "l08_thing.go:60", #[⟨3, .data⟩, ⟨2, .guard⟩], some (2, true)⟩) (v := ?_) rfl (by kernel_rfl) (by kernel_rfl) (by kernel_rfl) (fun _ _ _ h => h) (Or.inl ⟨by rfl, ?_⟩) (by assumption) ?_
 rotate_left
 ·
  intro w' hSw; (try dsimp only at hSw); first | (go_simp; done) | (go_simp; with_reducible rfl)
 (try simp only [Act.put, Row.pB0, Row.pB1, Row.pB2])
 refine wpAnyH_take (i := 5) (oi := ⟨some 10, .move (.tmp 0), 3, "l08_thing.go:60", #[⟨2, .guard⟩], some (2, true)⟩) (v := ?_) rfl (by kernel_rfl) (by kernel_rfl) (by kernel_rfl) (fun _ _ _ h => h) (Or.inl ⟨by rfl, ?_⟩) (by assumption) ?_
 rotate_left
 ·
  intro w' hSw; (try dsimp only at hSw); first | (go_simp; done) | (go_simp; with_reducible rfl)
 (try simp only [Act.put, Row.pB0, Row.pB1, Row.pB2])
 refine wpAnyH_ready (rs := [6]) (by kernel_rfl) (by simp) ?_
 refine AllReadyH.cons (o := ⟨some 11, .call ⟨.value (.func 118), #[.tmp 3, .tmp 10], #[34, 3]⟩, 3, "l08_thing.go:60", #[⟨5, .data⟩, ⟨2, .chain⟩, ⟨2, .guard⟩], some (2, true)⟩) rfl (fun K hK => ?_) AllReadyH.nil
 go_simp
 refine (iMacV (x := (la, lb, lc, f, s)) M HM.out (HK.out.on BB.out) (HD.out.on BB.out) HBY.out HL.out).mono ?_
 rintro e wn2 ⟨rfl, hb⟩
 replace BB := Lib.hid (BB.out.trans (hb.mono BB.out.size))
 clear hb
 (try go_wp2_with fail)
 clear hHeld
 refine hK.out _ _ ?_ (fun hHeld => ?_)
 ·
  (try dsimp only); exact kc K4.out BB.out
 clear hK K
 (try simp only [Act.put, Row.pB0, Row.pB1, Row.pB2])
 refine wpAnyH_take (i := 7) (oi := ⟨some 12, .binOp BinOp.eql 3 (.tmp 9) (.tmp 11) 3, 4, "l08_thing.go:60", #[⟨4, .data⟩, ⟨6, .data⟩, ⟨2, .guard⟩], some (2, true)⟩) (v := ?_) rfl (by kernel_rfl) (by kernel_rfl) (by kernel_rfl) (fun _ _ _ h => h) (Or.inl ⟨by rfl, ?_⟩) (by assumption) ?_
 rotate_left
 ·
  intro w' hSw; (try dsimp only at hSw); first | (go_simp; done) | (go_simp; with_reducible rfl)
 (try simp only [Act.put, Row.pB0, Row.pB1, Row.pB2])
 refine wpAnyH_take (i := 8) (oi := ⟨some 13, .pick (.tmp 7) (.tmp 12) (.const (Value.bool false)), 4, "l08_thing.go:60", #[⟨2, .data⟩, ⟨7, .data⟩], none⟩) (v := ?_) rfl (by kernel_rfl) (by kernel_rfl) (by kernel_rfl) (fun _ _ _ h => h) (Or.inl ⟨by rfl, ?_⟩) (by assumption) ?_
 rotate_left
 ·
  intro w' hSw; (try dsimp only at hSw); first | (go_simp; done) | (go_simp; with_reducible rfl)
 (try simp only [Act.put, Row.pB0, Row.pB1, Row.pB2])
 refine wpAnyH_take (i := 9) (oi := ⟨some 4, .assign (.tmp 13), 4, "l08_thing.go:60", #[⟨8, .data⟩, ⟨6, .chain⟩, ⟨0, .phase⟩, ⟨1, .phase⟩, ⟨2, .phase⟩, ⟨3, .phase⟩, ⟨4, .phase⟩, ⟨5, .phase⟩, ⟨6, .phase⟩, ⟨7, .phase⟩, ⟨8, .phase⟩], none⟩) (v := ?_) rfl (by kernel_rfl) (by kernel_rfl) (by kernel_rfl) (fun _ _ _ h => h) (Or.inl ⟨by rfl, ?_⟩) (by assumption) ?_
 rotate_left
 ·
  intro w' hSw; (try dsimp only at hSw); first | (go_simp; done) | (go_simp; with_reducible rfl)
 (try simp only [Act.put, Row.pB0, Row.pB1, Row.pB2])
 refine wpAnyH_done (by kernel_rfl) ?_ _
 exact NoPanic.normal (HQ.out _ _ _ _ _ _ _ _ _  _  BB.out)
set_option maxHeartbeats 4000000 in
theorem specVerifyData (a b c : Value) (x : Dt) (t : Int) (w : World) (h : DHold w a b c x) (hB : Sl.Byt x.2.1) (hl : smD x) :
    Calls Tryz.prog 85 #[.int .i64 t, .agg (dc a b c x.2.2.2.1 x.2.2.2.2)] w fun e w' => e = .returned (.bool (verD t x)) ∧ Below w.heap.size w w' := by
  obtain ⟨l, m, k, f, s⟩ := x
  simp only at hB ⊢
  obtain ⟨xa, na, ca, xb, nb, cb, xc, nc, cc, rfl, rfl, rfl⟩ := h.shape
  obtain ⟨M, hM⟩ : ∃ M, Seal.mac t (portD (l, m, k, f, s)) = M := ⟨_, rfl⟩
  obtain ⟨q, hq⟩ : ∃ q, verD t (l, m, k, f, s) = q := ⟨_, rfl⟩
  rw [hq]
  have HQ := Lib.hid hq
  have HM := Lib.hid hM; have HY := Lib.hid hB; have HLB := Lib.hid hl
  have HB := Lib.hid ((Below.refl w.heap.size w).alloc (Nat.le_refl _) (.cells (dc (.slice xa na ca) (.slice xb nb cb) (.slice xc nc cc) f s) 34))
  have H0 := Lib.hid (h.on HB.out)
  have HX := Lib.hid (Ret.Blk.new w (dc (.slice xa na ca) (.slice xb nb cb) (.slice xc nc cc) f s) 34)
  clear h hB hl hM hq
  go_enter Tryz.func85, Tryz.ntmps85
  go_wp2_with fail
  cases hs : Num.inB t 1 2147483646 with
  | false =>
    have HE : Hid (q = false) := Lib.hid (by rw [← HQ.out]; unfold verD; rw [hs]; rfl)
    refine verspec0 (Lib.hid hs) ?_
    intro u5 u6 u7 u8 u9 u10 u11 u12 u13 u14 u15 wx hb
    have HB2 := Lib.hid (HB.out.trans (hb.mono HB.out.size))
    clear hb hs
    go_wp2_with fail
    go_ret
    exact ⟨ret_bool HE.out.symm, HB2.out⟩
  | true =>
    obtain ⟨z, hz⟩ : ∃ z, (s == M) = z := ⟨_, rfl⟩
    have HE : Hid (q = z) := Lib.hid (by rw [← HQ.out]; unfold verD; rw [hs, HM.out, ← hz]; rfl)
    refine verspec1 (Lib.hid hs) H0 HY HLB HM (Lib.hid hz) (Lib.hid (HX.out.cell 0)) (Lib.hid (HX.out.cell 1)) (Lib.hid (HX.out.cell 2)) (Lib.hid (HX.out.cell 3)) (Lib.hid (HX.out.cell 4)) ?_
    intro u5 u6 u7 u8 u9 u10 u11 u12 u13 u14 u15 wx hb
    have HB2 := Lib.hid (HB.out.trans (hb.mono HB.out.size))
    clear hb hs hz
    go_wp2_with fail
    go_ret
    exact ⟨ret_bool HE.out.symm, HB2.out⟩
set_option maxHeartbeats 4000000 in
theorem implVerifyData (a b c : Value) (x : Dt) (t : Int) (w : World) (h : DHold w a b c x) (hB : Sl.Byt x.2.1) (hl : smD x) :
    Calls Tryz.prog 75 #[.int .i64 t, .agg (dc a b c x.2.2.2.1 x.2.2.2.2)] w fun e w' => e = .returned (.bool (verD t x)) ∧ Below w.heap.size w w' := by
  obtain ⟨l, m, k, f, s⟩ := x
  simp only at hB ⊢
  obtain ⟨xa, na, ca, xb, nb, cb, xc, nc, cc, rfl, rfl, rfl⟩ := h.shape
  obtain ⟨M, hM⟩ : ∃ M, Seal.mac t (portD (l, m, k, f, s)) = M := ⟨_, rfl⟩
  obtain ⟨q, hq⟩ : ∃ q, verD t (l, m, k, f, s) = q := ⟨_, rfl⟩
  rw [hq]
  have HQ := Lib.hid hq
  have HM := Lib.hid hM; have HY := Lib.hid hB; have HLB := Lib.hid hl
  have HB := Lib.hid ((Below.refl w.heap.size w).alloc (Nat.le_refl _) (.cells (dc (.slice xa na ca) (.slice xb nb cb) (.slice xc nc cc) f s) 34))
  have H0 := Lib.hid (h.on HB.out)
  have HX := Lib.hid (Ret.Blk.new w (dc (.slice xa na ca) (.slice xb nb cb) (.slice xc nc cc) f s) 34)
  clear h hB hl hM hq
  go_enter Tryz.func75, Tryz.ntmps75
  go_wp2_with fail
  cases hs : Num.inB t 1 2147483646 with
  | false =>
    have HE : Hid (q = false) := Lib.hid (by rw [← HQ.out]; unfold verD; rw [hs]; rfl)
    refine verimpl0 (Lib.hid hs) ?_
    intro u5 u6 u7 u8 u9 u10 u11 u12 u13 wx hb
    have HB2 := Lib.hid (HB.out.trans (hb.mono HB.out.size))
    clear hb hs
    go_wp2_with fail
    go_ret
    exact ⟨ret_bool HE.out.symm, HB2.out⟩
  | true =>
    obtain ⟨z, hz⟩ : ∃ z, (s == M) = z := ⟨_, rfl⟩
    have HE : Hid (q = z) := Lib.hid (by rw [← HQ.out]; unfold verD; rw [hs, HM.out, ← hz]; rfl)
    refine verimpl1 (Lib.hid hs) H0 HY HLB HM (Lib.hid hz) HX (Lib.hid (HX.out.cell 4)) ?_
    intro u5 u6 u7 u8 u9 u10 u11 u12 u13 wx hb
    have HB2 := Lib.hid (HB.out.trans (hb.mono HB.out.size))
    clear hb hs hz
    go_wp2_with fail
    go_ret
    exact ⟨ret_bool HE.out.symm, HB2.out⟩
end Go.Proofs.YtlhchmjnaanjpaaGreatDoor.Row
