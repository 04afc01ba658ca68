/- Contracts and mathematics, joined: SealC, PortF, Sign, DrawT0, DrawR0, DrawSeal, Ring. No conditions but those that each states. -/
import Derived.Test.YtcidfmmeonhkhaaGreatDoorB11
import Derived.Deep.RegionHeld3
import Derived.Test.YtcidfmmeonhkhaaGreatDoorB9
import Derived.Test.YtcidfmmeonhkhaaGreatDoorB13
import Derived.Test.YtcidfmmeonhkhaaGreatDoorB4
import Derived.Test.YtcidfmmeonhkhaaGreatDoorB5
import Derived.Test.YtcidfmmeonhkhaaGreatDoorB1
import Derived.Test.YtcidfmmeonhkhaaGreatDoorB2
/- Contracts of chapter 3's Encrypt, Decrypt and DeriveSecret, the reference model's, and the program's DeriveSecret. No conditions but that lengths fit and that the elements are bytes. -/
namespace Go.Proofs.YtcidfmmeonhkhaaGreatDoor.Sl
open Go.ChangeShapes Go.WideShapes Go.ChangeAt Go.RowKit Go.Instr
open Seal (digest mac b2i derive dstep chg encF decF enc dec)
set_option linter.unusedVariables false
set_option maxRecDepth 100000

end Go.Proofs.YtcidfmmeonhkhaaGreatDoor.Sl
/- SignedPortion of the model and of the program; the program's mac, clone and sign. No conditions but that lengths fit. -/
namespace Go.Proofs.YtcidfmmeonhkhaaGreatDoor.Row
open Go.ChangeShapes Go.WideShapes Go.ChangeAt Go.RowKit Go.Instr
set_option linter.unusedVariables false
set_option maxRecDepth 100000

set_option maxHeartbeats 4000000 in
theorem specSignedPortion (a b c : Value) (x : Dt) (w : World) (h : DHold w a b c x) (hB : Sl.Byt x.2.1) (hl : smD x) :
    Calls Tryz.prog 178 #[.agg (dc a b c x.2.2.2.1 x.2.2.2.2)] w (Sl.GivesI w (portD x)) := by
  obtain ⟨l, m, k, f, s⟩ := x
  simp only at hB ⊢
  have hl1 : bulk l ≤ 1200000 := hl.1
  have hl2 : m.length ≤ 1200000 := hl.2.1
  have hl3 : bulk k ≤ 1200000 := hl.2.2
  obtain ⟨xa, na, ca, xb, nb, cb, xc, nc, cc, rfl, rfl, rfl⟩ := h.shape
  have HY := Lib.hid hB; have HL1 := Lib.hid hl1; have HL2 := Lib.hid hl2; have HL3 := Lib.hid hl3
  have HB := Lib.hid ((Below.refl w.heap.size w).alloc (Nat.le_refl _) (.cells (dc (.slice xa na ca) (.slice xb nb cb) (.slice xc nc cc) f s) 34))
  have H0 := Lib.hid (h.on HB.out)
  have HX := Lib.hid (Ret.Blk.new w (dc (.slice xa na ca) (.slice xb nb cb) (.slice xc nc cc) f s) 34)
  have HLT := Lib.hid (show (Seal.b2i (appName [] l) ++ Seal.b2i m).length ≤ 12000000 by
    have h1 := pname_len [] l
    simp only [List.length_nil] at h1
    simp only [List.length_append, Seal.b2i_length]; omega)
  clear h hB hl hl1 hl2 hl3
  go_enter Tryz.func178, Tryz.ntmps178
  go_wp2_with fail
  refine portS1 (Lib.hid H0.out.1) (Lib.hid H0.out.2.1) HY HL1 HL2 (Lib.hid (HX.out.cell 0)) (Lib.hid (HX.out.cell 1)) (Lib.hid (HX.out.cell 2)) (Lib.hid (HX.out.cell 3)) (Lib.hid (HX.out.cell 4)) ?_
  intro u4 u5 u6 u7 u8 u9 u10 u11 u12 v12 wx ho hb
  have HO := Lib.hid ho
  have HB2 := Lib.hid (HB.out.trans (hb.mono HB.out.size))
  have HX2 := Lib.hid (HX.out.on hb)
  have H2 := Lib.hid (H0.out.on hb)
  have HW := Lib.hid hb.size
  have HP := Lib.hid (show w.heap.size < (w.alloc (.cells (dc (.slice xa na ca) (.slice xb nb cb) (.slice xc nc cc) f s) 34)).heap.size by simp)
  clear ho hb
  go_wp2_with fail
  refine portS2 (Lib.hid H2.out.2.2) HL3 HLT HO HW HP (Lib.hid (HX2.out.cell 0)) (Lib.hid (HX2.out.cell 1)) (Lib.hid (HX2.out.cell 2)) (Lib.hid (HX2.out.cell 3)) (Lib.hid (HX2.out.cell 4)) ?_
  intro u13 u14 u15 u16 u17 u18 u19 u20 u21 u22 u23 v23 w2 ho hb
  have HO2 := Lib.hid ho
  have HB3 := Lib.hid ((HB.out.trans ((Below.refl _ _).mono (Nat.le_refl _))))
  have HBX := Lib.hid hb
  clear ho hb
  go_wp2_with fail
  go_ret
  exact ⟨_, rfl, HO2.out.mono HB.out.size, HB2.out.trans (HBX.out.mono HB.out.size)⟩

set_option maxHeartbeats 4000000 in
theorem implPortion (g : Nat) (a b c : Value) (x : Dt) (w : World) (hx : Ret.Blk w g (dc a b c x.2.2.2.1 x.2.2.2.2) 34) (h : DHold w a b c x) (hB : Sl.Byt x.2.1) (hl : smD x) :
    Calls Tryz.prog 200 #[.pointer (some ⟨g, 0, none⟩)] w (Sl.GivesI w (portD x)) := by
  obtain ⟨l, m, k, f, s⟩ := x
  simp only at hB hx ⊢
  have hl1 : bulk l ≤ 1200000 := hl.1
  have hl2 : m.length ≤ 1200000 := hl.2.1
  have hl3 : bulk k ≤ 1200000 := hl.2.2
  obtain ⟨xa, na, ca, xb, nb, cb, xc, nc, cc, rfl, rfl, rfl⟩ := h.shape
  have HY := Lib.hid hB; have HL1 := Lib.hid hl1; have HL2 := Lib.hid hl2; have HL3 := Lib.hid hl3
  have H0 := Lib.hid h
  have HX := Lib.hid hx
  have HLT := Lib.hid (show (Seal.b2i (appName [] l) ++ Seal.b2i m ++ Seal.b2i (appName [] k) ++ [f]).length ≤ 10000000 from Nat.le_trans (portD_small (l, m, k, f, s)) (by show 1000 + m.length ≤ _; omega))
  clear h hx hB hl hl1 hl2 hl3
  go_enter Tryz.func200, Tryz.ntmps200
  go_wp2_with fail
  refine portI (Lib.hid H0.out.1) (Lib.hid H0.out.2.1) HY HL1 HL2 (Lib.hid H0.out.2.2) HL3 HLT (Lib.hid (HX.out.cell 0)) (Lib.hid (HX.out.cell 1)) (Lib.hid (HX.out.cell 2)) (Lib.hid (HX.out.cell 3)) (Lib.hid (HX.out.cell 4)) ?_
  intro u3 u4 u5 u6 u7 u8 u9 u10 u11 u12 u13 u14 u15 u16 u17 u18 u19 u20 u21 u22 u23 u24 u25 u26 v26 w2 ho hb
  have HO2 := Lib.hid ho
  have HB2 := Lib.hid hb
  clear ho hb
  go_wp2_with fail
  go_ret
  exact ⟨_, rfl, HO2.out, HB2.out⟩

set_option maxHeartbeats 4000000 in
theorem implMac (g : Nat) (a b c : Value) (x : Dt) (w : World) (hx : Ret.Blk w g (dc a b c x.2.2.2.1 x.2.2.2.2) 34) (h : DHold w a b c x) (hB : Sl.Byt x.2.1) (hl : smD x) (t : Int) :
    Calls Tryz.prog 156 #[.pointer (some ⟨g, 0, none⟩), .int .i64 t] w (Sl.GivesN w (Seal.mac t (portD x))) := by
  have HC := Lib.hid (implPortion g a b c x w hx h hB hl)
  have HLN := Lib.hid (show (portD x).length ≤ 9000000 from Nat.le_trans (portD_small x) (by have := hl.2.1; omega))
  clear h hB hx hl
  go_enter Tryz.func156, Tryz.ntmps156
  go_wp2_with fail
  refine HC.out.mono ?_
  rintro e w1 ⟨v1, rfl, ho, hb⟩
  have HO := Lib.hid ho.holds; have HB2 := Lib.hid hb
  clear ho hb
  go_wp2_with fail
  refine (Sl.implComputeMAC t _ (portD x) _ HO.out HLN.out).mono ?_
  rintro e w2 ⟨rfl, hb⟩
  have HB3 := Lib.hid (HB2.out.trans (hb.mono HB2.out.size)); clear hb
  go_wp2_with fail
  go_ret
  exact ⟨rfl, HB3.out⟩

end Go.Proofs.YtcidfmmeonhkhaaGreatDoor.Row
/- SignData and VerifyData, model and program. No conditions but that lengths fit. -/
namespace Go.Proofs.YtcidfmmeonhkhaaGreatDoor.Row
open Go.ChangeShapes Go.WideShapes Go.ChangeAt Go.RowKit Go.Instr
set_option linter.unusedVariables false
set_option maxRecDepth 100000

/-- x, signed with t. -/
def sgD (t : Int) (x : Dt) : Dt := (x.1, x.2.1, x.2.2.1, x.2.2.2.1, Seal.mac t (portD x))
def verD (t : Int) (x : Dt) : Bool := Num.inB t 1 2147483646 && (x.2.2.2.2 == Seal.mac t (portD x))
theorem iSecV {t : Int} (z : Bool) (hz : Num.inB t 1 2147483646 = z) {w : World} : Calls Tryz.prog 155 #[.int .i64 t] w fun e w' => e = .returned (.bool z) ∧ Below w.heap.size w w' := (Sl.implValidSecret t w).mono fun e w' ⟨p, q⟩ => ⟨by rw [p, hz], by subst q; exact Below.refl _ _⟩
theorem sMacV {t : Int} (M : Int) {l : List Int} (hM : Seal.mac t l = M) {v : Value} {w : World} (h : Sl.Holds .i64 w v l) (hl : l.length ≤ 9000000) : Calls Tryz.prog 177 #[.int .i64 t, v] w fun e w' => e = .returned (.int .i64 M) ∧ Below w.heap.size w w' := (Sl.specComputeMAC t v l w h (by omega)).mono fun e w' ⟨p, q⟩ => ⟨by rw [p, hM], q⟩
theorem iMacV {t : Int} (M : Int) {x : Dt} (hM : Seal.mac t (portD x) = M) {g : Nat} {a b c : Value} {w : World} (hx : Ret.Blk w g (dc a b c x.2.2.2.1 x.2.2.2.2) 34) (h : DHold w a b c x) (hB : Sl.Byt x.2.1) (hl : smD x) : Calls Tryz.prog 156 #[.pointer (some ⟨g, 0, none⟩), .int .i64 t] w fun e w' => e = .returned (.int .i64 M) ∧ Below w.heap.size w w' := (implMac g a b c x w hx h hB hl t).mono fun e w' ⟨p, q⟩ => ⟨by rw [p, hM], q⟩
theorem own_row {α : Type} [Inhabited α] {enc : α → Value} {e : TypeId} {B g : Nat} {w w' : World} {v : Value} {l : List α} (h : Own e enc B w v l) (hg : w.grownBy w' (some g)) (hn : w.heap.size ≤ g ∨ ∀ q, v.ownBlock = some q → q ≠ g) : Own e enc B w' v l := by
  refine h.grown hg ?_
  cases hv : v.ownBlock with
  | none => exact Or.inl rfl
  | some q =>
    refine Or.inr fun e => ?_
    have h1 := (h.lt q hv).2
    have h2 : q = g := Option.some.inj e
    rcases hn with hn | hn
    · omega
    · exact hn q hv h2

theorem sl_own_row {k : IntKind} {e : TypeId} {B g : Nat} {w w' : World} {v : Value} {l : List Int} (h : Sl.Own e k B w v l) (hg : w.grownBy w' (some g)) (hn : w.heap.size ≤ g ∨ ∀ q, v.ownBlock = some q → q ≠ g) : Sl.Own e k B w' v l := own_row (enc := Value.int k) h hg hn

set_option maxHeartbeats 4000000 in
theorem specSignData (a b c : Value) (x : Dt) (t : Int) (w : World) (h : DHold w a b c x) (hB : Sl.Byt x.2.1) (hl : smD x) :
    Calls Tryz.prog 132 #[.int .i64 t, .agg (dc a b c x.2.2.2.1 x.2.2.2.2)] w (GivesD w (sgD t x)) := by
  obtain ⟨l, m, k, f, s⟩ := x
  unfold GivesD
  simp only [sgD] at hB ⊢
  have hl1 : bulk l ≤ 1200000 := hl.1
  have hl2 : m.length ≤ 1200000 := hl.2.1
  have hl3 : bulk k ≤ 1200000 := hl.2.2
  have hq1 : l.length ≤ 9000000 := by have := bulk_len l; omega
  have hq3 : k.length ≤ 9000000 := by have := bulk_len k; omega
  obtain ⟨xa, na, ca, xb, nb, cb, xc, nc, cc, rfl, rfl, rfl⟩ := h.shape
  obtain ⟨M, hM⟩ : ∃ M, Seal.mac t (portD (l, m, k, f, s)) = M := ⟨_, rfl⟩
  rw [hM]
  have HM := Lib.hid hM; have HY := Lib.hid hB; have HLB := Lib.hid hl
  have hb0 := (Below.refl w.heap.size w).alloc (Nat.le_refl _) (.cells (dc (.slice xa na ca) (.slice xb nb cb) (.slice xc nc cc) f s) 34)
  have HB := Lib.hid (hb0.alloc (by simp) (.cells (dc nil nil nil 0 0) 34))
  have H0 := Lib.hid (h.on HB.out)
  have HX := Lib.hid ((Ret.Blk.new w (dc (.slice xa na ca) (.slice xb nb cb) (.slice xc nc cc) f s) 34).on ((Below.refl _ _).alloc (Nat.le_refl _) (.cells (dc nil nil nil 0 0) 34)))
  have HR := Lib.hid (Ret.Blk.new' (w := w.alloc (.cells (dc (.slice xa na ca) (.slice xb nb cb) (.slice xc nc cc) f s) 34)) (n := w.heap.size + 1) (dc nil nil nil 0 0) 34 (by simp))
  have hz0 : ((w.alloc (.cells (dc (.slice xa na ca) (.slice xb nb cb) (.slice xc nc cc) f s) 34)).alloc (.cells (dc nil nil nil 0 0) 34)).heap.size = w.heap.size + 2 := by simp
  clear h hB hl hl1 hl3 hM hb0
  go_enter Tryz.func132, Tryz.ntmps132
  go_wp2_with fail
  refine (l8Copy _ _ _ (l, m, k, f, s) _ H0.out (by simp only; omega) (by simp only; omega) (by simp only; omega)).mono ?_
  rintro e w1 ⟨a1, b1, c1, rfl, hd1, hb1⟩
  obtain ⟨oa, ob, oc, pab, pac, pbc⟩ := hd1
  obtain ⟨ya, ma, da, rfl, -, -, oa⟩ := oa.shapeN
  obtain ⟨yb, mb, db, rfl, -, -, ob⟩ := Own.shapeN (enc := Value.int .u8) ob
  replace ob : Sl.Own 5 .u8 _ w1 (.slice yb mb db) m := ob
  obtain ⟨yc, mc, dc_, rfl, -, -, oc⟩ := oc.shapeN
  have hs1 := hb1.size
  rw [hz0] at hs1 oa ob oc
  have hal := (Below.refl w1.heap.size w1).alloc (Nat.le_refl _) (.cells (dc (.slice ya ma da) (.slice yb mb db) (.slice yc mc dc_) f s) 34)
  replace HB := Lib.hid ((HB.out.trans (hb1.mono HB.out.size)).trans (hal.mono (by omega)))
  have HB1 := Lib.hid (hb1.trans (hal.mono (by simp; omega)))
  replace HX := Lib.hid ((HX.out.on hb1).on hal); replace HR := Lib.hid ((HR.out.on hb1).on hal)
  have HL := Lib.hid (Ret.Blk.new w1 (dc (.slice ya ma da) (.slice yb mb db) (.slice yc mc dc_) f s) 34)
  have OA := Lib.hid (oa.on hal); have OB := Lib.hid (ob.on hal); have OC := Lib.hid (oc.on hal)
  have AP := Lib.hid (show Apart (.slice ya ma da) (.slice yb mb db) ∧ Apart (.slice ya ma da) (.slice yc mc dc_) ∧ Apart (.slice yb mb db) (.slice yc mc dc_) from ⟨pab, pac, pbc⟩)
  have hla : ∀ q, (.slice ya ma da : Value).ownBlock = some q → q < w1.heap.size := fun q e => (oa.lt q e).2
  have hlb : ∀ q, (.slice yb mb db : Value).ownBlock = some q → q < w1.heap.size := fun q e => (Sl.Own.lt ob q e).2
  have hlc : ∀ q, (.slice yc mc dc_ : Value).ownBlock = some q → q < w1.heap.size := fun q e => (oc.lt q e).2
  have HLA := Lib.hid hla; have HLBB := Lib.hid hlb; have HLC := Lib.hid hlc
  have hsz : (w1.alloc (.cells (dc (.slice ya ma da) (.slice yb mb db) (.slice yc mc dc_) f s) 34)).heap.size = w1.heap.size + 1 := by simp
  clear oa ob oc pab pac pbc hb1 hal hz0 hla hlb hlc
  have H1 := Lib.hid (H0.out.on HB1.out)
  have q0 : (w1.alloc (.cells (dc (.slice ya ma da) (.slice yb mb db) (.slice yc mc dc_) f s) 34)).cell? ⟨w.heap.size, 0, none⟩ = some (.slice xa na ca) := HX.out.cell 0
  have q1 : (w1.alloc (.cells (dc (.slice ya ma da) (.slice yb mb db) (.slice yc mc dc_) f s) 34)).cell? ⟨w.heap.size, 1, none⟩ = some (.slice xb nb cb) := HX.out.cell 1
  have q2 : (w1.alloc (.cells (dc (.slice ya ma da) (.slice yb mb db) (.slice yc mc dc_) f s) 34)).cell? ⟨w.heap.size, 2, none⟩ = some (.slice xc nc cc) := HX.out.cell 2
  have q3 : (w1.alloc (.cells (dc (.slice ya ma da) (.slice yb mb db) (.slice yc mc dc_) f s) 34)).cell? ⟨w.heap.size, 3, none⟩ = some (.int .i64 f) := HX.out.cell 3
  have q4 : (w1.alloc (.cells (dc (.slice ya ma da) (.slice yb mb db) (.slice yc mc dc_) f s) 34)).cell? ⟨w.heap.size, 4, none⟩ = some (.int .i64 s) := HX.out.cell 4
  go_wp2_with fail
  clear q0 q1 q2 q3 q4
  refine (specSignedPortion _ _ _ (l, m, k, f, s) _ H1.out HY.out HLB.out).mono ?_
  rintro e w2 ⟨v2, rfl, ho, hb⟩
  have HO := Lib.hid ho.holds
  have hs2 := hb.size
  rw [hsz] at hs2
  replace HX := Lib.hid (HX.out.on hb); replace HR := Lib.hid (HR.out.on hb); replace HL := Lib.hid (HL.out.on hb)
  replace OA := Lib.hid (OA.out.on hb); replace OB := Lib.hid (OB.out.on hb); replace OC := Lib.hid (OC.out.on hb)
  replace HB := Lib.hid (HB.out.trans (hb.mono HB.out.size))
  have HLN := Lib.hid (show (portD (l, m, k, f, s)).length ≤ 9000000 from Nat.le_trans (portD_small _) (by have := HLB.out.2.1; first | omega | (show 1000 + m.length ≤ _; simp only at this; omega)))
  clear ho hb
  go_wp2_with fail
  refine (sMacV M HM.out HO.out HLN.out).mono ?_
  rintro e w3 ⟨rfl, hb⟩
  have hs3 := hb.size
  replace HX := Lib.hid (HX.out.on hb); replace HR := Lib.hid (HR.out.on hb); replace HL := Lib.hid (HL.out.on hb)
  replace OA := Lib.hid (OA.out.on hb); replace OB := Lib.hid (OB.out.on hb); replace OC := Lib.hid (OC.out.on hb)
  replace HB := Lib.hid (HB.out.trans (hb.mono HB.out.size))
  clear hb
  have p0 : w3.cell? ⟨w1.heap.size, 0, none⟩ = some (.slice ya ma da) := HL.out.cell 0
  have p1 : w3.cell? ⟨w1.heap.size, 1, none⟩ = some (.slice yb mb db) := HL.out.cell 1
  have p2 : w3.cell? ⟨w1.heap.size, 2, none⟩ = some (.slice yc mc dc_) := HL.out.cell 2
  have p3 : w3.cell? ⟨w1.heap.size, 3, none⟩ = some (.int .i64 f) := HL.out.cell 3
  have p4 : w3.cell? ⟨w1.heap.size, 4, none⟩ = some (.int .i64 s) := HL.out.cell 4
  have t0 := HL.out.frozen 0; have t1 := HL.out.frozen 1; have t2 := HL.out.frozen 2; have t3 := HL.out.frozen 3; have t4 := HL.out.frozen 4
  have r0 : w3.cell? ⟨w.heap.size + 1, 0, none⟩ = some (.slice none 0 0) := HR.out.cell 0
  have r1 : w3.cell? ⟨w.heap.size + 1, 1, none⟩ = some (.slice none 0 0) := HR.out.cell 1
  have r2 : w3.cell? ⟨w.heap.size + 1, 2, none⟩ = some (.slice none 0 0) := HR.out.cell 2
  have r3 : w3.cell? ⟨w.heap.size + 1, 3, none⟩ = some (.int .i64 0) := HR.out.cell 3
  have r4 : w3.cell? ⟨w.heap.size + 1, 4, none⟩ = some (.int .i64 0) := HR.out.cell 4
  have z0 := HR.out.frozen 0; have z1 := HR.out.frozen 1; have z2 := HR.out.frozen 2; have z3 := HR.out.frozen 3; have z4 := HR.out.frozen 4
  have Z1 := Lib.hid ((((((HR.out.other (a := ⟨w1.heap.size, 4, none⟩) (by show w1.heap.size ≠ w.heap.size + 1; omega) (.int .i64 M)).set 0 (.slice ya ma da)).set 1 (.slice yb mb db)).set 2 (.slice yc mc dc_)).set 3 (.int .i64 f)).set 4 (.int .i64 M))
  have Z2 := Lib.hid (own_set (g := w.heap.size + 1) (i := 4) (u := .int .i64 M) (own_set (g := w.heap.size + 1) (i := 3) (u := .int .i64 f) (own_set (g := w.heap.size + 1) (i := 2) (u := .slice yc mc dc_) (own_set (g := w.heap.size + 1) (i := 1) (u := .slice yb mb db) (own_set (g := w.heap.size + 1) (i := 0) (u := .slice ya ma da) (own_row OA.out (Ret.grownBy_set _ ⟨w1.heap.size, 4, none⟩ (.int .i64 M)) (Or.inr fun q e e6 => by have h5 := HLA.out q e; have e7 : q = w1.heap.size := e6; omega)) (by omega)) (by omega)) (by omega)) (by omega)) (by omega))
  have Z3 := Lib.hid (sl_own_set (g := w.heap.size + 1) (i := 4) (u := .int .i64 M) (sl_own_set (g := w.heap.size + 1) (i := 3) (u := .int .i64 f) (sl_own_set (g := w.heap.size + 1) (i := 2) (u := .slice yc mc dc_) (sl_own_set (g := w.heap.size + 1) (i := 1) (u := .slice yb mb db) (sl_own_set (g := w.heap.size + 1) (i := 0) (u := .slice ya ma da) (sl_own_row OB.out (Ret.grownBy_set _ ⟨w1.heap.size, 4, none⟩ (.int .i64 M)) (Or.inr fun q e e6 => by have h5 := HLBB.out q e; have e7 : q = w1.heap.size := e6; omega)) (by omega)) (by omega)) (by omega)) (by omega)) (by omega))
  have Z4 := Lib.hid (own_set (g := w.heap.size + 1) (i := 4) (u := .int .i64 M) (own_set (g := w.heap.size + 1) (i := 3) (u := .int .i64 f) (own_set (g := w.heap.size + 1) (i := 2) (u := .slice yc mc dc_) (own_set (g := w.heap.size + 1) (i := 1) (u := .slice yb mb db) (own_set (g := w.heap.size + 1) (i := 0) (u := .slice ya ma da) (own_row OC.out (Ret.grownBy_set _ ⟨w1.heap.size, 4, none⟩ (.int .i64 M)) (Or.inr fun q e e6 => by have h5 := HLC.out q e; have e7 : q = w1.heap.size := e6; omega)) (by omega)) (by omega)) (by omega)) (by omega)) (by omega))
  have Z5 := Lib.hid ((((((HB.out.setCell (p := ⟨w1.heap.size, 4, none⟩) (by show w.heap.size ≤ w1.heap.size; omega) (.int .i64 M)).setCell (p := ⟨w.heap.size + 1, 0, none⟩) (by show w.heap.size ≤ w.heap.size + 1; omega) (.slice ya ma da)).setCell (p := ⟨w.heap.size + 1, 1, none⟩) (by show w.heap.size ≤ w.heap.size + 1; omega) (.slice yb mb db)).setCell (p := ⟨w.heap.size + 1, 2, none⟩) (by show w.heap.size ≤ w.heap.size + 1; omega) (.slice yc mc dc_)).setCell (p := ⟨w.heap.size + 1, 3, none⟩) (by show w.heap.size ≤ w.heap.size + 1; omega) (.int .i64 f)).setCell (p := ⟨w.heap.size + 1, 4, none⟩) (by show w.heap.size ≤ w.heap.size + 1; omega) (.int .i64 M))
  go_wp2_with fail
  refine bodyPost_ret (Ret.results_c rfl _ _ (w.heap.size + 1) (dc (.slice ya ma da) (.slice yb mb db) (.slice yc mc dc_) f M).toList rfl aggD Z1.out.cells) rfl ?_
  exact ⟨_, _, _, rfl, ⟨Z2.out.mono (by omega), Sl.Own.mono Z3.out (by omega), Z4.out.mono (by omega), AP.out⟩, Z5.out⟩


set_option maxRecDepth 100000 in
set_option maxHeartbeats 4000000 in
theorem verimpl0 {Q : Exit → Act → World → Prop} {v1 v2 v4 v5 v6 v7 v8 v9 v10 v11 v12 v13 : Value} {w : World} {p : Nat} {t : Int} (HS : Hid (Num.inB t 1 2147483646 = false)) 
    (hQ : ∀ (u5 u6 u7 u8 u9 u10 u11 u12 u13 : Value)  (wx : World), Below w.heap.size w wx → Q .normal ⟨#[.int .i64 t, v1, v2, .pointer (some ⟨p, 0, none⟩), .bool false, u5, u6, u7, u8, u9, u10, u11, u12, u13], []⟩ wx) :
    (Code.region 1 #[{ dst := some 5, op := Op.move (Operand.tmp 0), type := 3, pos := "l08_thing.go:60", after := #[], guard := none },
      { dst := some 6, op := Op.call { callee := Callee.value (Operand.func 155), args := #[Operand.tmp 5], argTypes := #[3] }, type := 4, pos := "l08_thing.go:60", after := #[{ on := 0, ground := Ground.data }], guard := none },
      { dst := some 7, op := Op.move (Operand.tmp 6), type := 4, pos := "l08_thing.go:60", after := #[{ on := 1, ground := Ground.data }, { on := 1, ground := Ground.chain }], guard := none },
      { dst := some 8, op := Op.fieldAddr 34 (Operand.tmp 3) 4, type := 0, pos := "l08_thing.go:60", after := #[{ on := 2, ground := Ground.guard }], guard := some (2, true) },
      { dst := some 9, op := Op.load 3 (Operand.tmp 8), type := 3, pos := "l08_thing.go:60", after := #[{ on := 3, ground := Ground.data }, { on := 2, ground := Ground.guard }], guard := some (2, true) },
      { dst := some 10, op := Op.move (Operand.tmp 0), type := 3, pos := "l08_thing.go:60", after := #[{ on := 2, ground := Ground.guard }], guard := some (2, true) },
      { dst := some 11, op := Op.call { callee := Callee.value (Operand.func 156), args := #[Operand.tmp 3, Operand.tmp 10], argTypes := #[34, 3] }, type := 3, pos := "l08_thing.go:60", after := #[{ on := 5, ground := Ground.data }, { on := 2, ground := Ground.chain }, { on := 2, ground := Ground.guard }], guard := some (2, true) },
      { dst := some 12, op := Op.binOp BinOp.eql 3 (Operand.tmp 9) (Operand.tmp 11) 3, type := 4, pos := "l08_thing.go:60", after := #[{ on := 4, ground := Ground.data }, { on := 6, ground := Ground.data }, { on := 2, ground := Ground.guard }], guard := some (2, true) },
      { dst := some 13, op := Op.pick (Operand.tmp 7) (Operand.tmp 12) (Operand.const (Value.bool false)), type := 4, pos := "l08_thing.go:60", after := #[{ on := 2, ground := Ground.data }, { on := 7, ground := Ground.data }], guard := none },
      { dst := some 4, op := Op.assign (Operand.tmp 13), type := 4, pos := "l08_thing.go:60", after := #[{ on := 8, ground := Ground.data }, { on := 6, ground := Ground.chain }, { on := 0, ground := Ground.phase }, { on := 1, ground := Ground.phase }, { on := 2, ground := Ground.phase }, { on := 3, ground := Ground.phase }, { on := 4, ground := Ground.phase }, { on := 5, ground := Ground.phase }, { on := 6, ground := Ground.phase }, { on := 7, ground := Ground.phase }, { on := 8, ground := Ground.phase }], guard := none }] true).wp Tryz.prog Q ⟨#[.int .i64 t, v1, v2, .pointer (some ⟨p, 0, none⟩), v4, v5, v6, v7, v8, v9, v10, v11, v12, v13], []⟩ w := by
  have HQ := Lib.hid hQ; clear hQ
  have hdr : Below w.heap.size w w.drew := (Below.refl _ _).drew
  have BB := Lib.hid hdr
  refine wp_region_noPanic ?_
  refine wp_region_held_drew (S := (fun w' => True)) (by kernel_rfl) ?_ (fun hHeld => ?_)
  · trivial
  clear hdr
  generalize w.drew = wd at *
  refine wpAnyH_take (i := 0) (oi := { dst := some 5, op := Op.move (Operand.tmp 0), type := 3, pos := "l08_thing.go:60", after := #[], guard := none }) (v := ?_) rfl (by kernel_rfl) (by kernel_rfl) (by kernel_rfl) (fun _ _ _ h => h) (Or.inl ⟨by rfl, ?_⟩) (by assumption) ?_
  rotate_left
  · intro w' hSw; (try dsimp only at hSw); first | (go_simp; done) | (go_simp; with_reducible rfl)
  (try simp only [Act.put, List.setIfInBounds_toArray, List.set_cons_zero, List.set_cons_succ])
  refine wpAnyH_ready (rs := [1]) (by kernel_rfl) (by simp) ?_
  refine AllReadyH.cons (o := { dst := some 6, op := Op.call { callee := Callee.value (Operand.func 155), args := #[Operand.tmp 5], argTypes := #[3] }, type := 4, pos := "l08_thing.go:60", after := #[{ on := 0, ground := Ground.data }], guard := none }) rfl (fun K hK => ?_) AllReadyH.nil
  go_simp
  refine (iSecV false HS.out).mono ?_
  rintro e wn1 ⟨rfl, hb⟩
  replace BB := Lib.hid (BB.out.trans (hb.mono BB.out.size))
  clear hb
  (try go_wp2_with fail)
  clear hHeld
  refine hK.out _ _ ?_ (fun hHeld => ?_)
  · trivial
  clear hK K
  (try simp only [Act.put, List.setIfInBounds_toArray, List.set_cons_zero, List.set_cons_succ])
  refine wpAnyH_take (i := 2) (oi := { dst := some 7, op := Op.move (Operand.tmp 6), type := 4, pos := "l08_thing.go:60", after := #[{ on := 1, ground := Ground.data }, { on := 1, ground := Ground.chain }], guard := none }) (v := ?_) rfl (by kernel_rfl) (by kernel_rfl) (by kernel_rfl) (fun _ _ _ h => h) (Or.inl ⟨by rfl, ?_⟩) (by assumption) ?_
  rotate_left
  · intro w' hSw; (try dsimp only at hSw); first | (go_simp; done) | (go_simp; with_reducible rfl)
  (try simp only [Act.put, List.setIfInBounds_toArray, List.set_cons_zero, List.set_cons_succ])
  refine wpAnyH_take (i := 3) (oi := { dst := some 8, op := Op.fieldAddr 34 (Operand.tmp 3) 4, type := 0, pos := "l08_thing.go:60", after := #[{ on := 2, ground := Ground.guard }], guard := some (2, true) }) (v := undef) rfl (by kernel_rfl) (by kernel_rfl) (by kernel_rfl) (fun _ _ _ h => h) (Or.inr ⟨by rfl, rfl⟩) (by assumption) ?_
  (try simp only [Act.put, List.setIfInBounds_toArray, List.set_cons_zero, List.set_cons_succ])
  refine wpAnyH_take (i := 4) (oi := { dst := some 9, op := Op.load 3 (Operand.tmp 8), type := 3, pos := "l08_thing.go:60", after := #[{ on := 3, ground := Ground.data }, { on := 2, ground := Ground.guard }], guard := some (2, true) }) (v := undef) rfl (by kernel_rfl) (by kernel_rfl) (by kernel_rfl) (fun _ _ _ h => h) (Or.inr ⟨by rfl, rfl⟩) (by assumption) ?_
  (try simp only [Act.put, List.setIfInBounds_toArray, List.set_cons_zero, List.set_cons_succ])
  refine wpAnyH_take (i := 5) (oi := { dst := some 10, op := Op.move (Operand.tmp 0), type := 3, pos := "l08_thing.go:60", after := #[{ on := 2, ground := Ground.guard }], guard := some (2, true) }) (v := undef) rfl (by kernel_rfl) (by kernel_rfl) (by kernel_rfl) (fun _ _ _ h => h) (Or.inr ⟨by rfl, rfl⟩) (by assumption) ?_
  (try simp only [Act.put, List.setIfInBounds_toArray, List.set_cons_zero, List.set_cons_succ])
  refine wpAnyH_take (i := 6) (oi := { dst := some 11, op := Op.call { callee := Callee.value (Operand.func 156), args := #[Operand.tmp 3, Operand.tmp 10], argTypes := #[34, 3] }, type := 3, pos := "l08_thing.go:60", after := #[{ on := 5, ground := Ground.data }, { on := 2, ground := Ground.chain }, { on := 2, ground := Ground.guard }], guard := some (2, true) }) (v := undef) rfl (by kernel_rfl) (by kernel_rfl) (by kernel_rfl) (fun _ _ _ h => h) (Or.inr ⟨by rfl, rfl⟩) (by assumption) ?_
  (try simp only [Act.put, List.setIfInBounds_toArray, List.set_cons_zero, List.set_cons_succ])
  refine wpAnyH_take (i := 7) (oi := { dst := some 12, op := Op.binOp BinOp.eql 3 (Operand.tmp 9) (Operand.tmp 11) 3, type := 4, pos := "l08_thing.go:60", after := #[{ on := 4, ground := Ground.data }, { on := 6, ground := Ground.data }, { on := 2, ground := Ground.guard }], guard := some (2, true) }) (v := undef) rfl (by kernel_rfl) (by kernel_rfl) (by kernel_rfl) (fun _ _ _ h => h) (Or.inr ⟨by rfl, rfl⟩) (by assumption) ?_
  (try simp only [Act.put, List.setIfInBounds_toArray, List.set_cons_zero, List.set_cons_succ])
  refine wpAnyH_take (i := 8) (oi := { dst := some 13, op := Op.pick (Operand.tmp 7) (Operand.tmp 12) (Operand.const (Value.bool false)), type := 4, pos := "l08_thing.go:60", after := #[{ on := 2, ground := Ground.data }, { on := 7, ground := Ground.data }], guard := none }) (v := ?_) rfl (by kernel_rfl) (by kernel_rfl) (by kernel_rfl) (fun _ _ _ h => h) (Or.inl ⟨by rfl, ?_⟩) (by assumption) ?_
  rotate_left
  · intro w' hSw; (try dsimp only at hSw); first | (go_simp; done) | (go_simp; with_reducible rfl)
  (try simp only [Act.put, List.setIfInBounds_toArray, List.set_cons_zero, List.set_cons_succ])
  refine wpAnyH_take (i := 9) (oi := { dst := some 4, op := Op.assign (Operand.tmp 13), type := 4, pos := "l08_thing.go:60", after := #[{ on := 8, ground := Ground.data }, { on := 6, ground := Ground.chain }, { on := 0, ground := Ground.phase }, { on := 1, ground := Ground.phase }, { on := 2, ground := Ground.phase }, { on := 3, ground := Ground.phase }, { on := 4, ground := Ground.phase }, { on := 5, ground := Ground.phase }, { on := 6, ground := Ground.phase }, { on := 7, ground := Ground.phase }, { on := 8, ground := Ground.phase }], guard := none }) (v := ?_) rfl (by kernel_rfl) (by kernel_rfl) (by kernel_rfl) (fun _ _ _ h => h) (Or.inl ⟨by rfl, ?_⟩) (by assumption) ?_
  rotate_left
  · intro w' hSw; (try dsimp only at hSw); first | (go_simp; done) | (go_simp; with_reducible rfl)
  (try simp only [Act.put, List.setIfInBounds_toArray, List.set_cons_zero, List.set_cons_succ])
  refine wpAnyH_done (by kernel_rfl) ?_ _
  exact NoPanic.normal (HQ.out _ _ _ _ _ _ _ _ _  _  BB.out)

set_option maxRecDepth 100000 in
set_option maxHeartbeats 4000000 in
theorem verimpl1 {Q : Exit → Act → World → Prop} {v1 v2 v4 v5 v6 v7 v8 v9 v10 v11 v12 v13 : Value} {w : World} {p na ca nb cb nc cc : Nat} {xa xb xc : Option Addr} {f s t : Int} {la lc : List ByteArray} {lb : List Int} {M : Int} {z : Bool} (HS : Hid (Num.inB t 1 2147483646 = true)) (HD : Hid (DHold w (.slice xa na ca) (.slice xb nb cb) (.slice xc nc cc) (la, lb, lc, f, s))) (HBY : Hid (Sl.Byt lb)) (HL : Hid (smD (la, lb, lc, f, s))) (HM : Hid (Seal.mac t (portD (la, lb, lc, f, s)) = M)) (HZ : Hid ((s == M) = z)) (HK : Hid (Ret.Blk w p (dc (.slice xa na ca) (.slice xb nb cb) (.slice xc nc cc) f s) 34)) (K4 : Hid (w.cell? ⟨p, 4, none⟩ = some (.int .i64 s)))
    (hQ : ∀ (u5 u6 u7 u8 u9 u10 u11 u12 u13 : Value)  (wx : World), Below w.heap.size w wx → Q .normal ⟨#[.int .i64 t, v1, v2, .pointer (some ⟨p, 0, none⟩), .bool z, u5, u6, u7, u8, u9, u10, u11, u12, u13], []⟩ wx) :
    (Code.region 1 #[{ dst := some 5, op := Op.move (Operand.tmp 0), type := 3, pos := "l08_thing.go:60", after := #[], guard := none },
      { dst := some 6, op := Op.call { callee := Callee.value (Operand.func 155), args := #[Operand.tmp 5], argTypes := #[3] }, type := 4, pos := "l08_thing.go:60", after := #[{ on := 0, ground := Ground.data }], guard := none },
      { dst := some 7, op := Op.move (Operand.tmp 6), type := 4, pos := "l08_thing.go:60", after := #[{ on := 1, ground := Ground.data }, { on := 1, ground := Ground.chain }], guard := none },
      { dst := some 8, op := Op.fieldAddr 34 (Operand.tmp 3) 4, type := 0, pos := "l08_thing.go:60", after := #[{ on := 2, ground := Ground.guard }], guard := some (2, true) },
      { dst := some 9, op := Op.load 3 (Operand.tmp 8), type := 3, pos := "l08_thing.go:60", after := #[{ on := 3, ground := Ground.data }, { on := 2, ground := Ground.guard }], guard := some (2, true) },
      { dst := some 10, op := Op.move (Operand.tmp 0), type := 3, pos := "l08_thing.go:60", after := #[{ on := 2, ground := Ground.guard }], guard := some (2, true) },
      { dst := some 11, op := Op.call { callee := Callee.value (Operand.func 156), args := #[Operand.tmp 3, Operand.tmp 10], argTypes := #[34, 3] }, type := 3, pos := "l08_thing.go:60", after := #[{ on := 5, ground := Ground.data }, { on := 2, ground := Ground.chain }, { on := 2, ground := Ground.guard }], guard := some (2, true) },
      { dst := some 12, op := Op.binOp BinOp.eql 3 (Operand.tmp 9) (Operand.tmp 11) 3, type := 4, pos := "l08_thing.go:60", after := #[{ on := 4, ground := Ground.data }, { on := 6, ground := Ground.data }, { on := 2, ground := Ground.guard }], guard := some (2, true) },
      { dst := some 13, op := Op.pick (Operand.tmp 7) (Operand.tmp 12) (Operand.const (Value.bool false)), type := 4, pos := "l08_thing.go:60", after := #[{ on := 2, ground := Ground.data }, { on := 7, ground := Ground.data }], guard := none },
      { dst := some 4, op := Op.assign (Operand.tmp 13), type := 4, pos := "l08_thing.go:60", after := #[{ on := 8, ground := Ground.data }, { on := 6, ground := Ground.chain }, { on := 0, ground := Ground.phase }, { on := 1, ground := Ground.phase }, { on := 2, ground := Ground.phase }, { on := 3, ground := Ground.phase }, { on := 4, ground := Ground.phase }, { on := 5, ground := Ground.phase }, { on := 6, ground := Ground.phase }, { on := 7, ground := Ground.phase }, { on := 8, ground := Ground.phase }], guard := none }] true).wp Tryz.prog Q ⟨#[.int .i64 t, v1, v2, .pointer (some ⟨p, 0, none⟩), v4, v5, v6, v7, v8, v9, v10, v11, v12, v13], []⟩ w := by
  have HQ := Lib.hid hQ; clear hQ
  have hdr : Below w.heap.size w w.drew := (Below.refl _ _).drew
  have tz := HZ.out
  have BB := Lib.hid hdr
  refine wp_region_noPanic ?_
  refine wp_region_held_drew (S := (fun w' => w'.cell? ⟨p, 4, none⟩ = some (.int .i64 s))) (by kernel_rfl) ?_ (fun hHeld => ?_)
  · exact kc K4.out BB.out
  clear hdr
  generalize w.drew = wd at *
  refine wpAnyH_take (i := 0) (oi := { dst := some 5, op := Op.move (Operand.tmp 0), type := 3, pos := "l08_thing.go:60", after := #[], guard := none }) (v := ?_) rfl (by kernel_rfl) (by kernel_rfl) (by kernel_rfl) (fun _ _ _ h => h) (Or.inl ⟨by rfl, ?_⟩) (by assumption) ?_
  rotate_left
  · intro w' hSw; (try dsimp only at hSw); first | (go_simp; done) | (go_simp; with_reducible rfl)
  (try simp only [Act.put, List.setIfInBounds_toArray, List.set_cons_zero, List.set_cons_succ])
  refine wpAnyH_ready (rs := [1]) (by kernel_rfl) (by simp) ?_
  refine AllReadyH.cons (o := { dst := some 6, op := Op.call { callee := Callee.value (Operand.func 155), args := #[Operand.tmp 5], argTypes := #[3] }, type := 4, pos := "l08_thing.go:60", after := #[{ on := 0, ground := Ground.data }], guard := none }) rfl (fun K hK => ?_) AllReadyH.nil
  go_simp
  refine (iSecV true HS.out).mono ?_
  rintro e wn1 ⟨rfl, hb⟩
  replace BB := Lib.hid (BB.out.trans (hb.mono BB.out.size))
  clear hb
  (try go_wp2_with fail)
  clear hHeld
  refine hK.out _ _ ?_ (fun hHeld => ?_)
  · (try dsimp only); exact kc K4.out BB.out
  clear hK K
  (try simp only [Act.put, List.setIfInBounds_toArray, List.set_cons_zero, List.set_cons_succ])
  refine wpAnyH_take (i := 2) (oi := { dst := some 7, op := Op.move (Operand.tmp 6), type := 4, pos := "l08_thing.go:60", after := #[{ on := 1, ground := Ground.data }, { on := 1, ground := Ground.chain }], guard := none }) (v := ?_) rfl (by kernel_rfl) (by kernel_rfl) (by kernel_rfl) (fun _ _ _ h => h) (Or.inl ⟨by rfl, ?_⟩) (by assumption) ?_
  rotate_left
  · intro w' hSw; (try dsimp only at hSw); first | (go_simp; done) | (go_simp; with_reducible rfl)
  (try simp only [Act.put, List.setIfInBounds_toArray, List.set_cons_zero, List.set_cons_succ])
  refine wpAnyH_take (i := 3) (oi := { dst := some 8, op := Op.fieldAddr 34 (Operand.tmp 3) 4, type := 0, pos := "l08_thing.go:60", after := #[{ on := 2, ground := Ground.guard }], guard := some (2, true) }) (v := ?_) rfl (by kernel_rfl) (by kernel_rfl) (by kernel_rfl) (fun _ _ _ h => h) (Or.inl ⟨by rfl, ?_⟩) (by assumption) ?_
  rotate_left
  · intro w' hSw; (try dsimp only at hSw); first | (go_simp; done) | (go_simp; with_reducible rfl)
  (try simp only [Act.put, List.setIfInBounds_toArray, List.set_cons_zero, List.set_cons_succ])
  refine wpAnyH_take (i := 4) (oi := { dst := some 9, op := Op.load 3 (Operand.tmp 8), type := 3, pos := "l08_thing.go:60", after := #[{ on := 3, ground := Ground.data }, { on := 2, ground := Ground.guard }], guard := some (2, true) }) (v := ?_) rfl (by kernel_rfl) (by kernel_rfl) (by kernel_rfl) (fun _ _ _ h => h) (Or.inl ⟨by rfl, ?_⟩) (by assumption) ?_
  rotate_left
  · intro w' hSw; (try dsimp only at hSw); first | (go_simp; done) | (go_simp; with_reducible rfl)
  (try simp only [Act.put, List.setIfInBounds_toArray, List.set_cons_zero, List.set_cons_succ])
  refine wpAnyH_take (i := 5) (oi := { dst := some 10, op := Op.move (Operand.tmp 0), type := 3, pos := "l08_thing.go:60", after := #[{ on := 2, ground := Ground.guard }], guard := some (2, true) }) (v := ?_) rfl (by kernel_rfl) (by kernel_rfl) (by kernel_rfl) (fun _ _ _ h => h) (Or.inl ⟨by rfl, ?_⟩) (by assumption) ?_
  rotate_left
  · intro w' hSw; (try dsimp only at hSw); first | (go_simp; done) | (go_simp; with_reducible rfl)
  (try simp only [Act.put, List.setIfInBounds_toArray, List.set_cons_zero, List.set_cons_succ])
  refine wpAnyH_ready (rs := [6]) (by kernel_rfl) (by simp) ?_
  refine AllReadyH.cons (o := { dst := some 11, op := Op.call { callee := Callee.value (Operand.func 156), args := #[Operand.tmp 3, Operand.tmp 10], argTypes := #[34, 3] }, type := 3, pos := "l08_thing.go:60", after := #[{ on := 5, ground := Ground.data }, { on := 2, ground := Ground.chain }, { on := 2, ground := Ground.guard }], guard := some (2, true) }) rfl (fun K hK => ?_) AllReadyH.nil
  go_simp
  refine (iMacV (x := (la, lb, lc, f, s)) M HM.out (HK.out.on BB.out) (HD.out.on BB.out) HBY.out HL.out).mono ?_
  rintro e wn2 ⟨rfl, hb⟩
  replace BB := Lib.hid (BB.out.trans (hb.mono BB.out.size))
  clear hb
  (try go_wp2_with fail)
  clear hHeld
  refine hK.out _ _ ?_ (fun hHeld => ?_)
  · (try dsimp only); exact kc K4.out BB.out
  clear hK K
  (try simp only [Act.put, List.setIfInBounds_toArray, List.set_cons_zero, List.set_cons_succ])
  refine wpAnyH_take (i := 7) (oi := { dst := some 12, op := Op.binOp BinOp.eql 3 (Operand.tmp 9) (Operand.tmp 11) 3, type := 4, pos := "l08_thing.go:60", after := #[{ on := 4, ground := Ground.data }, { on := 6, ground := Ground.data }, { on := 2, ground := Ground.guard }], guard := some (2, true) }) (v := ?_) rfl (by kernel_rfl) (by kernel_rfl) (by kernel_rfl) (fun _ _ _ h => h) (Or.inl ⟨by rfl, ?_⟩) (by assumption) ?_
  rotate_left
  · intro w' hSw; (try dsimp only at hSw); first | (go_simp; done) | (go_simp; with_reducible rfl)
  (try simp only [Act.put, List.setIfInBounds_toArray, List.set_cons_zero, List.set_cons_succ])
  refine wpAnyH_take (i := 8) (oi := { dst := some 13, op := Op.pick (Operand.tmp 7) (Operand.tmp 12) (Operand.const (Value.bool false)), type := 4, pos := "l08_thing.go:60", after := #[{ on := 2, ground := Ground.data }, { on := 7, ground := Ground.data }], guard := none }) (v := ?_) rfl (by kernel_rfl) (by kernel_rfl) (by kernel_rfl) (fun _ _ _ h => h) (Or.inl ⟨by rfl, ?_⟩) (by assumption) ?_
  rotate_left
  · intro w' hSw; (try dsimp only at hSw); first | (go_simp; done) | (go_simp; with_reducible rfl)
  (try simp only [Act.put, List.setIfInBounds_toArray, List.set_cons_zero, List.set_cons_succ])
  refine wpAnyH_take (i := 9) (oi := { dst := some 4, op := Op.assign (Operand.tmp 13), type := 4, pos := "l08_thing.go:60", after := #[{ on := 8, ground := Ground.data }, { on := 6, ground := Ground.chain }, { on := 0, ground := Ground.phase }, { on := 1, ground := Ground.phase }, { on := 2, ground := Ground.phase }, { on := 3, ground := Ground.phase }, { on := 4, ground := Ground.phase }, { on := 5, ground := Ground.phase }, { on := 6, ground := Ground.phase }, { on := 7, ground := Ground.phase }, { on := 8, ground := Ground.phase }], guard := none }) (v := ?_) rfl (by kernel_rfl) (by kernel_rfl) (by kernel_rfl) (fun _ _ _ h => h) (Or.inl ⟨by rfl, ?_⟩) (by assumption) ?_
  rotate_left
  · intro w' hSw; (try dsimp only at hSw); first | (go_simp; done) | (go_simp; with_reducible rfl)
  (try simp only [Act.put, List.setIfInBounds_toArray, List.set_cons_zero, List.set_cons_succ])
  refine wpAnyH_done (by kernel_rfl) ?_ _
  exact NoPanic.normal (HQ.out _ _ _ _ _ _ _ _ _  _  BB.out)

set_option maxHeartbeats 4000000 in
theorem implVerifyData (a b c : Value) (x : Dt) (t : Int) (w : World) (h : DHold w a b c x) (hB : Sl.Byt x.2.1) (hl : smD x) :
    Calls Tryz.prog 89 #[.int .i64 t, .agg (dc a b c x.2.2.2.1 x.2.2.2.2)] w fun e w' => e = .returned (.bool (verD t x)) ∧ Below w.heap.size w w' := by
  obtain ⟨l, m, k, f, s⟩ := x
  simp only at hB ⊢
  obtain ⟨xa, na, ca, xb, nb, cb, xc, nc, cc, rfl, rfl, rfl⟩ := h.shape
  obtain ⟨M, hM⟩ : ∃ M, Seal.mac t (portD (l, m, k, f, s)) = M := ⟨_, rfl⟩
  obtain ⟨q, hq⟩ : ∃ q, verD t (l, m, k, f, s) = q := ⟨_, rfl⟩
  rw [hq]
  have HQ := Lib.hid hq
  have HM := Lib.hid hM; have HY := Lib.hid hB; have HLB := Lib.hid hl
  have HB := Lib.hid ((Below.refl w.heap.size w).alloc (Nat.le_refl _) (.cells (dc (.slice xa na ca) (.slice xb nb cb) (.slice xc nc cc) f s) 34))
  have H0 := Lib.hid (h.on HB.out)
  have HX := Lib.hid (Ret.Blk.new w (dc (.slice xa na ca) (.slice xb nb cb) (.slice xc nc cc) f s) 34)
  clear h hB hl hM hq
  go_enter Tryz.func89, Tryz.ntmps89
  go_wp2_with fail
  cases hs : Num.inB t 1 2147483646 with
  | false =>
    have HE : Hid (q = false) := Lib.hid (by rw [← HQ.out]; unfold verD; rw [hs]; rfl)
    refine verimpl0 (Lib.hid hs) ?_
    intro u5 u6 u7 u8 u9 u10 u11 u12 u13 wx hb
    have HB2 := Lib.hid (HB.out.trans (hb.mono HB.out.size))
    clear hb hs
    go_wp2_with fail
    go_ret
    exact ⟨ret_bool HE.out.symm, HB2.out⟩
  | true =>
    obtain ⟨z, hz⟩ : ∃ z, (s == M) = z := ⟨_, rfl⟩
    have HE : Hid (q = z) := Lib.hid (by rw [← HQ.out]; unfold verD; rw [hs, HM.out, ← hz]; rfl)
    refine verimpl1 (Lib.hid hs) H0 HY HLB HM (Lib.hid hz) HX (Lib.hid (HX.out.cell 4)) ?_
    intro u5 u6 u7 u8 u9 u10 u11 u12 u13 wx hb
    have HB2 := Lib.hid (HB.out.trans (hb.mono HB.out.size))
    clear hb hs hz
    go_wp2_with fail
    go_ret
    exact ⟨ret_bool HE.out.symm, HB2.out⟩
end Go.Proofs.YtcidfmmeonhkhaaGreatDoor.Row
/- Helpers for the model's draws of data packets. What was in memory stays as it was, but for the cursor. -/
namespace Go.Proofs.YtcidfmmeonhkhaaGreatDoor.Draw
open Go.ChangeShapes Go.WideShapes Go.ChangeAt Go.RowKit Go.Instr
open Go.Proofs.YtcidfmmeonhkhaaGreatDoor.Row (bulk bulk_append bulk_one bulk_nil bulk_cons Dt dc aggD bulkD advD WfD DHold DOwn)
open Go.Proofs.YtcidfmmeonhkhaaGreatDoor.Ret (NC Blk Box)
set_option linter.unusedVariables false
set_option maxRecDepth 100000

section
variable {W : World} {g q p : Nat} {a b c : Value} {f s : Int} {t : TypeId} {w0 w : World} {v0 : Value} {l0 : List UInt8}
theorem rown5 {α : Type} [Inhabited α] {enc : α → Value} {e : TypeId} {B : Nat} {v : Value} {l : List α} (h : Row.Own e enc B W v l) (hq : q < B) : Row.Own e enc B (((((W.setCell ⟨q, 0, none⟩ (a)).setCell ⟨q, 1, none⟩ (b)).setCell ⟨q, 2, none⟩ (c)).setCell ⟨q, 3, none⟩ (.int .i64 f)).setCell ⟨q, 4, none⟩ (.int .i64 s)) v l := (Row.own_set (g := q) (i := 4) (u := .int .i64 s) (Row.own_set (g := q) (i := 3) (u := .int .i64 f) (Row.own_set (g := q) (i := 2) (u := c) (Row.own_set (g := q) (i := 1) (u := b) (Row.own_set (g := q) (i := 0) (u := a) h hq) hq) hq) hq) hq)
theorem own5 {k : IntKind} {e : TypeId} {B : Nat} {v : Value} {l : List Int} (h : Sl.Own e k B W v l) (hq : q < B) : Sl.Own e k B (((((W.setCell ⟨q, 0, none⟩ (a)).setCell ⟨q, 1, none⟩ (b)).setCell ⟨q, 2, none⟩ (c)).setCell ⟨q, 3, none⟩ (.int .i64 f)).setCell ⟨q, 4, none⟩ (.int .i64 s)) v l := rown5 (enc := Value.int k) h hq
end
/-- A packet's slices, each of the call's own. -/
def DO3 (B : Nat) (w : World) (a b c : Value) (x : Dt) : Prop := Row.Own 9 Value.string B w a x.1 ∧ Sl.Own 5 .u8 B w b x.2.1 ∧ Row.Own 9 Value.string B w c x.2.2.1
section
variable {B p : Nat} {w w' : World} {a b c : Value} {x : Dt}
theorem DO3.of (h : DOwn B w a b c x) : DO3 B w a b c x := ⟨h.1, h.2.1, h.2.2.1⟩
theorem DO3.on (h : DO3 B w a b c x) (hb : Below w.heap.size w w') : DO3 B w' a b c x := ⟨h.1.on hb, Sl.Own.on h.2.1 hb, h.2.2.on hb⟩
theorem DO3.keep (h : DO3 B w a b c x) (hk : Keep p w w') (hp : p < B) : DO3 B w' a b c x := ⟨rown_keep h.1 hk hp, own_keep h.2.1 hk hp, rown_keep h.2.2 hk hp⟩
theorem DO3.mono {B' : Nat} (h : DO3 B w a b c x) (hB : B' ≤ B) : DO3 B' w a b c x := ⟨h.1.mono hB, Sl.Own.mono h.2.1 hB, h.2.2.mono hB⟩
theorem DO3.hold (h : DO3 B w a b c x) : DHold w a b c x := ⟨h.1.holds, Sl.Own.holds h.2.1, h.2.2.holds⟩
theorem DO3.shape (h : DO3 B w a b c x) : ∃ xa na ca xb nb cb xc nc cc, a = .slice xa na ca ∧ b = .slice xb nb cb ∧ c = .slice xc nc cc := h.hold.shape
theorem DO3.five {q : Nat} {a1 b1 c1 : Value} {f s : Int} (h : DO3 B w a b c x) (hq : q < B) : DO3 B (((((w.setCell ⟨q, 0, none⟩ (a1)).setCell ⟨q, 1, none⟩ (b1)).setCell ⟨q, 2, none⟩ (c1)).setCell ⟨q, 3, none⟩ (.int .i64 f)).setCell ⟨q, 4, none⟩ (.int .i64 s)) a b c x := ⟨rown5 h.1 hq, own5 h.2.1 hq, rown5 h.2.2 hq⟩
end
theorem own_setT {k : IntKind} {e t : TypeId} {B g i : Nat} {w : World} {v u : Value} {l : List Int} {cs : Array Value} (h : Sl.Own e k B w v l) (hb : Blk w g cs t) (hne : e ≠ t) : Sl.Own e k B (w.setCell ⟨g, i, none⟩ u) v l := rown_setT (enc := Value.int k) h hb hne
theorem DO3.setT {B g i : Nat} {w : World} {a b c u : Value} {x : Dt} {cs : Array Value} (h : DO3 B w a b c x) (hb : Blk w g cs 34) : DO3 B (w.setCell ⟨g, i, none⟩ u) a b c x := ⟨rown_setT h.1 hb (by decide), own_setT h.2.1 hb (by decide), rown_setT h.2.2 hb (by decide)⟩
/-- A drawn packet: its parts in blocks from B on, small, its numbers fit. -/
def DataIn (B : Nat) (V : Value) (w : World) : Prop := ∃ xa na ca xb nb cb xc nc cc, ∃ y : Dt, V = .agg #[.slice xa na ca, .slice xb nb cb, .slice xc nc cc, .int .i64 y.2.2.2.1, .int .i64 y.2.2.2.2] ∧ DO3 B w (.slice xa na ca) (.slice xb nb cb) (.slice xc nc cc) y ∧ bulkD y ≤ 3000 ∧ WfD y
theorem wfB {l : List Int} (h : Sl.Byt l) : ∀ x ∈ l, (Lit.int .u8 x).wf = true := fun x hx => by
  have h1 := h x hx
  have e1 : IntKind.u8.min = 0 := rfl
  have e2 : IntKind.u8.max = 255 := rfl
  simp [Lit.wf, e1, e2, h1.1, h1.2]
end Go.Proofs.YtcidfmmeonhkhaaGreatDoor.Draw
/- Names that lie in blocks of texts (XHB), beside the draws of data packets. No conditions. -/
/- Contracts of the reference model's draws of chapter 3: secrets, slices of integers and of bytes, texts. What was in memory stays as it was. -/
namespace Go.Proofs.YtcidfmmeonhkhaaGreatDoor.Draw
open Go.ChangeShapes Go.WideShapes Go.ChangeAt Go.RowKit Go.Instr
open Sl (Holds Own Byt nth wpList_app holds_one own_empty elemBYTE elemINT)
set_option linter.unusedVariables false
set_option maxRecDepth 100000

def QDrawDigest (w : World) (e : Ending) (w' : World) : Prop := ∃ (x0 : Value) (m0 : List Int), e = .returned (x0) ∧ Own 3 .i64 w.heap.size w' x0 m0 ∧ (∀ y ∈ m0, (Lit.int .i64 y).wf = true) ∧ m0.length ≤ 100 ∧ Below w.heap.size w w'

def QDrawComputeMAC (w : World) (e : Ending) (w' : World) : Prop := ∃ (n0 : Int) (x1 : Value) (m1 : List Int), e = .returned (.tuple #[.int .i64 n0, x1]) ∧ (Lit.int .i64 n0).wf = true ∧ Own 3 .i64 w.heap.size w' x1 m1 ∧ (∀ y ∈ m1, (Lit.int .i64 y).wf = true) ∧ m1.length ≤ 100 ∧ Below w.heap.size w w'

def QDrawValidSecret (w : World) (e : Ending) (w' : World) : Prop := ∃ (n0 : Int), e = .returned (.int .i64 n0) ∧ (Lit.int .i64 n0).wf = true ∧ Below w.heap.size w w'

def QDrawBytesToInts (w : World) (e : Ending) (w' : World) : Prop := ∃ (x0 : Value) (m0 : List Int), e = .returned (x0) ∧ Own 5 .u8 w.heap.size w' x0 m0 ∧ Byt m0 ∧ m0.length ≤ 100 ∧ Below w.heap.size w w'

def QDrawEncrypt (w : World) (e : Ending) (w' : World) : Prop := ∃ (n0 : Int) (x1 : Value) (m1 : List Int), e = .returned (.tuple #[.int .i64 n0, x1]) ∧ (Lit.int .i64 n0).wf = true ∧ Own 5 .u8 w.heap.size w' x1 m1 ∧ Byt m1 ∧ m1.length ≤ 100 ∧ Below w.heap.size w w'

def QDrawDeriveSecret (w : World) (e : Ending) (w' : World) : Prop := ∃ (n0 : Int) (t1 : ByteArray), e = .returned (.tuple #[.int .i64 n0, .string t1]) ∧ (Lit.int .i64 n0).wf = true ∧ t1.size ≤ 100 ∧ Below w.heap.size w w'

def QDrawEqualInts (w : World) (e : Ending) (w' : World) : Prop := ∃ (x0 : Value) (m0 : List Int) (x1 : Value) (m1 : List Int), e = .returned (.tuple #[x0, x1]) ∧ Own 3 .i64 w.heap.size w' x0 m0 ∧ (∀ y ∈ m0, (Lit.int .i64 y).wf = true) ∧ m0.length ≤ 100 ∧ Own 3 .i64 w.heap.size w' x1 m1 ∧ (∀ y ∈ m1, (Lit.int .i64 y).wf = true) ∧ m1.length ≤ 100 ∧ Below w.heap.size w w'

end Go.Proofs.YtcidfmmeonhkhaaGreatDoor.Draw
/- Lists of keys (slices of a name and a number each) in memory: a slice that holds a list of entries, each of which holds its name; one whose blocks are all the call's own and all differ. No conditions. -/
namespace Go.Proofs.YtcidfmmeonhkhaaGreatDoor.Row.Ring
open Go.ChangeShapes Go.WideShapes Go.ChangeAt Go.RowKit Go.Instr
set_option linter.unusedVariables false
set_option maxRecDepth 100000

/-- An entry as it lies in memory: where its name's parts lie, what they are, and its number. -/
structure Ent where
  ad : Option Addr
  n : Nat
  cap : Nat
  ps : List ByteArray
  val : Int
instance : Inhabited Ent := ⟨⟨none, 0, 0, [], 0⟩⟩
def Ent.v (x : Ent) : Value := .slice x.ad x.n x.cap
/-- An entry as it is read. -/
def Ent.t (x : Ent) : List ByteArray × Int := (x.ps, x.val)
def Ent.whole (x : Ent) : Value := .agg #[x.v, .int .i64 x.val]
def strip (L : List Ent) : List (List ByteArray × Int) := L.map Ent.t
theorem strip_length (L : List Ent) : (strip L).length = L.length := by simp [strip]
theorem strip_nth {L : List Ent} {k : Nat} (h : k < L.length) : nth (strip L) k = (nth L k).t := by simp [strip, nth, List.getD, h]
theorem strip_append (L M : List Ent) : strip (L ++ M) = strip L ++ strip M := by simp [strip]
theorem strip_take (L : List Ent) (k : Nat) : strip (L.take k) = (strip L).take k := by simp [strip, List.map_take]
theorem strip_mem {L : List Ent} {x : Ent} (h : x ∈ L) : x.t ∈ strip L := List.mem_map_of_mem h
def encE (x : Ent) : List Value := [x.v, .int .i64 x.val]
theorem szE : Sz encE 2 := fun _ => rfl
theorem kindE : Kind Tryz.prog 156 encE (.agg #[.slice none 0 0, .int .i64 0]) 2 32 where
  elem := by unfold ElemK; kernel_rfl
  zs := rfl
  pos := by decide
  size := szE
  one := by intro x u hu; simp [encE, Ent.v] at hu; rcases hu with rfl | rfl <;> rfl

/-- v is a slice of the entries L, whose names are there. -/
def TabH (w : World) (v : Value) (L : List Ent) : Prop := HoldsK encE 2 w v L ∧ ∀ x ∈ L, Holds Value.string w x.v x.ps
/-- v is a slice of the entries L, all of whose blocks are from B on, and no two the same. -/
def TabO (B : Nat) (w : World) (v : Value) (L : List Ent) : Prop := OwnK 156 encE 2 B w v L ∧ (∀ x ∈ L, Own 9 Value.string B w x.v x.ps) ∧ L.Pairwise (fun a b => Apart a.v b.v)
section
variable {B : Nat} {w w' : World} {v : Value} {L : List Ent}
theorem TabO.holds (h : TabO B w v L) : TabH w v L := ⟨h.1.holds, fun x hx => (h.2.1 x hx).holds⟩
theorem TabH.on (h : TabH w v L) (hb : Below w.heap.size w w') : TabH w' v L := ⟨h.1.on hb, fun x hx => (h.2 x hx).on hb⟩
theorem TabO.on (h : TabO B w v L) (hb : Below w.heap.size w w') : TabO B w' v L := ⟨h.1.on hb, fun x hx => (h.2.1 x hx).on hb, h.2.2⟩
theorem TabO.mono (h : TabO B w v L) {B' : Nat} (hB : B' ≤ B) : TabO B' w v L := ⟨h.1.mono hB, fun x hx => (h.2.1 x hx).mono hB, h.2.2⟩
theorem TabO.nil (B : Nat) (w : World) : TabO B w (.slice none 0 0) [] := ⟨OwnK.nil _ _ _ _ _, by simp, by simp⟩
theorem TabO.empty (w : World) : TabO w.heap.size (w.alloc (.cells #[] 156)) (.slice (some ⟨w.heap.size, 0, none⟩) 0 0) [] := ⟨ownK_empty _ _ _ _, by simp, by simp⟩
theorem TabH.nil (w : World) : TabH w (.slice none 0 0) [] := ⟨HoldsK.nil _ _ _, by simp⟩
theorem TabH.shapeN (h : TabH w v L) : ∃ x n cap, v = .slice x n cap ∧ n = L.length ∧ n ≤ cap ∧ TabH w (.slice x n cap) L := by
  obtain ⟨x, n, cap, rfl, hn, hc, ho⟩ := h.1.shapeN
  exact ⟨x, n, cap, rfl, hn, hc, ho, h.2⟩
theorem TabO.shapeN (h : TabO B w v L) : ∃ x n cap, v = .slice x n cap ∧ n = L.length ∧ n ≤ cap ∧ TabO B w (.slice x n cap) L := by
  obtain ⟨x, n, cap, rfl, hn, hc, ho⟩ := h.1.shapeN
  exact ⟨x, n, cap, rfl, hn, hc, ho, h.2⟩
/-- Entry k's two cells, and its name. -/
theorem TabH.at {x : Option Addr} {n cap : Nat} (h : TabH w (.slice x n cap) L) {k : Nat} (hk : k < L.length) :
    ∃ b off, x = some ⟨b, off, none⟩ ∧ w.cell? ⟨b, off + k * 2, none⟩ = some (.slice (nth L k).ad (nth L k).n (nth L k).cap) ∧ w.cell? ⟨b, off + k * 2 + 1, none⟩ = some (.int .i64 (nth L k).val) ∧ Holds Value.string w (.slice (nth L k).ad (nth L k).n (nth L k).cap) (nth L k).ps := by
  obtain ⟨b, off, hx, hc⟩ := h.1.at szE hk
  exact ⟨b, off, hx, by have := hc 0 (by decide); simpa [encE, Ent.v] using this, by have := hc 1 (by decide); simpa [encE, Nat.add_assoc] using this, h.2 _ (nth_mem hk)⟩
theorem TabO.cells {g n cap : Nat} (h : TabO B w (.slice (some ⟨g, 0, none⟩) n cap) L) (hn : n = L.length) {k : Nat} (hk : k < L.length) :
    (w.cell? ⟨g, k * 2, none⟩ = some (.slice (nth L k).ad (nth L k).n (nth L k).cap) ∧ w.frozen? ⟨g, k * 2, none⟩ = false) ∧ (w.cell? ⟨g, k * 2 + 1, none⟩ = some (.int .i64 (nth L k).val) ∧ w.frozen? ⟨g, k * 2 + 1, none⟩ = false) ∧ Own 9 Value.string B w (.slice (nth L k).ad (nth L k).n (nth L k).cap) (nth L k).ps :=
  ⟨by simpa [encE, Ent.v] using ownK_cell szE h.1 hn hk (i := 0) (by decide), by simpa [encE] using ownK_cell szE h.1 hn hk (i := 1) (by decide), h.2.1 _ (nth_mem hk)⟩
/-- A slice of strings and a slice of entries never share a block. -/
theorem name_row {u : Value} {ps : List ByteArray} {B' : Nat} (h : Own 9 Value.string B w u ps) (g : OwnK 156 encE 2 B' w v L) : Apart u v := by
  intro k h1 h2
  rcases h.2 with ⟨rfl, _⟩ | ⟨b, cap, cur, rfl, _, hb, _⟩
  · cases h1
  · rcases g.2 with ⟨rfl, _⟩ | ⟨b', cap', cur', rfl, _, hb', _⟩
    · cases h2
    · have e1 : b = k := by simpa [Value.ownBlock] using h1
      have e2 : b' = k := by simpa [Value.ownBlock] using h2
      rw [e1] at hb; rw [e2, hb] at hb'
      cases hb'
/-- What writes into the entries' own row alone leaves the names. -/
theorem TabO.names (h : TabO B w v L) (hg : w.grownBy w' v.ownBlock) : ∀ x ∈ L, Own 9 Value.string B w' x.v x.ps := fun x hx => (h.2.1 x hx).grown hg (apart_or (name_row (h.2.1 x hx) h.1))
theorem TabO.row (h : TabO B w v L) {v' : Value} {L' : List Ent} (ho : OwnK 156 encE 2 B w' v' L') (hg : w.grownBy w' v.ownBlock) (hm : ∀ x ∈ L', ∃ y ∈ L, x.v = y.v ∧ x.ps = y.ps) (hp : L'.Pairwise (fun a b => Apart a.v b.v)) : TabO B w' v' L' := by
  refine ⟨ho, fun x hx => ?_, hp⟩
  obtain ⟨y, hy, e1, e2⟩ := hm x hx
  rw [e1, e2]
  exact h.names hg y hy
theorem TabO.lt (h : TabO B w v L) : (∀ g, v.ownBlock = some g → B ≤ g ∧ g < w.heap.size) ∧ ∀ x ∈ L, ∀ g, x.v.ownBlock = some g → B ≤ g ∧ g < w.heap.size := ⟨h.1.lt, fun x hx => (h.2.1 x hx).lt⟩
/-- One entry more. -/
theorem TabO.push (h : TabO B w v L) {x : Ent} (hx : Own 9 Value.string B w x.v x.ps) (hap : ∀ y ∈ L, Apart y.v x.v) {v' : Value} (ho : OwnK 156 encE 2 B w' v' (L ++ [x])) (hg : w.grownBy w' v.ownBlock) : TabO B w' v' (L ++ [x]) := by
  refine ⟨ho, fun y hy => ?_, ?_⟩
  · rcases List.mem_append.1 hy with hy | hy
    · exact h.names hg y hy
    · rw [List.mem_singleton.1 hy]; exact hx.grown hg (apart_or (name_row hx h.1))
  · rw [List.pairwise_append]
    exact ⟨h.2.2, by simp, fun a ha b hb => by rw [List.mem_singleton.1 hb]; exact hap a ha⟩
theorem TabO.len (h : TabO B w v L) : L.length ≤ maxLen := h.1.len
end

/-! ### as they are read -/
def TabHolds (w : World) (v : Value) (T : List (List ByteArray × Int)) : Prop := ∃ L, strip L = T ∧ TabH w v L
def TabOwn (B : Nat) (w : World) (v : Value) (T : List (List ByteArray × Int)) : Prop := ∃ L, strip L = T ∧ TabO B w v L
def TabIn (B E : Nat) (w : World) (v : Value) (T : List (List ByteArray × Int)) : Prop := ∃ L, strip L = T ∧ TabO B w v L ∧ (∀ g, v.ownBlock = some g → g < E) ∧ ∀ x ∈ L, ∀ g, x.v.ownBlock = some g → g < E
section
variable {B E B' E' : Nat} {w w' : World} {v : Value} {l : List ByteArray} {T : List (List ByteArray × Int)}
theorem TabIn.of (h : TabOwn B w v T) : TabIn B w.heap.size w v T := by
  obtain ⟨L, e, h⟩ := h
  exact ⟨L, e, h, fun g hg => (h.lt.1 g hg).2, fun x hx g hg => (h.lt.2 x hx g hg).2⟩
theorem TabIn.on (h : TabIn B E w v T) (hb : Below w.heap.size w w') : TabIn B E w' v T := by
  obtain ⟨L, e, h, h1, h2⟩ := h
  exact ⟨L, e, h.on hb, h1, h2⟩
theorem TabIn.own (h : TabIn B E w v T) : TabOwn B w v T := by
  obtain ⟨L, e, h, -, -⟩ := h
  exact ⟨L, e, h⟩
theorem TabOwn.holds (h : TabOwn B w v T) : TabHolds w v T := by
  obtain ⟨L, e, h⟩ := h
  exact ⟨L, e, h.holds⟩
theorem TabIn.holds (h : TabIn B E w v T) : TabHolds w v T := h.own.holds
theorem TabOwn.mono (h : TabOwn B w v T) (hB : B' ≤ B) : TabOwn B' w v T := by
  obtain ⟨L, e, h⟩ := h
  exact ⟨L, e, h.mono hB⟩
theorem TabOwn.on (h : TabOwn B w v T) (hb : Below w.heap.size w w') : TabOwn B w' v T := by
  obtain ⟨L, e, h⟩ := h
  exact ⟨L, e, h.on hb⟩
theorem TabHolds.on (h : TabHolds w v T) (hb : Below w.heap.size w w') : TabHolds w' v T := by
  obtain ⟨L, e, h⟩ := h
  exact ⟨L, e, h.on hb⟩
theorem TabHolds.shapeN (h : TabHolds w v T) : ∃ x n cap, v = .slice x n cap ∧ n = T.length ∧ n ≤ cap ∧ TabHolds w (.slice x n cap) T := by
  obtain ⟨L, e, h⟩ := h
  obtain ⟨x, n, cap, rfl, hn, hc, ho⟩ := h.shapeN
  exact ⟨x, n, cap, rfl, by rw [hn, ← e, strip_length], hc, L, e, ho⟩
theorem TabOwn.shapeN (h : TabOwn B w v T) : ∃ x n cap, v = .slice x n cap ∧ n = T.length ∧ n ≤ cap ∧ TabOwn B w (.slice x n cap) T := by
  obtain ⟨L, e, h⟩ := h
  obtain ⟨x, n, cap, rfl, hn, hc, ho⟩ := h.shapeN
  exact ⟨x, n, cap, rfl, by rw [hn, ← e, strip_length], hc, L, e, ho⟩
end
end Go.Proofs.YtcidfmmeonhkhaaGreatDoor.Row.Ring
