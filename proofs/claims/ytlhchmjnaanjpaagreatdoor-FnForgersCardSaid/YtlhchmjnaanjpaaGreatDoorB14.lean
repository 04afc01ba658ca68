/- Contracts and mathematics, joined: SealC, PortF. No conditions but those that each states. -/
import Derived.Test.YtlhchmjnaanjpaaGreatDoorB11
import Derived.Deep.RegionHeld3
import Derived.Test.YtlhchmjnaanjpaaGreatDoorB10
import Derived.Test.YtlhchmjnaanjpaaGreatDoorB13
/- Contracts of chapter 3's Encrypt, Decrypt and DeriveSecret, the reference model's, and the program's DeriveSecret. No conditions but that lengths fit and that the elements are bytes. -/
namespace Go.Proofs.YtlhchmjnaanjpaaGreatDoor.Sl
open Go.ChangeShapes Go.WideShapes Go.ChangeAt Go.RowKit Go.Instr
open Seal (digest mac b2i derive dstep chg encF decF enc dec)
set_option linter.unusedVariables false
set_option maxRecDepth 100000
end Go.Proofs.YtlhchmjnaanjpaaGreatDoor.Sl
/- SignedPortion of the model and of the program; the program's mac, clone and sign. No conditions but that lengths fit. -/
namespace Go.Proofs.YtlhchmjnaanjpaaGreatDoor.Row
open Go.ChangeShapes Go.WideShapes Go.ChangeAt Go.RowKit Go.Instr
set_option linter.unusedVariables false
set_option maxRecDepth 100000
set_option maxHeartbeats 4000000 in
theorem specSignedPortion (a b c : Value) (x : Dt) (w : World) (h : DHold w a b c x) (hB : Sl.Byt x.2.1) (hl : smD x) :
    Calls Tryz.prog 130 #[.agg (dc a b c x.2.2.2.1 x.2.2.2.2)] w (Sl.GivesI w (portD x)) := by
  obtain ⟨l, m, k, f, s⟩ := x
  simp only at hB ⊢
  have hl1 : bulk l ≤ 1200000 := hl.1
  have hl2 : m.length ≤ 1200000 := hl.2.1
  have hl3 : bulk k ≤ 1200000 := hl.2.2
  obtain ⟨xa, na, ca, xb, nb, cb, xc, nc, cc, rfl, rfl, rfl⟩ := h.shape
  have HY := Lib.hid hB; have HL1 := Lib.hid hl1; have HL2 := Lib.hid hl2; have HL3 := Lib.hid hl3
  have HB := Lib.hid ((Below.refl w.heap.size w).alloc (Nat.le_refl _) (.cells (dc (.slice xa na ca) (.slice xb nb cb) (.slice xc nc cc) f s) 34))
  have H0 := Lib.hid (h.on HB.out)
  have HX := Lib.hid (Ret.Blk.new w (dc (.slice xa na ca) (.slice xb nb cb) (.slice xc nc cc) f s) 34)
  have HLT := Lib.hid (show (Seal.b2i (appName [] l) ++ Seal.b2i m).length ≤ 12000000 by
    have h1 := pname_len [] l
    simp only [List.length_nil] at h1
    simp only [List.length_append, Seal.b2i_length]; omega)
  clear h hB hl hl1 hl2 hl3
  go_enter Tryz.func130, Tryz.ntmps130
  go_wp2_with fail
  refine portS1 (Lib.hid H0.out.1) (Lib.hid H0.out.2.1) HY HL1 HL2 (Lib.hid (HX.out.cell 0)) (Lib.hid (HX.out.cell 1)) (Lib.hid (HX.out.cell 2)) (Lib.hid (HX.out.cell 3)) (Lib.hid (HX.out.cell 4)) ?_
  intro u4 u5 u6 u7 u8 u9 u10 u11 u12 v12 wx ho hb
  have HO := Lib.hid ho
  have HB2 := Lib.hid (HB.out.trans (hb.mono HB.out.size))
  have HX2 := Lib.hid (HX.out.on hb)
  have H2 := Lib.hid (H0.out.on hb)
  have HW := Lib.hid hb.size
  have HP := Lib.hid (show w.heap.size < (w.alloc (.cells (dc (.slice xa na ca) (.slice xb nb cb) (.slice xc nc cc) f s) 34)).heap.size by simp)
  clear ho hb
  go_wp2_with fail
  refine portS2 (Lib.hid H2.out.2.2) HL3 HLT HO HW HP (Lib.hid (HX2.out.cell 0)) (Lib.hid (HX2.out.cell 1)) (Lib.hid (HX2.out.cell 2)) (Lib.hid (HX2.out.cell 3)) (Lib.hid (HX2.out.cell 4)) ?_
  intro u13 u14 u15 u16 u17 u18 u19 u20 u21 u22 u23 v23 w2 ho hb
  have HO2 := Lib.hid ho
  have HB3 := Lib.hid ((HB.out.trans ((Below.refl _ _).mono (Nat.le_refl _))))
  have HBX := Lib.hid hb
  clear ho hb
  go_wp2_with fail
  go_ret
  exact ⟨_, rfl, HO2.out.mono HB.out.size, HB2.out.trans (HBX.out.mono HB.out.size)⟩
set_option maxHeartbeats 4000000 in
theorem implPortion (g : Nat) (a b c : Value) (x : Dt) (w : World) (hx : Ret.Blk w g (dc a b c x.2.2.2.1 x.2.2.2.2) 34) (h : DHold w a b c x) (hB : Sl.Byt x.2.1) (hl : smD x) :
    Calls Tryz.prog 152 #[.pointer (some ⟨g, 0, none⟩)] w (Sl.GivesI w (portD x)) := by
  obtain ⟨l, m, k, f, s⟩ := x
  simp only at hB hx ⊢
  have hl1 : bulk l ≤ 1200000 := hl.1
  have hl2 : m.length ≤ 1200000 := hl.2.1
  have hl3 : bulk k ≤ 1200000 := hl.2.2
  obtain ⟨xa, na, ca, xb, nb, cb, xc, nc, cc, rfl, rfl, rfl⟩ := h.shape
  have HY := Lib.hid hB; have HL1 := Lib.hid hl1; have HL2 := Lib.hid hl2; have HL3 := Lib.hid hl3
  have H0 := Lib.hid h
  have HX := Lib.hid hx
  have HLT := Lib.hid (show (Seal.b2i (appName [] l) ++ Seal.b2i m ++ Seal.b2i (appName [] k) ++ [f]).length ≤ 10000000 from Nat.le_trans (portD_small (l, m, k, f, s)) (by show 1000 + m.length ≤ _; omega))
  clear h hx hB hl hl1 hl2 hl3
  go_enter Tryz.func152, Tryz.ntmps152
  go_wp2_with fail
  refine portI (Lib.hid H0.out.1) (Lib.hid H0.out.2.1) HY HL1 HL2 (Lib.hid H0.out.2.2) HL3 HLT (Lib.hid (HX.out.cell 0)) (Lib.hid (HX.out.cell 1)) (Lib.hid (HX.out.cell 2)) (Lib.hid (HX.out.cell 3)) (Lib.hid (HX.out.cell 4)) ?_
  intro u3 u4 u5 u6 u7 u8 u9 u10 u11 u12 u13 u14 u15 u16 u17 u18 u19 u20 u21 u22 u23 u24 u25 u26 v26 w2 ho hb
  have HO2 := Lib.hid ho
  have HB2 := Lib.hid hb
  clear ho hb
  go_wp2_with fail
  go_ret
  exact ⟨_, rfl, HO2.out, HB2.out⟩
set_option maxHeartbeats 4000000 in
theorem implMac (g : Nat) (a b c : Value) (x : Dt) (w : World) (hx : Ret.Blk w g (dc a b c x.2.2.2.1 x.2.2.2.2) 34) (h : DHold w a b c x) (hB : Sl.Byt x.2.1) (hl : smD x) (t : Int) :
    Calls Tryz.prog 118 #[.pointer (some ⟨g, 0, none⟩), .int .i64 t] w (Sl.GivesN w (Seal.mac t (portD x))) := by
  have HC := Lib.hid (implPortion g a b c x w hx h hB hl)
  have HLN := Lib.hid (show (portD x).length ≤ 9000000 from Nat.le_trans (portD_small x) (by have := hl.2.1; omega))
  clear h hB hx hl
  go_enter Tryz.func118, Tryz.ntmps118
  go_wp2_with fail
  refine HC.out.mono ?_
  rintro e w1 ⟨v1, rfl, ho, hb⟩
  have HO := Lib.hid ho.holds; have HB2 := Lib.hid hb
  clear ho hb
  go_wp2_with fail
  refine (Sl.implComputeMAC t _ (portD x) _ HO.out HLN.out).mono ?_
  rintro e w2 ⟨rfl, hb⟩
  have HB3 := Lib.hid (HB2.out.trans (hb.mono HB2.out.size)); clear hb
  go_wp2_with fail
  go_ret
  exact ⟨rfl, HB3.out⟩
set_option maxHeartbeats 1000000 in
theorem cloneBs (v : Value) (l : List Int) (w : World) (h : Sl.Holds .u8 w v l) (hl : l.length ≤ 9000000) :
    Calls Tryz.prog 154 #[v] w (Sl.GivesB w l) := by
  obtain ⟨x, cx, rfl, hcx, hh⟩ := h.shape
  cases x with
  | none =>
    have hl0 : l = [] := by
      obtain ⟨x', cap', hv, hc', hh'⟩ := hh
      cases hv
      rcases hh' with h1 | ⟨b, off, h1, _⟩
      · exact h1
      · cases h1
    subst hl0
    have hq : ∀ w : World, (binOp .eql 22 (.slice none 0 cx) (.slice none 0 0)).run Tryz.prog w = .ok (.bool true) w := fun w => by
      exact Lib.run_eql_slice_nil w _ _ _ _ _ _ _ Tryz.underlying22
    clear hh h
    simp only [List.length_nil]
    go_enter Tryz.func154, Tryz.ntmps154
    go_wp2
    go_ret
    exact ⟨_, rfl, Sl.Own.nil _ _ _ _, Below.refl _ _⟩
  | some ad =>
    have HB := Lib.hid ((Below.refl w.heap.size w).alloc (Nat.le_refl _) (.cells #[] 5))
    have HH := Lib.hid (hh.on HB.out)
    have HO := Lib.hid (Sl.own_empty .u8 5 w)
    have hq : ∀ w : World, (binOp .eql 22 (.slice (some ad) l.length cx) (.slice none 0 0)).run Tryz.prog w = .ok (.bool false) w := fun w => by
      exact Lib.run_eql_slice_nil w _ _ _ _ _ _ _ Tryz.underlying22
    clear hh h
    go_enter Tryz.func154, Tryz.ntmps154
    go_wp2_with (at_builtin; refine Sl.wpList_app (k := .u8) (B := w.heap.size) (l := []) (m := l) rfl _ _ rfl Tryz.underlying22 Sl.elemBYTE rfl rfl rfl HO.out HH.out (by simp; omega) (by decide) (by simp) ?_)
    intro v2 w2 ho hg
    have HO2 := Lib.hid ho; have HB2 := Lib.hid (HB.out.grown hg (by simp) (fun g hh => (HO.out.lt g hh).1))
    clear ho hg
    go_wp2_with fail
    go_ret
    exact ⟨_, rfl, HO2.out, HB2.out⟩
set_option maxHeartbeats 4000000 in
theorem cloneD (g : Nat) (a b c : Value) (x : Dt) (w : World) (hx : Ret.Blk w g (dc a b c x.2.2.2.1 x.2.2.2.2) 34) (h : DHold w a b c x) (h1 : x.1.length ≤ 9000000) (h2 : x.2.1.length ≤ 9000000) (h3 : x.2.2.1.length ≤ 9000000) :
    Calls Tryz.prog 123 #[.pointer (some ⟨g, 0, none⟩)] w (GivesD w x) := by
  obtain ⟨l, m, k, f, s⟩ := x
  unfold GivesD
  simp only at h1 h2 h3 hx ⊢
  obtain ⟨xa, na, ca, xb, nb, cb, xc, nc, cc, rfl, rfl, rfl⟩ := h.shape
  have hg0 := hx.lt
  have hb1 := (Below.refl w.heap.size w).alloc (Nat.le_refl _) (.cells (dc nil nil nil 0 0) 34)
  have hb2 := hb1.alloc (by simp) (.cells (dc (.slice xa na ca) (.slice xb nb cb) (.slice xc nc cc) f s) 34)
  have HB := Lib.hid hb2
  have H0 := Lib.hid h
  have HX := Lib.hid (hx.on hb2)
  have HR := Lib.hid ((Ret.Blk.new w (dc nil nil nil 0 0) 34).on ((Below.refl _ _).alloc (Nat.le_refl _) (.cells (dc (.slice xa na ca) (.slice xb nb cb) (.slice xc nc cc) f s) 34)))
  have HL := Lib.hid (Ret.Blk.new' (w := w.alloc (.cells (dc nil nil nil 0 0) 34)) (n := w.heap.size + 1) (dc (.slice xa na ca) (.slice xb nb cb) (.slice xc nc cc) f s) 34 (by simp))
  have hz0 : ((w.alloc (.cells (dc nil nil nil 0 0) 34)).alloc (.cells (dc (.slice xa na ca) (.slice xb nb cb) (.slice xc nc cc) f s) 34)).heap.size = w.heap.size + 2 := by simp
  have q0 : w.cell? ⟨g, 0, none⟩ = some (.slice xa na ca) := hx.cell 0
  have q1 : w.cell? ⟨g, 1, none⟩ = some (.slice xb nb cb) := hx.cell 1
  have q2 : w.cell? ⟨g, 2, none⟩ = some (.slice xc nc cc) := hx.cell 2
  have q3 : w.cell? ⟨g, 3, none⟩ = some (.int .i64 f) := hx.cell 3
  have q4 : w.cell? ⟨g, 4, none⟩ = some (.int .i64 s) := hx.cell 4
  clear h hx hb1 hb2
  go_enter Tryz.func123, Tryz.ntmps123
  go_wp2_with fail
  clear q0 q1 q2 q3 q4
  refine (cloneName _ l _ (H0.out.on HB.out).1 (by omega)).mono ?_
  rintro e w1 ⟨a1, rfl, ho1, hb1⟩
  obtain ⟨ya, ma, da, rfl, -, -, ho1⟩ := ho1.shapeN
  have hs1 := hb1.size
  rw [hz0] at ho1 hs1
  replace HX := Lib.hid (HX.out.on hb1); replace HR := Lib.hid (HR.out.on hb1); replace HL := Lib.hid (HL.out.on hb1)
  replace HB := Lib.hid (HB.out.trans (hb1.mono HB.out.size))
  have HO1 := Lib.hid ho1
  have HLA := Lib.hid (fun g hg => (ho1.lt g hg).2)
  clear ho1 hb1 hz0
  have q0 : w1.cell? ⟨g, 0, none⟩ = some (.slice xa na ca) := HX.out.cell 0
  have q1 : w1.cell? ⟨g, 1, none⟩ = some (.slice xb nb cb) := HX.out.cell 1
  have q2 : w1.cell? ⟨g, 2, none⟩ = some (.slice xc nc cc) := HX.out.cell 2
  have q3 : w1.cell? ⟨g, 3, none⟩ = some (.int .i64 f) := HX.out.cell 3
  have q4 : w1.cell? ⟨g, 4, none⟩ = some (.int .i64 s) := HX.out.cell 4
  have p0 : w1.cell? ⟨w.heap.size + 1, 0, none⟩ = some (.slice xa na ca) := HL.out.cell 0
  have p1 : w1.cell? ⟨w.heap.size + 1, 1, none⟩ = some (.slice xb nb cb) := HL.out.cell 1
  have p2 : w1.cell? ⟨w.heap.size + 1, 2, none⟩ = some (.slice xc nc cc) := HL.out.cell 2
  have p3 : w1.cell? ⟨w.heap.size + 1, 3, none⟩ = some (.int .i64 f) := HL.out.cell 3
  have p4 : w1.cell? ⟨w.heap.size + 1, 4, none⟩ = some (.int .i64 s) := HL.out.cell 4
  have t0 := HL.out.frozen 0; have t1 := HL.out.frozen 1; have t2 := HL.out.frozen 2; have t3 := HL.out.frozen 3; have t4 := HL.out.frozen 4
  go_wp2_with fail
  clear q0 q1 q2 q3 q4 p0 p1 p2 p3 p4 t0 t1 t2 t3 t4
  replace HX := Lib.hid (HX.out.other (a := ⟨w.heap.size + 1, 0, none⟩) (by show w.heap.size + 1 ≠ g; omega) (.slice ya ma da))
  replace HR := Lib.hid (HR.out.other (a := ⟨w.heap.size + 1, 0, none⟩) (by show w.heap.size + 1 ≠ w.heap.size; omega) (.slice ya ma da))
  replace HL := Lib.hid (HL.out.set 0 (.slice ya ma da))
  replace HB := Lib.hid (HB.out.setCell (p := ⟨w.heap.size + 1, 0, none⟩) (by show w.heap.size ≤ w.heap.size + 1; omega) (.slice ya ma da))
  replace HO1 := Lib.hid (own_set (g := w.heap.size + 1) (i := 0) (u := .slice ya ma da) HO1.out (by omega))
  refine (cloneBs _ m _ (H0.out.on HB.out).2.1 (by omega)).mono ?_
  rintro e w2 ⟨b1, rfl, ho2, hb2⟩
  obtain ⟨yb, mb, db, rfl, -, -, ho2⟩ := Own.shapeN (enc := Value.int .u8) ho2
  replace ho2 : Sl.Own 5 .u8 _ w2 (.slice yb mb db) m := ho2
  have hs2 := hb2.size
  simp only [World.size_setCell] at hs2 ho2
  replace HX := Lib.hid (HX.out.on hb2); replace HR := Lib.hid (HR.out.on hb2); replace HL := Lib.hid (HL.out.on hb2)
  replace HO1 := Lib.hid (HO1.out.on hb2)
  replace HB := Lib.hid (HB.out.trans (hb2.mono HB.out.size))
  have HO2 := Lib.hid ho2
  have HLB := Lib.hid (fun g hg => (ho2.lt g hg).2)
  clear ho2 hb2
  have q0 : w2.cell? ⟨g, 0, none⟩ = some (.slice xa na ca) := HX.out.cell 0
  have q1 : w2.cell? ⟨g, 1, none⟩ = some (.slice xb nb cb) := HX.out.cell 1
  have q2 : w2.cell? ⟨g, 2, none⟩ = some (.slice xc nc cc) := HX.out.cell 2
  have q3 : w2.cell? ⟨g, 3, none⟩ = some (.int .i64 f) := HX.out.cell 3
  have q4 : w2.cell? ⟨g, 4, none⟩ = some (.int .i64 s) := HX.out.cell 4
  have p0 : w2.cell? ⟨w.heap.size + 1, 0, none⟩ = some (.slice ya ma da) := HL.out.cell 0
  have p1 : w2.cell? ⟨w.heap.size + 1, 1, none⟩ = some (.slice xb nb cb) := HL.out.cell 1
  have p2 : w2.cell? ⟨w.heap.size + 1, 2, none⟩ = some (.slice xc nc cc) := HL.out.cell 2
  have p3 : w2.cell? ⟨w.heap.size + 1, 3, none⟩ = some (.int .i64 f) := HL.out.cell 3
  have p4 : w2.cell? ⟨w.heap.size + 1, 4, none⟩ = some (.int .i64 s) := HL.out.cell 4
  have t0 := HL.out.frozen 0; have t1 := HL.out.frozen 1; have t2 := HL.out.frozen 2; have t3 := HL.out.frozen 3; have t4 := HL.out.frozen 4
  go_wp2_with fail
  clear q0 q1 q2 q3 q4 p0 p1 p2 p3 p4 t0 t1 t2 t3 t4
  replace HX := Lib.hid (HX.out.other (a := ⟨w.heap.size + 1, 1, none⟩) (by show w.heap.size + 1 ≠ g; omega) (.slice yb mb db))
  replace HR := Lib.hid (HR.out.other (a := ⟨w.heap.size + 1, 1, none⟩) (by show w.heap.size + 1 ≠ w.heap.size; omega) (.slice yb mb db))
  replace HL := Lib.hid (HL.out.set 1 (.slice yb mb db))
  replace HB := Lib.hid (HB.out.setCell (p := ⟨w.heap.size + 1, 1, none⟩) (by show w.heap.size ≤ w.heap.size + 1; omega) (.slice yb mb db))
  replace HO1 := Lib.hid (own_set (g := w.heap.size + 1) (i := 1) (u := .slice yb mb db) HO1.out (by omega))
  replace HO2 := Lib.hid (sl_own_set (g := w.heap.size + 1) (i := 1) (u := .slice yb mb db) HO2.out (by omega))
  refine (cloneName _ k _ (H0.out.on HB.out).2.2 (by omega)).mono ?_
  rintro e w3 ⟨c1, rfl, ho3, hb3⟩
  obtain ⟨yc, mc, dc_, rfl, -, -, ho3⟩ := ho3.shapeN
  have hs3 := hb3.size
  simp only [World.size_setCell] at hs3 ho3
  replace HX := Lib.hid (HX.out.on hb3); replace HR := Lib.hid (HR.out.on hb3); replace HL := Lib.hid (HL.out.on hb3)
  replace HO1 := Lib.hid (HO1.out.on hb3); replace HO2 := Lib.hid (HO2.out.on hb3)
  replace HB := Lib.hid (HB.out.trans (hb3.mono HB.out.size))
  have HO3 := Lib.hid ho3
  clear ho3 hb3
  have q0 : w3.cell? ⟨g, 0, none⟩ = some (.slice xa na ca) := HX.out.cell 0
  have q1 : w3.cell? ⟨g, 1, none⟩ = some (.slice xb nb cb) := HX.out.cell 1
  have q2 : w3.cell? ⟨g, 2, none⟩ = some (.slice xc nc cc) := HX.out.cell 2
  have q3 : w3.cell? ⟨g, 3, none⟩ = some (.int .i64 f) := HX.out.cell 3
  have q4 : w3.cell? ⟨g, 4, none⟩ = some (.int .i64 s) := HX.out.cell 4
  have p0 : w3.cell? ⟨w.heap.size + 1, 0, none⟩ = some (.slice ya ma da) := HL.out.cell 0
  have p1 : w3.cell? ⟨w.heap.size + 1, 1, none⟩ = some (.slice yb mb db) := HL.out.cell 1
  have p2 : w3.cell? ⟨w.heap.size + 1, 2, none⟩ = some (.slice xc nc cc) := HL.out.cell 2
  have p3 : w3.cell? ⟨w.heap.size + 1, 3, none⟩ = some (.int .i64 f) := HL.out.cell 3
  have p4 : w3.cell? ⟨w.heap.size + 1, 4, none⟩ = some (.int .i64 s) := HL.out.cell 4
  have t0 := HL.out.frozen 0; have t1 := HL.out.frozen 1; have t2 := HL.out.frozen 2; have t3 := HL.out.frozen 3; have t4 := HL.out.frozen 4
  have r0 : w3.cell? ⟨w.heap.size, 0, none⟩ = some (.slice none 0 0) := HR.out.cell 0
  have r1 : w3.cell? ⟨w.heap.size, 1, none⟩ = some (.slice none 0 0) := HR.out.cell 1
  have r2 : w3.cell? ⟨w.heap.size, 2, none⟩ = some (.slice none 0 0) := HR.out.cell 2
  have r3 : w3.cell? ⟨w.heap.size, 3, none⟩ = some (.int .i64 0) := HR.out.cell 3
  have r4 : w3.cell? ⟨w.heap.size, 4, none⟩ = some (.int .i64 0) := HR.out.cell 4
  have z0 := HR.out.frozen 0; have z1 := HR.out.frozen 1; have z2 := HR.out.frozen 2; have z3 := HR.out.frozen 3; have z4 := HR.out.frozen 4
  have Z1 := Lib.hid ((((((HR.out.other (a := ⟨w.heap.size + 1, 2, none⟩) (by show w.heap.size + 1 ≠ w.heap.size; omega) (.slice yc mc dc_)).set 0 (.slice ya ma da)).set 1 (.slice yb mb db)).set 2 (.slice yc mc dc_)).set 3 (.int .i64 f)).set 4 (.int .i64 s))
  have Z2 := Lib.hid (own_set (g := w.heap.size) (i := 4) (u := .int .i64 s) (own_set (g := w.heap.size) (i := 3) (u := .int .i64 f) (own_set (g := w.heap.size) (i := 2) (u := .slice yc mc dc_) (own_set (g := w.heap.size) (i := 1) (u := .slice yb mb db) (own_set (g := w.heap.size) (i := 0) (u := .slice ya ma da) (own_set (g := w.heap.size + 1) (i := 2) (u := .slice yc mc dc_) HO1.out (by omega)) (by omega)) (by omega)) (by omega)) (by omega)) (by omega))
  have Z3 := Lib.hid (sl_own_set (g := w.heap.size) (i := 4) (u := .int .i64 s) (sl_own_set (g := w.heap.size) (i := 3) (u := .int .i64 f) (sl_own_set (g := w.heap.size) (i := 2) (u := .slice yc mc dc_) (sl_own_set (g := w.heap.size) (i := 1) (u := .slice yb mb db) (sl_own_set (g := w.heap.size) (i := 0) (u := .slice ya ma da) (sl_own_set (g := w.heap.size + 1) (i := 2) (u := .slice yc mc dc_) HO2.out (by omega)) (by omega)) (by omega)) (by omega)) (by omega)) (by omega))
  have Z4 := Lib.hid (own_set (g := w.heap.size) (i := 4) (u := .int .i64 s) (own_set (g := w.heap.size) (i := 3) (u := .int .i64 f) (own_set (g := w.heap.size) (i := 2) (u := .slice yc mc dc_) (own_set (g := w.heap.size) (i := 1) (u := .slice yb mb db) (own_set (g := w.heap.size) (i := 0) (u := .slice ya ma da) (own_set (g := w.heap.size + 1) (i := 2) (u := .slice yc mc dc_) HO3.out (by omega)) (by omega)) (by omega)) (by omega)) (by omega)) (by omega))
  have Z5 := Lib.hid ((((((HB.out.setCell (p := ⟨w.heap.size + 1, 2, none⟩) (by show w.heap.size ≤ w.heap.size + 1; omega) (.slice yc mc dc_)).setCell (p := ⟨w.heap.size, 0, none⟩) (by show w.heap.size ≤ w.heap.size; omega) (.slice ya ma da)).setCell (p := ⟨w.heap.size, 1, none⟩) (by show w.heap.size ≤ w.heap.size; omega) (.slice yb mb db)).setCell (p := ⟨w.heap.size, 2, none⟩) (by show w.heap.size ≤ w.heap.size; omega) (.slice yc mc dc_)).setCell (p := ⟨w.heap.size, 3, none⟩) (by show w.heap.size ≤ w.heap.size; omega) (.int .i64 f)).setCell (p := ⟨w.heap.size, 4, none⟩) (by show w.heap.size ≤ w.heap.size; omega) (.int .i64 s))
  go_wp2_with fail
  refine bodyPost_ret (Ret.results_c rfl _ _ w.heap.size (dc (.slice ya ma da) (.slice yb mb db) (.slice yc mc dc_) f s).toList rfl aggD Z1.out.cells) rfl ?_
  have hlb := fun g hg => (Sl.Own.lt Z3.out g hg).1
  have hlc := fun g hg => (Own.lt Z4.out g hg).1
  exact ⟨_, _, _, rfl, ⟨Z2.out.mono (by omega), Sl.Own.mono Z3.out (by omega), Z4.out.mono (by omega), fun g e1 e2 => by have h5 := HLA.out g e1; have h6 := hlb g e2; omega, fun g e1 e2 => by have h5 := HLA.out g e1; have h6 := hlc g e2; omega, fun g e1 e2 => by have h5 := HLB.out g e1; have h6 := hlc g e2; omega⟩, Z5.out⟩
end Go.Proofs.YtlhchmjnaanjpaaGreatDoor.Row
