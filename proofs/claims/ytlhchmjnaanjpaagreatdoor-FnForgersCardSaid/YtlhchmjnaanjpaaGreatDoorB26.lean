/- Contracts and mathematics, joined: TrustK, TrustN. No conditions but those that each states. -/
import Derived.WalkKit
import Derived.Deep.RegionHeld3
import Derived.BigQuiet
import Derived.Test.YtlhchmjnaanjpaaGreatDoorB24
import Derived.Test.YtlhchmjnaanjpaaGreatDoorB25
import Derived.Test.YtlhchmjnaanjpaaGreatDoorB2
import Derived.Test.YtlhchmjnaanjpaaGreatDoorB11
/- Chains of keys: the mathematics; the program's isSignedByAllowedKey, chainOf, TrustChain, IsTrusted. The library's variable errorType as laid. No other conditions but that lengths fit. -/
namespace Go.Proofs.YtlhchmjnaanjpaaGreatDoor.Row
open Go.ChangeShapes Go.WideShapes Go.ChangeAt Go.RowKit Go.Instr
set_option linter.unusedVariables false
set_option maxRecDepth 100000
section
variable {t : Tpt} {x : Dzt} {now : Int} {j : Nat}
theorem chainT_bad (h : sigT t x = false) : chainT t now (j + 1) x = none := by unfold chainT; rw [h]; rfl
theorem chainT_anchor (h : sigT t x = true) (ha : anchorT t.2.2.1 x.2.2.1 = true) : chainT t now (j + 1) x = some [x.2.2.1] := by unfold chainT; rw [h, ha]; rfl
theorem chainT_lost (h : sigT t x = true) (ha : anchorT t.2.2.1 x.2.2.1 = false) (hf : findC t x.2.2.1 now < 0) : chainT t now (j + 1) x = none := by unfold chainT; rw [h, ha]; simp [hf]
theorem chainT_next (h : sigT t x = true) (ha : anchorT t.2.2.1 x.2.2.1 = false) {i : Nat} (hf : findC t x.2.2.1 now = (i : Int)) : chainT t now (j + 1) x = (chainT t now j (nth t.2.2.2 i)).map (x.2.2.1 :: ·) := by
  rw [chainT.eq_2, if_pos h, ha, hf, if_neg (by decide), if_neg (by omega)]
  rfl
theorem map_snoc {A : List Nnt} {n : Nnt} {o : Option (List Nnt)} : (o.map (n :: ·)).map (A ++ ·) = o.map ((A ++ [n]) ++ ·) := by
  cases o <;> simp
end
theorem own_five {α M : Type} {k : Kd α M} {B E g : Nat} {w : World} {m : M} {a b c f s : Value} (h : k.Own B E w m) (hg : g < B) : k.Own B E ((((((w).setCell ⟨g, 0, none⟩ (a)).setCell ⟨g, 1, none⟩ (b)).setCell ⟨g, 2, none⟩ (c)).setCell ⟨g, 3, none⟩ (f)).setCell ⟨g, 4, none⟩ (s)) m := ((((h.set hg).set hg).set hg).set hg).set hg
theorem blk_five_other {g g2 : Nat} {w : World} {cs : Array Value} {ty : TypeId} {a b c f s : Value} (h : Ret.Blk w g2 cs ty) (hne : g ≠ g2) : Ret.Blk ((((((w).setCell ⟨g, 0, none⟩ (a)).setCell ⟨g, 1, none⟩ (b)).setCell ⟨g, 2, none⟩ (c)).setCell ⟨g, 3, none⟩ (f)).setCell ⟨g, 4, none⟩ (s)) g2 cs ty := ((((h.other hne a).other hne b).other hne c).other hne f).other hne s
theorem cert_at {w : World} {x3 : Option Addr} {n3 c3 : Nat} {t : Tpt} {i : Nat} (h : kLDz.At w (.slice x3 n3 c3) t.2.2.2) (hi : i < t.2.2.2.length) :
    n3 = t.2.2.2.length ∧ n3 ≤ c3 ∧ ∃ (b off : Nat) (ya : Option Addr) (ma da : Nat) (yb : Option Addr) (mb db : Nat) (yc : Option Addr) (mc dc_ : Nat), x3 = some ⟨b, off, none⟩ ∧ w.cell? ⟨b, off + i * 5, none⟩ = some (.slice ya ma da) ∧ w.cell? ⟨b, off + i * 5 + 1, none⟩ = some (.slice yb mb db) ∧ w.cell? ⟨b, off + i * 5 + 2, none⟩ = some (.slice yc mc dc_) ∧ w.cell? ⟨b, off + i * 5 + 3, none⟩ = some (.int .i64 (nth t.2.2.2 i).2.2.2.1) ∧ w.cell? ⟨b, off + i * 5 + 4, none⟩ = some (.int .i64 (nth t.2.2.2 i).2.2.2.2) ∧ kD.At w (.agg #[.slice ya ma da, .slice yb mb db, .slice yc mc dc_, .int .i64 (nth t.2.2.2 i).2.2.2.1, .int .i64 (nth t.2.2.2 i).2.2.2.2]) (nth t.2.2.2 i) := by
  obtain ⟨ad, k, d, L, e, hn, ht, hh, hel⟩ := kLDz_at h
  cases e
  have hl : L.length = t.2.2.2.length := by rw [← ht, List.length_map]
  obtain ⟨b, off, ya, ma, da, yb, mb, db, yc, mc, dc_, rfl, -, h0, h1, h2, h3, h4, hA⟩ := kLDz_elem hh hel (j := i) (by omega)
  have e2 : nth t.2.2.2 i = kDz.strip (nth L i) := by rw [← ht, nth_map _ (by omega)]
  rw [e2]
  exact ⟨by omega, by obtain ⟨x', n', cap', hv, hn', hc', -⟩ := hh.shapeN; cases hv; exact hc', b, off, ya, ma, da, yb, mb, db, yc, mc, dc_, rfl, h0, h1, h2, h3, h4, kD_ofK hA⟩
theorem two_news {w : World} (cs cs2 : Array Value) (t1 t2 : TypeId) : Ret.Blk ((w.alloc (.cells cs t1)).alloc (.cells cs2 t2)) w.heap.size cs t1 ∧ Ret.Blk ((w.alloc (.cells cs t1)).alloc (.cells cs2 t2)) (w.heap.size + 1) cs2 t2 ∧ Below w.heap.size w ((w.alloc (.cells cs t1)).alloc (.cells cs2 t2)) ∧ ((w.alloc (.cells cs t1)).alloc (.cells cs2 t2)).heap.size = w.heap.size + 2 := by
  have b1 := (Below.refl w.heap.size w).alloc (Nat.le_refl _) (.cells cs t1)
  have b2 := (Below.refl (w.alloc (.cells cs t1)).heap.size (w.alloc (.cells cs t1))).alloc (Nat.le_refl _) (.cells cs2 t2)
  exact ⟨(Ret.Blk.new w cs t1).on b2, Ret.Blk.new' (w := w.alloc (.cells cs t1)) (n := w.heap.size + 1) cs2 t2 (by simp), b1.trans (b2.mono b1.size), by simp⟩
set_option maxHeartbeats 4000000 in
theorem implSigned (V U : Value) (t : Tpt) (x : Dzt) (w : World) (z : Bool) (hz : sigT t x = z) (h : kTp.At w V t) (g : kD.At w U x) (hp : FitT t) (hfx : FitD x) :
    Calls Tryz.prog 79 #[V, U] w fun e w' => e = .returned (.bool z) ∧ Below w.heap.size w w' := by
  obtain ⟨x0, n0, c0, x1, n1, c1, x2, n2, c2, x3, n3, c3, rfl, g0, g1, g2, g3⟩ := kTp_at h
  obtain ⟨ya, ma, da, yb, mb, db, yc, mc, dc_, rfl, g⟩ := kD_shapeA g
  obtain ⟨k1, k2, k3, k4⟩ := two_news (w := w) #[.slice x0 n0 c0, .slice x1 n1 c1, .slice x2 n2 c2, .slice x3 n3 c3] #[.slice ya ma da, .slice yb mb db, .slice yc mc dc_, .int .i64 x.2.2.2.1, .int .i64 x.2.2.2.2] 29 34
  obtain ⟨j1, j2, j3⟩ := kDz_parts (g.on k3)
  have hx := Lib.hid k1; have hv := Lib.hid k2; have hb := Lib.hid k3
  have G0 := Lib.hid (kK_ofK (g0.on k3)); have G1 := Lib.hid (g1.on k3); have HD := Lib.hid (g.on k3); have J1 := Lib.hid j1; have J3 := Lib.hid j3
  have HP := Lib.hid hp; have HXX := Lib.hid hfx
  obtain ⟨a, ha⟩ : ∃ a, verD (Ring.lkN t.1 x.2.2.1) x = a := ⟨_, rfl⟩
  obtain ⟨b, hb2⟩ : ∃ b, decide (0 ≤ firstR t.2.1 x.1 x.2.2.1) = b := ⟨_, rfl⟩
  unfold sigT at hz
  rw [ha, hb2] at hz
  have HZ := Lib.hid hz; have HA := Lib.hid ha; have HB2 := Lib.hid hb2
  clear k1 k2 k3 k4 j1 j2 j3 g0 g1 g2 g3 g h hp hz ha hb2
  have q0 : ((w.alloc (.cells #[.slice x0 n0 c0, .slice x1 n1 c1, .slice x2 n2 c2, .slice x3 n3 c3] 29)).alloc (.cells #[.slice ya ma da, .slice yb mb db, .slice yc mc dc_, .int .i64 x.2.2.2.1, .int .i64 x.2.2.2.2] 34)).cell? ⟨w.heap.size, 0, none⟩ = some (.slice x0 n0 c0) := hx.out.cell 0
  have q1 : ((w.alloc (.cells #[.slice x0 n0 c0, .slice x1 n1 c1, .slice x2 n2 c2, .slice x3 n3 c3] 29)).alloc (.cells #[.slice ya ma da, .slice yb mb db, .slice yc mc dc_, .int .i64 x.2.2.2.1, .int .i64 x.2.2.2.2] 34)).cell? ⟨w.heap.size, 1, none⟩ = some (.slice x1 n1 c1) := hx.out.cell 1
  have q2 : ((w.alloc (.cells #[.slice x0 n0 c0, .slice x1 n1 c1, .slice x2 n2 c2, .slice x3 n3 c3] 29)).alloc (.cells #[.slice ya ma da, .slice yb mb db, .slice yc mc dc_, .int .i64 x.2.2.2.1, .int .i64 x.2.2.2.2] 34)).cell? ⟨w.heap.size, 2, none⟩ = some (.slice x2 n2 c2) := hx.out.cell 2
  have q3 : ((w.alloc (.cells #[.slice x0 n0 c0, .slice x1 n1 c1, .slice x2 n2 c2, .slice x3 n3 c3] 29)).alloc (.cells #[.slice ya ma da, .slice yb mb db, .slice yc mc dc_, .int .i64 x.2.2.2.1, .int .i64 x.2.2.2.2] 34)).cell? ⟨w.heap.size, 3, none⟩ = some (.slice x3 n3 c3) := hx.out.cell 3
  have p0 : ((w.alloc (.cells #[.slice x0 n0 c0, .slice x1 n1 c1, .slice x2 n2 c2, .slice x3 n3 c3] 29)).alloc (.cells #[.slice ya ma da, .slice yb mb db, .slice yc mc dc_, .int .i64 x.2.2.2.1, .int .i64 x.2.2.2.2] 34)).cell? ⟨w.heap.size + 1, 0, none⟩ = some (.slice ya ma da) := hv.out.cell 0
  have p1 : ((w.alloc (.cells #[.slice x0 n0 c0, .slice x1 n1 c1, .slice x2 n2 c2, .slice x3 n3 c3] 29)).alloc (.cells #[.slice ya ma da, .slice yb mb db, .slice yc mc dc_, .int .i64 x.2.2.2.1, .int .i64 x.2.2.2.2] 34)).cell? ⟨w.heap.size + 1, 1, none⟩ = some (.slice yb mb db) := hv.out.cell 1
  have p2 : ((w.alloc (.cells #[.slice x0 n0 c0, .slice x1 n1 c1, .slice x2 n2 c2, .slice x3 n3 c3] 29)).alloc (.cells #[.slice ya ma da, .slice yb mb db, .slice yc mc dc_, .int .i64 x.2.2.2.1, .int .i64 x.2.2.2.2] 34)).cell? ⟨w.heap.size + 1, 2, none⟩ = some (.slice yc mc dc_) := hv.out.cell 2
  have p3 : ((w.alloc (.cells #[.slice x0 n0 c0, .slice x1 n1 c1, .slice x2 n2 c2, .slice x3 n3 c3] 29)).alloc (.cells #[.slice ya ma da, .slice yb mb db, .slice yc mc dc_, .int .i64 x.2.2.2.1, .int .i64 x.2.2.2.2] 34)).cell? ⟨w.heap.size + 1, 3, none⟩ = some (.int .i64 x.2.2.2.1) := hv.out.cell 3
  have p4 : ((w.alloc (.cells #[.slice x0 n0 c0, .slice x1 n1 c1, .slice x2 n2 c2, .slice x3 n3 c3] 29)).alloc (.cells #[.slice ya ma da, .slice yb mb db, .slice yc mc dc_, .int .i64 x.2.2.2.1, .int .i64 x.2.2.2.2] 34)).cell? ⟨w.heap.size + 1, 4, none⟩ = some (.int .i64 x.2.2.2.2) := hv.out.cell 4
  go_enter Tryz.func79, Tryz.ntmps79
  go_wp2_with fail
  refine (iVsV a HA.out G0.out HD.out HXX.out.wf HP.out.keys HXX.out.bulk).mono ?_
  rintro e w1 ⟨rfl, hb1⟩
  replace hx := Lib.hid (hx.out.on hb1); replace hv := Lib.hid (hv.out.on hb1); replace G1 := Lib.hid (G1.out.on hb1); replace J1 := Lib.hid (J1.out.on hb1); replace J3 := Lib.hid (J3.out.on hb1); replace hb := Lib.hid (hb.out.trans (hb1.mono hb.out.size)); clear hb1 q0 q1 q2 q3 p0 p1 p2 p3 p4
  have q0 : w1.cell? ⟨w.heap.size, 0, none⟩ = some (.slice x0 n0 c0) := hx.out.cell 0
  have q1 : w1.cell? ⟨w.heap.size, 1, none⟩ = some (.slice x1 n1 c1) := hx.out.cell 1
  have q2 : w1.cell? ⟨w.heap.size, 2, none⟩ = some (.slice x2 n2 c2) := hx.out.cell 2
  have q3 : w1.cell? ⟨w.heap.size, 3, none⟩ = some (.slice x3 n3 c3) := hx.out.cell 3
  have p0 : w1.cell? ⟨w.heap.size + 1, 0, none⟩ = some (.slice ya ma da) := hv.out.cell 0
  have p1 : w1.cell? ⟨w.heap.size + 1, 1, none⟩ = some (.slice yb mb db) := hv.out.cell 1
  have p2 : w1.cell? ⟨w.heap.size + 1, 2, none⟩ = some (.slice yc mc dc_) := hv.out.cell 2
  have p3 : w1.cell? ⟨w.heap.size + 1, 3, none⟩ = some (.int .i64 x.2.2.2.1) := hv.out.cell 3
  have p4 : w1.cell? ⟨w.heap.size + 1, 4, none⟩ = some (.int .i64 x.2.2.2.2) := hv.out.cell 4
  cases a with
  | false =>
    have HE : Hid (z = false) := Lib.hid (by rw [← HZ.out]; rfl)
    go_wp2_with fail
    go_ret
    exact ⟨ret_bool HE.out.symm, hb.out⟩
  | true =>
    have HE : Hid (z = b) := Lib.hid (by rw [← HZ.out]; simp)
    go_wp2_with fail
    have hc := implAllowed _ _ _ t.2.1 x.1 x.2.2.1 _ G1.out J1.out J3.out HP.out.ruleLen HP.out.ruleWt (Nat.le_trans HXX.out.name (by decide)) (Nat.le_trans HXX.out.key (by decide))
    rw [HB2.out] at hc
    refine hc.mono ?_
    clear hc
    rintro e w2 ⟨rfl, hb1⟩
    replace hb := Lib.hid (hb.out.trans (hb1.mono hb.out.size)); clear hb1
    go_wp2_with fail
    go_ret
    exact ⟨ret_bool HE.out.symm, hb.out⟩
theorem Blk_low {w w' : World} {g B : Nat} {cs : Array Value} {ty : TypeId} (h : Ret.Blk w g cs ty) (hb : Below B w w') (hg : g < B) : Ret.Blk w' g cs ty := (hb.block g hg).trans h
def ChainPost (w : World) (c : Option (List Nnt)) (e : Ending) (w' : World) : Prop :=
  (∃ L v, c = some L ∧ e = .returned (.tuple #[v, .nilIface]) ∧ kLNn.In w.heap.size w'.heap.size w' v L ∧ Below w.heap.size w w') ∨
  (c = none ∧ ∃ y n q, e = .returned (.tuple #[.slice none 0 0, .iface 68 (.agg #[.slice y n q])]) ∧ Below w.heap.size w w')
set_option maxHeartbeats 16000000 in
theorem chainOf (V U : Value) (t : Tpt) (x : Dzt) (now : Int) (w : World) (h : kTp.At w V t) (g : kD.At w U x) (hp : FitT t) (hfx : FitD x) :
    Calls Tryz.prog 35 #[V, U, .int .i64 now] w (ChainPost w (chainT t now 4 x)) := by
  obtain ⟨x0, n0, c0, x1, n1, c1, x2, n2, c2, x3, n3, c3, rfl, g0, g1, g2, g3⟩ := kTp_at h
  obtain ⟨i0, hi, hz0, hz1, hz2⟩ := info_parts kindNn.elem
  obtain ⟨ya, ma, da, yb, mb, db, yc, mc, dc_, rfl, g⟩ := kD_shapeA g
  obtain ⟨k1, k2, k3, k4⟩ := two_news (w := w) #[.slice x0 n0 c0, .slice x1 n1 c1, .slice x2 n2 c2, .slice x3 n3 c3] #[.slice ya ma da, .slice yb mb db, .slice yc mc dc_, .int .i64 x.2.2.2.1, .int .i64 x.2.2.2.2] 29 34
  have HI := Lib.hid hi; have HZ0 := Lib.hid hz0; have HZ1 := Lib.hid hz1; have HZ2 := Lib.hid hz2
  have HA := Lib.hid (show kTp.At w (.agg #[.slice x0 n0 c0, .slice x1 n1 c1, .slice x2 n2 c2, .slice x3 n3 c3]) t from h)
  have G3 := Lib.hid g3; have HD := Lib.hid g
  have HP := Lib.hid hp
  have K1 := Lib.hid k1; have K2 := Lib.hid k2; have K3 := Lib.hid k3; have K4 := Lib.hid k4; have HFX := Lib.hid hfx
  clear k1 k2 k3 k4 g0 g1 g2 g3 g h hp hfx hi hz0 hz1 hz2
  go_enter Tryz.func35, Tryz.ntmps35
  go_wp2_with (at_make; refine wpList_make_own _ rfl _ _ 26 rfl (w.heap.size + 2) 32 i0 (.agg #[.slice none 0 0]) 1 Tryz.underlying26 HI.out HZ0.out HZ1.out _ _ _ 4 rfl rfl rfl (by rw [HZ2.out]; omega) (by unfold maxLen; omega) (by have := K4.out; omega) ?_)
  intro w1 hown hgrow
  have hb1 : Below ((w.alloc (.cells #[.slice x0 n0 c0, .slice x1 n1 c1, .slice x2 n2 c2, .slice x3 n3 c3] 29)).alloc (.cells #[.slice ya ma da, .slice yb mb db, .slice yc mc dc_, .int .i64 x.2.2.2.1, .int .i64 x.2.2.2.2] 34)).heap.size ((w.alloc (.cells #[.slice x0 n0 c0, .slice x1 n1 c1, .slice x2 n2 c2, .slice x3 n3 c3] 29)).alloc (.cells #[.slice ya ma da, .slice yb mb db, .slice yc mc dc_, .int .i64 x.2.2.2.1, .int .i64 x.2.2.2.2] 34)) w1 := (Below.refl _ _).grown hgrow (Nat.le_refl _) (fun g hg => by cases hg)
  have HO := Lib.hid (show kLNn.Own (w.heap.size + 2) w1.heap.size w1 ⟨some ⟨w.heap.size + 1 + 1, 0, none⟩, 0, 4, []⟩ from Kd.own_row hown rfl)
  replace K1 := Lib.hid (K1.out.on hb1); replace K2 := Lib.hid (K2.out.on hb1); replace K3 := Lib.hid (K3.out.trans (hb1.mono K3.out.size))
  clear hown hgrow hb1 HI HZ0 HZ1 HZ2
  go_wp2_with fail
  go_loopw [8, 11] (fun u i wr => ∃ k : Nat, k ≤ 4 ∧ i = .int .i64 k ∧ ∃ (ad : Option Addr) (cap : Nat) (L : List Nnm) (xs : Dzt) (ya yb yc : Option Addr) (ma da mb db mc dc_ : Nat), u = .slice ad k cap ∧ Hid (L.length = k) ∧ Hid (kLNn.Own (w.heap.size + 2) wr.heap.size wr ⟨ad, k, cap, L⟩) ∧ Hid (chainT t now 4 x = (chainT t now (4 - k) xs).map (L.map kNn.strip ++ ·)) ∧ Hid (Ret.Blk wr w.heap.size #[.slice x0 n0 c0, .slice x1 n1 c1, .slice x2 n2 c2, .slice x3 n3 c3] 29) ∧ Hid (Ret.Blk wr (w.heap.size + 1) #[.slice ya ma da, .slice yb mb db, .slice yc mc dc_, .int .i64 xs.2.2.2.1, .int .i64 xs.2.2.2.2] 34) ∧ Hid (kD.At w (.agg #[.slice ya ma da, .slice yb mb db, .slice yc mc dc_, .int .i64 xs.2.2.2.1, .int .i64 xs.2.2.2.2]) xs) ∧ Hid (FitD xs) ∧ Hid (Below w.heap.size w wr)) (fun _ i _ => 4 - (intOf i).toNat)
  case atStart => exact ⟨0, Nat.zero_le _, rfl, _, _, [], x, ya, yb, yc, ma, da, mb, db, mc, dc_, rfl, Lib.hid rfl, HO, Lib.hid (by simp), K1, K2, HD, HFX, K3⟩
  case round =>
    clear K1 K2 K3 K4 HD HFX HO
    obtain ⟨k, hk, rfl, ad, cap, L, xs, ya, yb, yc, ma, da, mb, db, mc, dc_, rfl, hL, ho, hch, hx, hv, hd, hf, hb⟩ := hrel
    have q0 : wr.cell? ⟨w.heap.size, 0, none⟩ = some (.slice x0 n0 c0) := hx.out.cell 0
    have q1 : wr.cell? ⟨w.heap.size, 1, none⟩ = some (.slice x1 n1 c1) := hx.out.cell 1
    have q2 : wr.cell? ⟨w.heap.size, 2, none⟩ = some (.slice x2 n2 c2) := hx.out.cell 2
    have q3 : wr.cell? ⟨w.heap.size, 3, none⟩ = some (.slice x3 n3 c3) := hx.out.cell 3
    have p0 : wr.cell? ⟨w.heap.size + 1, 0, none⟩ = some (.slice ya ma da) := hv.out.cell 0
    have p1 : wr.cell? ⟨w.heap.size + 1, 1, none⟩ = some (.slice yb mb db) := hv.out.cell 1
    have p2 : wr.cell? ⟨w.heap.size + 1, 2, none⟩ = some (.slice yc mc dc_) := hv.out.cell 2
    have p3 : wr.cell? ⟨w.heap.size + 1, 3, none⟩ = some (.int .i64 xs.2.2.2.1) := hv.out.cell 3
    have p4 : wr.cell? ⟨w.heap.size + 1, 4, none⟩ = some (.int .i64 xs.2.2.2.2) := hv.out.cell 4
    by_cases hlt : k < 4
    · obtain ⟨j, hj⟩ : ∃ j, 4 - k = j + 1 := ⟨3 - k, by omega⟩
      rw [hj] at hch
      have hj2 := Lib.hid (show 4 - (k + 1) = j by omega)
      clear hj
      obtain ⟨a, ha⟩ : ∃ a, sigT t xs = a := ⟨_, rfl⟩
      have HS := Lib.hid ha
      clear ha
      go_wp2_with fail
      refine (implSigned _ _ t xs _ a HS.out (HA.out.on hb.out) (hd.out.on hb.out) HP.out hf.out).mono ?_
      rintro e w1 ⟨rfl, hb1⟩
      clear q0 q1 q2 q3 p0 p1 p2 p3 p4
      have HW1 := Lib.hid (show wr.heap.size ≤ w1.heap.size from hb1.size)
      replace hx := Lib.hid (hx.out.on hb1); replace hv := Lib.hid (hv.out.on hb1); replace ho := Lib.hid (ho.out.on hb1); replace hb := Lib.hid (hb.out.trans (hb1.mono hb.out.size)); clear hb1
      have HO1 := Lib.hid (show kLNn.Own (w.heap.size + 2) w1.heap.size w1 ⟨ad, k, cap, L⟩ from ho.out.mono (Nat.le_refl _) HW1.out)
      have q0 : w1.cell? ⟨w.heap.size, 0, none⟩ = some (.slice x0 n0 c0) := hx.out.cell 0
      have q1 : w1.cell? ⟨w.heap.size, 1, none⟩ = some (.slice x1 n1 c1) := hx.out.cell 1
      have q2 : w1.cell? ⟨w.heap.size, 2, none⟩ = some (.slice x2 n2 c2) := hx.out.cell 2
      have q3 : w1.cell? ⟨w.heap.size, 3, none⟩ = some (.slice x3 n3 c3) := hx.out.cell 3
      have p0 : w1.cell? ⟨w.heap.size + 1, 0, none⟩ = some (.slice ya ma da) := hv.out.cell 0
      have p1 : w1.cell? ⟨w.heap.size + 1, 1, none⟩ = some (.slice yb mb db) := hv.out.cell 1
      have p2 : w1.cell? ⟨w.heap.size + 1, 2, none⟩ = some (.slice yc mc dc_) := hv.out.cell 2
      have p3 : w1.cell? ⟨w.heap.size + 1, 3, none⟩ = some (.int .i64 xs.2.2.2.1) := hv.out.cell 3
      have p4 : w1.cell? ⟨w.heap.size + 1, 4, none⟩ = some (.int .i64 xs.2.2.2.2) := hv.out.cell 4
      cases a with
      | false =>
        have HN : Hid (chainT t now 4 x = none) := Lib.hid (by rw [hch.out, chainT_bad HS.out]; rfl)
        go_wp2_with fail
        go_quiet (fail)
        go_wp2_with fail
        go_ret2
        exact Or.inr ⟨HN.out, _, _, _, rfl, Sl.below_drewN hb.out _⟩
      | true =>
        obtain ⟨-, -, j3⟩ := kDz_parts hd.out
        obtain ⟨v3, e3, h3⟩ := kN_at j3
        have e3' : v3 = .slice yc mc dc_ := by injection e3 with e; have := congrArg (fun z : Array Value => z[0]?) e; simpa using this.symm
        rw [e3'] at h3
        have J3 := Lib.hid j3; have H3 := Lib.hid h3
        clear j3 h3 e3 e3'
        go_wp2_with fail
        refine (cloneName _ xs.2.2.1 _ (H3.out.on hb.out) (by have := bulk_len xs.2.2.1; have := hf.out.key; omega)).mono ?_
        rintro e w2 ⟨v4, rfl, ho4, hb1⟩
        obtain ⟨x4, n4, c4, rfl, -, -, ho4⟩ := ho4.shapeN
        clear q0 q1 q2 q3 p0 p1 p2 p3 p4 H3
        have HX4 := Lib.hid (show kNn.Own w1.heap.size w2.heap.size w2 ⟨x4, n4, c4, xs.2.2.1⟩ from ⟨kN_own2 ho4, by rw [kN_blocks]; cases (Rw.v ⟨x4, n4, c4, xs.2.2.1⟩).ownBlock <;> simp, fun g hg => by rw [kN_blocks] at hg; exact (ho4.lt g (show (Rw.v ⟨x4, n4, c4, xs.2.2.1⟩).ownBlock = some g from Option.mem_toList.1 hg)).2⟩)
        clear ho4
        have HL1 := Lib.hid (show w1.heap.size ≤ w2.heap.size from hb1.size)
        have HBB := Lib.hid (show w.heap.size + 2 ≤ w1.heap.size by have := (hv.out.lt); omega)
        replace hx := Lib.hid (hx.out.on hb1); replace hv := Lib.hid (hv.out.on hb1); replace ho := Lib.hid (ho.out.on hb1); replace hb := Lib.hid (hb.out.trans (hb1.mono hb.out.size)); clear hb1
        have hb1 := (Below.refl w2.heap.size w2).alloc (Nat.le_refl _) (.cells #[.slice x4 n4 c4] 32)
        have HSRC := Lib.hid (holdsK_one szNn_cells 32 w2 (⟨x4, n4, c4, xs.2.2.1⟩ : Nnm))
        have HO3 := Lib.hid (ho.out.on hb1); have HX5 := Lib.hid (HX4.out.on hb1)
        have HLX := Lib.hid (show (L.length + 1) * 24 ≤ 140737488355328 by have := hL.out; omega); have HLM := Lib.hid (show L.length + 1 ≤ maxLen by have := hL.out; unfold maxLen; omega)
        have HSZ := Lib.hid (show w.heap.size + 2 ≤ (w2.alloc (.cells #[.slice x4 n4 c4] 32)).heap.size by have := HBB.out; have := HL1.out; simp; omega)
        have HOL := Lib.hid (show ∀ g ∈ kLNn.blocks ⟨ad, k, cap, L⟩, g < w1.heap.size from fun g hg => (HO1.out.lt g hg).2.1)
        clear ho HX4 HO1
        replace hx := Lib.hid (hx.out.on hb1); replace hv := Lib.hid (hv.out.on hb1); replace hb := Lib.hid (hb.out.trans (hb1.mono hb.out.size)); clear hb1
        go_wp2_with (at_builtin; refine wpList_appK kindNn (B := w.heap.size + 2) (l := L) (m := [(⟨x4, n4, c4, xs.2.2.1⟩ : Nnm)]) rfl _ _ rfl Tryz.underlying26 rfl rfl HO3.out.1.1 HSRC.out HLX.out HLM.out HSZ.out ?_)
        intro v5 w5 ho5 hg5
        obtain ⟨x5, n5, c5, rfl, hn5, -, ho5⟩ := ho5.shapeN
        have hn6 : n5 = k + 1 := by rw [hn5, List.length_append, hL.out]; rfl
        subst hn6
        have HO6 := Lib.hid (show kLNn.Own (w.heap.size + 2) w5.heap.size w5 ⟨x5, k + 1, c5, L ++ [(⟨x4, n4, c4, xs.2.2.1⟩ : Nnm)]⟩ from Kd.push noRow_kN HO3.out (HX5.out.mono HBB.out (Nat.le_refl _)) (fun g hgx hgr => by
          have h5 := (HX5.out.lt g hgx).1; have h6 := HOL.out g hgr; omega) ho5 hg5)
        have hb1 : Below (w.heap.size + 2) (w2.alloc (.cells #[.slice x4 n4 c4] 32)) w5 := (Below.refl _ _).grown hg5 HSZ.out (fun g hg => (HO3.out.1.1.lt g hg).1)
        replace hx := Lib.hid (Blk_low hx.out hb1 (by omega)); replace hv := Lib.hid (Blk_low hv.out hb1 (by omega)); replace hb := Lib.hid (hb.out.trans (hb1.mono (Nat.le_add_right _ _)))
        clear hn5 ho5 hg5 hb1 HO3 HX5 HSRC HLX HLM HL1 HOL
        have q0 : w5.cell? ⟨w.heap.size, 0, none⟩ = some (.slice x0 n0 c0) := hx.out.cell 0
        have q1 : w5.cell? ⟨w.heap.size, 1, none⟩ = some (.slice x1 n1 c1) := hx.out.cell 1
        have q2 : w5.cell? ⟨w.heap.size, 2, none⟩ = some (.slice x2 n2 c2) := hx.out.cell 2
        have q3 : w5.cell? ⟨w.heap.size, 3, none⟩ = some (.slice x3 n3 c3) := hx.out.cell 3
        have p0 : w5.cell? ⟨w.heap.size + 1, 0, none⟩ = some (.slice ya ma da) := hv.out.cell 0
        have p1 : w5.cell? ⟨w.heap.size + 1, 1, none⟩ = some (.slice yb mb db) := hv.out.cell 1
        have p2 : w5.cell? ⟨w.heap.size + 1, 2, none⟩ = some (.slice yc mc dc_) := hv.out.cell 2
        have p3 : w5.cell? ⟨w.heap.size + 1, 3, none⟩ = some (.int .i64 xs.2.2.2.1) := hv.out.cell 3
        have p4 : w5.cell? ⟨w.heap.size + 1, 4, none⟩ = some (.int .i64 xs.2.2.2.2) := hv.out.cell 4
        have HSTR := Lib.hid (show (L ++ [(⟨x4, n4, c4, xs.2.2.1⟩ : Nnm)]).map kNn.strip = L.map kNn.strip ++ [xs.2.2.1] by rw [List.map_append, List.map_cons, List.map_nil]; congr 2; exact kN_strip _)
        have HL6 := Lib.hid (show (L ++ [(⟨x4, n4, c4, xs.2.2.1⟩ : Nnm)]).length = k + 1 by rw [List.length_append, hL.out]; rfl)
        obtain ⟨b, hb2⟩ : ∃ b, anchorT t.2.2.1 xs.2.2.1 = b := ⟨_, rfl⟩
        have HAN := Lib.hid hb2
        clear hb2
        go_wp2_with fail
        refine (implIsAnchor _ _ t xs.2.2.1 _ b HAN.out (HA.out.on hb.out) (J3.out.on hb.out) HP.out.nameLen HP.out.nameWt9 (Nat.le_trans hf.out.key (by decide))).mono ?_
        rintro e w6 ⟨rfl, hb1⟩
        clear q0 q1 q2 q3 p0 p1 p2 p3 p4
        replace HO6 := Lib.hid (HO6.out.on hb1)
        have HS6 := Lib.hid (show w5.heap.size ≤ w6.heap.size from hb1.size)
        replace hx := Lib.hid (hx.out.on hb1); replace hv := Lib.hid (hv.out.on hb1); replace hb := Lib.hid (hb.out.trans (hb1.mono hb.out.size)); clear hb1
        have q0 : w6.cell? ⟨w.heap.size, 0, none⟩ = some (.slice x0 n0 c0) := hx.out.cell 0
        have q1 : w6.cell? ⟨w.heap.size, 1, none⟩ = some (.slice x1 n1 c1) := hx.out.cell 1
        have q2 : w6.cell? ⟨w.heap.size, 2, none⟩ = some (.slice x2 n2 c2) := hx.out.cell 2
        have q3 : w6.cell? ⟨w.heap.size, 3, none⟩ = some (.slice x3 n3 c3) := hx.out.cell 3
        have p0 : w6.cell? ⟨w.heap.size + 1, 0, none⟩ = some (.slice ya ma da) := hv.out.cell 0
        have p1 : w6.cell? ⟨w.heap.size + 1, 1, none⟩ = some (.slice yb mb db) := hv.out.cell 1
        have p2 : w6.cell? ⟨w.heap.size + 1, 2, none⟩ = some (.slice yc mc dc_) := hv.out.cell 2
        have p3 : w6.cell? ⟨w.heap.size + 1, 3, none⟩ = some (.int .i64 xs.2.2.2.1) := hv.out.cell 3
        have p4 : w6.cell? ⟨w.heap.size + 1, 4, none⟩ = some (.int .i64 xs.2.2.2.2) := hv.out.cell 4
        cases b with
        | true =>
          have HN := Lib.hid (show chainT t now 4 x = some (L.map kNn.strip ++ [xs.2.2.1]) by rw [hch.out, chainT_anchor HS.out HAN.out]; rfl)
          go_wp2_with fail
          go_ret2
          exact Or.inl ⟨_, _, HN.out, rfl, HSTR.out ▸ (HO6.out.mono (Nat.le_add_right _ _) HS6.out).in, hb.out⟩
        | false =>
          obtain ⟨f, hf2⟩ : ∃ f, findC t xs.2.2.1 now = f := ⟨_, rfl⟩
          have HF := Lib.hid hf2
          have HFL := Lib.hid (findC_lt t xs.2.2.1 now)
          rw [hf2] at HFL
          clear hf2
          go_wp2_with fail
          refine (implFindCertificate _ _ t xs.2.2.1 now _ f HF.out (HA.out.on hb.out) (J3.out.on hb.out) HP.out hf.out.key).mono ?_
          rintro e w7 ⟨rfl, hb1⟩
          clear q0 q1 q2 q3 p0 p1 p2 p3 p4
          replace HO6 := Lib.hid (HO6.out.on hb1)
          replace HS6 := Lib.hid (show w5.heap.size ≤ w7.heap.size from Nat.le_trans HS6.out hb1.size)
          replace hx := Lib.hid (hx.out.on hb1); replace hv := Lib.hid (hv.out.on hb1); replace hb := Lib.hid (hb.out.trans (hb1.mono hb.out.size)); clear hb1
          have q0 : w7.cell? ⟨w.heap.size, 0, none⟩ = some (.slice x0 n0 c0) := hx.out.cell 0
          have q1 : w7.cell? ⟨w.heap.size, 1, none⟩ = some (.slice x1 n1 c1) := hx.out.cell 1
          have q2 : w7.cell? ⟨w.heap.size, 2, none⟩ = some (.slice x2 n2 c2) := hx.out.cell 2
          have q3 : w7.cell? ⟨w.heap.size, 3, none⟩ = some (.slice x3 n3 c3) := hx.out.cell 3
          have p0 : w7.cell? ⟨w.heap.size + 1, 0, none⟩ = some (.slice ya ma da) := hv.out.cell 0
          have p1 : w7.cell? ⟨w.heap.size + 1, 1, none⟩ = some (.slice yb mb db) := hv.out.cell 1
          have p2 : w7.cell? ⟨w.heap.size + 1, 2, none⟩ = some (.slice yc mc dc_) := hv.out.cell 2
          have p3 : w7.cell? ⟨w.heap.size + 1, 3, none⟩ = some (.int .i64 xs.2.2.2.1) := hv.out.cell 3
          have p4 : w7.cell? ⟨w.heap.size + 1, 4, none⟩ = some (.int .i64 xs.2.2.2.2) := hv.out.cell 4
          by_cases hneg : f < 0
          · have HNEG := Lib.hid (show findC t xs.2.2.1 now < 0 by rw [HF.out]; exact hneg)
            have HN : Hid (chainT t now 4 x = none) := Lib.hid (by rw [hch.out, chainT_lost HS.out HAN.out HNEG.out]; rfl)
            go_wp2_with fail
            go_quiet (fail)
            go_wp2_with fail
            go_ret2
            exact Or.inr ⟨HN.out, _, _, _, rfl, Sl.below_drewN hb.out _⟩
          · obtain ⟨i, rfl⟩ : ∃ i : Nat, f = (i : Int) := ⟨f.toNat, by omega⟩
            have hi : i < t.2.2.2.length := by have h5 := HFL.out; simp at h5; omega
            have HFC := Lib.hid (HP.out.certs (nth t.2.2.2 i) (nth_mem hi))
            obtain ⟨hn3, hcap, b, off, za, na_, ea, zb, nb_, eb, zc, nc_, ec, rfl, r0, r1, r2, r3, r4, hcd⟩ := cert_at G3.out hi
            have HCD := Lib.hid hcd
            have s0 := kc r0 hb.out; have s1 := kc r1 hb.out; have s2 := kc r2 hb.out; have s3 := kc r3 hb.out; have s4 := kc r4 hb.out
            have f0 := hv.out.frozen 0; have f1 := hv.out.frozen 1; have f2 := hv.out.frozen 2; have f3 := hv.out.frozen 3; have f4 := hv.out.frozen 4
            have hi3 : i < n3 := by omega
            have Z1 := Lib.hid (show Ret.Blk ((((((w7).setCell ⟨(w.heap.size + 1), 0, none⟩ (.slice za na_ ea)).setCell ⟨(w.heap.size + 1), 1, none⟩ (.slice zb nb_ eb)).setCell ⟨(w.heap.size + 1), 2, none⟩ (.slice zc nc_ ec)).setCell ⟨(w.heap.size + 1), 3, none⟩ (.int .i64 (nth t.2.2.2 i).2.2.2.1)).setCell ⟨(w.heap.size + 1), 4, none⟩ (.int .i64 (nth t.2.2.2 i).2.2.2.2)) (w.heap.size + 1) #[.slice za na_ ea, .slice zb nb_ eb, .slice zc nc_ ec, .int .i64 (nth t.2.2.2 i).2.2.2.1, .int .i64 (nth t.2.2.2 i).2.2.2.2] 34 from Ring.blk_five hv.out)
            have Z2 := Lib.hid (show Ret.Blk ((((((w7).setCell ⟨(w.heap.size + 1), 0, none⟩ (.slice za na_ ea)).setCell ⟨(w.heap.size + 1), 1, none⟩ (.slice zb nb_ eb)).setCell ⟨(w.heap.size + 1), 2, none⟩ (.slice zc nc_ ec)).setCell ⟨(w.heap.size + 1), 3, none⟩ (.int .i64 (nth t.2.2.2 i).2.2.2.1)).setCell ⟨(w.heap.size + 1), 4, none⟩ (.int .i64 (nth t.2.2.2 i).2.2.2.2)) w.heap.size #[.slice x0 n0 c0, .slice x1 n1 c1, .slice x2 n2 c2, .slice (some ⟨b, off, none⟩) n3 c3] 29 from blk_five_other hx.out (by omega))
            have Z3 := Lib.hid (show Below w.heap.size w ((((((w7).setCell ⟨(w.heap.size + 1), 0, none⟩ (.slice za na_ ea)).setCell ⟨(w.heap.size + 1), 1, none⟩ (.slice zb nb_ eb)).setCell ⟨(w.heap.size + 1), 2, none⟩ (.slice zc nc_ ec)).setCell ⟨(w.heap.size + 1), 3, none⟩ (.int .i64 (nth t.2.2.2 i).2.2.2.1)).setCell ⟨(w.heap.size + 1), 4, none⟩ (.int .i64 (nth t.2.2.2 i).2.2.2.2)) from Ring.below_five hb.out (by omega))
            have Z4 := Lib.hid (show kLNn.Own (w.heap.size + 2) ((((((w7).setCell ⟨(w.heap.size + 1), 0, none⟩ (.slice za na_ ea)).setCell ⟨(w.heap.size + 1), 1, none⟩ (.slice zb nb_ eb)).setCell ⟨(w.heap.size + 1), 2, none⟩ (.slice zc nc_ ec)).setCell ⟨(w.heap.size + 1), 3, none⟩ (.int .i64 (nth t.2.2.2 i).2.2.2.1)).setCell ⟨(w.heap.size + 1), 4, none⟩ (.int .i64 (nth t.2.2.2 i).2.2.2.2)).heap.size ((((((w7).setCell ⟨(w.heap.size + 1), 0, none⟩ (.slice za na_ ea)).setCell ⟨(w.heap.size + 1), 1, none⟩ (.slice zb nb_ eb)).setCell ⟨(w.heap.size + 1), 2, none⟩ (.slice zc nc_ ec)).setCell ⟨(w.heap.size + 1), 3, none⟩ (.int .i64 (nth t.2.2.2 i).2.2.2.1)).setCell ⟨(w.heap.size + 1), 4, none⟩ (.int .i64 (nth t.2.2.2 i).2.2.2.2)) ⟨x5, k + 1, c5, L ++ [(⟨x4, n4, c4, xs.2.2.1⟩ : Nnm)]⟩ from own_five (HO6.out.mono (Nat.le_refl _) (by simp [World.setCell]; exact HS6.out)) (by omega))
            have Z5 := Lib.hid (show chainT t now 4 x = (chainT t now (4 - (k + 1)) (nth t.2.2.2 i)).map ((L ++ [(⟨x4, n4, c4, xs.2.2.1⟩ : Nnm)]).map kNn.strip ++ ·) by rw [hch.out, chainT_next HS.out HAN.out HF.out, map_snoc, HSTR.out, hj2.out])
            clear hx hv hb HO6 hn3 hcd r0 r1 r2 r3 r4 hi hch HSTR HFL
            go_wp2_with fail
            go_roundw
            case rel => exact ⟨k + 1, by omega, by go_num, _, _, _, nth t.2.2.2 i, za, zb, zc, na_, ea, nb_, eb, nc_, ec, rfl, HL6, Z4, Z5, Z2, Z1, HCD, HFC, Z3⟩
            case measure => simp [intOf]; omega
    · obtain rfl : k = 4 := by omega
      clear hlt
      have HN : Hid (chainT t now 4 x = none) := Lib.hid (by rw [hch.out, show chainT t now (4 - 4) xs = none from rfl]; rfl)
      go_wp2_with fail
      go_quiet (fail)
      go_wp2_with fail
      go_ret2
      exact Or.inr ⟨HN.out, _, _, _, rfl, Sl.below_drewN hb.out _⟩
end Go.Proofs.YtlhchmjnaanjpaaGreatDoor.Row
/- The program's TrustChain and IsTrusted. The library's variable errorType as laid. No other conditions but that lengths fit. -/
namespace Go.Proofs.YtlhchmjnaanjpaaGreatDoor.Row
open Go.ChangeShapes Go.WideShapes Go.ChangeAt Go.RowKit Go.Instr
set_option linter.unusedVariables false
set_option maxRecDepth 100000
def ErrT (w : World) : Prop := w.cell? ⟨0, 0, none⟩ = some (.iface 155 (.agg #[.pointer (some ⟨1, 64, none⟩)]))
theorem ErrT.on {w w' : World} (h : ErrT w) (hb : Below w.heap.size w w') : ErrT w' := kc h hb
theorem chT_some {t : Tpt} {x : Dzt} {now : Int} {L : List Nnt} (h : chainT t now 4 x = some L) : chT t x now = L ∧ chOk t x now = true := by unfold chT chOk; rw [h]; exact ⟨rfl, rfl⟩
theorem chT_none {t : Tpt} {x : Dzt} {now : Int} (h : chainT t now 4 x = none) : chT t x now = [] ∧ chOk t x now = false := by unfold chT chOk; rw [h]; exact ⟨rfl, rfl⟩
theorem ret_vb11 {v : Value} {a b : Bool} (h : a = b) : Ending.returned (.tuple #[v, .bool a]) = .returned (.tuple #[v, .bool b]) := by rw [h]
theorem empty_names (w : World) (B : Nat) (hB : B ≤ w.heap.size) : kLNn.In B (w.alloc (.cells #[] 32)).heap.size (w.alloc (.cells #[] 32)) (.slice (some ⟨w.heap.size, 0, none⟩) 0 0) [] :=
  (show kLNn.In w.heap.size _ _ (.slice (some ⟨w.heap.size, 0, none⟩) 0 0) [] from (Kd.own_row (k := kNn) (r := ⟨some ⟨w.heap.size, 0, none⟩, 0, 0, []⟩) (ownK_empty kNn.cells 1 32 w) rfl).in).mono hB (Nat.le_refl _)
set_option maxHeartbeats 8000000 in
theorem implTrustChain (V U : Value) (t : Tpt) (x : Dzt) (now : Int) (w : World) (h : kTp.At w V t) (g : kD.At w U x) (hp : FitT t) (hfx : FitD x) (he : ErrT w) :
    Calls Tryz.prog 7 #[V, U, .int .i64 now] w fun e w' => ∃ v, e = .returned (.tuple #[v, .bool (chOk t x now)]) ∧ kLNn.In w.heap.size w'.heap.size w' v (chT t x now) ∧ Below w.heap.size w w' := by
  obtain ⟨x0, n0, c0, x1, n1, c1, x2, n2, c2, x3, n3, c3, rfl, g0, g1, g2, g3⟩ := kTp_at h
  obtain ⟨ya, ma, da, yb, mb, db, yc, mc, dc_, rfl, g⟩ := kD_shapeA g
  obtain ⟨k1, k2, k3, k4⟩ := two_news (w := w) #[.slice x0 n0 c0, .slice x1 n1 c1, .slice x2 n2 c2, .slice x3 n3 c3] #[.slice ya ma da, .slice yb mb db, .slice yc mc dc_, .int .i64 x.2.2.2.1, .int .i64 x.2.2.2.2] 29 34
  have hx := Lib.hid k1; have hv := Lib.hid k2; have hb := Lib.hid k3
  have HC := Lib.hid (chainOf _ _ t x now _ (h.on k3) (g.on k3) hp hfx)
  obtain ⟨R, hR⟩ : ∃ R, chT t x now = R := ⟨_, rfl⟩
  obtain ⟨z, hz⟩ : ∃ z, chOk t x now = z := ⟨_, rfl⟩
  rw [hR, hz]
  have HR := Lib.hid hR; have HZ := Lib.hid hz
  clear hR hz
  have HE := Lib.hid (he.on k3)
  clear k1 k2 k3 k4 g0 g1 g2 g3 g h hp hfx he
  have q0 : ((w.alloc (.cells #[.slice x0 n0 c0, .slice x1 n1 c1, .slice x2 n2 c2, .slice x3 n3 c3] 29)).alloc (.cells #[.slice ya ma da, .slice yb mb db, .slice yc mc dc_, .int .i64 x.2.2.2.1, .int .i64 x.2.2.2.2] 34)).cell? ⟨w.heap.size, 0, none⟩ = some (.slice x0 n0 c0) := hx.out.cell 0
  have q1 : ((w.alloc (.cells #[.slice x0 n0 c0, .slice x1 n1 c1, .slice x2 n2 c2, .slice x3 n3 c3] 29)).alloc (.cells #[.slice ya ma da, .slice yb mb db, .slice yc mc dc_, .int .i64 x.2.2.2.1, .int .i64 x.2.2.2.2] 34)).cell? ⟨w.heap.size, 1, none⟩ = some (.slice x1 n1 c1) := hx.out.cell 1
  have q2 : ((w.alloc (.cells #[.slice x0 n0 c0, .slice x1 n1 c1, .slice x2 n2 c2, .slice x3 n3 c3] 29)).alloc (.cells #[.slice ya ma da, .slice yb mb db, .slice yc mc dc_, .int .i64 x.2.2.2.1, .int .i64 x.2.2.2.2] 34)).cell? ⟨w.heap.size, 2, none⟩ = some (.slice x2 n2 c2) := hx.out.cell 2
  have q3 : ((w.alloc (.cells #[.slice x0 n0 c0, .slice x1 n1 c1, .slice x2 n2 c2, .slice x3 n3 c3] 29)).alloc (.cells #[.slice ya ma da, .slice yb mb db, .slice yc mc dc_, .int .i64 x.2.2.2.1, .int .i64 x.2.2.2.2] 34)).cell? ⟨w.heap.size, 3, none⟩ = some (.slice x3 n3 c3) := hx.out.cell 3
  have p0 : ((w.alloc (.cells #[.slice x0 n0 c0, .slice x1 n1 c1, .slice x2 n2 c2, .slice x3 n3 c3] 29)).alloc (.cells #[.slice ya ma da, .slice yb mb db, .slice yc mc dc_, .int .i64 x.2.2.2.1, .int .i64 x.2.2.2.2] 34)).cell? ⟨w.heap.size + 1, 0, none⟩ = some (.slice ya ma da) := hv.out.cell 0
  have p1 : ((w.alloc (.cells #[.slice x0 n0 c0, .slice x1 n1 c1, .slice x2 n2 c2, .slice x3 n3 c3] 29)).alloc (.cells #[.slice ya ma da, .slice yb mb db, .slice yc mc dc_, .int .i64 x.2.2.2.1, .int .i64 x.2.2.2.2] 34)).cell? ⟨w.heap.size + 1, 1, none⟩ = some (.slice yb mb db) := hv.out.cell 1
  have p2 : ((w.alloc (.cells #[.slice x0 n0 c0, .slice x1 n1 c1, .slice x2 n2 c2, .slice x3 n3 c3] 29)).alloc (.cells #[.slice ya ma da, .slice yb mb db, .slice yc mc dc_, .int .i64 x.2.2.2.1, .int .i64 x.2.2.2.2] 34)).cell? ⟨w.heap.size + 1, 2, none⟩ = some (.slice yc mc dc_) := hv.out.cell 2
  have p3 : ((w.alloc (.cells #[.slice x0 n0 c0, .slice x1 n1 c1, .slice x2 n2 c2, .slice x3 n3 c3] 29)).alloc (.cells #[.slice ya ma da, .slice yb mb db, .slice yc mc dc_, .int .i64 x.2.2.2.1, .int .i64 x.2.2.2.2] 34)).cell? ⟨w.heap.size + 1, 3, none⟩ = some (.int .i64 x.2.2.2.1) := hv.out.cell 3
  have p4 : ((w.alloc (.cells #[.slice x0 n0 c0, .slice x1 n1 c1, .slice x2 n2 c2, .slice x3 n3 c3] 29)).alloc (.cells #[.slice ya ma da, .slice yb mb db, .slice yc mc dc_, .int .i64 x.2.2.2.1, .int .i64 x.2.2.2.2] 34)).cell? ⟨w.heap.size + 1, 4, none⟩ = some (.int .i64 x.2.2.2.2) := hv.out.cell 4
  go_enter Tryz.func7, Tryz.ntmps7
  go_wp2_with fail
  refine HC.out.mono ?_
  clear HC
  rintro e w1 (⟨L, v, hc, rfl, hin, hb1⟩ | ⟨hc, y, n, q, rfl, hb1⟩)
  · obtain ⟨xv, nv, cv, rfl, hin⟩ := kLNn_shape hin
    obtain ⟨e1, e2⟩ := chT_some hc
    have E1 := Lib.hid (show R = L from HR.out.symm.trans e1); have E2 := Lib.hid (show z = true from HZ.out.symm.trans e2)
    have hz := hb.out.size
    have HIN := Lib.hid (hin.mono hz (Nat.le_refl _)); have HB := Lib.hid (hb.out.trans (hb1.mono hz))
    clear hc e1 e2 hin hb1 hz q0 q1 q2 q3 p0 p1 p2 p3 p4 hx hv hb HE
    go_wp2_with fail
    refine (Brk.as_nil _ _).mono ?_
    rintro e w2 ⟨rfl, rfl⟩
    have b2 := (Below.refl w1.heap.size w1).alloc (Nat.le_refl _) (.cells #[.slice none 0 0] 68)
    have HIN2 := Lib.hid ((HIN.out.on b2).mono (Nat.le_refl _) b2.size); have HB2 := Lib.hid (HB.out.trans (b2.mono HB.out.size))
    clear b2 HIN HB
    go_wp2_with fail
    go_ret2
    exact ⟨_, ret_vb11 E2.out.symm, (by rw [E1.out]; exact HIN2.out), HB2.out⟩
  · obtain ⟨e1, e2⟩ := chT_none hc
    have E1 := Lib.hid (show R = [] from HR.out.symm.trans e1); have E2 := Lib.hid (show z = false from HZ.out.symm.trans e2)
    have b2 := (Below.refl w1.heap.size w1).alloc (Nat.le_refl _) (.cells #[.slice none 0 0] 68)
    have HB := Lib.hid ((hb.out.trans (hb1.mono hb.out.size)).trans (b2.mono (Nat.le_trans hb.out.size hb1.size)))
    have HA := Lib.hid (Brk.as_hit y n q w1.heap.size (.slice none 0 0) (w1.alloc (.cells #[.slice none 0 0] 68)) ((HE.out.on hb1).on b2) (Ret.Blk.new w1 #[.slice none 0 0] 68))
    have HW := Lib.hid (show w.heap.size ≤ w1.heap.size from Nat.le_trans hb.out.size hb1.size)
    clear hc e1 e2 b2 hb1 hb HE hx hv q0 q1 q2 q3 p0 p1 p2 p3 p4
    go_wp2_with fail
    refine HA.out.mono ?_
    rintro e w2 ⟨rfl, hb2⟩
    have HB2 := Lib.hid (HB.out.trans (hb2.mono HW.out))
    clear hb2 HA HB
    go_wp2_with fail
    go_ret2
    exact ⟨_, ret_vb11 E2.out.symm, (by rw [E1.out]; exact empty_names w2 _ HB2.out.size), HB2.out.alloc HB2.out.size _⟩
set_option maxHeartbeats 8000000 in
theorem implIsTrusted (V U : Value) (t : Tpt) (x : Dzt) (now : Int) (w : World) (z : Bool) (hz : trusted t x now = z) (h : kTp.At w V t) (g : kD.At w U x) (hp : FitT t) (hfx : FitD x) (he : ErrT w) :
    Calls Tryz.prog 16 #[V, U, .int .i64 now] w fun e w' => e = .returned (.bool z) ∧ Below w.heap.size w w' := by
  obtain ⟨x0, n0, c0, x1, n1, c1, x2, n2, c2, x3, n3, c3, rfl, g0, g1, g2, g3⟩ := kTp_at h
  obtain ⟨ya, ma, da, yb, mb, db, yc, mc, dc_, rfl, g⟩ := kD_shapeA g
  obtain ⟨k1, k2, k3, k4⟩ := two_news (w := w) #[.slice x0 n0 c0, .slice x1 n1 c1, .slice x2 n2 c2, .slice x3 n3 c3] #[.slice ya ma da, .slice yb mb db, .slice yc mc dc_, .int .i64 x.2.2.2.1, .int .i64 x.2.2.2.2] 29 34
  have hx := Lib.hid k1; have hv := Lib.hid k2; have hb := Lib.hid k3
  have HC := Lib.hid (implTrustChain _ _ t x now _ (h.on k3) (g.on k3) hp hfx (he.on k3))
  have HG := Lib.hid g; have HF := Lib.hid hfx; have HZ := Lib.hid hz
  clear k1 k2 k3 k4 g0 g1 g2 g3 g h hp hfx he hz
  have q0 : ((w.alloc (.cells #[.slice x0 n0 c0, .slice x1 n1 c1, .slice x2 n2 c2, .slice x3 n3 c3] 29)).alloc (.cells #[.slice ya ma da, .slice yb mb db, .slice yc mc dc_, .int .i64 x.2.2.2.1, .int .i64 x.2.2.2.2] 34)).cell? ⟨w.heap.size, 0, none⟩ = some (.slice x0 n0 c0) := hx.out.cell 0
  have q1 : ((w.alloc (.cells #[.slice x0 n0 c0, .slice x1 n1 c1, .slice x2 n2 c2, .slice x3 n3 c3] 29)).alloc (.cells #[.slice ya ma da, .slice yb mb db, .slice yc mc dc_, .int .i64 x.2.2.2.1, .int .i64 x.2.2.2.2] 34)).cell? ⟨w.heap.size, 1, none⟩ = some (.slice x1 n1 c1) := hx.out.cell 1
  have q2 : ((w.alloc (.cells #[.slice x0 n0 c0, .slice x1 n1 c1, .slice x2 n2 c2, .slice x3 n3 c3] 29)).alloc (.cells #[.slice ya ma da, .slice yb mb db, .slice yc mc dc_, .int .i64 x.2.2.2.1, .int .i64 x.2.2.2.2] 34)).cell? ⟨w.heap.size, 2, none⟩ = some (.slice x2 n2 c2) := hx.out.cell 2
  have q3 : ((w.alloc (.cells #[.slice x0 n0 c0, .slice x1 n1 c1, .slice x2 n2 c2, .slice x3 n3 c3] 29)).alloc (.cells #[.slice ya ma da, .slice yb mb db, .slice yc mc dc_, .int .i64 x.2.2.2.1, .int .i64 x.2.2.2.2] 34)).cell? ⟨w.heap.size, 3, none⟩ = some (.slice x3 n3 c3) := hx.out.cell 3
  have p0 : ((w.alloc (.cells #[.slice x0 n0 c0, .slice x1 n1 c1, .slice x2 n2 c2, .slice x3 n3 c3] 29)).alloc (.cells #[.slice ya ma da, .slice yb mb db, .slice yc mc dc_, .int .i64 x.2.2.2.1, .int .i64 x.2.2.2.2] 34)).cell? ⟨w.heap.size + 1, 0, none⟩ = some (.slice ya ma da) := hv.out.cell 0
  have p1 : ((w.alloc (.cells #[.slice x0 n0 c0, .slice x1 n1 c1, .slice x2 n2 c2, .slice x3 n3 c3] 29)).alloc (.cells #[.slice ya ma da, .slice yb mb db, .slice yc mc dc_, .int .i64 x.2.2.2.1, .int .i64 x.2.2.2.2] 34)).cell? ⟨w.heap.size + 1, 1, none⟩ = some (.slice yb mb db) := hv.out.cell 1
  have p2 : ((w.alloc (.cells #[.slice x0 n0 c0, .slice x1 n1 c1, .slice x2 n2 c2, .slice x3 n3 c3] 29)).alloc (.cells #[.slice ya ma da, .slice yb mb db, .slice yc mc dc_, .int .i64 x.2.2.2.1, .int .i64 x.2.2.2.2] 34)).cell? ⟨w.heap.size + 1, 2, none⟩ = some (.slice yc mc dc_) := hv.out.cell 2
  have p3 : ((w.alloc (.cells #[.slice x0 n0 c0, .slice x1 n1 c1, .slice x2 n2 c2, .slice x3 n3 c3] 29)).alloc (.cells #[.slice ya ma da, .slice yb mb db, .slice yc mc dc_, .int .i64 x.2.2.2.1, .int .i64 x.2.2.2.2] 34)).cell? ⟨w.heap.size + 1, 3, none⟩ = some (.int .i64 x.2.2.2.1) := hv.out.cell 3
  have p4 : ((w.alloc (.cells #[.slice x0 n0 c0, .slice x1 n1 c1, .slice x2 n2 c2, .slice x3 n3 c3] 29)).alloc (.cells #[.slice ya ma da, .slice yb mb db, .slice yc mc dc_, .int .i64 x.2.2.2.1, .int .i64 x.2.2.2.2] 34)).cell? ⟨w.heap.size + 1, 4, none⟩ = some (.int .i64 x.2.2.2.2) := hv.out.cell 4
  go_enter Tryz.func16, Tryz.ntmps16
  go_wp2_with fail
  refine HC.out.mono ?_
  clear HC
  rintro e w1 ⟨v, rfl, -, hb1⟩
  obtain ⟨c, hc⟩ : ∃ c, chOk t x now = c := ⟨_, rfl⟩
  rw [hc]
  have HK := Lib.hid hc
  clear hc
  replace hx := Lib.hid (hx.out.on hb1); replace hv := Lib.hid (hv.out.on hb1); replace hb := Lib.hid (hb.out.trans (hb1.mono hb.out.size)); clear hb1 q0 q1 q2 q3 p0 p1 p2 p3 p4
  have q0 : w1.cell? ⟨w.heap.size, 0, none⟩ = some (.slice x0 n0 c0) := hx.out.cell 0
  have q1 : w1.cell? ⟨w.heap.size, 1, none⟩ = some (.slice x1 n1 c1) := hx.out.cell 1
  have q2 : w1.cell? ⟨w.heap.size, 2, none⟩ = some (.slice x2 n2 c2) := hx.out.cell 2
  have q3 : w1.cell? ⟨w.heap.size, 3, none⟩ = some (.slice x3 n3 c3) := hx.out.cell 3
  have p0 : w1.cell? ⟨w.heap.size + 1, 0, none⟩ = some (.slice ya ma da) := hv.out.cell 0
  have p1 : w1.cell? ⟨w.heap.size + 1, 1, none⟩ = some (.slice yb mb db) := hv.out.cell 1
  have p2 : w1.cell? ⟨w.heap.size + 1, 2, none⟩ = some (.slice yc mc dc_) := hv.out.cell 2
  have p3 : w1.cell? ⟨w.heap.size + 1, 3, none⟩ = some (.int .i64 x.2.2.2.1) := hv.out.cell 3
  have p4 : w1.cell? ⟨w.heap.size + 1, 4, none⟩ = some (.int .i64 x.2.2.2.2) := hv.out.cell 4
  cases c with
  | false =>
    have HE : Hid (z = false) := Lib.hid (by rw [← HZ.out]; unfold trusted; rw [HK.out]; rfl)
    go_wp2_with fail
    go_ret
    exact ⟨ret_bool HE.out.symm, hb.out⟩
  | true =>
    obtain ⟨d, hd⟩ : ∃ d, validD x = d := ⟨_, rfl⟩
    have HE : Hid (z = d) := Lib.hid (by rw [← HZ.out, ← hd]; unfold trusted; rw [HK.out]; simp)
    have hcv := implValidDataK _ x w1 (HG.out.on hb.out) HF.out.bulk9
    rw [hd] at hcv
    have HCV := Lib.hid hcv
    clear hcv hd
    go_wp2_with fail
    refine HCV.out.mono ?_
    rintro e w2 ⟨rfl, hb1⟩
    replace hb := Lib.hid (hb.out.trans (hb1.mono hb.out.size)); clear hb1 HCV
    go_wp2_with fail
    go_ret
    exact ⟨ret_bool HE.out.symm, hb.out⟩
end Go.Proofs.YtlhchmjnaanjpaaGreatDoor.Row
