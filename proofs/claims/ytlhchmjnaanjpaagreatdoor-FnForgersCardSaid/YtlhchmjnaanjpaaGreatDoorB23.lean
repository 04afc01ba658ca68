/- Contracts and mathematics, joined: DrawV3, DrawV4, OldMath. No conditions but those that each states. -/
import Derived.WalkKit
import Derived.Deep.RegionHeld3
import Derived.Test.YtlhchmjnaanjpaaGreatDoorB22
import Derived.Test.YtlhchmjnaanjpaaGreatDoorB18
/- A packet as it is made (l11Made). What was in memory stays as it was, but for the cursor. -/
namespace Go.Proofs.YtlhchmjnaanjpaaGreatDoor.Draw
open Go.ChangeShapes Go.WideShapes Go.ChangeAt Go.RowKit Go.Instr
open Go.Proofs.YtlhchmjnaanjpaaGreatDoor.Row
open Go.Proofs.YtlhchmjnaanjpaaGreatDoor.Ret (NC Blk Box)
set_option linter.unusedVariables false
set_option maxRecDepth 100000
def NM11 : List (List ByteArray) := ([{ data := #[97] }, { data := #[98] }] : List ByteArray).flatMap fun s => ([{ data := #[49] }, { data := #[50] }, { data := #[120, 45, 49] }] : List ByteArray).map fun t => appN (pN ({ data := #[47] } ++ s)) t
theorem nm11 {s t : ByteArray} (hs : s ∈ ([{ data := #[97] }, { data := #[98] }] : List ByteArray)) (ht : t ∈ ([{ data := #[49] }, { data := #[50] }, { data := #[120, 45, 49] }] : List ByteArray)) : appN (pN ({ data := #[47] } ++ s)) t ∈ NM11 := List.mem_flatMap.2 ⟨s, hs, List.mem_map.2 ⟨t, ht, rfl⟩⟩
def MadeD (B : Nat) (V : Value) (w : World) : Prop :=
  ∃ (ya yb yc : Option Addr) (ma da mb db mc dc_ : Nat) (X : Dt), V = .agg #[.slice ya ma da, .slice yb mb db, .slice yc mc dc_, .int .i64 X.2.2.2.1, .int .i64 X.2.2.2.2] ∧ sDz.own B w ((⟨ya, ma, da, X.1⟩, ⟨yb, mb, db, X.2.1⟩, ⟨yc, mc, dc_, X.2.2.1⟩, X.2.2.2.1, X.2.2.2.2) : Dzm) ∧ smD11 X ∧ (X.1 = [] ∨ X.1 ∈ NM11)
theorem size_ab {s : ByteArray} (h : s ∈ ([{ data := #[97] }, { data := #[98] }] : List ByteArray)) : s.size ≤ 1 := by
  simp only [List.mem_cons, List.not_mem_nil, or_false] at h
  rcases h with rfl | rfl <;> decide
theorem size_ts {s : ByteArray} (h : s ∈ ([{ data := #[49] }, { data := #[50] }, { data := #[120, 45, 49] }] : List ByteArray)) : s.size ≤ 3 := by
  simp only [List.mem_cons, List.not_mem_nil, or_false] at h
  rcases h with rfl | rfl | rfl <;> decide
theorem size_kb {s : ByteArray} (h : s ∈ ([{ data := #[47, 98, 97, 100, 47, 107, 101, 121] }, { data := #[47, 107, 101, 121, 47, 97] }, { data := #[47, 97, 47, 107, 101, 121] }] : List ByteArray)) : s.size ≤ 8 := by
  simp only [List.mem_cons, List.not_mem_nil, or_false] at h
  rcases h with rfl | rfl | rfl <;> decide
theorem slOwn_five11 {B g : Nat} {w : World} {y : Option Addr} {m d0 : Nat} {l : List Int} {cs : Array Value} {ty : TypeId} {a b c d e : Value} (h : Sl.Own 5 .u8 B w (.slice y m d0) l) (hb : Blk w g cs ty) (hne : 5 ≠ ty) : Sl.Own 5 .u8 B ((((((w).setCell ⟨g, 0, none⟩ (a)).setCell ⟨g, 1, none⟩ (b)).setCell ⟨g, 2, none⟩ (c)).setCell ⟨g, 3, none⟩ (d)).setCell ⟨g, 4, none⟩ (e)) (.slice y m d0) l :=
  slOwn_other11 (slOwn_other11 (slOwn_other11 (slOwn_other11 (slOwn_other11 h hb hne) (hb.set 0 a) hne) ((hb.set 0 a).set 1 b) hne) (((hb.set 0 a).set 1 b).set 2 c) hne) ((((hb.set 0 a).set 1 b).set 2 c).set 3 d) hne
theorem appN_bulk11 (a t : ByteArray) : bulk (appN (pN a) t) ≤ 1000 := by
  refine Nat.le_trans (Row.bulk_valid (?_ : validN (appN (pN a) t) = true)) (by decide)
  cases h : validN (pN a ++ [t]) with
  | true => rw [appN_yes h]; exact h
  | false => rw [appN_no h]; exact valid_pN a
set_option maxHeartbeats 16000000 in
theorem l11Made (w0 : World) (p : Nat) (v : Value) (l : List UInt8) (w : World) (hc : Cur w0 p v l w) {B nk ck n1 c1 n2 c2 n3 c3 : Nat} {xk a1 a2 a3 : Option Addr} {L0 : List Kym} (hk : sLKy.own B w ⟨xk, nk, ck, L0⟩) (hpB : p < B) (hBw : B ≤ w.heap.size) (hT : Ring.bulkT (L0.map kKy.strip) ≤ 1200000) :
    Calls Tryz.prog 77 #[.pointer (some ⟨p, 0, none⟩), .agg #[.slice xk nk ck, .slice a1 n1 c1, .slice a2 n2 c2, .slice a3 n3 c3]] w (DrawnW w0 p v l w (MadeD w.heap.size)) := by
  have HP0 := Lib.hid hc.lt; have HPB := Lib.hid hpB; have HBW := Lib.hid hBw; have HBT := Lib.hid hT
  obtain ⟨k1, k2, hb, -⟩ := two_new (w := w) #[.slice xk nk ck, .slice a1 n1 c1, .slice a2 n2 c2, .slice a3 n3 c3] #[.slice none 0 0, .slice none 0 0, .slice none 0 0, .int .i64 0, .int .i64 0] 29 34
  have HT := Lib.hid k1; have HR := Lib.hid k2; have ds := Lib.hid ((DS.start hc).on hb); have HK := Lib.hid (Kd.own_on hk hb)
  obtain ⟨wA, hwA⟩ : ∃ W, (w.alloc (.cells #[.slice xk nk ck, .slice a1 n1 c1, .slice a2 n2 c2, .slice a3 n3 c3] 29)).alloc (.cells #[.slice none 0 0, .slice none 0 0, .slice none 0 0, .int .i64 0, .int .i64 0] 34) = W := ⟨_, rfl⟩
  rw [hwA] at ds HT HR HK
  have HWA := Lib.hid hwA
  clear k1 k2 hb hwA hc hk hpB hBw hT
  go_enter Tryz.func77, Tryz.ntmps77
  go_upto_region 1 with fail
  rw [HWA.out]
  clear HWA
  have HST := Lib.hid (strLit w0 p v l wA ds.out.cur ([{ data := #[97] }, { data := #[98] }] : List ByteArray) _ rfl 2 rfl (by decide) (by decide) (fun x => ∃ s ∈ ([{ data := #[97] }, { data := #[98] }] : List ByteArray), x = .string s) (fun x hx => ⟨x, hx, rfl⟩))
  go_wp2_with fail
  refine HST.out.mono ?_
  rintro e w1 ⟨y, rfl, ⟨s, hs, rfl⟩, hc1, hk1⟩
  replace HT := Lib.hid (blk_keep HT.out hk1 (by have := HP0.out; omega)); replace HR := Lib.hid (blk_keep HR.out hk1 (by have := HP0.out; omega)); replace HK := Lib.hid (Kd.own_cur HK.out hk1 HPB.out); replace ds := Lib.hid (ds.out.step hc1 hk1)
  have HS := Lib.hid hs
  have hz : ¬ 9223372036854775807 < 1 + s.size := by have := size_ab hs; omega
  clear hc1 hk1 hs HST
  go_wp2_with fail
  refine (l4OfB _ _ ?_).mono ?_
  · have h1 := size_ab HS.out
    rw [ByteArray.size_append, show ({ data := #[47] } : ByteArray).size = 1 from rfl]; omega
  rintro e w2 ⟨u, rfl, hu, hb⟩
  obtain ⟨x1, n4, c4, rfl, -, hu⟩ := hu.shapeN
  have HNa := Lib.hid (hb_soft (hu.mono (Nat.le_trans HBW.out ds.out.size)))
  replace HT := Lib.hid (HT.out.on hb); replace HR := Lib.hid (HR.out.on hb); replace HK := Lib.hid (Kd.own_on HK.out hb); replace ds := Lib.hid (ds.out.on hb)
  clear hu hb
  have HST := Lib.hid (strLit w0 p v l w2 ds.out.cur ([{ data := #[49] }, { data := #[50] }, { data := #[120, 45, 49] }] : List ByteArray) _ rfl 3 rfl (by decide) (by decide) (fun x => ∃ s ∈ ([{ data := #[49] }, { data := #[50] }, { data := #[120, 45, 49] }] : List ByteArray), x = .string s) (fun x hx => ⟨x, hx, rfl⟩))
  go_wp2_with fail
  refine HST.out.mono ?_
  rintro e w3 ⟨y, rfl, ⟨t, ht, rfl⟩, hc1, hk1⟩
  replace HT := Lib.hid (blk_keep HT.out hk1 (by have := HP0.out; omega)); replace HR := Lib.hid (blk_keep HR.out hk1 (by have := HP0.out; omega)); replace HK := Lib.hid (Kd.own_cur HK.out hk1 HPB.out); replace HNa := Lib.hid (Kd.own_cur HNa.out hk1 HPB.out); replace ds := Lib.hid (ds.out.step hc1 hk1)
  have HTS := Lib.hid ht
  have HAP := Lib.hid (specAppendPart (.slice x1 n4 c4) (pN ({ data := #[47] } ++ s)) t w3 (by obtain ⟨v9, e9, h9⟩ := kN_at (sN_at2 HNa.out); injection e9 with e9; have e8 := congrArg (fun a => a.toList) e9; simp only [List.cons.injEq, and_true] at e8; rw [e8]; exact h9) (Nat.le_trans (bulk_pN _) (by decide)) (Nat.le_trans (size_ts ht) (by decide)))
  have hz2 : ¬ 9223372036854775807 < 1 + s.size + 4 := by have := size_ab HS.out; omega
  clear hc1 hk1 ht HST HNa
  go_wp2_with fail
  refine HAP.out.mono ?_
  rintro e w4 ⟨u, rfl, hu, hb⟩
  obtain ⟨x2, n5, c5, rfl, -, hu⟩ := (HB.of hu).shapeN
  have HNn := Lib.hid (hb_soft (hu.mono (Nat.le_trans HBW.out ds.out.size)))
  replace HT := Lib.hid (HT.out.on hb); replace HR := Lib.hid (HR.out.on hb); replace HK := Lib.hid (Kd.own_on HK.out hb); replace ds := Lib.hid (ds.out.on hb)
  have HLNx := Lib.hid (appN_bulk11 ({ data := #[47] } ++ s) t)
  have HNMx := Lib.hid (nm11 HS.out HTS.out)
  obtain ⟨ln, hln⟩ : ∃ n, appN (pN ({ data := #[47] } ++ s)) t = n := ⟨_, rfl⟩
  rw [hln] at HNn HLNx HNMx
  obtain ⟨ok1, hok1⟩ : ∃ b, validN (pN ({ data := #[47] } ++ s) ++ [t]) = b := ⟨_, rfl⟩
  rw [hok1]
  have hal := (Below.refl w4.heap.size w4).alloc (Nat.le_refl _) (.cells #[.slice x2 n5 c5] 32)
  have HX := Lib.hid (show Blk (w4.alloc (.cells #[.slice x2 n5 c5] 32)) w4.heap.size #[.slice x2 n5 c5] 32 from Box.new w4 (.slice x2 n5 c5) 32)
  have HGN := Lib.hid (show w.heap.size ≤ w4.heap.size from ds.out.size)
  replace HT := Lib.hid (HT.out.on hal); replace HR := Lib.hid (HR.out.on hal); replace HK := Lib.hid (Kd.own_on HK.out hal); replace HNn := Lib.hid (Kd.own_on HNn.out hal); replace ds := Lib.hid (ds.out.on hal)
  clear hu hb hal hln hok1 HAP HTS
  obtain ⟨gn, hgn⟩ : ∃ g, w4.heap.size = g := ⟨_, rfl⟩
  obtain ⟨w5, hw5⟩ : ∃ W, w4.alloc (.cells #[.slice x2 n5 c5] 32) = W := ⟨_, rfl⟩
  rw [hw5, hgn] at HX; rw [hgn] at HGN; rw [hw5] at ds HT HR HK HNn
  have HW5 := Lib.hid hw5; have HGQ := Lib.hid hgn
  clear hw5 hgn
  go_upto_region 3 with fail
  rw [HW5.out, HGQ.out]
  clear HW5 HGQ
  go_wp2_with fail
  refine (l4OfB _ _ ?_).mono ?_
  · have h1 := size_ab HS.out
    rw [ByteArray.size_append, ByteArray.size_append, show ({ data := #[47] } : ByteArray).size = 1 from rfl, show ({ data := #[47, 107, 101, 121] } : ByteArray).size = 4 from rfl]; omega
  rintro e w6 ⟨u, rfl, hu, hb⟩
  obtain ⟨x3, n6, c6, rfl, -, hu⟩ := hu.shapeN
  have HBk := Lib.hid (hb_soft (hu.mono (Nat.le_trans HBW.out ds.out.size)))
  replace HT := Lib.hid (HT.out.on hb); replace HR := Lib.hid (HR.out.on hb); replace HX := Lib.hid (HX.out.on hb); replace HK := Lib.hid (Kd.own_on HK.out hb); replace HNn := Lib.hid (Kd.own_on HNn.out hb); replace ds := Lib.hid (ds.out.on hb)
  obtain ⟨lk, hlk⟩ : ∃ n, pN ({ data := #[47] } ++ s ++ { data := #[47, 107, 101, 121] }) = n := ⟨_, rfl⟩
  have HLKx := Lib.hid (bulk_pN ({ data := #[47] } ++ s ++ { data := #[47, 107, 101, 121] }))
  rw [hlk] at HBk HLKx
  have hal := (Below.refl w6.heap.size w6).alloc (Nat.le_refl _) (.cells #[.slice x3 n6 c6] 32)
  have HY := Lib.hid (show Blk (w6.alloc (.cells #[.slice x3 n6 c6] 32)) w6.heap.size #[.slice x3 n6 c6] 32 from Box.new w6 (.slice x3 n6 c6) 32)
  have HGB := Lib.hid (show w.heap.size ≤ w6.heap.size from ds.out.size)
  have HGNB := Lib.hid (show gn < w6.heap.size from HX.out.lt)
  have HRL := Lib.hid (show w.heap.size + 1 < w6.heap.size from HR.out.lt)
  replace HT := Lib.hid (HT.out.on hal); replace HR := Lib.hid (HR.out.on hal); replace HX := Lib.hid (HX.out.on hal); replace HK := Lib.hid (Kd.own_on HK.out hal); replace HNn := Lib.hid (Kd.own_on HNn.out hal); replace HBk := Lib.hid (Kd.own_on HBk.out hal); replace ds := Lib.hid (ds.out.on hal)
  clear hu hb hal hlk hz hz2
  obtain ⟨gb, hgb⟩ : ∃ g, w6.heap.size = g := ⟨_, rfl⟩
  obtain ⟨w7, hw7⟩ : ∃ W, w6.alloc (.cells #[.slice x3 n6 c6] 32) = W := ⟨_, rfl⟩
  rw [hw7, hgb] at HY; rw [hgb] at HGB HGNB HRL; rw [hw7] at ds HT HR HK HNn HX HBk
  have HW7 := Lib.hid hw7; have HGQ := Lib.hid hgb
  clear hw7 hgb
  go_upto_region 4 with fail
  rw [HW7.out, HGQ.out]
  clear HW7 HGQ
  have HST := Lib.hid (once w0 p v l w7 6 ds.out.cur)
  go_wp2_with fail
  refine HST.out.mono ?_
  rintro e w8 ⟨y, rfl, ⟨b, rfl⟩, hc1, hk1⟩
  replace HT := Lib.hid (blk_keep HT.out hk1 (by have := HP0.out; omega)); replace HR := Lib.hid (blk_keep HR.out hk1 (by have := HP0.out; omega)); replace HX := Lib.hid (blk_keep HX.out hk1 (by have := HP0.out; have := HGN.out; omega)); replace HY := Lib.hid (blk_keep HY.out hk1 (by have := HP0.out; have := HGB.out; omega)); replace HK := Lib.hid (Kd.own_cur HK.out hk1 HPB.out); replace HNn := Lib.hid (Kd.own_cur HNn.out hk1 HPB.out); replace HBk := Lib.hid (Kd.own_cur HBk.out hk1 HPB.out); replace ds := Lib.hid (ds.out.step hc1 hk1)
  clear hc1 hk1 HST
  cases b with
  | true =>
    have HST := Lib.hid (strLit w0 p v l w8 ds.out.cur ([{ data := #[47, 98, 97, 100, 47, 107, 101, 121] }, { data := #[47, 107, 101, 121, 47, 97] }, { data := #[47, 97, 47, 107, 101, 121] }] : List ByteArray) _ rfl 3 rfl (by decide) (by decide) (fun x => ∃ s ∈ ([{ data := #[47, 98, 97, 100, 47, 107, 101, 121] }, { data := #[47, 107, 101, 121, 47, 97] }, { data := #[47, 97, 47, 107, 101, 121] }] : List ByteArray), x = .string s) (fun x hx => ⟨x, hx, rfl⟩))
    go_wp2_with fail
    refine HST.out.mono ?_
    rintro e w9 ⟨y, rfl, ⟨s2, hs2, rfl⟩, hc1, hk1⟩
    replace HT := Lib.hid (blk_keep HT.out hk1 (by have := HP0.out; omega)); replace HR := Lib.hid (blk_keep HR.out hk1 (by have := HP0.out; omega)); replace HX := Lib.hid (blk_keep HX.out hk1 (by have := HP0.out; have := HGN.out; omega)); replace HY := Lib.hid (blk_keep HY.out hk1 (by have := HP0.out; have := HGB.out; omega)); replace HK := Lib.hid (Kd.own_cur HK.out hk1 HPB.out); replace HNn := Lib.hid (Kd.own_cur HNn.out hk1 HPB.out); replace HBk := Lib.hid (Kd.own_cur HBk.out hk1 HPB.out); replace ds := Lib.hid (ds.out.step hc1 hk1)
    have HF := Lib.hid (l4OfB s2 w9 (Nat.le_trans (size_kb hs2) (by decide)))
    clear hc1 hk1 HST hs2
    go_wp2_with fail
    refine HF.out.mono ?_
    rintro e wB ⟨u, rfl, hu, hb⟩
    obtain ⟨x4, n7, c7, rfl, -, hu⟩ := hu.shapeN
    have HB2 := Lib.hid (hb_soft (hu.mono (Nat.le_trans HBW.out ds.out.size)))
    replace HT := Lib.hid (HT.out.on hb); replace HR := Lib.hid (HR.out.on hb); replace HX := Lib.hid (HX.out.on hb); replace HY := Lib.hid (HY.out.on hb); replace HK := Lib.hid (Kd.own_on HK.out hb); replace HNn := Lib.hid (Kd.own_on HNn.out hb); replace ds := Lib.hid (ds.out.on hb)
    have HLK2 := Lib.hid (bulk_pN s2)
    obtain ⟨lk2, hlk⟩ : ∃ n, pN s2 = n := ⟨_, rfl⟩
    rw [hlk] at HB2 HLK2
    clear hu hb hlk HF HBk HLKx lk
    have qb : wB.cell? ⟨gb, 0, none⟩ = some (.slice x3 n6 c6) := HY.out.cell 0
    have fb : wB.frozen? ⟨gb, 0, none⟩ = false := HY.out.frozen 0
    have HY2 := Lib.hid (show Blk (wB.setCell ⟨gb, 0, none⟩ (.slice x4 n7 c7)) gb #[.slice x4 n7 c7] 32 from HY.out.set 0 (.slice x4 n7 c7))
    have ds2 := Lib.hid (ds.out.set (g := gb) (i := 0) (u := .slice x4 n7 c7) HGB.out)
    have HT2 := Lib.hid (HT.out.other (a := ⟨gb, 0, none⟩) (show gb ≠ w.heap.size from by have := HRL.out; omega) (.slice x4 n7 c7)); have HR2 := Lib.hid (HR.out.other (a := ⟨gb, 0, none⟩) (show gb ≠ w.heap.size + 1 from by have := HRL.out; omega) (.slice x4 n7 c7)); have HX2 := Lib.hid (HX.out.other (a := ⟨gb, 0, none⟩) (show gb ≠ gn from by have := HGNB.out; omega) (.slice x4 n7 c7))
    have HK2 := Lib.hid (Kd.own_setT (i := 0) (u := .slice x4 n7 c7) ((noRow_sKy (by decide)).slice (by decide)) HK.out HY.out); have HN2 := Lib.hid (Kd.own_setT (i := 0) (u := .slice x4 n7 c7) (noRow_sN (by decide)) HNn.out HY.out); have HB3 := Lib.hid (Kd.own_setT (i := 0) (u := .slice x4 n7 c7) (noRow_sN (by decide)) HB2.out HY.out)
    clear ds HT HR HX HY HK HNn HB2
    obtain ⟨wC, hwC⟩ : ∃ W, wB.setCell ⟨gb, 0, none⟩ (.slice x4 n7 c7) = W := ⟨_, rfl⟩
    rw [hwC] at HY2 ds2 HT2 HR2 HX2 HK2 HN2 HB3
    have HWC := Lib.hid hwC
    clear hwC
    go_upto_region 6 with fail
    rw [HWC.out]
    clear HWC qb fb
    refine mad6c (Lib.hid ds2.out.cur) HT2 HX2 HY2 HN2 HB3 HK2 (Lib.hid (by have := HP0.out; omega)) (Lib.hid (by have := HP0.out; have := HGN.out; omega)) (Lib.hid (by have := HP0.out; have := HGB.out; omega)) HPB HBT HLNx HLK2 ?_
    intro u34 u35 u36 u37 u38 u39 u40 u41 u42 u43 u44 u45 gD ma da mb db mc dc_ ya yb yc X ok wx hgd hgp hxd hx hxc hsm hx1 hx4 hc1 hk1
    have hgw := Nat.le_trans ds2.out.size hgd
    have hRl := HR2.out.lt
    have hR6 := blk_keep HR2.out hk1 (by have := HP0.out; omega)
    have dsn := (ds2.out.step hc1 hk1).five11 (g := gD) (a := .slice ya ma da) (b := .slice yb mb db) (c := .slice yc mc dc_) (d := .int .i64 X.2.2.2.1) (e := .int .i64 X.2.2.2.2) hgw
    have hR7 := Ring.blk_five_other (g := gD) (a := .slice ya ma da) (b := .slice yb mb db) (c := .slice yc mc dc_) (f := X.2.2.2.1) (s := X.2.2.2.2) hR6 (show w.heap.size + 1 ≠ gD by omega)
    have hD7 := Ring.blk_five (a := .slice ya ma da) (b := .slice yb mb db) (c := .slice yc mc dc_) (f := X.2.2.2.1) (s := X.2.2.2.2) hxd
    have hx7 := sDz.own_mono (own_five11 (a := .slice ya ma da) (b := .slice yb mb db) (c := .slice yc mc dc_) (d := .int .i64 X.2.2.2.1) (e := .int .i64 X.2.2.2.2) (noRow_sDz (by decide) (by decide)) hx hxd) ds2.out.size
    have hc7 := Sl.Own.mono (slOwn_five11 (a := .slice ya ma da) (b := .slice yb mb db) (c := .slice yc mc dc_) (d := .int .i64 X.2.2.2.1) (e := .int .i64 X.2.2.2.2) hxc hxd (by decide)) ds2.out.size
    have HX1 := Lib.hid (show X.1 = [] ∨ X.1 ∈ NM11 from hx1.imp id (fun e => by rw [e]; exact HNMx.out))
    have HSM := Lib.hid hsm; have HX4 := Lib.hid hx4; have HGD := Lib.hid hgw; have HGDp := Lib.hid hgp; have HGR := Lib.hid (show w.heap.size + 1 ≠ gD by omega)
    obtain ⟨wy, hwy⟩ : ∃ W, ((((((wx).setCell ⟨gD, 0, none⟩ (.slice ya ma da)).setCell ⟨gD, 1, none⟩ (.slice yb mb db)).setCell ⟨gD, 2, none⟩ (.slice yc mc dc_)).setCell ⟨gD, 3, none⟩ (.int .i64 X.2.2.2.1)).setCell ⟨gD, 4, none⟩ (.int .i64 X.2.2.2.2)) = W := ⟨_, rfl⟩
    rw [hwy] at dsn hR7 hD7 hx7 hc7 ⊢
    have HD := Lib.hid hD7; have HXs := Lib.hid hx7; have HXC := Lib.hid hc7
    clear hgd hgw hgp hRl hR6 hwy hxd hx hxc hsm hx1 hx4 hc1 hk1 ds2 HT2 HX2 HY2 HR2 HN2 HB3 HK2
    have HR := Lib.hid (show Blk wy (w.heap.size + 1) (dc (.slice none 0 0) (.slice none 0 0) (.slice none 0 0) 0 0) 34 from hR7); have ds := Lib.hid dsn
    clear hR7 hD7 hx7 hc7 dsn
    have HST := Lib.hid (once w0 p v l wy 8 ds.out.cur)
    go_wp2_with fail
    refine HST.out.mono ?_
    rintro e wz ⟨y, rfl, ⟨b2, rfl⟩, hc1, hk1⟩
    replace HR := Lib.hid (blk_keep HR.out hk1 (by have := HP0.out; omega)); replace HD := Lib.hid (blk_keep HD.out hk1 HGDp.out); replace HXs := Lib.hid (Kd.own_cur HXs.out hk1 HP0.out); replace HXC := Lib.hid (own_keep HXC.out hk1 HP0.out); replace ds := Lib.hid (ds.out.step hc1 hk1)
    clear hc1 hk1 HST
    cases b2 with
    | false =>
      obtain ⟨q0, q1, q2, q3, q4⟩ := cells5_11 (show Blk _ gD #[.slice ya ma da, .slice yb mb db, .slice yc mc dc_, .int .i64 X.2.2.2.1, .int .i64 X.2.2.2.2] 34 from HD.out)
      obtain ⟨e0, e1, e2, e3, e4⟩ := cells5_11 HR.out
      obtain ⟨f0, f1, f2, f3, f4⟩ := froz5_11 HR.out
      have Z1 := Lib.hid (Ring.blk_five (a := .slice ya ma da) (b := .slice yb mb db) (c := .slice yc mc dc_) (f := X.2.2.2.1) (s := X.2.2.2.2) HR.out)
      have Z2 := Lib.hid (ds.out.five11 (g := w.heap.size + 1) (a := .slice ya ma da) (b := .slice yb mb db) (c := .slice yc mc dc_) (d := .int .i64 X.2.2.2.1) (e := .int .i64 X.2.2.2.2) (Nat.le_succ _))
      have Z3 := Lib.hid (own_five11 (a := .slice ya ma da) (b := .slice yb mb db) (c := .slice yc mc dc_) (d := .int .i64 X.2.2.2.1) (e := .int .i64 X.2.2.2.2) (noRow_sDz (by decide) (by decide)) HXs.out HR.out)
      clear ds HD HR HXs
      go_wp2_with fail
      refine bodyPost_ret (Ret.results_c rfl _ _ (w.heap.size + 1) [.slice ya ma da, .slice yb mb db, .slice yc mc dc_, .int .i64 X.2.2.2.1, .int .i64 X.2.2.2.2] rfl aggD Z1.out.cells) rfl ?_
      exact ⟨_, rfl, ⟨_, _, _, _, _, _, _, _, _, X, rfl, Z3.out, HSM.out, HX1.out⟩, Z2.out.cur, Z2.out.keep⟩
    | true =>
      have q1 : wz.cell? ⟨gD, 1, none⟩ = some (.slice yb mb db) := (cells5_11 (show Blk _ gD #[.slice ya ma da, .slice yb mb db, .slice yc mc dc_, .int .i64 X.2.2.2.1, .int .i64 X.2.2.2.2] 34 from HD.out)).2.1
      have hb1 := (Below.refl wz.heap.size wz).alloc (Nat.le_refl _) (.cells #[.int .u8 1] 5)
      replace ds := Lib.hid (ds.out.on hb1); replace HR := Lib.hid (HR.out.on hb1); replace HD := Lib.hid (HD.out.on hb1); replace HXs := Lib.hid (Kd.own_on HXs.out hb1); replace HXC := Lib.hid (HXC.out.on hb1)
      have HOK := Lib.hid (ownK_single.2 HXC.out)
      clear hb1
      go_wp2_with (at_builtin; refine Sl.wpList_app (k := .u8) (B := w.heap.size) (l := X.2.1) (m := [1]) rfl _ _ rfl Tryz.underlying22 Sl.elemBYTE rfl rfl rfl HXC.out (Sl.holds_one .u8 _ _ _) ?_ (by decide) ?_ ?_)
      · have := HX4.out; simp; omega
      · exact ds.out.size
      intro v5 wq ho5 hg5
      replace ho5 := Row.Own.shapeN (enc := Value.int .u8) ho5
      obtain ⟨z5, n6, d5, rfl, -, -, ho5⟩ := ho5
      replace ds := Lib.hid (ds.out.grown HOK.out hg5); replace HR := Lib.hid (blk_row HR.out (by decide) HOK.out hg5); replace HD := Lib.hid (show Blk wq gD #[.slice ya ma da, .slice yb mb db, .slice yc mc dc_, .int .i64 X.2.2.2.1, .int .i64 X.2.2.2.2] 34 from blk_row HD.out (by decide) HOK.out hg5)
      replace HXs := Lib.hid (show sDz.own w.heap.size wq ((⟨ya, ma, da, X.1⟩, ⟨z5, n6, d5, X.2.1 ++ [1]⟩, ⟨yc, mc, dc_, X.2.2.1⟩, X.2.2.2.1, X.2.2.2.2) : Dzm) from ⟨Kd.own_rowT (noRow_sN (by decide)) HXs.out.1 HOK.out hg5, sB_own ⟨ownK_single.2 ho5, fun _ _ => trivial⟩, Kd.own_rowT (noRow_sN (by decide)) HXs.out.2.2.1 HOK.out hg5, trivial, trivial⟩)
      have q2 : wq.cell? ⟨gD, 1, none⟩ = some (.slice yb mb db) := (cells5_11 HD.out).2.1
      have f2 : wq.frozen? ⟨gD, 1, none⟩ = false := HD.out.frozen 1
      have HR2 := Lib.hid (show Blk (wq.setCell ⟨gD, 1, none⟩ (.slice z5 n6 d5)) (w.heap.size + 1) (dc (.slice none 0 0) (.slice none 0 0) (.slice none 0 0) 0 0) 34 from HR.out.other (a := ⟨gD, 1, none⟩) (Ne.symm HGR.out) (.slice z5 n6 d5))
      have ds2 := Lib.hid (ds.out.set (g := gD) (i := 1) (u := .slice z5 n6 d5) HGD.out)
      have HX2 := Lib.hid (Kd.own_setT (i := 1) (u := .slice z5 n6 d5) (noRow_sDz (by decide) (by decide)) HXs.out HD.out)
      have HD2 := Lib.hid (show Blk (wq.setCell ⟨gD, 1, none⟩ (.slice z5 n6 d5)) gD #[.slice ya ma da, .slice z5 n6 d5, .slice yc mc dc_, .int .i64 X.2.2.2.1, .int .i64 X.2.2.2.2] 34 from HD.out.set 1 (.slice z5 n6 d5))
      obtain ⟨wr, hwr⟩ : ∃ W, wq.setCell ⟨gD, 1, none⟩ (.slice z5 n6 d5) = W := ⟨_, rfl⟩
      clear ds HR HD HXs HXC HOK ho5 hg5 q1
      rw [hwr] at HR2 ds2 HX2 HD2
      have HWR := Lib.hid hwr; have HR := HR2; have ds := ds2; have HXs := HX2; have HD := HD2
      clear hwr HR2 ds2 HX2 HD2
      go_upto_region 9 with fail
      rw [HWR.out]
      clear HWR q2 f2
      obtain ⟨q0, q1, q2, q3, q4⟩ := cells5_11 (show Blk _ gD #[.slice ya ma da, .slice z5 n6 d5, .slice yc mc dc_, .int .i64 X.2.2.2.1, .int .i64 X.2.2.2.2] 34 from HD.out)
      obtain ⟨e0, e1, e2, e3, e4⟩ := cells5_11 HR.out
      obtain ⟨f0, f1, f2, f3, f4⟩ := froz5_11 HR.out
      have Z1 := Lib.hid (Ring.blk_five (a := .slice ya ma da) (b := .slice z5 n6 d5) (c := .slice yc mc dc_) (f := X.2.2.2.1) (s := X.2.2.2.2) HR.out)
      have Z2 := Lib.hid (ds.out.five11 (g := w.heap.size + 1) (a := .slice ya ma da) (b := .slice z5 n6 d5) (c := .slice yc mc dc_) (d := .int .i64 X.2.2.2.1) (e := .int .i64 X.2.2.2.2) (Nat.le_succ _))
      have Z3 := Lib.hid (own_five11 (a := .slice ya ma da) (b := .slice z5 n6 d5) (c := .slice yc mc dc_) (d := .int .i64 X.2.2.2.1) (e := .int .i64 X.2.2.2.2) (noRow_sDz (by decide) (by decide)) HXs.out HR.out)
      clear ds HD HR HXs
      go_wp2_with fail
      refine bodyPost_ret (Ret.results_c rfl _ _ (w.heap.size + 1) [.slice ya ma da, .slice z5 n6 d5, .slice yc mc dc_, .int .i64 X.2.2.2.1, .int .i64 X.2.2.2.2] rfl aggD Z1.out.cells) rfl ?_
      exact ⟨_, rfl, ⟨_, _, _, _, _, _, _, _, _, (X.1, X.2.1 ++ [1], X.2.2.1, X.2.2.2.1, X.2.2.2.2), rfl, Z3.out, smD_app11 HSM.out HX4.out, HX1.out⟩, Z2.out.cur, Z2.out.keep⟩
  | false =>
    go_upto_region 6 with fail
    refine mad6c (Lib.hid ds.out.cur) HT HX HY HNn HBk HK (Lib.hid (by have := HP0.out; omega)) (Lib.hid (by have := HP0.out; have := HGN.out; omega)) (Lib.hid (by have := HP0.out; have := HGB.out; omega)) HPB HBT HLNx HLKx ?_
    intro u34 u35 u36 u37 u38 u39 u40 u41 u42 u43 u44 u45 gD ma da mb db mc dc_ ya yb yc X ok wx hgd hgp hxd hx hxc hsm hx1 hx4 hc1 hk1
    have hgw := Nat.le_trans ds.out.size hgd
    have hRl := HR.out.lt
    have hR6 := blk_keep HR.out hk1 (by have := HP0.out; omega)
    have dsn := (ds.out.step hc1 hk1).five11 (g := gD) (a := .slice ya ma da) (b := .slice yb mb db) (c := .slice yc mc dc_) (d := .int .i64 X.2.2.2.1) (e := .int .i64 X.2.2.2.2) hgw
    have hR7 := Ring.blk_five_other (g := gD) (a := .slice ya ma da) (b := .slice yb mb db) (c := .slice yc mc dc_) (f := X.2.2.2.1) (s := X.2.2.2.2) hR6 (show w.heap.size + 1 ≠ gD by omega)
    have hD7 := Ring.blk_five (a := .slice ya ma da) (b := .slice yb mb db) (c := .slice yc mc dc_) (f := X.2.2.2.1) (s := X.2.2.2.2) hxd
    have hx7 := sDz.own_mono (own_five11 (a := .slice ya ma da) (b := .slice yb mb db) (c := .slice yc mc dc_) (d := .int .i64 X.2.2.2.1) (e := .int .i64 X.2.2.2.2) (noRow_sDz (by decide) (by decide)) hx hxd) ds.out.size
    have hc7 := Sl.Own.mono (slOwn_five11 (a := .slice ya ma da) (b := .slice yb mb db) (c := .slice yc mc dc_) (d := .int .i64 X.2.2.2.1) (e := .int .i64 X.2.2.2.2) hxc hxd (by decide)) ds.out.size
    have HX1 := Lib.hid (show X.1 = [] ∨ X.1 ∈ NM11 from hx1.imp id (fun e => by rw [e]; exact HNMx.out))
    have HSM := Lib.hid hsm; have HX4 := Lib.hid hx4; have HGD := Lib.hid hgw; have HGDp := Lib.hid hgp; have HGR := Lib.hid (show w.heap.size + 1 ≠ gD by omega)
    obtain ⟨wy, hwy⟩ : ∃ W, ((((((wx).setCell ⟨gD, 0, none⟩ (.slice ya ma da)).setCell ⟨gD, 1, none⟩ (.slice yb mb db)).setCell ⟨gD, 2, none⟩ (.slice yc mc dc_)).setCell ⟨gD, 3, none⟩ (.int .i64 X.2.2.2.1)).setCell ⟨gD, 4, none⟩ (.int .i64 X.2.2.2.2)) = W := ⟨_, rfl⟩
    rw [hwy] at dsn hR7 hD7 hx7 hc7 ⊢
    have HD := Lib.hid hD7; have HXs := Lib.hid hx7; have HXC := Lib.hid hc7
    clear hgd hgw hgp hRl hR6 hwy hxd hx hxc hsm hx1 hx4 hc1 hk1 ds HT HX HY HR HNn HBk HK
    have HR := Lib.hid (show Blk wy (w.heap.size + 1) (dc (.slice none 0 0) (.slice none 0 0) (.slice none 0 0) 0 0) 34 from hR7); have ds := Lib.hid dsn
    clear hR7 hD7 hx7 hc7 dsn
    have HST := Lib.hid (once w0 p v l wy 8 ds.out.cur)
    go_wp2_with fail
    refine HST.out.mono ?_
    rintro e wz ⟨y, rfl, ⟨b2, rfl⟩, hc1, hk1⟩
    replace HR := Lib.hid (blk_keep HR.out hk1 (by have := HP0.out; omega)); replace HD := Lib.hid (blk_keep HD.out hk1 HGDp.out); replace HXs := Lib.hid (Kd.own_cur HXs.out hk1 HP0.out); replace HXC := Lib.hid (own_keep HXC.out hk1 HP0.out); replace ds := Lib.hid (ds.out.step hc1 hk1)
    clear hc1 hk1 HST
    cases b2 with
    | false =>
      obtain ⟨q0, q1, q2, q3, q4⟩ := cells5_11 (show Blk _ gD #[.slice ya ma da, .slice yb mb db, .slice yc mc dc_, .int .i64 X.2.2.2.1, .int .i64 X.2.2.2.2] 34 from HD.out)
      obtain ⟨e0, e1, e2, e3, e4⟩ := cells5_11 HR.out
      obtain ⟨f0, f1, f2, f3, f4⟩ := froz5_11 HR.out
      have Z1 := Lib.hid (Ring.blk_five (a := .slice ya ma da) (b := .slice yb mb db) (c := .slice yc mc dc_) (f := X.2.2.2.1) (s := X.2.2.2.2) HR.out)
      have Z2 := Lib.hid (ds.out.five11 (g := w.heap.size + 1) (a := .slice ya ma da) (b := .slice yb mb db) (c := .slice yc mc dc_) (d := .int .i64 X.2.2.2.1) (e := .int .i64 X.2.2.2.2) (Nat.le_succ _))
      have Z3 := Lib.hid (own_five11 (a := .slice ya ma da) (b := .slice yb mb db) (c := .slice yc mc dc_) (d := .int .i64 X.2.2.2.1) (e := .int .i64 X.2.2.2.2) (noRow_sDz (by decide) (by decide)) HXs.out HR.out)
      clear ds HD HR HXs
      go_wp2_with fail
      refine bodyPost_ret (Ret.results_c rfl _ _ (w.heap.size + 1) [.slice ya ma da, .slice yb mb db, .slice yc mc dc_, .int .i64 X.2.2.2.1, .int .i64 X.2.2.2.2] rfl aggD Z1.out.cells) rfl ?_
      exact ⟨_, rfl, ⟨_, _, _, _, _, _, _, _, _, X, rfl, Z3.out, HSM.out, HX1.out⟩, Z2.out.cur, Z2.out.keep⟩
    | true =>
      have q1 : wz.cell? ⟨gD, 1, none⟩ = some (.slice yb mb db) := (cells5_11 (show Blk _ gD #[.slice ya ma da, .slice yb mb db, .slice yc mc dc_, .int .i64 X.2.2.2.1, .int .i64 X.2.2.2.2] 34 from HD.out)).2.1
      have hb1 := (Below.refl wz.heap.size wz).alloc (Nat.le_refl _) (.cells #[.int .u8 1] 5)
      replace ds := Lib.hid (ds.out.on hb1); replace HR := Lib.hid (HR.out.on hb1); replace HD := Lib.hid (HD.out.on hb1); replace HXs := Lib.hid (Kd.own_on HXs.out hb1); replace HXC := Lib.hid (HXC.out.on hb1)
      have HOK := Lib.hid (ownK_single.2 HXC.out)
      clear hb1
      go_wp2_with (at_builtin; refine Sl.wpList_app (k := .u8) (B := w.heap.size) (l := X.2.1) (m := [1]) rfl _ _ rfl Tryz.underlying22 Sl.elemBYTE rfl rfl rfl HXC.out (Sl.holds_one .u8 _ _ _) ?_ (by decide) ?_ ?_)
      · have := HX4.out; simp; omega
      · exact ds.out.size
      intro v5 wq ho5 hg5
      replace ho5 := Row.Own.shapeN (enc := Value.int .u8) ho5
      obtain ⟨z5, n6, d5, rfl, -, -, ho5⟩ := ho5
      replace ds := Lib.hid (ds.out.grown HOK.out hg5); replace HR := Lib.hid (blk_row HR.out (by decide) HOK.out hg5); replace HD := Lib.hid (show Blk wq gD #[.slice ya ma da, .slice yb mb db, .slice yc mc dc_, .int .i64 X.2.2.2.1, .int .i64 X.2.2.2.2] 34 from blk_row HD.out (by decide) HOK.out hg5)
      replace HXs := Lib.hid (show sDz.own w.heap.size wq ((⟨ya, ma, da, X.1⟩, ⟨z5, n6, d5, X.2.1 ++ [1]⟩, ⟨yc, mc, dc_, X.2.2.1⟩, X.2.2.2.1, X.2.2.2.2) : Dzm) from ⟨Kd.own_rowT (noRow_sN (by decide)) HXs.out.1 HOK.out hg5, sB_own ⟨ownK_single.2 ho5, fun _ _ => trivial⟩, Kd.own_rowT (noRow_sN (by decide)) HXs.out.2.2.1 HOK.out hg5, trivial, trivial⟩)
      have q2 : wq.cell? ⟨gD, 1, none⟩ = some (.slice yb mb db) := (cells5_11 HD.out).2.1
      have f2 : wq.frozen? ⟨gD, 1, none⟩ = false := HD.out.frozen 1
      have HR2 := Lib.hid (show Blk (wq.setCell ⟨gD, 1, none⟩ (.slice z5 n6 d5)) (w.heap.size + 1) (dc (.slice none 0 0) (.slice none 0 0) (.slice none 0 0) 0 0) 34 from HR.out.other (a := ⟨gD, 1, none⟩) (Ne.symm HGR.out) (.slice z5 n6 d5))
      have ds2 := Lib.hid (ds.out.set (g := gD) (i := 1) (u := .slice z5 n6 d5) HGD.out)
      have HX2 := Lib.hid (Kd.own_setT (i := 1) (u := .slice z5 n6 d5) (noRow_sDz (by decide) (by decide)) HXs.out HD.out)
      have HD2 := Lib.hid (show Blk (wq.setCell ⟨gD, 1, none⟩ (.slice z5 n6 d5)) gD #[.slice ya ma da, .slice z5 n6 d5, .slice yc mc dc_, .int .i64 X.2.2.2.1, .int .i64 X.2.2.2.2] 34 from HD.out.set 1 (.slice z5 n6 d5))
      obtain ⟨wr, hwr⟩ : ∃ W, wq.setCell ⟨gD, 1, none⟩ (.slice z5 n6 d5) = W := ⟨_, rfl⟩
      clear ds HR HD HXs HXC HOK ho5 hg5 q1
      rw [hwr] at HR2 ds2 HX2 HD2
      have HWR := Lib.hid hwr; have HR := HR2; have ds := ds2; have HXs := HX2; have HD := HD2
      clear hwr HR2 ds2 HX2 HD2
      go_upto_region 9 with fail
      rw [HWR.out]
      clear HWR q2 f2
      obtain ⟨q0, q1, q2, q3, q4⟩ := cells5_11 (show Blk _ gD #[.slice ya ma da, .slice z5 n6 d5, .slice yc mc dc_, .int .i64 X.2.2.2.1, .int .i64 X.2.2.2.2] 34 from HD.out)
      obtain ⟨e0, e1, e2, e3, e4⟩ := cells5_11 HR.out
      obtain ⟨f0, f1, f2, f3, f4⟩ := froz5_11 HR.out
      have Z1 := Lib.hid (Ring.blk_five (a := .slice ya ma da) (b := .slice z5 n6 d5) (c := .slice yc mc dc_) (f := X.2.2.2.1) (s := X.2.2.2.2) HR.out)
      have Z2 := Lib.hid (ds.out.five11 (g := w.heap.size + 1) (a := .slice ya ma da) (b := .slice z5 n6 d5) (c := .slice yc mc dc_) (d := .int .i64 X.2.2.2.1) (e := .int .i64 X.2.2.2.2) (Nat.le_succ _))
      have Z3 := Lib.hid (own_five11 (a := .slice ya ma da) (b := .slice z5 n6 d5) (c := .slice yc mc dc_) (d := .int .i64 X.2.2.2.1) (e := .int .i64 X.2.2.2.2) (noRow_sDz (by decide) (by decide)) HXs.out HR.out)
      clear ds HD HR HXs
      go_wp2_with fail
      refine bodyPost_ret (Ret.results_c rfl _ _ (w.heap.size + 1) [.slice ya ma da, .slice z5 n6 d5, .slice yc mc dc_, .int .i64 X.2.2.2.1, .int .i64 X.2.2.2.2] rfl aggD Z1.out.cells) rfl ?_
      exact ⟨_, rfl, ⟨_, _, _, _, _, _, _, _, _, (X.1, X.2.1 ++ [1], X.2.2.1, X.2.2.2.1, X.2.2.2.2), rfl, Z3.out, smD_app11 HSM.out HX4.out, HX1.out⟩, Z2.out.cur, Z2.out.keep⟩
end Go.Proofs.YtlhchmjnaanjpaaGreatDoor.Draw
/- A policy and a packet as it is made (DrawMade). -/
namespace Go.Proofs.YtlhchmjnaanjpaaGreatDoor.Draw
open Go.ChangeShapes Go.WideShapes Go.ChangeAt Go.RowKit Go.Instr
open Go.Proofs.YtlhchmjnaanjpaaGreatDoor.Row
open Go.Proofs.YtlhchmjnaanjpaaGreatDoor.Ret (NC Blk Box)
set_option linter.unusedVariables false
set_option maxRecDepth 100000
section
variable {w0 W : World} {p g q : Nat} {v : Value} {l : List UInt8} {a b c d e : Value} {cs : Array Value} {t : TypeId}
theorem Cur.four11 (h : Cur w0 p v l W) (hg : w0.heap.size ≤ g) (hp : g ≠ p) : Cur w0 p v l (((((W).setCell ⟨g, 0, none⟩ (a)).setCell ⟨g, 1, none⟩ (b)).setCell ⟨g, 2, none⟩ (c)).setCell ⟨g, 3, none⟩ (d)) := (((h.setI 0 hg hp a).setI 1 hg hp b).setI 2 hg hp c).setI 3 hg hp d
theorem Cur.five11 (h : Cur w0 p v l W) (hg : w0.heap.size ≤ g) (hp : g ≠ p) : Cur w0 p v l ((((((W).setCell ⟨g, 0, none⟩ (a)).setCell ⟨g, 1, none⟩ (b)).setCell ⟨g, 2, none⟩ (c)).setCell ⟨g, 3, none⟩ (d)).setCell ⟨g, 4, none⟩ (e)) := (h.four11 hg hp).setI 4 hg hp e
theorem blk_four_other11 (h : Blk W q cs t) (hn : q ≠ g) : Blk (((((W).setCell ⟨g, 0, none⟩ (a)).setCell ⟨g, 1, none⟩ (b)).setCell ⟨g, 2, none⟩ (c)).setCell ⟨g, 3, none⟩ (d)) q cs t := (((h.other (a := ⟨g, 0, none⟩) (Ne.symm hn) a).other (a := ⟨g, 1, none⟩) (Ne.symm hn) b).other (a := ⟨g, 2, none⟩) (Ne.symm hn) c).other (a := ⟨g, 3, none⟩) (Ne.symm hn) d
theorem blk_five_other11 (h : Blk W q cs t) (hn : q ≠ g) : Blk ((((((W).setCell ⟨g, 0, none⟩ (a)).setCell ⟨g, 1, none⟩ (b)).setCell ⟨g, 2, none⟩ (c)).setCell ⟨g, 3, none⟩ (d)).setCell ⟨g, 4, none⟩ (e)) q cs t := (blk_four_other11 h hn).other (a := ⟨g, 4, none⟩) (Ne.symm hn) e
end
theorem own_setB11 {α M : Type} {k : Kd α M} {B g i : Nat} {w : World} {m : M} {u : Value} (h : k.own B w m) (hg : g < B) : k.own B (w.setCell ⟨g, i, none⟩ u) m :=
  k.own_keep h fun q hq => Go.RowKit.Below.heap_setCell w ⟨g, i, none⟩ u q (show q ≠ g by have := (k.own_lt h q hq).1; omega)
theorem own_fourB11 {α M : Type} {k : Kd α M} {B g : Nat} {w : World} {m : M} {a b c d : Value} (h : k.own B w m) (hg : g < B) : k.own B (((((w).setCell ⟨g, 0, none⟩ (a)).setCell ⟨g, 1, none⟩ (b)).setCell ⟨g, 2, none⟩ (c)).setCell ⟨g, 3, none⟩ (d)) m := own_setB11 (own_setB11 (own_setB11 (own_setB11 h hg) hg) hg) hg
theorem own_fiveB11 {α M : Type} {k : Kd α M} {B g : Nat} {w : World} {m : M} {a b c d e : Value} (h : k.own B w m) (hg : g < B) : k.own B ((((((w).setCell ⟨g, 0, none⟩ (a)).setCell ⟨g, 1, none⟩ (b)).setCell ⟨g, 2, none⟩ (c)).setCell ⟨g, 3, none⟩ (d)).setCell ⟨g, 4, none⟩ (e)) m := own_setB11 (own_fourB11 h hg) hg
theorem Cur.base11 {w0 w1 W : World} {p : Nat} {v : Value} {l : List UInt8} (h : Cur w1 p v l W) (hb : Frame.Bytes w0 v l) (hw : Below w0.heap.size w0 w1) : Cur w0 p v l W := ⟨hb, hw.trans (h.below.mono hw.size), Nat.le_trans hw.size h.place, h.row⟩
set_option maxRecDepth 100000 in
set_option maxHeartbeats 4000000 in
theorem mad3c {Q : Exit → Act → World → Prop} {v0 v1 v6 v7 v8 v9 v10 v11 v12 v13 : Value} {w : World} {w0 : World} {p : Nat} {v : Value} {l : List UInt8} (C0 : Hid (Cur w0 p v l w)) {g5 r2 r3 B nk ck n1 c1 n2 c2 n3 c3 : Nat} {xk a1 a2 a3 : Option Addr} {L0 : List Kym} {L1 : List Rlm} {L2 : List Nnm} {L3 : List Dzm} (XT : Hid (Blk w g5 #[.slice xk nk ck, .slice a1 n1 c1, .slice a2 n2 c2, .slice a3 n3 c3] 29)) (R2 : Hid (Blk w r2 #[.slice none 0 0, .slice none 0 0, .slice none 0 0, .slice none 0 0] 29)) (R3 : Hid (Blk w r3 #[.slice none 0 0, .slice none 0 0, .slice none 0 0, .int .i64 0, .int .i64 0] 34)) (OK : Hid (sLKy.own B w ⟨xk, nk, ck, L0⟩)) (O1 : Hid (sLRl.own B w ⟨a1, n1, c1, L1⟩)) (O2 : Hid (sLNn.own B w ⟨a2, n2, c2, L2⟩)) (O3 : Hid (sLDz.own B w ⟨a3, n3, c3, L3⟩)) (HTP : Hid (g5 ≠ p)) (H2P : Hid (r2 ≠ p)) (H3P : Hid (r3 ≠ p)) (HT2 : Hid (g5 ≠ r2)) (HT3 : Hid (g5 ≠ r3)) (H23 : Hid (r2 ≠ r3)) (H02 : Hid (w0.heap.size ≤ r2)) (H03 : Hid (w0.heap.size ≤ r3)) (HLB2 : Hid (r2 < B)) (HLB3 : Hid (r3 < B)) (HPB : Hid (p < B)) (HBW : Hid (B ≤ w.heap.size)) (HBT : Hid (Ring.bulkT (L0.map kKy.strip) ≤ 1200000))
  (hQ : ∀ (u10 u11 u12 u13 : Value) (ya yb yc : Option Addr) (ma da mb db mc dc_ : Nat) (X : Dt) (wx : World), Blk wx r2 #[.slice xk nk ck, .slice a1 n1 c1, .slice a2 n2 c2, .slice a3 n3 c3] 29 → Blk wx r3 #[.slice ya ma da, .slice yb mb db, .slice yc mc dc_, .int .i64 X.2.2.2.1, .int .i64 X.2.2.2.2] 34 → sLKy.own B wx ⟨xk, nk, ck, L0⟩ → sLRl.own B wx ⟨a1, n1, c1, L1⟩ → sLNn.own B wx ⟨a2, n2, c2, L2⟩ → sLDz.own B wx ⟨a3, n3, c3, L3⟩ → sDz.own B wx (⟨ya, ma, da, X.1⟩, ⟨yb, mb, db, X.2.1⟩, ⟨yc, mc, dc_, X.2.2.1⟩, X.2.2.2.1, X.2.2.2.2) → smD11 X → (X.1 = [] ∨ X.1 ∈ NM11) → Cur w0 p v l wx → B ≤ wx.heap.size → Q .normal ⟨#[v0, v1, .pointer (some ⟨r2, 0, none⟩), .pointer (some ⟨r3, 0, none⟩), .pointer (some ⟨p, 0, none⟩), .pointer (some ⟨g5, 0, none⟩), v6, v7, v8, v9, u10, u11, u12, u13], []⟩ wx) :
  (Code.region 3 #[⟨some 10, .load 29 (.tmp 5), 29, "l11_trust.go:202", #[], none⟩,
   ⟨some 11, .move (.tmp 4), 72, "l11_trust.go:202", #[], none⟩,
   ⟨some 12, .load 29 (.tmp 5), 29, "l11_trust.go:202", #[], none⟩,
   ⟨some 13, .call ⟨.value (.func 77), #[.tmp 11, .tmp 12], #[72, 29]⟩, 34, "l11_trust.go:202", #[⟨1, .data⟩, ⟨2, .data⟩], none⟩,
   ⟨none, .store 29 (.tmp 2) (.tmp 10), 0, "l11_trust.go:202", #[⟨0, .data⟩, ⟨3, .chain⟩, ⟨0, .phase⟩, { on := 1, ground := Ground.textOnly Departure.lateStores }, { on := 2, ground := Ground.textOnly Departure.lateStores }, { on := 3, ground := Ground.textOnly Departure.lateStoresUnsure }], none⟩,
   ⟨none, .store 34 (.tmp 3) (.tmp 13), 0, "l11_trust.go:202", #[⟨3, .data⟩, ⟨4, .chain⟩, ⟨0, .phase⟩, ⟨1, .phase⟩, ⟨2, .phase⟩, ⟨3, .phase⟩, ⟨4, .phase⟩], none⟩] true).wp Tryz.prog Q ⟨#[v0, v1, .pointer (some ⟨r2, 0, none⟩), .pointer (some ⟨r3, 0, none⟩), .pointer (some ⟨p, 0, none⟩), .pointer (some ⟨g5, 0, none⟩), v6, v7, v8, v9, v10, v11, v12, v13], []⟩ w := by
 have HQ := Lib.hid hQ; clear hQ
 have CP := Lib.hid C0.out.lt
 have hb : Below w.heap.size w w.drew := (Below.refl _ _).drew
 replace XT := Lib.hid (XT.out.on hb)
 replace R2 := Lib.hid (R2.out.on hb)
 replace R3 := Lib.hid (R3.out.on hb)
 replace OK := Lib.hid (Kd.own_on OK.out hb)
 replace O1 := Lib.hid (Kd.own_on O1.out hb)
 replace O2 := Lib.hid (Kd.own_on O2.out hb)
 replace O3 := Lib.hid (Kd.own_on O3.out hb)
 have C := Lib.hid (C0.out.on hb)
 skip
 have BS := Lib.hid (Nat.le_trans HBW.out hb.size)
 clear hb
 refine wp_region_noPanic ?_
 refine wp_region_held_drew (S := (fun w' => w'.cell? ⟨g5, 0, none⟩ = some (.slice xk nk ck) ∧ w'.cell? ⟨g5, 1, none⟩ = some (.slice a1 n1 c1) ∧ w'.cell? ⟨g5, 2, none⟩ = some (.slice a2 n2 c2) ∧ w'.cell? ⟨g5, 3, none⟩ = some (.slice a3 n3 c3))) (by kernel_rfl) ?_ (fun hHeld => ?_)
 ·
  exact ⟨XT.out.cell 0, XT.out.cell 1, XT.out.cell 2, XT.out.cell 3⟩
 generalize w.drew = wd at *
 refine wpAnyH_take (i := 0) (oi := ⟨some 10, .load 29 (.tmp 5), 29, "l11_trust.go:202", #[], none⟩) (v := ?_) rfl (by kernel_rfl) (by kernel_rfl) (by kernel_rfl) (fun _ _ _ h => h) (Or.inl ⟨by rfl, ?_⟩) (by assumption) ?_
 rotate_left
 ·
  intro w' hSw; (try dsimp only at hSw); first | (go_simp; done) | (go_simp; with_reducible rfl)
 (try simp only [Act.put, Row.pB0, Row.pB1, Row.pB2])
 refine wpAnyH_take (i := 1) (oi := ⟨some 11, .move (.tmp 4), 72, "l11_trust.go:202", #[], none⟩) (v := ?_) rfl (by kernel_rfl) (by kernel_rfl) (by kernel_rfl) (fun _ _ _ h => h) (Or.inl ⟨by rfl, ?_⟩) (by assumption) ?_
 rotate_left
 ·
  intro w' hSw; (try dsimp only at hSw); first | (go_simp; done) | (go_simp; with_reducible rfl)
 (try simp only [Act.put, Row.pB0, Row.pB1, Row.pB2])
 refine wpAnyH_take (i := 2) (oi := ⟨some 12, .load 29 (.tmp 5), 29, "l11_trust.go:202", #[], none⟩) (v := ?_) rfl (by kernel_rfl) (by kernel_rfl) (by kernel_rfl) (fun _ _ _ h => h) (Or.inl ⟨by rfl, ?_⟩) (by assumption) ?_
 rotate_left
 ·
  intro w' hSw; (try dsimp only at hSw); first | (go_simp; done) | (go_simp; with_reducible rfl)
 (try simp only [Act.put, Row.pB0, Row.pB1, Row.pB2])
 refine wpAnyH_ready (rs := [3]) (by kernel_rfl) (by simp) ?_
 refine AllReadyH.cons (o := ⟨some 13, .call ⟨.value (.func 77), #[.tmp 11, .tmp 12], #[72, 29]⟩, 34, "l11_trust.go:202", #[⟨1, .data⟩, ⟨2, .data⟩], none⟩) rfl (fun K hK => ?_) AllReadyH.nil
 go_simp
 refine (l11Made w0 p v l _ C.out OK.out HPB.out BS.out HBT.out).mono ?_
 rintro e wn1 ⟨y, rfl, ⟨ya, yb, yc, ma, da, mb, db, mc, dc_, X, rfl, hX, hsm, hx1⟩, hc, hk⟩
 have HX := Lib.hid (sDz.own_mono hX BS.out); have HSM := Lib.hid hsm; have HX1 := Lib.hid hx1
 clear hX hsm hx1
 replace XT := Lib.hid (blk_keep XT.out hk HTP.out)
 replace R2 := Lib.hid (blk_keep R2.out hk H2P.out)
 replace R3 := Lib.hid (blk_keep R3.out hk H3P.out)
 replace OK := Lib.hid (Kd.own_cur OK.out hk HPB.out)
 replace O1 := Lib.hid (Kd.own_cur O1.out hk HPB.out)
 replace O2 := Lib.hid (Kd.own_cur O2.out hk HPB.out)
 replace O3 := Lib.hid (Kd.own_cur O3.out hk HPB.out)
 replace C := Lib.hid hc; replace BS := Lib.hid (Nat.le_trans BS.out hk.size); clear hc hk
 (try go_wp2_with fail)
 clear hHeld
 refine hK.out _ _ ?_ (fun hHeld => ?_)
 ·
  (try dsimp only); exact ⟨XT.out.cell 0, XT.out.cell 1, XT.out.cell 2, XT.out.cell 3⟩
 clear hK K
 (try simp only [Act.put, Row.pB0, Row.pB1, Row.pB2])
 refine wpAnyH_ready (rs := [4]) (by kernel_rfl) (by simp) ?_
 refine AllReadyH.cons (o := ⟨none, .store 29 (.tmp 2) (.tmp 10), 0, "l11_trust.go:202", #[⟨0, .data⟩, ⟨3, .chain⟩, ⟨0, .phase⟩, { on := 1, ground := Ground.textOnly Departure.lateStores }, { on := 2, ground := Ground.textOnly Departure.lateStores }, { on := 3, ground := Ground.textOnly Departure.lateStoresUnsure }], none⟩) rfl (fun K hK => ?_) AllReadyH.nil
 obtain ⟨q0, q1, q2, q3⟩ := (⟨R2.out.cell 0, R2.out.cell 1, R2.out.cell 2, R2.out.cell 3⟩ : wn1.cell? ⟨r2, 0, none⟩ = some (.slice none 0 0) ∧ wn1.cell? ⟨r2, 1, none⟩ = some (.slice none 0 0) ∧ wn1.cell? ⟨r2, 2, none⟩ = some (.slice none 0 0) ∧ wn1.cell? ⟨r2, 3, none⟩ = some (.slice none 0 0))
 obtain ⟨t0, t1, t2, t3⟩ := (⟨R2.out.frozen 0, R2.out.frozen 1, R2.out.frozen 2, R2.out.frozen 3⟩ : wn1.frozen? ⟨r2, 0, none⟩ = false ∧ wn1.frozen? ⟨r2, 1, none⟩ = false ∧ wn1.frozen? ⟨r2, 2, none⟩ = false ∧ wn1.frozen? ⟨r2, 3, none⟩ = false)
 go_simp
 replace XT := Lib.hid (blk_four_other11 (a := .slice xk nk ck) (b := .slice a1 n1 c1) (c := .slice a2 n2 c2) (d := .slice a3 n3 c3) XT.out HT2.out)
 replace R3 := Lib.hid (blk_four_other11 (a := .slice xk nk ck) (b := .slice a1 n1 c1) (c := .slice a2 n2 c2) (d := .slice a3 n3 c3) R3.out (Ne.symm H23.out))
 replace OK := Lib.hid (own_fourB11 (a := .slice xk nk ck) (b := .slice a1 n1 c1) (c := .slice a2 n2 c2) (d := .slice a3 n3 c3) OK.out HLB2.out)
 replace O1 := Lib.hid (own_fourB11 (a := .slice xk nk ck) (b := .slice a1 n1 c1) (c := .slice a2 n2 c2) (d := .slice a3 n3 c3) O1.out HLB2.out)
 replace O2 := Lib.hid (own_fourB11 (a := .slice xk nk ck) (b := .slice a1 n1 c1) (c := .slice a2 n2 c2) (d := .slice a3 n3 c3) O2.out HLB2.out)
 replace O3 := Lib.hid (own_fourB11 (a := .slice xk nk ck) (b := .slice a1 n1 c1) (c := .slice a2 n2 c2) (d := .slice a3 n3 c3) O3.out HLB2.out)
 replace HX := Lib.hid (own_fourB11 (a := .slice xk nk ck) (b := .slice a1 n1 c1) (c := .slice a2 n2 c2) (d := .slice a3 n3 c3) HX.out HLB2.out)
 replace R2 := Lib.hid (show Blk (((((wn1).setCell ⟨r2, 0, none⟩ (.slice xk nk ck)).setCell ⟨r2, 1, none⟩ (.slice a1 n1 c1)).setCell ⟨r2, 2, none⟩ (.slice a2 n2 c2)).setCell ⟨r2, 3, none⟩ (.slice a3 n3 c3)) r2 #[.slice xk nk ck, .slice a1 n1 c1, .slice a2 n2 c2, .slice a3 n3 c3] 29 from ((((R2.out.set 0 (.slice xk nk ck)).set 1 (.slice a1 n1 c1)).set 2 (.slice a2 n2 c2)).set 3 (.slice a3 n3 c3)))
 replace C := Lib.hid (C.out.four11 (a := .slice xk nk ck) (b := .slice a1 n1 c1) (c := .slice a2 n2 c2) (d := .slice a3 n3 c3) H02.out H2P.out)
 replace BS := Lib.hid (show B ≤ (((((wn1).setCell ⟨r2, 0, none⟩ (.slice xk nk ck)).setCell ⟨r2, 1, none⟩ (.slice a1 n1 c1)).setCell ⟨r2, 2, none⟩ (.slice a2 n2 c2)).setCell ⟨r2, 3, none⟩ (.slice a3 n3 c3)).heap.size from by simpa [World.setCell] using BS.out)
 clear q0 t0 q1 t1 q2 t2 q3 t3
 generalize (((((wn1).setCell ⟨r2, 0, none⟩ (.slice xk nk ck)).setCell ⟨r2, 1, none⟩ (.slice a1 n1 c1)).setCell ⟨r2, 2, none⟩ (.slice a2 n2 c2)).setCell ⟨r2, 3, none⟩ (.slice a3 n3 c3)) = wn2 at *
 clear hHeld
 refine hK.out _ _ ?_ (fun hHeld => ?_)
 ·
  (try dsimp only); exact ⟨XT.out.cell 0, XT.out.cell 1, XT.out.cell 2, XT.out.cell 3⟩
 clear hK K
 (try simp only [Act.put, Row.pB0, Row.pB1, Row.pB2])
 refine wpAnyH_ready (rs := [5]) (by kernel_rfl) (by simp) ?_
 refine AllReadyH.cons (o := ⟨none, .store 34 (.tmp 3) (.tmp 13), 0, "l11_trust.go:202", #[⟨3, .data⟩, ⟨4, .chain⟩, ⟨0, .phase⟩, ⟨1, .phase⟩, ⟨2, .phase⟩, ⟨3, .phase⟩, ⟨4, .phase⟩], none⟩) rfl (fun K hK => ?_) AllReadyH.nil
 obtain ⟨q0, q1, q2, q3, q4⟩ := cells5_11 R3.out
 obtain ⟨t0, t1, t2, t3, t4⟩ := froz5_11 R3.out
 go_simp
 replace XT := Lib.hid (blk_five_other11 (a := .slice ya ma da) (b := .slice yb mb db) (c := .slice yc mc dc_) (d := .int .i64 X.2.2.2.1) (e := .int .i64 X.2.2.2.2) XT.out HT3.out)
 replace R2 := Lib.hid (blk_five_other11 (a := .slice ya ma da) (b := .slice yb mb db) (c := .slice yc mc dc_) (d := .int .i64 X.2.2.2.1) (e := .int .i64 X.2.2.2.2) R2.out H23.out)
 replace OK := Lib.hid (own_fiveB11 (a := .slice ya ma da) (b := .slice yb mb db) (c := .slice yc mc dc_) (d := .int .i64 X.2.2.2.1) (e := .int .i64 X.2.2.2.2) OK.out HLB3.out)
 replace O1 := Lib.hid (own_fiveB11 (a := .slice ya ma da) (b := .slice yb mb db) (c := .slice yc mc dc_) (d := .int .i64 X.2.2.2.1) (e := .int .i64 X.2.2.2.2) O1.out HLB3.out)
 replace O2 := Lib.hid (own_fiveB11 (a := .slice ya ma da) (b := .slice yb mb db) (c := .slice yc mc dc_) (d := .int .i64 X.2.2.2.1) (e := .int .i64 X.2.2.2.2) O2.out HLB3.out)
 replace O3 := Lib.hid (own_fiveB11 (a := .slice ya ma da) (b := .slice yb mb db) (c := .slice yc mc dc_) (d := .int .i64 X.2.2.2.1) (e := .int .i64 X.2.2.2.2) O3.out HLB3.out)
 replace HX := Lib.hid (own_fiveB11 (a := .slice ya ma da) (b := .slice yb mb db) (c := .slice yc mc dc_) (d := .int .i64 X.2.2.2.1) (e := .int .i64 X.2.2.2.2) HX.out HLB3.out)
 replace R3 := Lib.hid (show Blk ((((((wn2).setCell ⟨r3, 0, none⟩ (.slice ya ma da)).setCell ⟨r3, 1, none⟩ (.slice yb mb db)).setCell ⟨r3, 2, none⟩ (.slice yc mc dc_)).setCell ⟨r3, 3, none⟩ (.int .i64 X.2.2.2.1)).setCell ⟨r3, 4, none⟩ (.int .i64 X.2.2.2.2)) r3 #[.slice ya ma da, .slice yb mb db, .slice yc mc dc_, .int .i64 X.2.2.2.1, .int .i64 X.2.2.2.2] 34 from (((((R3.out.set 0 (.slice ya ma da)).set 1 (.slice yb mb db)).set 2 (.slice yc mc dc_)).set 3 (.int .i64 X.2.2.2.1)).set 4 (.int .i64 X.2.2.2.2)))
 replace C := Lib.hid (C.out.five11 (a := .slice ya ma da) (b := .slice yb mb db) (c := .slice yc mc dc_) (d := .int .i64 X.2.2.2.1) (e := .int .i64 X.2.2.2.2) H03.out H3P.out)
 replace BS := Lib.hid (show B ≤ ((((((wn2).setCell ⟨r3, 0, none⟩ (.slice ya ma da)).setCell ⟨r3, 1, none⟩ (.slice yb mb db)).setCell ⟨r3, 2, none⟩ (.slice yc mc dc_)).setCell ⟨r3, 3, none⟩ (.int .i64 X.2.2.2.1)).setCell ⟨r3, 4, none⟩ (.int .i64 X.2.2.2.2)).heap.size from by simpa [World.setCell] using BS.out)
 clear q0 t0 q1 t1 q2 t2 q3 t3 q4 t4
 generalize ((((((wn2).setCell ⟨r3, 0, none⟩ (.slice ya ma da)).setCell ⟨r3, 1, none⟩ (.slice yb mb db)).setCell ⟨r3, 2, none⟩ (.slice yc mc dc_)).setCell ⟨r3, 3, none⟩ (.int .i64 X.2.2.2.1)).setCell ⟨r3, 4, none⟩ (.int .i64 X.2.2.2.2)) = wn3 at *
 clear hHeld
 refine hK.out _ _ ?_ (fun hHeld => ?_)
 ·
  (try dsimp only); exact ⟨XT.out.cell 0, XT.out.cell 1, XT.out.cell 2, XT.out.cell 3⟩
 clear hK K
 (try simp only [Act.put, Row.pB0, Row.pB1, Row.pB2])
 refine wpAnyH_done (by kernel_rfl) ?_ _
 exact NoPanic.normal (HQ.out _ _ _ _ _ _ _ _ _ _ _ _ _ X _ R2.out R3.out OK.out O1.out O2.out O3.out HX.out HSM.out HX1.out C.out BS.out)
def QMade (w : World) (e : Ending) (w' : World) : Prop :=
 ∃ (V U : Value) (B : Nat), e = .returned (.tuple #[V, U]) ∧ TrustD B V w' ∧ MadeD B U w' ∧ Below w.heap.size w w'
set_option maxHeartbeats 16000000 in
theorem dDrawMade (w : World) (v : Value) (l : List UInt8) (hb : Frame.Bytes w v l) :
    Calls Tryz.prog 31 #[v] w (QMade w) := by
  obtain ⟨k1, k2, hw, hs⟩ := two_new (w := w) #[.slice none 0 0, .slice none 0 0, .slice none 0 0, .slice none 0 0] #[.slice none 0 0, .slice none 0 0, .slice none 0 0, .int .i64 0, .int .i64 0] 29 34
  have R2 := Lib.hid k1; have R3 := Lib.hid k2; have HW := Lib.hid hw; have HB := Lib.hid hb
  obtain ⟨wA, hwA⟩ : ∃ W, (w.alloc (.cells #[.slice none 0 0, .slice none 0 0, .slice none 0 0, .slice none 0 0] 29)).alloc (.cells #[.slice none 0 0, .slice none 0 0, .slice none 0 0, .int .i64 0, .int .i64 0] 34) = W := ⟨_, rfl⟩
  rw [hwA] at R2 R3 HW
  have HN := Lib.hid (new wA v l (hb.on HW.out))
  have HWA := Lib.hid hwA
  rw [hwA] at hs
  have HSZ := Lib.hid hs
  clear k1 k2 hw hwA hb hs
  go_enter Tryz.func31, Tryz.ntmps31
  go_upto_region 1 with fail
  rw [HWA.out]
  clear HWA
  go_wp2_with fail
  refine HN.out.mono ?_
  rintro e w1 ⟨rfl, hc⟩
  have HC := Lib.hid (hc.base11 HB.out HW.out)
  replace R2 := Lib.hid (R2.out.on hc.below); replace R3 := Lib.hid (R3.out.on hc.below)
  have HPL := Lib.hid hc.lt
  obtain ⟨p, hp⟩ : ∃ p, wA.heap.size = p := ⟨_, rfl⟩
  rw [hp] at HC HSZ HPL ⊢
  clear hc HN hp HW
  have HD := Lib.hid (l11Trust w p v l w1 HC.out)
  go_wp2_with fail
  refine HD.out.mono ?_
  rintro e w2 ⟨V, rfl, ⟨gk, ga, a1, a3, c1, n3, c3, L0, L1, L2, L3, rfl, ok, o1, o2, o3, e0, e1, e2, e3, e4⟩, hc, hk⟩
  have hal := (Below.refl w2.heap.size w2).alloc (Nat.le_refl _) (.cells #[.slice (some ⟨gk, 0, none⟩) 4 4, .slice a1 2 c1, .slice (some ⟨ga, 0, none⟩) 1 1, .slice a3 n3 c3] 29)
  have R2l := R2.out.lt; have R3l := R3.out.lt
  have h12 := hk.size
  replace R2 := Lib.hid ((blk_keep R2.out hk (by have := HSZ.out; omega)).on hal); replace R3 := Lib.hid ((blk_keep R3.out hk (by have := HSZ.out; omega)).on hal)
  have HC2 := Lib.hid (hc.on hal)
  have OK := Lib.hid (Kd.own_on ok hal); have O1 := Lib.hid (Kd.own_on o1 hal); have O2 := Lib.hid (Kd.own_on o2 hal); have O3 := Lib.hid (Kd.own_on o3 hal)
  have XT := Lib.hid (Blk.new w2 #[.slice (some ⟨gk, 0, none⟩) 4 4, .slice a1 2 c1, .slice (some ⟨ga, 0, none⟩) 1 1, .slice a3 n3 c3] 29)
  have E0 := Lib.hid e0; have E1 := Lib.hid e1; have E2 := Lib.hid e2; have E3 := Lib.hid e3; have E4 := Lib.hid e4
  have HBW := Lib.hid (show w1.heap.size ≤ (w2.alloc (.cells #[.slice (some ⟨gk, 0, none⟩) 4 4, .slice a1 2 c1, .slice (some ⟨ga, 0, none⟩) 1 1, .slice a3 n3 c3] 29)).heap.size from Nat.le_trans h12 hal.size)
  obtain ⟨g5, hg5⟩ : ∃ g, w2.heap.size = g := ⟨_, rfl⟩
  obtain ⟨w3, hw3⟩ : ∃ W, w2.alloc (.cells #[.slice (some ⟨gk, 0, none⟩) 4 4, .slice a1 2 c1, .slice (some ⟨ga, 0, none⟩) 1 1, .slice a3 n3 c3] 29) = W := ⟨_, rfl⟩
  rw [hw3] at R2 R3 HC2 OK O1 O2 O3 XT HBW
  rw [hg5] at XT h12
  have HG5 := Lib.hid (show p < g5 ∧ w.heap.size + 1 < g5 from ⟨by have := HPL.out; omega, by omega⟩)
  have HW3 := Lib.hid hw3; have HGQ := Lib.hid hg5
  clear ok o1 o2 o3 e0 e1 e2 e3 e4 hc hk hal R2l R3l h12 hg5 hw3 HD HC
  go_upto_region 3 with fail
  rw [HW3.out, HGQ.out]
  clear HW3 HGQ
  refine mad3c HC2 XT R2 R3 OK O1 O2 O3 (Lib.hid (by have := HG5.out; omega)) (Lib.hid (by have := HSZ.out; omega)) (Lib.hid (by have := HSZ.out; omega)) (Lib.hid (by have := HG5.out; omega)) (Lib.hid (by have := HG5.out; omega)) (Lib.hid (by omega)) (Lib.hid (Nat.le_refl _)) (Lib.hid (Nat.le_succ _)) (Lib.hid (by have := HPL.out; have := HSZ.out; omega)) (Lib.hid (by have := HPL.out; have := HSZ.out; omega)) HPL HBW (Lib.hid (by rw [E0.out]; exact KS11_bulk)) ?_
  intro u10 u11 u12 u13 ya yb yc ma da mb db mc dc_ X wx z2 z3 zk z4 z5 z6 zx hsm hx1 hc hbs
  have Z2 := Lib.hid z2; have Z3 := Lib.hid z3; have ZK := Lib.hid zk; have Z4 := Lib.hid z4; have Z5 := Lib.hid z5; have Z6 := Lib.hid z6; have ZX := Lib.hid zx; have HSM := Lib.hid hsm; have HX1 := Lib.hid hx1; have HBL := Lib.hid hc.below
  clear z2 z3 zk z4 z5 z6 zx hsm hx1 hc hbs
  go_wp2_with fail
  refine bodyPost_ret (Ret.results_cc rfl _ _ w.heap.size (w.heap.size + 1) [.slice (some ⟨gk, 0, none⟩) 4 4, .slice a1 2 c1, .slice (some ⟨ga, 0, none⟩) 1 1, .slice a3 n3 c3] [.slice ya ma da, .slice yb mb db, .slice yc mc dc_, .int .i64 X.2.2.2.1, .int .i64 X.2.2.2.2] rfl rfl aggTp aggD Z2.out.cells Z3.out.cells) rfl ?_
  exact ⟨_, _, _, rfl, ⟨gk, ga, a1, a3, c1, n3, c3, L0, L1, L2, L3, rfl, ZK.out, Z4.out, Z5.out, Z6.out, E0.out, E1.out, E2.out, E3.out, E4.out⟩, ⟨ya, yb, yc, ma, da, mb, db, mc, dc_, X, rfl, ZX.out, HSM.out, HX1.out⟩, HBL.out⟩
end Go.Proofs.YtlhchmjnaanjpaaGreatDoor.Draw
/- Certificates that all end at one time: who is trusted after it. What the drawn policies and packets are, in the words of the contracts. -/
namespace Go.Proofs.YtlhchmjnaanjpaaGreatDoor.Row
open Go.ChangeShapes Go.WideShapes Go.ChangeAt Go.RowKit Go.Instr
set_option linter.unusedVariables false
set_option maxRecDepth 100000
section
variable {t : Tpt} {x : Dzt} {a b now : Int}
end
def smallN (l : List ByteArray) : Bool := decide (l.length ≤ 1000) && l.all fun s => decide (s.size ≤ 1000)
theorem smallN_ok {l : List ByteArray} (h : smallN l = true) : okN l := by
  unfold smallN at h
  rw [Bool.and_eq_true, decide_eq_true_eq, List.all_eq_true] at h
  exact ⟨by omega, fun s hs => by have := h.2 s hs; rw [decide_eq_true_eq] at this; unfold maxLen; omega⟩
theorem fit_made {L : List Dzt} (hl : L.length ≤ 2) (hs : ∀ y ∈ L, Draw.smD11 y) : FitT (Draw.KS11, Draw.RS11, [pN { data := #[47, 107, 101, 121, 47, 97] }], L) := by
  have e1 : bulkK wtKy Draw.KS11 + bulkK wtRl Draw.RS11 + bulkK wtNn [pN { data := #[47, 107, 101, 121, 47, 97] }] ≤ 10000 := of_decide_eq_true (by kernel_rfl)
  have e2 : bulkK wtDz L ≤ 2 + 2 * 2100 := bulkK_of hl (fun y hy => by have h := hs y hy; have h1 := h.1; have h2 := h.2.1; have h3 := h.2.2.1; show bulk y.1 + y.2.1.length + bulk y.2.2.1 ≤ 2100; omega)
  have e3 : (Draw.KS11.all fun y => smallN y.1 && decide (0 ≤ y.2) && decide (y.2 ≤ 1000)) = true := by kernel_rfl
  have e4 : (Draw.RS11.all fun y => smallN y.1 && smallN y.2) = true := by kernel_rfl
  have e5 : smallN (pN { data := #[47, 107, 101, 121, 47, 97] }) = true := by kernel_rfl
  refine ⟨by show bulkK wtKy Draw.KS11 + bulkK wtRl Draw.RS11 + bulkK wtNn [pN { data := #[47, 107, 101, 121, 47, 97] }] + bulkK wtDz L ≤ 1200000; omega, ⟨of_decide_eq_true (by kernel_rfl), fun y hy => ?_⟩, ⟨of_decide_eq_true (by kernel_rfl), fun y hy => ?_⟩, ⟨(by decide : 1 ≤ 9223372036854775807), fun y hy => ?_⟩, ⟨(show L.length ≤ 9223372036854775807 by omega), fun y hy => (hs y hy).2.2.2⟩⟩
  · have h := List.all_eq_true.1 e3 y hy
    rw [Bool.and_eq_true, Bool.and_eq_true, decide_eq_true_eq, decide_eq_true_eq] at h
    exact ⟨smallN_ok h.1.1, Draw.wf_of (by omega) (by omega)⟩
  · have h := List.all_eq_true.1 e4 y hy
    rw [Bool.and_eq_true] at h
    exact ⟨smallN_ok h.1, smallN_ok h.2⟩
  · rw [List.mem_singleton.1 hy]; exact smallN_ok e5
theorem madeD_at {B : Nat} {V : Value} {w : World} (h : Draw.MadeD B V w) : ∃ x : Dt, kD.At w V x ∧ FitD x ∧ (x.1 = [] ∨ x.1 ∈ Draw.NM11) := by
  obtain ⟨ya, yb, yc, ma, da, mb, db, mc, dc_, X, rfl, h0, hs, hx⟩ := h
  refine ⟨X, ?_, ⟨by have h1 := hs.1; have h2 := hs.2.1; have h3 := hs.2.2.1; show bulk X.1 + X.2.1.length + bulk X.2.2.1 ≤ 1200000; omega, hs.2.2.2⟩, hx⟩
  have h := kD_ofK (sDz_at h0)
  rw [Draw.kDz_strip11] at h
  exact h
end Go.Proofs.YtlhchmjnaanjpaaGreatDoor.Row
