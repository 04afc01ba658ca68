/- Contracts and mathematics, joined: DrawC1. No conditions but those that each states. -/
import Derived.WalkKit
import Derived.Deep.RegionHeld3
import Derived.Test.YtfglcmanmfenpaaGreatB24
import Derived.Test.YtfglcmanmfenpaaGreatB17
/- The model's draw of a content store (l12Draw). What was in memory stays as it was, but for the cursor. -/
namespace Go.Proofs.YtfglcmanmfenpaaGreat.Draw
open Go.ChangeShapes Go.WideShapes Go.ChangeAt Go.RowKit Go.Instr
open Go.Proofs.YtfglcmanmfenpaaGreat.Row
open Go.Proofs.YtfglcmanmfenpaaGreat.Ret (NC Blk Box)
set_option linter.unusedVariables false
set_option maxRecDepth 100000
theorem field_name12 (w : World) (x : Option Addr) (n c : Nat) (b d e f : Value) : (Go.Instr.field 31 (.agg #[.slice x n c, b, d, e, f]) 0).run Tryz.prog w = .ok (.agg #[.slice x n c]) w := by kernel_rfl
set_option maxRecDepth 100000 in
set_option maxHeartbeats 4000000 in
theorem c12a {Q : Exit → Act → World → Prop} {v1 v2 v4 v6 v7 v8 v9 v10 v11 v12 v13 v14 v15 v16 v17 v18 v19 v20 v21 v22 v23 v24 v25 v26 v27 v28 v29 v30 : Value} {w : World} {w0 : World} {p : Nat} {v : Value} {l : List UInt8} (C0 : Hid (Cur w0 p v l w)) {g q B n cap k na ca nb cb nc cc : Nat} {c : Int} {ad xa xb xc : Option Addr} {L : List Cem} {y : Dt} (XK : Hid (Blk w g #[.int .i64 c, .slice ad n cap] 26)) (OC : Hid (sCn.own B w (c, ⟨ad, n, cap, L⟩))) (HGP : Hid (g ≠ p)) (HPB : Hid (p < B)) (HB : Hid (B ≤ w.heap.size)) (HSM : Hid (smC k (c, L.map kCe.strip))) (HK : Hid (k ≤ 90)) (XD : Hid (Blk w q #[.slice xa na ca, .slice xb nb cb, .slice xc nc cc, .int .i64 y.2.2.2.1, .int .i64 y.2.2.2.2] 31)) (OD : Hid (sDz.own B w (⟨xa, na, ca, y.1⟩, ⟨xb, nb, cb, y.2.1⟩, ⟨xc, nc, cc, y.2.2.1⟩, y.2.2.2.1, y.2.2.2.2))) (HQP : Hid (q ≠ p)) (HGQ : Hid (g ≠ q)) (HIY : Hid (inDz y)) (HWY : Hid (wtDz y ≤ 3000))
  (hQ : ∀ (u17 u18 u19 u20 u21 u22 : Value) (c2 : Int) (ad2 : Option Addr) (n2 cap2 : Nat) (L2 : List Cem) (wx : World), Blk wx g #[.int .i64 c, .slice ad n cap] 26 → sCn.own B wx (c2, ⟨ad2, n2, cap2, L2⟩) → smC (k + 1) (c2, L2.map kCe.strip) → Cur w0 p v l wx → Keep p w wx → Q .normal ⟨#[.pointer (some ⟨p, 0, none⟩), v1, v2, .pointer (some ⟨g, 0, none⟩), v4, .pointer (some ⟨q, 0, none⟩), v6, v7, v8, v9, v10, v11, v12, v13, v14, v15, v16, u17, u18, u19, u20, u21, u22, v23, v24, v25, v26, v27, v28, v29, v30], []⟩ ((wx.setCell ⟨g, 0, none⟩ (.int .i64 c2)).setCell ⟨g, 1, none⟩ (.slice ad2 n2 cap2))) :
  (Code.region 6 #[⟨some 17, .load 26 (.tmp 3), 26, "l12_cache.go:119", #[], none⟩,
   ⟨some 18, .load 31 (.tmp 5), 31, "l12_cache.go:119", #[], none⟩,
   ⟨some 19, .move (.tmp 0), 55, "l12_cache.go:119", #[], none⟩,
   ⟨some 20, .call ⟨.value (.func 33), #[.tmp 19, .const (Value.int IntKind.i64 20)], #[55, 3]⟩, 3, "l12_cache.go:119", #[⟨2, .data⟩], none⟩,
   ⟨some 21, .binOp BinOp.add 3 (.const (Value.int IntKind.i64 40)) (.tmp 20) 3, 3, "l12_cache.go:119", #[⟨3, .data⟩], none⟩,
   ⟨some 22, .call ⟨.value (.func 14), #[.tmp 17, .tmp 18, .tmp 21], #[26, 31, 3]⟩, 26, "l12_cache.go:119", #[⟨0, .data⟩, ⟨1, .data⟩, ⟨4, .data⟩, ⟨3, .chain⟩], none⟩,
   ⟨none, .store 26 (.tmp 3) (.tmp 22), 0, "l12_cache.go:119", #[⟨5, .data⟩, ⟨5, .chain⟩, ⟨0, .phase⟩, ⟨1, .phase⟩, ⟨2, .phase⟩, ⟨3, .phase⟩, ⟨4, .phase⟩, ⟨5, .phase⟩], none⟩] true).wp Tryz.prog Q ⟨#[.pointer (some ⟨p, 0, none⟩), v1, v2, .pointer (some ⟨g, 0, none⟩), v4, .pointer (some ⟨q, 0, none⟩), v6, v7, v8, v9, v10, v11, v12, v13, v14, v15, v16, v17, v18, v19, v20, v21, v22, v23, v24, v25, v26, v27, v28, v29, v30], []⟩ w := by
 have HQ := Lib.hid hQ; clear hQ
 have hb : Below w.heap.size w w.drew := (Below.refl _ _).drew
 replace XK := Lib.hid (XK.out.on hb)
 replace OC := Lib.hid (Kd.own_on OC.out hb)
 replace XD := Lib.hid (XD.out.on hb)
 replace OD := Lib.hid (Kd.own_on OD.out hb)
 have C := Lib.hid (C0.out.on hb)
 have BK := Lib.hid (Keep.of_below (p := p) hb)
 have BS := Lib.hid (show w.heap.size ≤ w.drew.heap.size from hb.size)
 have CP := Lib.hid C0.out.lt
 clear hb
 refine wp_region_noPanic ?_
 refine wp_region_held_drew (S := (fun w' => w'.cell? ⟨q, 0, none⟩ = some (.slice xa na ca) ∧ w'.cell? ⟨q, 1, none⟩ = some (.slice xb nb cb) ∧ w'.cell? ⟨q, 2, none⟩ = some (.slice xc nc cc) ∧ w'.cell? ⟨q, 3, none⟩ = some (.int .i64 y.2.2.2.1) ∧ w'.cell? ⟨q, 4, none⟩ = some (.int .i64 y.2.2.2.2))) (by kernel_rfl) ?_ (fun hHeld => ?_)
 ·
  exact ⟨XD.out.cell 0, XD.out.cell 1, XD.out.cell 2, XD.out.cell 3, XD.out.cell 4⟩
 generalize w.drew = wd at *
 refine wpAnyH_take (i := 1) (oi := ⟨some 18, .load 31 (.tmp 5), 31, "l12_cache.go:119", #[], none⟩) (v := ?_) rfl (by kernel_rfl) (by kernel_rfl) (by kernel_rfl) (fun _ _ _ h => h) (Or.inl ⟨by rfl, ?_⟩) (by assumption) ?_
 rotate_left
 ·
  intro w' hSw; (try dsimp only at hSw); first | (go_simp; done) | (go_simp; with_reducible rfl)
 (try simp only [Act.put, Row.pB0, Row.pB1, Row.pB2])
 refine wpAnyH_take (i := 2) (oi := ⟨some 19, .move (.tmp 0), 55, "l12_cache.go:119", #[], none⟩) (v := ?_) rfl (by kernel_rfl) (by kernel_rfl) (by kernel_rfl) (fun _ _ _ h => h) (Or.inl ⟨by rfl, ?_⟩) (by assumption) ?_
 rotate_left
 ·
  intro w' hSw; (try dsimp only at hSw); first | (go_simp; done) | (go_simp; with_reducible rfl)
 (try simp only [Act.put, Row.pB0, Row.pB1, Row.pB2])
 refine wpAnyH_ready (rs := [0, 3]) (by kernel_rfl) (by simp) ?_
 refine AllReadyH.cons (o := ⟨some 17, .load 26 (.tmp 3), 26, "l12_cache.go:119", #[], none⟩) rfl (fun K hK => ?_) ?_
 ·
  have q0 := XK.out.cell 0; have q1 := XK.out.cell 1
  go_simp
  clear hHeld
  refine hK.out _ _ ?_ (fun hHeld => ?_)
  ·
   (try dsimp only); exact ⟨XD.out.cell 0, XD.out.cell 1, XD.out.cell 2, XD.out.cell 3, XD.out.cell 4⟩
  clear hK K
  (try simp only [Act.put, Row.pB0, Row.pB1, Row.pB2])
  refine wpAnyH_ready (rs := [3]) (by kernel_rfl) (by simp) ?_
  refine AllReadyH.cons (o := ⟨some 20, .call ⟨.value (.func 33), #[.tmp 19, .const (Value.int IntKind.i64 20)], #[55, 3]⟩, 3, "l12_cache.go:119", #[⟨2, .data⟩], none⟩) rfl (fun K hK => ?_) AllReadyH.nil
  go_simp
  refine (below w0 p v l _ 20 C.out).mono ?_
  rintro e wn2 ⟨y_, rfl, ⟨r, rfl, hr, _⟩, hc, hk⟩
  replace hr := hr (by omega)
  obtain ⟨hr0, hr1⟩ := hr
  have hw : IntKind.i64.wrap (40 + r) = 40 + r := by rw [Go.IntWalk.i64_left, Go.IntWalk.wrap64_in _ (by omega)]
  replace XK := Lib.hid (blk_keep XK.out hk HGP.out)
  replace OC := Lib.hid (Kd.own_cur OC.out hk HPB.out)
  replace XD := Lib.hid (blk_keep XD.out hk HQP.out)
  replace OD := Lib.hid (Kd.own_cur OD.out hk HPB.out)
  replace C := Lib.hid hc; replace BK := Lib.hid (BK.out.trans hk); replace BS := Lib.hid (Nat.le_trans BS.out hk.size); clear hc hk
  (try go_wp2_with fail)
  clear hHeld
  refine hK.out _ _ ?_ (fun hHeld => ?_)
  ·
   (try dsimp only); exact ⟨XD.out.cell 0, XD.out.cell 1, XD.out.cell 2, XD.out.cell 3, XD.out.cell 4⟩
  clear hK K
  (try simp only [Act.put, Row.pB0, Row.pB1, Row.pB2])
  refine wpAnyH_take (i := 4) (oi := ⟨some 21, .binOp BinOp.add 3 (.const (Value.int IntKind.i64 40)) (.tmp 20) 3, 3, "l12_cache.go:119", #[⟨3, .data⟩], none⟩) (v := ?_) rfl (by kernel_rfl) (by kernel_rfl) (by kernel_rfl) (fun _ _ _ h => h) (Or.inl ⟨by rfl, ?_⟩) (by assumption) ?_
  rotate_left
  ·
   intro w' hSw; (try dsimp only at hSw); first | (go_simp; done) | (go_simp; with_reducible rfl)
  (try simp only [Act.put, Row.pB0, Row.pB1, Row.pB2])
  refine wpAnyH_ready (rs := [5]) (by kernel_rfl) (by simp) ?_
  refine AllReadyH.cons (o := ⟨some 22, .call ⟨.value (.func 14), #[.tmp 17, .tmp 18, .tmp 21], #[26, 31, 3]⟩, 26, "l12_cache.go:119", #[⟨0, .data⟩, ⟨1, .data⟩, ⟨4, .data⟩, ⟨3, .chain⟩], none⟩) rfl (fun K hK => ?_) AllReadyH.nil
  go_simp
  refine (specCacheData _ _ (c, L.map kCe.strip) y (40 + r) _ (sCn_at OC.out) (sDz_at12 OD.out) (HSM.out.fit (Nat.le_trans HK.out (by decide))) (Nat.le_trans HWY.out (by decide))).mono ?_
  rintro e wn3 ⟨v_, rfl, ho, hb⟩
  obtain ⟨c2, ad2, n2, cap2, L2, rfl, ho2, hs2⟩ := sCn_in ho
  have HX := Lib.hid (show sCn.own B wn3 (c2, ⟨ad2, n2, cap2, L2⟩) from sCn.own_mono ho2 (Nat.le_trans HB.out BS.out))
  have HS2 := Lib.hid (show smC (k + 1) (c2, L2.map kCe.strip) from by rw [hs2]; exact smC_cache HSM.out HIY.out (Nat.le_trans HWY.out (by decide)) (wf_of (by omega) (by omega)))
  clear ho ho2 hs2
  replace XK := Lib.hid (XK.out.on hb)
  replace OC := Lib.hid (Kd.own_on OC.out hb)
  replace XD := Lib.hid (XD.out.on hb)
  replace OD := Lib.hid (Kd.own_on OD.out hb)
  replace C := Lib.hid (C.out.on hb); replace BK := Lib.hid (BK.out.trans (Keep.of_below hb)); replace BS := Lib.hid (Nat.le_trans BS.out hb.size); clear hb
  (try go_wp2_with fail)
  clear hHeld
  refine hK.out _ _ ?_ (fun hHeld => ?_)
  ·
   (try dsimp only); exact ⟨XD.out.cell 0, XD.out.cell 1, XD.out.cell 2, XD.out.cell 3, XD.out.cell 4⟩
  clear hK K
  (try simp only [Act.put, Row.pB0, Row.pB1, Row.pB2])
  refine wpAnyH_ready (rs := [6]) (by kernel_rfl) (by simp) ?_
  refine AllReadyH.cons (o := ⟨none, .store 26 (.tmp 3) (.tmp 22), 0, "l12_cache.go:119", #[⟨5, .data⟩, ⟨5, .chain⟩, ⟨0, .phase⟩, ⟨1, .phase⟩, ⟨2, .phase⟩, ⟨3, .phase⟩, ⟨4, .phase⟩, ⟨5, .phase⟩], none⟩) rfl (fun K hK => ?_) AllReadyH.nil
  have r0 := XK.out.cell 0; have r1 := XK.out.cell 1; have t0 := XK.out.frozen 0; have t1 := XK.out.frozen 1
  go_simp
  clear hHeld
  refine hK.out _ _ ?_ (fun hHeld => ?_)
  ·
   (try dsimp only); exact ⟨cell_two (XD.out.cell 0) HGQ.out, cell_two (XD.out.cell 1) HGQ.out, cell_two (XD.out.cell 2) HGQ.out, cell_two (XD.out.cell 3) HGQ.out, cell_two (XD.out.cell 4) HGQ.out⟩
  clear hK K
  (try simp only [Act.put, Row.pB0, Row.pB1, Row.pB2])
  refine wpAnyH_done (by kernel_rfl) ?_ _
  exact NoPanic.normal (HQ.out _ _ _ _ _ _ c2 ad2 n2 cap2 L2 _ XK.out HX.out HS2.out C.out BK.out)
 refine AllReadyH.cons (o := ⟨some 20, .call ⟨.value (.func 33), #[.tmp 19, .const (Value.int IntKind.i64 20)], #[55, 3]⟩, 3, "l12_cache.go:119", #[⟨2, .data⟩], none⟩) rfl (fun K hK => ?_) AllReadyH.nil
 go_simp
 refine (below w0 p v l _ 20 C.out).mono ?_
 rintro e wn5 ⟨y_, rfl, ⟨r, rfl, hr, _⟩, hc, hk⟩
 replace hr := hr (by omega)
 obtain ⟨hr0, hr1⟩ := hr
 have hw : IntKind.i64.wrap (40 + r) = 40 + r := by rw [Go.IntWalk.i64_left, Go.IntWalk.wrap64_in _ (by omega)]
 replace XK := Lib.hid (blk_keep XK.out hk HGP.out)
 replace OC := Lib.hid (Kd.own_cur OC.out hk HPB.out)
 replace XD := Lib.hid (blk_keep XD.out hk HQP.out)
 replace OD := Lib.hid (Kd.own_cur OD.out hk HPB.out)
 replace C := Lib.hid hc; replace BK := Lib.hid (BK.out.trans hk); replace BS := Lib.hid (Nat.le_trans BS.out hk.size); clear hc hk
 (try go_wp2_with fail)
 clear hHeld
 refine hK.out _ _ ?_ (fun hHeld => ?_)
 ·
  (try dsimp only); exact ⟨XD.out.cell 0, XD.out.cell 1, XD.out.cell 2, XD.out.cell 3, XD.out.cell 4⟩
 clear hK K
 (try simp only [Act.put, Row.pB0, Row.pB1, Row.pB2])
 refine wpAnyH_take (i := 4) (oi := ⟨some 21, .binOp BinOp.add 3 (.const (Value.int IntKind.i64 40)) (.tmp 20) 3, 3, "l12_cache.go:119", #[⟨3, .data⟩], none⟩) (v := ?_) rfl (by kernel_rfl) (by kernel_rfl) (by kernel_rfl) (fun _ _ _ h => h) (Or.inl ⟨by rfl, ?_⟩) (by assumption) ?_
 rotate_left
 ·
  intro w' hSw; (try dsimp only at hSw); first | (go_simp; done) | (go_simp; with_reducible rfl)
 (try simp only [Act.put, Row.pB0, Row.pB1, Row.pB2])
 refine wpAnyH_ready (rs := [0]) (by kernel_rfl) (by simp) ?_
 refine AllReadyH.cons (o := ⟨some 17, .load 26 (.tmp 3), 26, "l12_cache.go:119", #[], none⟩) rfl (fun K hK => ?_) AllReadyH.nil
 have q0 := XK.out.cell 0; have q1 := XK.out.cell 1
 go_simp
 clear hHeld
 refine hK.out _ _ ?_ (fun hHeld => ?_)
 ·
  (try dsimp only); exact ⟨XD.out.cell 0, XD.out.cell 1, XD.out.cell 2, XD.out.cell 3, XD.out.cell 4⟩
 clear hK K
 (try simp only [Act.put, Row.pB0, Row.pB1, Row.pB2])
 refine wpAnyH_ready (rs := [5]) (by kernel_rfl) (by simp) ?_
 refine AllReadyH.cons (o := ⟨some 22, .call ⟨.value (.func 14), #[.tmp 17, .tmp 18, .tmp 21], #[26, 31, 3]⟩, 26, "l12_cache.go:119", #[⟨0, .data⟩, ⟨1, .data⟩, ⟨4, .data⟩, ⟨3, .chain⟩], none⟩) rfl (fun K hK => ?_) AllReadyH.nil
 go_simp
 refine (specCacheData _ _ (c, L.map kCe.strip) y (40 + r) _ (sCn_at OC.out) (sDz_at12 OD.out) (HSM.out.fit (Nat.le_trans HK.out (by decide))) (Nat.le_trans HWY.out (by decide))).mono ?_
 rintro e wn7 ⟨v_, rfl, ho, hb⟩
 obtain ⟨c2, ad2, n2, cap2, L2, rfl, ho2, hs2⟩ := sCn_in ho
 have HX := Lib.hid (show sCn.own B wn7 (c2, ⟨ad2, n2, cap2, L2⟩) from sCn.own_mono ho2 (Nat.le_trans HB.out BS.out))
 have HS2 := Lib.hid (show smC (k + 1) (c2, L2.map kCe.strip) from by rw [hs2]; exact smC_cache HSM.out HIY.out (Nat.le_trans HWY.out (by decide)) (wf_of (by omega) (by omega)))
 clear ho ho2 hs2
 replace XK := Lib.hid (XK.out.on hb)
 replace OC := Lib.hid (Kd.own_on OC.out hb)
 replace XD := Lib.hid (XD.out.on hb)
 replace OD := Lib.hid (Kd.own_on OD.out hb)
 replace C := Lib.hid (C.out.on hb); replace BK := Lib.hid (BK.out.trans (Keep.of_below hb)); replace BS := Lib.hid (Nat.le_trans BS.out hb.size); clear hb
 (try go_wp2_with fail)
 clear hHeld
 refine hK.out _ _ ?_ (fun hHeld => ?_)
 ·
  (try dsimp only); exact ⟨XD.out.cell 0, XD.out.cell 1, XD.out.cell 2, XD.out.cell 3, XD.out.cell 4⟩
 clear hK K
 (try simp only [Act.put, Row.pB0, Row.pB1, Row.pB2])
 refine wpAnyH_ready (rs := [6]) (by kernel_rfl) (by simp) ?_
 refine AllReadyH.cons (o := ⟨none, .store 26 (.tmp 3) (.tmp 22), 0, "l12_cache.go:119", #[⟨5, .data⟩, ⟨5, .chain⟩, ⟨0, .phase⟩, ⟨1, .phase⟩, ⟨2, .phase⟩, ⟨3, .phase⟩, ⟨4, .phase⟩, ⟨5, .phase⟩], none⟩) rfl (fun K hK => ?_) AllReadyH.nil
 have r0 := XK.out.cell 0; have r1 := XK.out.cell 1; have t0 := XK.out.frozen 0; have t1 := XK.out.frozen 1
 go_simp
 clear hHeld
 refine hK.out _ _ ?_ (fun hHeld => ?_)
 ·
  (try dsimp only); exact ⟨cell_two (XD.out.cell 0) HGQ.out, cell_two (XD.out.cell 1) HGQ.out, cell_two (XD.out.cell 2) HGQ.out, cell_two (XD.out.cell 3) HGQ.out, cell_two (XD.out.cell 4) HGQ.out⟩
 clear hK K
 (try simp only [Act.put, Row.pB0, Row.pB1, Row.pB2])
 refine wpAnyH_done (by kernel_rfl) ?_ _
 exact NoPanic.normal (HQ.out _ _ _ _ _ _ c2 ad2 n2 cap2 L2 _ XK.out HX.out HS2.out C.out BK.out)
set_option maxRecDepth 100000 in
set_option maxHeartbeats 4000000 in
theorem c12b {Q : Exit → Act → World → Prop} {v1 v2 v4 v5 v6 v7 v8 v9 v10 v11 v12 v13 v14 v15 v16 v17 v18 v19 v20 v21 v22 v23 v24 v25 v26 v27 v28 v29 v30 : Value} {w : World} {w0 : World} {p : Nat} {v : Value} {l : List UInt8} (C0 : Hid (Cur w0 p v l w)) {g B n cap k : Nat} {c : Int} {ad : Option Addr} {L : List Cem}  (XK : Hid (Blk w g #[.int .i64 c, .slice ad n cap] 26)) (OC : Hid (sCn.own B w (c, ⟨ad, n, cap, L⟩))) (HGP : Hid (g ≠ p)) (HPB : Hid (p < B)) (HB : Hid (B ≤ w.heap.size)) (HSM : Hid (smC k (c, L.map kCe.strip))) (HK : Hid (k ≤ 90)) 
  (hQ : ∀ (u25 u26 u27 u28 u29 : Value) (c2 : Int) (ad2 : Option Addr) (n2 cap2 : Nat) (L2 : List Cem) (wx : World), Blk wx g #[.int .i64 c, .slice ad n cap] 26 → sCn.own B wx (c2, ⟨ad2, n2, cap2, L2⟩) → smC (k + 1) (c2, L2.map kCe.strip) → Cur w0 p v l wx → Keep p w wx → Q .normal ⟨#[.pointer (some ⟨p, 0, none⟩), v1, v2, .pointer (some ⟨g, 0, none⟩), v4, v5, v6, v7, v8, v9, v10, v11, v12, v13, v14, v15, v16, v17, v18, v19, v20, v21, v22, v23, v24, u25, u26, u27, u28, u29, v30], []⟩ ((wx.setCell ⟨g, 0, none⟩ (.int .i64 c2)).setCell ⟨g, 1, none⟩ (.slice ad2 n2 cap2))) :
  (Code.region 8 #[⟨some 25, .load 26 (.tmp 3), 26, "l12_cache.go:121", #[], none⟩,
   ⟨some 26, .move (.tmp 0), 55, "l12_cache.go:121", #[], none⟩,
   ⟨some 27, .call ⟨.value (.func 65), #[.tmp 26], #[55]⟩, 31, "l12_cache.go:121", #[⟨1, .data⟩], none⟩,
   ⟨some 28, .field 31 (.tmp 27) 0, 29, "l12_cache.go:121", #[⟨2, .data⟩], none⟩,
   ⟨some 29, .call ⟨.value (.func 17), #[.tmp 25, .tmp 28, .const (Value.int IntKind.i64 60)], #[26, 29, 3]⟩, 26, "l12_cache.go:121", #[⟨0, .data⟩, ⟨3, .data⟩, ⟨2, .chain⟩], none⟩,
   ⟨none, .store 26 (.tmp 3) (.tmp 29), 0, "l12_cache.go:121", #[⟨4, .data⟩, ⟨4, .chain⟩, ⟨0, .phase⟩, ⟨1, .phase⟩, ⟨2, .phase⟩, ⟨3, .phase⟩, ⟨4, .phase⟩], none⟩] true).wp Tryz.prog Q ⟨#[.pointer (some ⟨p, 0, none⟩), v1, v2, .pointer (some ⟨g, 0, none⟩), v4, v5, v6, v7, v8, v9, v10, v11, v12, v13, v14, v15, v16, v17, v18, v19, v20, v21, v22, v23, v24, v25, v26, v27, v28, v29, v30], []⟩ w := by
 have HQ := Lib.hid hQ; clear hQ
 have hb : Below w.heap.size w w.drew := (Below.refl _ _).drew
 replace XK := Lib.hid (XK.out.on hb)
 replace OC := Lib.hid (Kd.own_on OC.out hb)
 have C := Lib.hid (C0.out.on hb)
 have BK := Lib.hid (Keep.of_below (p := p) hb)
 have BS := Lib.hid (show w.heap.size ≤ w.drew.heap.size from hb.size)
 have CP := Lib.hid C0.out.lt
 clear hb
 refine wp_region_noPanic ?_
 refine wp_region_held_drew (S := (fun w' => True)) (by kernel_rfl) ?_ (fun hHeld => ?_)
 ·
  trivial
 generalize w.drew = wd at *
 refine wpAnyH_take (i := 1) (oi := ⟨some 26, .move (.tmp 0), 55, "l12_cache.go:121", #[], none⟩) (v := ?_) rfl (by kernel_rfl) (by kernel_rfl) (by kernel_rfl) (fun _ _ _ h => h) (Or.inl ⟨by rfl, ?_⟩) (by assumption) ?_
 rotate_left
 ·
  intro w' hSw; (try dsimp only at hSw); first | (go_simp; done) | (go_simp; with_reducible rfl)
 (try simp only [Act.put, Row.pB0, Row.pB1, Row.pB2])
 refine wpAnyH_ready (rs := [0, 2]) (by kernel_rfl) (by simp) ?_
 refine AllReadyH.cons (o := ⟨some 25, .load 26 (.tmp 3), 26, "l12_cache.go:121", #[], none⟩) rfl (fun K hK => ?_) ?_
 ·
  have q0 := XK.out.cell 0; have q1 := XK.out.cell 1
  go_simp
  clear hHeld
  refine hK.out _ _ ?_ (fun hHeld => ?_)
  ·
   trivial
  clear hK K
  (try simp only [Act.put, Row.pB0, Row.pB1, Row.pB2])
  refine wpAnyH_ready (rs := [2]) (by kernel_rfl) (by simp) ?_
  refine AllReadyH.cons (o := ⟨some 27, .call ⟨.value (.func 65), #[.tmp 26], #[55]⟩, 31, "l12_cache.go:121", #[⟨1, .data⟩], none⟩) rfl (fun K hK => ?_) AllReadyH.nil
  go_simp
  refine (l8Draw w0 p v l _ C.out).mono ?_
  rintro e wn2 ⟨y_, rfl, hd, hc, hk⟩
  obtain ⟨xa, xb, xc, na, ca, nb, cb, nc, cc, y, rfl, ho, hbk, hin⟩ := hd.soft' (by decide)
  have OD := Lib.hid (sDz.own_mono ho (Nat.le_trans HB.out BS.out)); have HBK := Lib.hid (show bulk y.1 ≤ 1200000 from by have h9 : bulk y.1 + y.2.1.length + bulk y.2.2.1 ≤ 1500 := hbk; omega)
  clear hd ho hbk hin
  have hf := fun w_ => field_name12 w_ xa na ca (.slice xb nb cb) (.slice xc nc cc) (.int .i64 y.2.2.2.1) (.int .i64 y.2.2.2.2)
  replace XK := Lib.hid (blk_keep XK.out hk HGP.out)
  replace OC := Lib.hid (Kd.own_cur OC.out hk HPB.out)
  replace C := Lib.hid hc; replace BK := Lib.hid (BK.out.trans hk); replace BS := Lib.hid (Nat.le_trans BS.out hk.size); clear hc hk
  (try go_wp2_with fail)
  clear hHeld
  refine hK.out _ _ ?_ (fun hHeld => ?_)
  ·
   trivial
  clear hK K
  (try simp only [Act.put, Row.pB0, Row.pB1, Row.pB2])
  refine wpAnyH_take (i := 3) (oi := ⟨some 28, .field 31 (.tmp 27) 0, 29, "l12_cache.go:121", #[⟨2, .data⟩], none⟩) (v := ?_) rfl (by kernel_rfl) (by kernel_rfl) (by kernel_rfl) (fun _ _ _ h => h) (Or.inl ⟨by rfl, ?_⟩) (by assumption) ?_
  rotate_left
  ·
   intro w' hSw; (try dsimp only at hSw); first | (go_simp; done) | (go_simp; with_reducible rfl)
  (try simp only [Act.put, Row.pB0, Row.pB1, Row.pB2])
  refine wpAnyH_ready (rs := [4]) (by kernel_rfl) (by simp) ?_
  refine AllReadyH.cons (o := ⟨some 29, .call ⟨.value (.func 17), #[.tmp 25, .tmp 28, .const (Value.int IntKind.i64 60)], #[26, 29, 3]⟩, 26, "l12_cache.go:121", #[⟨0, .data⟩, ⟨3, .data⟩, ⟨2, .chain⟩], none⟩) rfl (fun K hK => ?_) AllReadyH.nil
  go_simp
  refine (specTouch _ _ (c, L.map kCe.strip) y.1 60 _ (sCn_at OC.out) (sN_at12 OD.out.1) (HSM.out.fit (Nat.le_trans HK.out (by decide))) HBK.out).mono ?_
  rintro e wn3 ⟨v_, rfl, ho, hb⟩
  obtain ⟨c2, ad2, n2, cap2, L2, rfl, ho2, hs2⟩ := sCn_in ho
  have HX := Lib.hid (show sCn.own B wn3 (c2, ⟨ad2, n2, cap2, L2⟩) from sCn.own_mono ho2 (Nat.le_trans HB.out BS.out))
  have HS2 := Lib.hid (show smC (k + 1) (c2, L2.map kCe.strip) from by rw [hs2]; exact (smC_touch HSM.out (by decide)).mono (Nat.le_succ _))
  clear ho ho2 hs2
  replace XK := Lib.hid (XK.out.on hb)
  replace OC := Lib.hid (Kd.own_on OC.out hb)
  replace OD := Lib.hid (Kd.own_on OD.out hb)
  replace C := Lib.hid (C.out.on hb); replace BK := Lib.hid (BK.out.trans (Keep.of_below hb)); replace BS := Lib.hid (Nat.le_trans BS.out hb.size); clear hb
  (try go_wp2_with fail)
  clear hHeld
  refine hK.out _ _ ?_ (fun hHeld => ?_)
  ·
   trivial
  clear hK K
  (try simp only [Act.put, Row.pB0, Row.pB1, Row.pB2])
  refine wpAnyH_ready (rs := [5]) (by kernel_rfl) (by simp) ?_
  refine AllReadyH.cons (o := ⟨none, .store 26 (.tmp 3) (.tmp 29), 0, "l12_cache.go:121", #[⟨4, .data⟩, ⟨4, .chain⟩, ⟨0, .phase⟩, ⟨1, .phase⟩, ⟨2, .phase⟩, ⟨3, .phase⟩, ⟨4, .phase⟩], none⟩) rfl (fun K hK => ?_) AllReadyH.nil
  have r0 := XK.out.cell 0; have r1 := XK.out.cell 1; have t0 := XK.out.frozen 0; have t1 := XK.out.frozen 1
  go_simp
  clear hHeld
  refine hK.out _ _ ?_ (fun hHeld => ?_)
  ·
   trivial
  clear hK K
  (try simp only [Act.put, Row.pB0, Row.pB1, Row.pB2])
  refine wpAnyH_done (by kernel_rfl) ?_ _
  exact NoPanic.normal (HQ.out _ _ _ _ _ c2 ad2 n2 cap2 L2 _ XK.out HX.out HS2.out C.out BK.out)
 refine AllReadyH.cons (o := ⟨some 27, .call ⟨.value (.func 65), #[.tmp 26], #[55]⟩, 31, "l12_cache.go:121", #[⟨1, .data⟩], none⟩) rfl (fun K hK => ?_) AllReadyH.nil
 go_simp
 refine (l8Draw w0 p v l _ C.out).mono ?_
 rintro e wn5 ⟨y_, rfl, hd, hc, hk⟩
 obtain ⟨xa, xb, xc, na, ca, nb, cb, nc, cc, y, rfl, ho, hbk, hin⟩ := hd.soft' (by decide)
 have OD := Lib.hid (sDz.own_mono ho (Nat.le_trans HB.out BS.out)); have HBK := Lib.hid (show bulk y.1 ≤ 1200000 from by have h9 : bulk y.1 + y.2.1.length + bulk y.2.2.1 ≤ 1500 := hbk; omega)
 clear hd ho hbk hin
 have hf := fun w_ => field_name12 w_ xa na ca (.slice xb nb cb) (.slice xc nc cc) (.int .i64 y.2.2.2.1) (.int .i64 y.2.2.2.2)
 replace XK := Lib.hid (blk_keep XK.out hk HGP.out)
 replace OC := Lib.hid (Kd.own_cur OC.out hk HPB.out)
 replace C := Lib.hid hc; replace BK := Lib.hid (BK.out.trans hk); replace BS := Lib.hid (Nat.le_trans BS.out hk.size); clear hc hk
 (try go_wp2_with fail)
 clear hHeld
 refine hK.out _ _ ?_ (fun hHeld => ?_)
 ·
  trivial
 clear hK K
 (try simp only [Act.put, Row.pB0, Row.pB1, Row.pB2])
 refine wpAnyH_take (i := 3) (oi := ⟨some 28, .field 31 (.tmp 27) 0, 29, "l12_cache.go:121", #[⟨2, .data⟩], none⟩) (v := ?_) rfl (by kernel_rfl) (by kernel_rfl) (by kernel_rfl) (fun _ _ _ h => h) (Or.inl ⟨by rfl, ?_⟩) (by assumption) ?_
 rotate_left
 ·
  intro w' hSw; (try dsimp only at hSw); first | (go_simp; done) | (go_simp; with_reducible rfl)
 (try simp only [Act.put, Row.pB0, Row.pB1, Row.pB2])
 refine wpAnyH_ready (rs := [0]) (by kernel_rfl) (by simp) ?_
 refine AllReadyH.cons (o := ⟨some 25, .load 26 (.tmp 3), 26, "l12_cache.go:121", #[], none⟩) rfl (fun K hK => ?_) AllReadyH.nil
 have q0 := XK.out.cell 0; have q1 := XK.out.cell 1
 go_simp
 clear hHeld
 refine hK.out _ _ ?_ (fun hHeld => ?_)
 ·
  trivial
 clear hK K
 (try simp only [Act.put, Row.pB0, Row.pB1, Row.pB2])
 refine wpAnyH_ready (rs := [4]) (by kernel_rfl) (by simp) ?_
 refine AllReadyH.cons (o := ⟨some 29, .call ⟨.value (.func 17), #[.tmp 25, .tmp 28, .const (Value.int IntKind.i64 60)], #[26, 29, 3]⟩, 26, "l12_cache.go:121", #[⟨0, .data⟩, ⟨3, .data⟩, ⟨2, .chain⟩], none⟩) rfl (fun K hK => ?_) AllReadyH.nil
 go_simp
 refine (specTouch _ _ (c, L.map kCe.strip) y.1 60 _ (sCn_at OC.out) (sN_at12 OD.out.1) (HSM.out.fit (Nat.le_trans HK.out (by decide))) HBK.out).mono ?_
 rintro e wn7 ⟨v_, rfl, ho, hb⟩
 obtain ⟨c2, ad2, n2, cap2, L2, rfl, ho2, hs2⟩ := sCn_in ho
 have HX := Lib.hid (show sCn.own B wn7 (c2, ⟨ad2, n2, cap2, L2⟩) from sCn.own_mono ho2 (Nat.le_trans HB.out BS.out))
 have HS2 := Lib.hid (show smC (k + 1) (c2, L2.map kCe.strip) from by rw [hs2]; exact (smC_touch HSM.out (by decide)).mono (Nat.le_succ _))
 clear ho ho2 hs2
 replace XK := Lib.hid (XK.out.on hb)
 replace OC := Lib.hid (Kd.own_on OC.out hb)
 replace OD := Lib.hid (Kd.own_on OD.out hb)
 replace C := Lib.hid (C.out.on hb); replace BK := Lib.hid (BK.out.trans (Keep.of_below hb)); replace BS := Lib.hid (Nat.le_trans BS.out hb.size); clear hb
 (try go_wp2_with fail)
 clear hHeld
 refine hK.out _ _ ?_ (fun hHeld => ?_)
 ·
  trivial
 clear hK K
 (try simp only [Act.put, Row.pB0, Row.pB1, Row.pB2])
 refine wpAnyH_ready (rs := [5]) (by kernel_rfl) (by simp) ?_
 refine AllReadyH.cons (o := ⟨none, .store 26 (.tmp 3) (.tmp 29), 0, "l12_cache.go:121", #[⟨4, .data⟩, ⟨4, .chain⟩, ⟨0, .phase⟩, ⟨1, .phase⟩, ⟨2, .phase⟩, ⟨3, .phase⟩, ⟨4, .phase⟩], none⟩) rfl (fun K hK => ?_) AllReadyH.nil
 have r0 := XK.out.cell 0; have r1 := XK.out.cell 1; have t0 := XK.out.frozen 0; have t1 := XK.out.frozen 1
 go_simp
 clear hHeld
 refine hK.out _ _ ?_ (fun hHeld => ?_)
 ·
  trivial
 clear hK K
 (try simp only [Act.put, Row.pB0, Row.pB1, Row.pB2])
 refine wpAnyH_done (by kernel_rfl) ?_ _
 exact NoPanic.normal (HQ.out _ _ _ _ _ c2 ad2 n2 cap2 L2 _ XK.out HX.out HS2.out C.out BK.out)
theorem two_laid {w0 w wx : World} {p g : Nat} {v : Value} {l : List UInt8} {c c2 : Int} {ad ad2 : Option Addr} {n n2 cap cap2 : Nat} {L2 : List Cem} (hg : w.heap.size ≤ g) (hgw : g ≠ w.heap.size) (hds : DS w0 p v l w wx) (hR : Blk wx w.heap.size #[.int .i64 0, .slice none 0 0] 26) (hX : Blk wx g #[.int .i64 c, .slice ad n cap] 26) (hO : sCn.own w.heap.size wx (c2, ⟨ad2, n2, cap2, L2⟩)) :
    DS w0 p v l w ((wx.setCell ⟨g, 0, none⟩ (.int .i64 c2)).setCell ⟨g, 1, none⟩ (.slice ad2 n2 cap2)) ∧ Blk ((wx.setCell ⟨g, 0, none⟩ (.int .i64 c2)).setCell ⟨g, 1, none⟩ (.slice ad2 n2 cap2)) w.heap.size #[.int .i64 0, .slice none 0 0] 26 ∧ Blk ((wx.setCell ⟨g, 0, none⟩ (.int .i64 c2)).setCell ⟨g, 1, none⟩ (.slice ad2 n2 cap2)) g #[.int .i64 c2, .slice ad2 n2 cap2] 26 ∧ sCn.own w.heap.size ((wx.setCell ⟨g, 0, none⟩ (.int .i64 c2)).setCell ⟨g, 1, none⟩ (.slice ad2 n2 cap2)) (c2, ⟨ad2, n2, cap2, L2⟩) :=
  ⟨(hds.set hg).set hg, (hR.other (a := ⟨g, 0, none⟩) hgw _).other (a := ⟨g, 1, none⟩) hgw _, (hX.set 0 _).set 1 _, Kd.own_setT (noRow_sCn (by decide) (by decide) (by decide)) (Kd.own_setT (noRow_sCn (by decide) (by decide) (by decide)) hO hX) (hX.set 0 _)⟩
set_option maxHeartbeats 8000000 in
theorem l12Draw (w0 : World) (p : Nat) (v : Value) (l : List UInt8) (w : World) (hc : Cur w0 p v l w) :
    Calls Tryz.prog 64 #[.pointer (some ⟨p, 0, none⟩)] w (DrawnW w0 p v l w (StoreD 14 w.heap.size)) := by
  have ds := Lib.hid ((DS.start hc).alloc (.cells #[.int .i64 0, .slice none 0 0] 26))
  have hR := Lib.hid (Blk.new w #[.int .i64 0, .slice none 0 0] 26)
  have HF := Lib.hid (below w0 p v l (w.alloc (.cells #[.int .i64 0, .slice none 0 0] 26)) 5 ds.out.cur)
  have HPL := Lib.hid hc.lt
  have HWP := Lib.hid (show w.heap.size ≠ p from by have := HPL.out; omega)
  clear hc
  go_enter Tryz.func64, Tryz.ntmps64
  go_wp2_with fail
  refine HF.out.mono ?_
  rintro e w1 ⟨y_, rfl, ⟨r, rfl, hr, -⟩, hc1, hk1⟩
  replace hr := hr (by omega)
  replace ds := Lib.hid (ds.out.step hc1 hk1); replace hR := Lib.hid (blk_keep hR.out hk1 HWP.out)
  have HF2 := Lib.hid (specNewContentStore r w1)
  clear HF hc1 hk1
  go_wp2_with fail
  refine HF2.out.mono ?_
  rintro e w2 ⟨U, rfl, ho, hb⟩
  obtain ⟨c, ad, n, cap, L, rfl, ho2, hs2⟩ := sCn_in ho
  have hal := (Below.refl w2.heap.size w2).alloc (Nat.le_refl _) (.cells #[.int .i64 c, .slice ad n cap] 26)
  have hO := Lib.hid (Kd.own_on (sCn.own_mono ho2 ds.out.size) hal)
  have hM := Lib.hid (show smC 0 (c, L.map kCe.strip) from by rw [hs2]; exact smC_new (wf_of (by omega) (by omega)))
  have hX := Lib.hid (Blk.new w2 #[.int .i64 c, .slice ad n cap] 26)
  replace ds := Lib.hid (ds.out.on hb); replace hR := Lib.hid (hR.out.on hb)
  have HGW := Lib.hid (show w2.heap.size ≠ w.heap.size from by have := hR.out.lt; omega)
  have HGS := Lib.hid ds.out.size
  have HGP := Lib.hid (show w2.heap.size ≠ p from by have := HPL.out; have := HGS.out; omega)
  replace ds := Lib.hid (ds.out.on hal); replace hR := Lib.hid (hR.out.on hal)
  have HF3 := Lib.hid (below w0 p v l (w2.alloc (.cells #[.int .i64 c, .slice ad n cap] 26)) 8 ds.out.cur)
  clear HF2 ho ho2 hs2 hb hal hr
  go_wp2_with fail
  refine HF3.out.mono ?_
  rintro e w4 ⟨y_, rfl, ⟨i, rfl, hi, -⟩, hc4, hk4⟩
  replace hi := hi (by omega)
  obtain ⟨k0, rfl⟩ := Int.eq_ofNat_of_zero_le hi.1
  have hk7 : k0 ≤ 7 := by omega
  replace ds := Lib.hid (ds.out.step hc4 hk4); replace hR := Lib.hid (blk_keep hR.out hk4 HWP.out); replace hX := Lib.hid (blk_keep hX.out hk4 HGP.out); replace hO := Lib.hid (Kd.own_cur hO.out hk4 HPL.out)
  obtain ⟨g, hg⟩ : ∃ g, w2.heap.size = g := ⟨_, rfl⟩
  rw [hg] at hX HGW HGS HGP ⊢
  clear HF3 hc4 hk4 hi hg
  go_wp2_with fail
  go_loopw [4] (fun iv wr => ∃ k : Nat, k ≤ 7 ∧ iv = .int .i64 k ∧ ∃ (j : Nat) (c : Int) (ad : Option Addr) (n cap : Nat) (L : List Cem), j + 2 * k ≤ 14 ∧ Hid (smC j (c, L.map kCe.strip)) ∧ Hid (sCn.own w.heap.size wr (c, ⟨ad, n, cap, L⟩)) ∧ Hid (DS w0 p v l w wr) ∧ Hid (Blk wr w.heap.size #[.int .i64 0, .slice none 0 0] 26) ∧ Hid (Blk wr g #[.int .i64 c, .slice ad n cap] 26)) (fun iv _ => (intOf iv).toNat)
  case atStart => exact ⟨k0, hk7, rfl, 0, c, ad, n, cap, L, by omega, hM, hO, ds, hR, hX⟩
  case round =>
    clear hM hO ds hR hX
    obtain ⟨k, hk, rfl, j, c, ad, n, cap, L, hj, hM, hO, ds, hR, hX⟩ := hrel
    by_cases hlt : 0 < k
    · have hlt2 : (0 : Int) < (k : Int) := by omega
      have hw : IntKind.i64.wrap ((k : Int) - 1) = ((k - 1 : Nat) : Int) := by rw [IntKind.wrap_i64]; omega
      have HF := Lib.hid (l8Draw w0 p v l wr ds.out.cur)
      go_wp2_with fail
      refine HF.out.mono ?_
      rintro e w5 ⟨y_, rfl, hd, hc5, hk5⟩
      obtain ⟨xa, xb, xc, na, ca, nb, cb, nc, cc, y, rfl, hod, hbk, hin⟩ := hd.soft' (by decide)
      replace hR := Lib.hid (blk_keep hR.out hk5 HWP.out); replace hX := Lib.hid (blk_keep hX.out hk5 HGP.out); replace hO := Lib.hid (Kd.own_cur hO.out hk5 HPL.out)
      have OD := Lib.hid (sDz.own_mono hod ds.out.size)
      replace ds := Lib.hid (ds.out.step hc5 hk5)
      have hal := (Below.refl w5.heap.size w5).alloc (Nat.le_refl _) (.cells #[.slice xa na ca, .slice xb nb cb, .slice xc nc cc, .int .i64 y.2.2.2.1, .int .i64 y.2.2.2.2] 31)
      have hD := Lib.hid (Blk.new w5 #[.slice xa na ca, .slice xb nb cb, .slice xc nc cc, .int .i64 y.2.2.2.1, .int .i64 y.2.2.2.2] 31)
      have HGQ := Lib.hid (show g ≠ w5.heap.size from by have := hX.out.lt; omega)
      have HQP := Lib.hid (show w5.heap.size ≠ p from by have := HPL.out; have := ds.out.size; omega)
      replace hR := Lib.hid (hR.out.on hal); replace hX := Lib.hid (hX.out.on hal); replace hO := Lib.hid (Kd.own_on hO.out hal); replace OD := Lib.hid (Kd.own_on OD.out hal); replace ds := Lib.hid (ds.out.on hal)
      have HIY := Lib.hid hin; have HWY := Lib.hid (show wtDz y ≤ 3000 from Nat.le_trans (show wtDz y ≤ 1500 from hbk) (by decide))
      clear HF hd hod hbk hin hc5 hk5 hal
      go_upto_region 6 with fail
      generalize (w5.alloc (.cells #[.slice xa na ca, .slice xb nb cb, .slice xc nc cc, .int .i64 y.2.2.2.1, .int .i64 y.2.2.2.2] 31)) = W at *
      refine c12a (Lib.hid ds.out.cur) hX hO HGP HPL (Lib.hid ds.out.size) hM (Lib.hid (by omega)) hD OD HQP HGQ HIY HWY ?_
      intro u17 u18 u19 u20 u21 u22 c2 ad2 n2 cap2 L2 wx xk ok sm hc6 hk6
      obtain ⟨z1, z2, z3, z4⟩ := two_laid (c2 := c2) (ad2 := ad2) (n2 := n2) (cap2 := cap2) HGS.out HGW.out (ds.out.step hc6 hk6) (blk_keep hR.out hk6 HWP.out) xk ok
      replace ds := Lib.hid z1; replace hR := Lib.hid z2; replace hX := Lib.hid z3; replace hO := Lib.hid z4; replace hM := Lib.hid sm
      generalize ((wx.setCell ⟨g, 0, none⟩ (.int .i64 c2)).setCell ⟨g, 1, none⟩ (.slice ad2 n2 cap2)) = V at *
      have HF := Lib.hid (once w0 p v l V 3 ds.out.cur)
      clear z1 z2 z3 z4 xk ok sm hc6 hk6 hD OD HQP HGQ HIY HWY
      go_wp2_with fail
      refine HF.out.mono ?_
      rintro e w7 ⟨y_, rfl, ⟨b, rfl⟩, hc7, hk7_⟩
      replace hR := Lib.hid (blk_keep hR.out hk7_ HWP.out); replace hX := Lib.hid (blk_keep hX.out hk7_ HGP.out); replace hO := Lib.hid (Kd.own_cur hO.out hk7_ HPL.out); replace ds := Lib.hid (ds.out.step hc7 hk7_)
      clear HF hc7 hk7_
      cases b with
      | false =>
        go_wp2
        go_roundw
        case rel => exact ⟨k - 1, by omega, by go_num, j + 1, c2, ad2, n2, cap2, L2, by omega, hM, hO, ds, hR, hX⟩
        case measure => simp [intOf]; omega
      | true =>
        go_upto_region 8 with fail
        refine c12b (Lib.hid ds.out.cur) hX hO HGP HPL (Lib.hid ds.out.size) hM (Lib.hid (by omega)) ?_
        intro u25 u26 u27 u28 u29 c3 ad3 n3 cap3 L3 wx2 xk ok sm hc6 hk6
        obtain ⟨z1, z2, z3, z4⟩ := two_laid (c2 := c3) (ad2 := ad3) (n2 := n3) (cap2 := cap3) HGS.out HGW.out (ds.out.step hc6 hk6) (blk_keep hR.out hk6 HWP.out) xk ok
        replace ds := Lib.hid z1; replace hR := Lib.hid z2; replace hX := Lib.hid z3; replace hO := Lib.hid z4; replace hM := Lib.hid sm
        generalize ((wx2.setCell ⟨g, 0, none⟩ (.int .i64 c3)).setCell ⟨g, 1, none⟩ (.slice ad3 n3 cap3)) = V2 at *
        clear z1 z2 z3 z4 xk ok sm hc6 hk6
        go_wp2
        go_roundw
        case rel => exact ⟨k - 1, by omega, by go_num, j + 1 + 1, c3, ad3, n3, cap3, L3, by omega, hM, hO, ds, hR, hX⟩
        case measure => simp [intOf]; omega
    · obtain rfl : k = 0 := by omega
      have q0 := hX.out.cell 0; have q1 := hX.out.cell 1; have r0 := hR.out.cell 0; have r1 := hR.out.cell 1; have t0 := hR.out.frozen 0; have t1 := hR.out.frozen 1
      have z := (hR.out.set 0 (.int .i64 c)).set 1 (.slice ad n cap)
      have HZ := Lib.hid z
      have hO2 := Lib.hid (Kd.own_setT (i := 1) (u := .slice ad n cap) (noRow_sCn (by decide) (by decide) (by decide)) (Kd.own_setT (i := 0) (u := .int .i64 c) (noRow_sCn (by decide) (by decide) (by decide)) hO.out hR.out) (hR.out.set 0 (.int .i64 c)))
      have ds2 := Lib.hid ((ds.out.set (g := w.heap.size) (i := 0) (u := .int .i64 c) (Nat.le_refl _)).set (g := w.heap.size) (i := 1) (u := .slice ad n cap) (Nat.le_refl _))
      clear z hlt
      go_wp2_with fail
      refine bodyPost_ret (Ret.results_c rfl _ _ w.heap.size [.int .i64 c, .slice ad n cap] rfl aggCn HZ.out.cells) rfl ?_
      exact ⟨_, rfl, ⟨c, ad, n, cap, L, rfl, hO2.out, hM.out.mono (by omega)⟩, ds2.out.cur, ds2.out.keep⟩
end Go.Proofs.YtfglcmanmfenpaaGreat.Draw
