/- Contracts and mathematics, joined: DrawC6, DrawC7, DrawC8, CacheB, CacheE. No conditions but those that each states. -/
import Derived.WalkKit
import Derived.Deep.RegionHeld3
import Derived.Test.YtfglcmanmfenpaaGreatB27
import Derived.Test.YtfglcmanmfenpaaGreatB8
import Derived.Test.YtfglcmanmfenpaaGreatB15
import Derived.Test.YtfglcmanmfenpaaGreatB17
import Derived.Test.YtfglcmanmfenpaaGreatB18
import Derived.Test.YtfglcmanmfenpaaGreatB14
import Derived.Test.YtfglcmanmfenpaaGreatB16
import Derived.Test.YtfglcmanmfenpaaGreatB19
import Derived.Test.YtfglcmanmfenpaaGreatB20
import Derived.Test.YtfglcmanmfenpaaGreatB10
import Derived.Test.YtfglcmanmfenpaaGreatB9
import Derived.Test.YtfglcmanmfenpaaGreatB5
/- Regions of l12Pair: a name out of the store, the results laid one after another. No conditions but that what is drawn is small. -/
namespace Go.Proofs.YtfglcmanmfenpaaGreat.Draw
open Go.ChangeShapes Go.WideShapes Go.ChangeAt Go.RowKit Go.Instr
open Go.Proofs.YtfglcmanmfenpaaGreat.Row
open Go.Proofs.YtfglcmanmfenpaaGreat.Ret (NC Blk Box)
set_option linter.unusedVariables false
set_option maxRecDepth 100000
theorem kN_soft12 {B E : Nat} {w : World} {V : Value} {l : List ByteArray} (h : kN.In B E w V l) : ∃ (x : Option Addr) (n c : Nat), V = .agg #[.slice x n c] ∧ sN.own B w ⟨x, n, c, l⟩ := by
  obtain ⟨⟨x, n, c, l2⟩, rfl, hs, ho⟩ := h.split
  rw [kN_strip] at hs
  obtain rfl := hs
  exact ⟨x, n, c, rfl, sN_own ho.1⟩
theorem wt_name12 {za zb zc : Option Addr} {ma da mb db mc dc_ n : Nat} {la lc : List ByteArray} {lb : List Int} {f0 s0 u0 : Int} (h : wtDz (kCe.strip (((⟨za, ma, da, la⟩, ⟨zb, mb, db, lb⟩, ⟨zc, mc, dc_, lc⟩, f0, s0), u0) : Cem)).1 ≤ n) : bulk la ≤ n := by
  have e : (kCe.strip (((⟨za, ma, da, la⟩, ⟨zb, mb, db, lb⟩, ⟨zc, mc, dc_, lc⟩, f0, s0), u0) : Cem)).1 = (la, lb, lc, f0, s0) := by
    show kDz.strip ((⟨za, ma, da, la⟩, ⟨zb, mb, db, lb⟩, ⟨zc, mc, dc_, lc⟩, f0, s0) : Dzm) = _
    exact kDz_strip12 za zb zc ma da mb db mc dc_ (la, lb, lc, f0, s0)
  rw [e] at h
  have h9 : bulk la + lb.length + bulk lc ≤ n := h
  omega
set_option maxRecDepth 100000 in
set_option maxHeartbeats 4000000 in
theorem c12i {Q : Exit → Act → World → Prop} {v0 v1 v2 v3 v4 v8 v9 v10 v11 v12 v13 v14 v15 v16 v17 v18 v19 v20 v21 v22 v23 v24 v25 v26 v27 v28 v29 v30 v31 v32 v33 v34 v35 v36 v37 v38 v39 : Value} {w : World} {w0 : World} {p : Nat} {v : Value} {l : List UInt8} (C0 : Hid (Cur w0 p v l w)) {g q rr r3 b B n cap nn cn k : Nat} {c : Int} {xn : Option Addr} {L : List Cem} (XK : Hid (Blk w g #[.int .i64 c, .slice (some ⟨b, 0, none⟩) n cap] 26)) (XN : Hid (Blk w q #[.slice xn nn cn] 29)) (XR : Hid (Blk w rr #[.int .i64 0, .slice none 0 0] 26)) (X3 : Hid (Blk w r3 #[.slice none 0 0] 29)) (OC : Hid (sCn.own B w (c, ⟨some ⟨b, 0, none⟩, n, cap, L⟩))) (HSM : Hid (smC k (c, L.map kCe.strip))) (HLE : Hid (n = L.length)) (HGP : Hid (g ≠ p)) (HQP : Hid (q ≠ p)) (HRP : Hid (rr ≠ p)) (H3P : Hid (r3 ≠ p)) (HQG : Hid (q ≠ g)) (HPB : Hid (p < B)) (HB : Hid (B ≤ w.heap.size)) (hn0 : 0 < n) 
  (hQ : ∀ (u23 u24 u25 u26 u27 u28 u29 u30 u31 u32 u33 u34 : Value) (x2 : Option Addr) (n2 c2 : Nat) (l2 : List ByteArray) (wx : World), Blk wx g #[.int .i64 c, .slice (some ⟨b, 0, none⟩) n cap] 26 → Blk wx q #[.slice xn nn cn] 29 → Blk wx rr #[.int .i64 0, .slice none 0 0] 26 → Blk wx r3 #[.slice none 0 0] 29 → sCn.own B wx (c, ⟨some ⟨b, 0, none⟩, n, cap, L⟩) → sN.own B wx ⟨x2, n2, c2, l2⟩ → bulk l2 ≤ 4000 → Cur w0 p v l wx → Q .normal ⟨#[v0, v1, v2, v3, v4, .pointer (some ⟨p, 0, none⟩), .pointer (some ⟨g, 0, none⟩), .pointer (some ⟨q, 0, none⟩), v8, v9, v10, v11, v12, v13, v14, v15, v16, v17, v18, v19, v20, v21, v22, u23, u24, u25, u26, u27, u28, u29, u30, u31, u32, u33, u34, v35, v36, v37, v38, v39], []⟩ (wx.setCell ⟨q, 0, none⟩ (.slice x2 n2 c2))) :
  (Code.region 5 #[⟨some 23, .fieldAddr 26 (.tmp 6) 1, 0, "l12_cache.go:163", #[], none⟩,
   ⟨some 24, .load 24 (.tmp 23), 24, "l12_cache.go:163", #[⟨0, .data⟩], none⟩,
   ⟨some 25, .move (.tmp 5), 55, "l12_cache.go:163", #[], none⟩,
   ⟨some 26, .fieldAddr 26 (.tmp 6) 1, 0, "l12_cache.go:163", #[], none⟩,
   ⟨some 27, .load 24 (.tmp 26), 24, "l12_cache.go:163", #[⟨3, .data⟩], none⟩,
   ⟨some 28, .call ⟨.builtin .len, #[.tmp 27], #[24]⟩, 3, "l12_cache.go:163", #[⟨4, .data⟩], none⟩,
   ⟨some 29, .call ⟨.value (.func 33), #[.tmp 25, .tmp 28], #[55, 3]⟩, 3, "l12_cache.go:163", #[⟨2, .data⟩, ⟨5, .data⟩], none⟩,
   ⟨some 30, .indexAddr 24 (.tmp 24) (.tmp 29), 0, "l12_cache.go:163", #[⟨1, .data⟩, ⟨6, .data⟩], none⟩,
   ⟨some 31, .fieldAddr 64 (.tmp 30) 0, 0, "l12_cache.go:163", #[⟨7, .data⟩], none⟩,
   ⟨some 32, .fieldAddr 31 (.tmp 31) 0, 0, "l12_cache.go:163", #[⟨8, .data⟩], none⟩,
   ⟨some 33, .load 29 (.tmp 32), 29, "l12_cache.go:163", #[⟨9, .data⟩], none⟩,
   ⟨some 34, .call ⟨.value (.func 61), #[.tmp 33], #[29]⟩, 29, "l12_cache.go:163", #[⟨10, .data⟩, ⟨6, .chain⟩], none⟩,
   ⟨none, .store 29 (.tmp 7) (.tmp 34), 0, "l12_cache.go:163", #[⟨11, .data⟩, ⟨11, .chain⟩, ⟨0, .phase⟩, ⟨1, .phase⟩, ⟨2, .phase⟩, ⟨3, .phase⟩, ⟨4, .phase⟩, ⟨5, .phase⟩, ⟨6, .phase⟩, ⟨7, .phase⟩, ⟨8, .phase⟩, ⟨9, .phase⟩, ⟨10, .phase⟩, ⟨11, .phase⟩], none⟩] true).wp Tryz.prog Q ⟨#[v0, v1, v2, v3, v4, .pointer (some ⟨p, 0, none⟩), .pointer (some ⟨g, 0, none⟩), .pointer (some ⟨q, 0, none⟩), v8, v9, v10, v11, v12, v13, v14, v15, v16, v17, v18, v19, v20, v21, v22, v23, v24, v25, v26, v27, v28, v29, v30, v31, v32, v33, v34, v35, v36, v37, v38, v39], []⟩ w := by
 have HQ := Lib.hid hQ; clear hQ
 have hb : Below w.heap.size w w.drew := (Below.refl _ _).drew
 replace XK := Lib.hid (XK.out.on hb)
 replace XN := Lib.hid (XN.out.on hb)
 replace XR := Lib.hid (XR.out.on hb)
 replace X3 := Lib.hid (X3.out.on hb)
 replace OC := Lib.hid (Kd.own_on OC.out hb)
 have C := Lib.hid (C0.out.on hb)
 have BS := Lib.hid (show w.heap.size ≤ w.drew.heap.size from hb.size)
 have CP := Lib.hid C0.out.lt
 clear hb
 refine wp_region_noPanic ?_
 refine wp_region_held_drew (S := (fun w' => w'.cell? ⟨g, 0, none⟩ = some (.int .i64 c) ∧ w'.cell? ⟨g, 1, none⟩ = some (.slice (some ⟨b, 0, none⟩) n cap))) (by kernel_rfl) ?_ (fun hHeld => ?_)
 ·
  exact ⟨XK.out.cell 0, XK.out.cell 1⟩
 generalize w.drew = wd at *
 refine wpAnyH_take (i := 0) (oi := ⟨some 23, .fieldAddr 26 (.tmp 6) 1, 0, "l12_cache.go:163", #[], none⟩) (v := ?_) rfl (by kernel_rfl) (by kernel_rfl) (by kernel_rfl) (fun _ _ _ h => h) (Or.inl ⟨by rfl, ?_⟩) (by assumption) ?_
 rotate_left
 ·
  intro w' hSw; (try dsimp only at hSw); first | (go_simp; done) | (go_simp; with_reducible rfl)
 (try simp only [Act.put, Row.pB0, Row.pB1, Row.pB2])
 refine wpAnyH_take (i := 1) (oi := ⟨some 24, .load 24 (.tmp 23), 24, "l12_cache.go:163", #[⟨0, .data⟩], none⟩) (v := ?_) rfl (by kernel_rfl) (by kernel_rfl) (by kernel_rfl) (fun _ _ _ h => h) (Or.inl ⟨by rfl, ?_⟩) (by assumption) ?_
 rotate_left
 ·
  intro w' hSw; (try dsimp only at hSw); first | (go_simp; done) | (go_simp; with_reducible rfl)
 (try simp only [Act.put, Row.pB0, Row.pB1, Row.pB2])
 refine wpAnyH_take (i := 2) (oi := ⟨some 25, .move (.tmp 5), 55, "l12_cache.go:163", #[], none⟩) (v := ?_) rfl (by kernel_rfl) (by kernel_rfl) (by kernel_rfl) (fun _ _ _ h => h) (Or.inl ⟨by rfl, ?_⟩) (by assumption) ?_
 rotate_left
 ·
  intro w' hSw; (try dsimp only at hSw); first | (go_simp; done) | (go_simp; with_reducible rfl)
 (try simp only [Act.put, Row.pB0, Row.pB1, Row.pB2])
 refine wpAnyH_take (i := 3) (oi := ⟨some 26, .fieldAddr 26 (.tmp 6) 1, 0, "l12_cache.go:163", #[], none⟩) (v := ?_) rfl (by kernel_rfl) (by kernel_rfl) (by kernel_rfl) (fun _ _ _ h => h) (Or.inl ⟨by rfl, ?_⟩) (by assumption) ?_
 rotate_left
 ·
  intro w' hSw; (try dsimp only at hSw); first | (go_simp; done) | (go_simp; with_reducible rfl)
 (try simp only [Act.put, Row.pB0, Row.pB1, Row.pB2])
 refine wpAnyH_take (i := 4) (oi := ⟨some 27, .load 24 (.tmp 26), 24, "l12_cache.go:163", #[⟨3, .data⟩], none⟩) (v := ?_) rfl (by kernel_rfl) (by kernel_rfl) (by kernel_rfl) (fun _ _ _ h => h) (Or.inl ⟨by rfl, ?_⟩) (by assumption) ?_
 rotate_left
 ·
  intro w' hSw; (try dsimp only at hSw); first | (go_simp; done) | (go_simp; with_reducible rfl)
 (try simp only [Act.put, Row.pB0, Row.pB1, Row.pB2])
 refine wpAnyH_take (i := 5) (oi := ⟨some 28, .call ⟨.builtin .len, #[.tmp 27], #[24]⟩, 3, "l12_cache.go:163", #[⟨4, .data⟩], none⟩) (v := ?_) rfl (by kernel_rfl) (by kernel_rfl) (by kernel_rfl) (fun _ _ _ h => h) (Or.inl ⟨by rfl, ?_⟩) (by assumption) ?_
 rotate_left
 ·
  intro w' hSw; (try dsimp only at hSw); first | (go_simp; done) | (go_simp; with_reducible rfl)
 (try simp only [Act.put, Row.pB0, Row.pB1, Row.pB2])
 refine wpAnyH_ready (rs := [6]) (by kernel_rfl) (by simp) ?_
 refine AllReadyH.cons (o := ⟨some 29, .call ⟨.value (.func 33), #[.tmp 25, .tmp 28], #[55, 3]⟩, 3, "l12_cache.go:163", #[⟨2, .data⟩, ⟨5, .data⟩], none⟩) rfl (fun K hK => ?_) AllReadyH.nil
 go_simp
 refine (below w0 p v l _ (n : Int) C.out).mono ?_
 rintro e wn1 ⟨y_, rfl, ⟨r, rfl, hr, _⟩, hc, hk⟩
 replace hr := hr (by omega)
 obtain ⟨j, rfl⟩ := Int.eq_ofNat_of_zero_le hr.1
 have hj : j < n := by omega
 have HJL := Lib.hid (show j < L.length from by have := HLE.out; omega)
 obtain ⟨m, hm⟩ : ∃ m, nth L j = m := ⟨_, rfl⟩
 obtain ⟨⟨⟨za, ma, da, la⟩, ⟨zb, mb, db, lb⟩, ⟨zc, mc, dc_, lc⟩, f0, s0⟩, u0⟩ := m
 have HM0 := Lib.hid hm
 have HBK := Lib.hid (show bulk la ≤ 4000 from by have h := (HSM.out.2.2 (kCe.strip (nth L j)) (List.mem_map.2 ⟨nth L j, nth_mem HJL.out, rfl⟩)).2; rw [HM0.out] at h; exact wt_name12 h)
 clear hm hr
 replace XK := Lib.hid (blk_keep XK.out hk HGP.out)
 replace XN := Lib.hid (blk_keep XN.out hk HQP.out)
 replace XR := Lib.hid (blk_keep XR.out hk HRP.out)
 replace X3 := Lib.hid (blk_keep X3.out hk H3P.out)
 replace OC := Lib.hid (Kd.own_cur OC.out hk HPB.out)
 replace C := Lib.hid (hc); replace BS := Lib.hid (Nat.le_trans BS.out hk.size); clear hc hk
 (try go_wp2_with fail)
 clear hHeld
 refine hK.out _ _ ?_ (fun hHeld => ?_)
 ·
  (try dsimp only); exact ⟨XK.out.cell 0, XK.out.cell 1⟩
 clear hK K
 (try simp only [Act.put, Row.pB0, Row.pB1, Row.pB2])
 refine wpAnyH_take (i := 7) (oi := ⟨some 30, .indexAddr 24 (.tmp 24) (.tmp 29), 0, "l12_cache.go:163", #[⟨1, .data⟩, ⟨6, .data⟩], none⟩) (v := ?_) rfl (by kernel_rfl) (by kernel_rfl) (by kernel_rfl) (fun _ _ _ h => h) (Or.inl ⟨by rfl, ?_⟩) (by assumption) ?_
 rotate_left
 ·
  intro w' hSw; (try dsimp only at hSw); first | (go_simp; done) | (go_simp; with_reducible rfl)
 (try simp only [Act.put, Row.pB0, Row.pB1, Row.pB2])
 refine wpAnyH_take (i := 8) (oi := ⟨some 31, .fieldAddr 64 (.tmp 30) 0, 0, "l12_cache.go:163", #[⟨7, .data⟩], none⟩) (v := ?_) rfl (by kernel_rfl) (by kernel_rfl) (by kernel_rfl) (fun _ _ _ h => h) (Or.inl ⟨by rfl, ?_⟩) (by assumption) ?_
 rotate_left
 ·
  intro w' hSw; (try dsimp only at hSw); first | (go_simp; done) | (go_simp; with_reducible rfl)
 (try simp only [Act.put, Row.pB0, Row.pB1, Row.pB2])
 refine wpAnyH_take (i := 9) (oi := ⟨some 32, .fieldAddr 31 (.tmp 31) 0, 0, "l12_cache.go:163", #[⟨8, .data⟩], none⟩) (v := ?_) rfl (by kernel_rfl) (by kernel_rfl) (by kernel_rfl) (fun _ _ _ h => h) (Or.inl ⟨by rfl, ?_⟩) (by assumption) ?_
 rotate_left
 ·
  intro w' hSw; (try dsimp only at hSw); first | (go_simp; done) | (go_simp; with_reducible rfl)
 (try simp only [Act.put, Row.pB0, Row.pB1, Row.pB2])
 refine wpAnyH_ready (rs := [10]) (by kernel_rfl) (by simp) ?_
 refine AllReadyH.cons (o := ⟨some 33, .load 29 (.tmp 32), 29, "l12_cache.go:163", #[⟨9, .data⟩], none⟩) rfl (fun K hK => ?_) AllReadyH.nil
 have e0 : wn1.cell? ⟨b, j * 6, none⟩ = some (.slice za ma da) := by have h := (ownK_cell szCe_cells OC.out.2.1 HLE.out HJL.out (i := 0) (by decide)).1; rw [HM0.out] at h; exact h
 go_simp
 clear hHeld
 refine hK.out _ _ ?_ (fun hHeld => ?_)
 ·
  (try dsimp only); exact ⟨XK.out.cell 0, XK.out.cell 1⟩
 clear hK K
 (try simp only [Act.put, Row.pB0, Row.pB1, Row.pB2])
 refine wpAnyH_ready (rs := [11]) (by kernel_rfl) (by simp) ?_
 refine AllReadyH.cons (o := ⟨some 34, .call ⟨.value (.func 61), #[.tmp 33], #[29]⟩, 29, "l12_cache.go:163", #[⟨10, .data⟩, ⟨6, .chain⟩], none⟩) rfl (fun K hK => ?_) AllReadyH.nil
 go_simp
 refine (sCpyN (sN_at12 (l := la) (show sN.own B wn1 ⟨za, ma, da, la⟩ from by have h := OC.out.2.2 (nth L j) (nth_mem HJL.out); rw [HM0.out] at h; exact h.1.1)) (Nat.le_trans HBK.out (by decide))).mono ?_
 rintro e wn3 ⟨v_, rfl, ho, hb⟩
 obtain ⟨x2, n2, c2, rfl, ho2⟩ := kN_soft12 ho
 have HX := Lib.hid (sN.own_mono ho2 (Nat.le_trans HB.out BS.out))
 clear ho ho2
 replace XK := Lib.hid (XK.out.on hb)
 replace XN := Lib.hid (XN.out.on hb)
 replace XR := Lib.hid (XR.out.on hb)
 replace X3 := Lib.hid (X3.out.on hb)
 replace OC := Lib.hid (Kd.own_on OC.out hb)
 replace C := Lib.hid (C.out.on hb); replace BS := Lib.hid (Nat.le_trans BS.out hb.size); clear hb
 (try go_wp2_with fail)
 clear hHeld
 refine hK.out _ _ ?_ (fun hHeld => ?_)
 ·
  (try dsimp only); exact ⟨XK.out.cell 0, XK.out.cell 1⟩
 clear hK K
 (try simp only [Act.put, Row.pB0, Row.pB1, Row.pB2])
 refine wpAnyH_ready (rs := [12]) (by kernel_rfl) (by simp) ?_
 refine AllReadyH.cons (o := ⟨none, .store 29 (.tmp 7) (.tmp 34), 0, "l12_cache.go:163", #[⟨11, .data⟩, ⟨11, .chain⟩, ⟨0, .phase⟩, ⟨1, .phase⟩, ⟨2, .phase⟩, ⟨3, .phase⟩, ⟨4, .phase⟩, ⟨5, .phase⟩, ⟨6, .phase⟩, ⟨7, .phase⟩, ⟨8, .phase⟩, ⟨9, .phase⟩, ⟨10, .phase⟩, ⟨11, .phase⟩], none⟩) rfl (fun K hK => ?_) AllReadyH.nil
 have r0 := XN.out.cell 0; have t0 := XN.out.frozen 0
 go_simp
 clear hHeld
 refine hK.out _ _ ?_ (fun hHeld => ?_)
 ·
  (try dsimp only); exact ⟨(XK.out.other (a := ⟨q, 0, none⟩) HQG.out _).cell 0, (XK.out.other (a := ⟨q, 0, none⟩) HQG.out _).cell 1⟩
 clear hK K
 (try simp only [Act.put, Row.pB0, Row.pB1, Row.pB2])
 refine wpAnyH_done (by kernel_rfl) ?_ _
 exact NoPanic.normal (HQ.out _ _ _ _ _ _ _ _ _ _ _ _ _ _ _ _ _ XK.out XN.out XR.out X3.out OC.out HX.out HBK.out C.out)
set_option maxRecDepth 100000 in
set_option maxHeartbeats 4000000 in
theorem c12j {Q : Exit → Act → World → Prop} {v0 v1 v4 v8 v9 v10 v11 v12 v13 v14 v15 v16 v17 v18 v19 v20 v21 v22 v23 v24 v25 v26 v27 v28 v29 v30 v31 v32 v33 v34 v35 v36 v37 v38 v39 : Value} {w : World} {w0 : World} {p : Nat} {v : Value} {l : List UInt8} (C0 : Hid (Cur w0 p v l w)) {g q rr r3 B n cap nn cn : Nat} {c : Int} {ad xn : Option Addr} {L : List Cem} {ln : List ByteArray} (XK : Hid (Blk w g #[.int .i64 c, .slice ad n cap] 26)) (XN : Hid (Blk w q #[.slice xn nn cn] 29)) (XR : Hid (Blk w rr #[.int .i64 0, .slice none 0 0] 26)) (X3 : Hid (Blk w r3 #[.slice none 0 0] 29)) (OC : Hid (sCn.own B w (c, ⟨ad, n, cap, L⟩))) (ON : Hid (sN.own B w ⟨xn, nn, cn, ln⟩)) (HGP : Hid (g ≠ p)) (HQP : Hid (q ≠ p)) (HRP : Hid (rr ≠ p)) (H3P : Hid (r3 ≠ p)) (HRG : Hid (rr ≠ g)) (HRQ : Hid (rr ≠ q)) (H3G : Hid (r3 ≠ g)) (H3Q : Hid (r3 ≠ q)) (HR3 : Hid (rr ≠ r3)) (HPB : Hid (p < B)) (H0R : Hid (w0.heap.size ≤ rr)) 
  (hQ : ∀ (u35 u36 u37 u38 u39 : Value) (r : Int) (wx : World), Blk wx rr #[.int .i64 c, .slice ad n cap] 26 → Blk wx r3 #[.slice none 0 0] 29 → sCn.own B wx (c, ⟨ad, n, cap, L⟩) → sN.own B wx ⟨xn, nn, cn, ln⟩ → 0 ≤ r → r < 60 → Cur w0 p v l wx → Q .normal ⟨#[v0, v1, .pointer (some ⟨rr, 0, none⟩), .pointer (some ⟨r3, 0, none⟩), .int .i64 (40 + r), .pointer (some ⟨p, 0, none⟩), .pointer (some ⟨g, 0, none⟩), .pointer (some ⟨q, 0, none⟩), v8, v9, v10, v11, v12, v13, v14, v15, v16, v17, v18, v19, v20, v21, v22, v23, v24, v25, v26, v27, v28, v29, v30, v31, v32, v33, v34, u35, u36, u37, u38, u39], []⟩ (wx.setCell ⟨r3, 0, none⟩ (.slice xn nn cn))) :
  (Code.region 6 #[⟨some 35, .load 26 (.tmp 6), 26, "l12_cache.go:165", #[], none⟩,
   ⟨some 36, .load 29 (.tmp 7), 29, "l12_cache.go:165", #[{ on := 5, ground := Ground.gcOnly Departure.lateStores }], none⟩,
   ⟨some 37, .move (.tmp 5), 55, "l12_cache.go:165", #[], none⟩,
   ⟨some 38, .call ⟨.value (.func 33), #[.tmp 37, .const (Value.int IntKind.i64 60)], #[55, 3]⟩, 3, "l12_cache.go:165", #[⟨2, .data⟩], none⟩,
   ⟨some 39, .binOp BinOp.add 3 (.const (Value.int IntKind.i64 40)) (.tmp 38) 3, 3, "l12_cache.go:165", #[⟨3, .data⟩, { on := 6, ground := Ground.gcOnly Departure.lateStores }], none⟩,
   ⟨none, .store 26 (.tmp 2) (.tmp 35), 0, "l12_cache.go:165", #[⟨0, .data⟩, ⟨3, .chain⟩, ⟨0, .phase⟩, { on := 1, ground := Ground.textOnly Departure.lateStores }, { on := 2, ground := Ground.textOnly Departure.lateStores }, { on := 3, ground := Ground.textOnly Departure.lateStoresUnsure }, { on := 4, ground := Ground.textOnly Departure.lateStores }], none⟩,
   ⟨none, .store 29 (.tmp 3) (.tmp 36), 0, "l12_cache.go:165", #[⟨1, .data⟩, ⟨5, .chain⟩, ⟨0, .phase⟩, ⟨1, .phase⟩, { on := 2, ground := Ground.textOnly Departure.lateStores }, { on := 3, ground := Ground.textOnly Departure.lateStoresUnsure }, { on := 4, ground := Ground.textOnly Departure.lateStores }, ⟨5, .phase⟩], none⟩,
   ⟨some 4, .assign (.tmp 39), 3, "l12_cache.go:165", #[⟨4, .data⟩, ⟨6, .chain⟩, ⟨0, .phase⟩, ⟨1, .phase⟩, ⟨2, .phase⟩, ⟨3, .phase⟩, ⟨4, .phase⟩, ⟨5, .phase⟩, ⟨6, .phase⟩], none⟩] true).wp Tryz.prog Q ⟨#[v0, v1, .pointer (some ⟨rr, 0, none⟩), .pointer (some ⟨r3, 0, none⟩), v4, .pointer (some ⟨p, 0, none⟩), .pointer (some ⟨g, 0, none⟩), .pointer (some ⟨q, 0, none⟩), v8, v9, v10, v11, v12, v13, v14, v15, v16, v17, v18, v19, v20, v21, v22, v23, v24, v25, v26, v27, v28, v29, v30, v31, v32, v33, v34, v35, v36, v37, v38, v39], []⟩ w := by
 have HQ := Lib.hid hQ; clear hQ
 have hb : Below w.heap.size w w.drew := (Below.refl _ _).drew
 replace XK := Lib.hid (XK.out.on hb)
 replace XN := Lib.hid (XN.out.on hb)
 replace XR := Lib.hid (XR.out.on hb)
 replace X3 := Lib.hid (X3.out.on hb)
 replace OC := Lib.hid (Kd.own_on OC.out hb)
 replace ON := Lib.hid (Kd.own_on ON.out hb)
 have C := Lib.hid (C0.out.on hb)
 have BS := Lib.hid (show w.heap.size ≤ w.drew.heap.size from hb.size)
 have CP := Lib.hid C0.out.lt
 clear hb
 refine wp_region_noPanic ?_
 refine wp_region_held_drew (S := (fun w' => w'.cell? ⟨g, 0, none⟩ = some (.int .i64 c) ∧ w'.cell? ⟨g, 1, none⟩ = some (.slice ad n cap) ∧ w'.cell? ⟨q, 0, none⟩ = some (.slice xn nn cn))) (by kernel_rfl) ?_ (fun hHeld => ?_)
 ·
  exact ⟨XK.out.cell 0, XK.out.cell 1, XN.out.cell 0⟩
 generalize w.drew = wd at *
 refine wpAnyH_take (i := 0) (oi := ⟨some 35, .load 26 (.tmp 6), 26, "l12_cache.go:165", #[], none⟩) (v := ?_) rfl (by kernel_rfl) (by kernel_rfl) (by kernel_rfl) (fun _ _ _ h => h) (Or.inl ⟨by rfl, ?_⟩) (by assumption) ?_
 rotate_left
 ·
  intro w' hSw; (try dsimp only at hSw); first | (go_simp; done) | (go_simp; with_reducible rfl)
 (try simp only [Act.put, Row.pB0, Row.pB1, Row.pB2])
 refine wpAnyH_take (i := 1) (oi := ⟨some 36, .load 29 (.tmp 7), 29, "l12_cache.go:165", #[{ on := 5, ground := Ground.gcOnly Departure.lateStores }], none⟩) (v := ?_) rfl (by kernel_rfl) (by kernel_rfl) (by kernel_rfl) (fun _ _ _ h => h) (Or.inl ⟨by rfl, ?_⟩) (by assumption) ?_
 rotate_left
 ·
  intro w' hSw; (try dsimp only at hSw); first | (go_simp; done) | (go_simp; with_reducible rfl)
 (try simp only [Act.put, Row.pB0, Row.pB1, Row.pB2])
 refine wpAnyH_take (i := 2) (oi := ⟨some 37, .move (.tmp 5), 55, "l12_cache.go:165", #[], none⟩) (v := ?_) rfl (by kernel_rfl) (by kernel_rfl) (by kernel_rfl) (fun _ _ _ h => h) (Or.inl ⟨by rfl, ?_⟩) (by assumption) ?_
 rotate_left
 ·
  intro w' hSw; (try dsimp only at hSw); first | (go_simp; done) | (go_simp; with_reducible rfl)
 (try simp only [Act.put, Row.pB0, Row.pB1, Row.pB2])
 refine wpAnyH_ready (rs := [3]) (by kernel_rfl) (by simp) ?_
 refine AllReadyH.cons (o := ⟨some 38, .call ⟨.value (.func 33), #[.tmp 37, .const (Value.int IntKind.i64 60)], #[55, 3]⟩, 3, "l12_cache.go:165", #[⟨2, .data⟩], none⟩) rfl (fun K hK => ?_) AllReadyH.nil
 go_simp
 refine (below w0 p v l _ 60 C.out).mono ?_
 rintro e wn1 ⟨y_, rfl, ⟨r, rfl, hr, _⟩, hc, hk⟩
 replace hr := hr (by omega)
 obtain ⟨hr0, hr1⟩ := hr
 have hw : IntKind.i64.wrap (40 + r) = 40 + r := by rw [IntKind.wrap_i64]; omega
 replace XK := Lib.hid (blk_keep XK.out hk HGP.out)
 replace XN := Lib.hid (blk_keep XN.out hk HQP.out)
 replace XR := Lib.hid (blk_keep XR.out hk HRP.out)
 replace X3 := Lib.hid (blk_keep X3.out hk H3P.out)
 replace OC := Lib.hid (Kd.own_cur OC.out hk HPB.out)
 replace ON := Lib.hid (Kd.own_cur ON.out hk HPB.out)
 replace C := Lib.hid (hc); replace BS := Lib.hid (Nat.le_trans BS.out hk.size); clear hc hk
 (try go_wp2_with fail)
 clear hHeld
 refine hK.out _ _ ?_ (fun hHeld => ?_)
 ·
  (try dsimp only); exact ⟨XK.out.cell 0, XK.out.cell 1, XN.out.cell 0⟩
 clear hK K
 (try simp only [Act.put, Row.pB0, Row.pB1, Row.pB2])
 refine wpAnyH_take (i := 4) (oi := ⟨some 39, .binOp BinOp.add 3 (.const (Value.int IntKind.i64 40)) (.tmp 38) 3, 3, "l12_cache.go:165", #[⟨3, .data⟩, { on := 6, ground := Ground.gcOnly Departure.lateStores }], none⟩) (v := ?_) rfl (by kernel_rfl) (by kernel_rfl) (by kernel_rfl) (fun _ _ _ h => h) (Or.inl ⟨by rfl, ?_⟩) (by assumption) ?_
 rotate_left
 ·
  intro w' hSw; (try dsimp only at hSw); first | (go_simp; done) | (go_simp; with_reducible rfl)
 (try simp only [Act.put, Row.pB0, Row.pB1, Row.pB2])
 refine wpAnyH_ready (rs := [5]) (by kernel_rfl) (by simp) ?_
 refine AllReadyH.cons (o := ⟨none, .store 26 (.tmp 2) (.tmp 35), 0, "l12_cache.go:165", #[⟨0, .data⟩, ⟨3, .chain⟩, ⟨0, .phase⟩, { on := 1, ground := Ground.textOnly Departure.lateStores }, { on := 2, ground := Ground.textOnly Departure.lateStores }, { on := 3, ground := Ground.textOnly Departure.lateStoresUnsure }, { on := 4, ground := Ground.textOnly Departure.lateStores }], none⟩) rfl (fun K hK => ?_) AllReadyH.nil
 have r0 := XR.out.cell 0; have r1 := XR.out.cell 1; have t0 := XR.out.frozen 0; have t1 := XR.out.frozen 1
 go_simp
 replace XK := Lib.hid ((XK.out.other (a := ⟨rr, 0, none⟩) HRG.out (.int .i64 c)).other (a := ⟨rr, 1, none⟩) HRG.out (.slice ad n cap))
 replace XN := Lib.hid ((XN.out.other (a := ⟨rr, 0, none⟩) HRQ.out (.int .i64 c)).other (a := ⟨rr, 1, none⟩) HRQ.out (.slice ad n cap))
 replace X3 := Lib.hid ((X3.out.other (a := ⟨rr, 0, none⟩) HR3.out (.int .i64 c)).other (a := ⟨rr, 1, none⟩) HR3.out (.slice ad n cap))
 replace OC := Lib.hid (Kd.own_setT (i := 1) (u := .slice ad n cap) (noRow_sCn (by decide) (by decide) (by decide)) (Kd.own_setT (i := 0) (u := .int .i64 c) (noRow_sCn (by decide) (by decide) (by decide)) OC.out XR.out) (XR.out.set 0 (.int .i64 c)))
 replace ON := Lib.hid (Kd.own_setT (i := 1) (u := .slice ad n cap) (noRow_sN (by decide)) (Kd.own_setT (i := 0) (u := .int .i64 c) (noRow_sN (by decide)) ON.out XR.out) (XR.out.set 0 (.int .i64 c)))
 replace XR := Lib.hid ((XR.out.set 0 (.int .i64 c)).set 1 (.slice ad n cap))
 replace C := Lib.hid ((C.out.setI 0 H0R.out HRP.out (.int .i64 c)).setI 1 H0R.out HRP.out (.slice ad n cap))
 replace BS := Lib.hid (show w.heap.size ≤ ((wn1.setCell ⟨rr, 0, none⟩ (.int .i64 c)).setCell ⟨rr, 1, none⟩ (.slice ad n cap)).heap.size from by simpa [World.setCell] using BS.out)
 clear r0 r1 t0 t1
 generalize ((wn1.setCell ⟨rr, 0, none⟩ (.int .i64 c)).setCell ⟨rr, 1, none⟩ (.slice ad n cap)) = wn2 at *
 clear hHeld
 refine hK.out _ _ ?_ (fun hHeld => ?_)
 ·
  (try dsimp only); exact ⟨XK.out.cell 0, XK.out.cell 1, XN.out.cell 0⟩
 clear hK K
 (try simp only [Act.put, Row.pB0, Row.pB1, Row.pB2])
 refine wpAnyH_ready (rs := [6]) (by kernel_rfl) (by simp) ?_
 refine AllReadyH.cons (o := ⟨none, .store 29 (.tmp 3) (.tmp 36), 0, "l12_cache.go:165", #[⟨1, .data⟩, ⟨5, .chain⟩, ⟨0, .phase⟩, ⟨1, .phase⟩, { on := 2, ground := Ground.textOnly Departure.lateStores }, { on := 3, ground := Ground.textOnly Departure.lateStoresUnsure }, { on := 4, ground := Ground.textOnly Departure.lateStores }, ⟨5, .phase⟩], none⟩) rfl (fun K hK => ?_) AllReadyH.nil
 have r0 := X3.out.cell 0; have t0 := X3.out.frozen 0
 go_simp
 clear hHeld
 refine hK.out _ _ ?_ (fun hHeld => ?_)
 ·
  (try dsimp only); exact ⟨(XK.out.other (a := ⟨r3, 0, none⟩) H3G.out _).cell 0, (XK.out.other (a := ⟨r3, 0, none⟩) H3G.out _).cell 1, (XN.out.other (a := ⟨r3, 0, none⟩) H3Q.out _).cell 0⟩
 clear hK K
 (try simp only [Act.put, Row.pB0, Row.pB1, Row.pB2])
 refine wpAnyH_take (i := 7) (oi := ⟨some 4, .assign (.tmp 39), 3, "l12_cache.go:165", #[⟨4, .data⟩, ⟨6, .chain⟩, ⟨0, .phase⟩, ⟨1, .phase⟩, ⟨2, .phase⟩, ⟨3, .phase⟩, ⟨4, .phase⟩, ⟨5, .phase⟩, ⟨6, .phase⟩], none⟩) (v := ?_) rfl (by kernel_rfl) (by kernel_rfl) (by kernel_rfl) (fun _ _ _ h => h) (Or.inl ⟨by rfl, ?_⟩) (by assumption) ?_
 rotate_left
 ·
  intro w' hSw; (try dsimp only at hSw); first | (go_simp; done) | (go_simp; with_reducible rfl)
 (try simp only [Act.put, Row.pB0, Row.pB1, Row.pB2])
 refine wpAnyH_done (by kernel_rfl) ?_ _
 exact NoPanic.normal (HQ.out _ _ _ _ _ _ _ XR.out X3.out OC.out ON.out hr0 hr1 C.out)
end Go.Proofs.YtfglcmanmfenpaaGreat.Draw
/- The model's draw of a store, a name, a time (l12Pair, DrawCacheLookup). What was in memory stays as it was. -/
namespace Go.Proofs.YtfglcmanmfenpaaGreat.Draw
open Go.ChangeShapes Go.WideShapes Go.ChangeAt Go.RowKit Go.Instr
open Go.Proofs.YtfglcmanmfenpaaGreat.Row
open Go.Proofs.YtfglcmanmfenpaaGreat.Ret (NC Blk Box)
set_option linter.unusedVariables false
set_option maxRecDepth 100000
theorem aggNm12 : Ret.AggOf Tryz.prog 29 1 := ⟨by kernel_rfl, by kernel_rfl⟩
def NameS (k B : Nat) (V : Value) (w : World) : Prop := ∃ (x : Option Addr) (n c : Nat) (l : List ByteArray), V = .agg #[.slice x n c] ∧ sN.own B w ⟨x, n, c, l⟩ ∧ bulk l ≤ k
def QPair12 (w : World) (e : Ending) (w' : World) : Prop :=
  ∃ (V U : Value) (t : Int) (B : Nat), e = .returned (.tuple #[V, U, .int .i64 t]) ∧ StoreD 15 B V w' ∧ NameS 4000 B U w' ∧ 40 ≤ t ∧ t < 100 ∧ w.heap.size ≤ B ∧ Below w.heap.size w w'
set_option maxHeartbeats 8000000 in
theorem dl12Pair (w : World) (v : Value) (l : List UInt8) (hb : Frame.Bytes w v l) :
    Calls Tryz.prog 40 #[v] w (QPair12 w) := by
  obtain ⟨k1, k2, hw, hs⟩ := two_new (w := w) #[.int .i64 0, .slice none 0 0] #[.slice none 0 0] 26 29
  have R2 := Lib.hid k1; have R3 := Lib.hid k2; have HW := Lib.hid hw; have HB := Lib.hid hb
  have HN := Lib.hid (new ((w.alloc (.cells #[.int .i64 0, .slice none 0 0] 26)).alloc (.cells #[.slice none 0 0] 29)) v l (hb.on hw))
  have HSZ := Lib.hid hs
  clear k1 k2 hw hb hs
  go_enter Tryz.func40, Tryz.ntmps40
  go_wp2_with fail
  refine HN.out.mono ?_
  rintro e w1 ⟨rfl, hc⟩
  have HC := Lib.hid (Cur.base12 hc HB.out HW.out)
  replace R2 := Lib.hid (R2.out.on hc.below); replace R3 := Lib.hid (R3.out.on hc.below)
  have HPL := Lib.hid hc.lt
  obtain ⟨p, hp⟩ : ∃ p, ((w.alloc (.cells #[.int .i64 0, .slice none 0 0] 26)).alloc (.cells #[.slice none 0 0] 29)).heap.size = p := ⟨_, rfl⟩
  rw [hp] at HC HSZ HPL ⊢
  clear hc HN hp HW
  have HD := Lib.hid (l12Any w p v l w1 HC.out)
  go_wp2_with fail
  refine HD.out.mono ?_
  rintro e w2 ⟨V, rfl, ⟨c, ad, n, cap, L, rfl, hO, hM⟩, hc, hk⟩
  have hal := (Below.refl w2.heap.size w2).alloc (Nat.le_refl _) (.cells #[.int .i64 c, .slice ad n cap] 26)
  have h12 := hk.size
  replace R2 := Lib.hid ((blk_keep R2.out hk (by have := HSZ.out; omega)).on hal); replace R3 := Lib.hid ((blk_keep R3.out hk (by have := HSZ.out; omega)).on hal)
  have HC2 := Lib.hid (hc.on hal)
  have OC := Lib.hid (Kd.own_on hO hal); have HM := Lib.hid hM
  have XK := Lib.hid (Blk.new w2 #[.int .i64 c, .slice ad n cap] 26)
  have HG := Lib.hid (show p < w2.heap.size from by have := HPL.out; omega)
  have HW1 := Lib.hid (show w.heap.size ≤ w1.heap.size from by have := HSZ.out; have := HPL.out; omega)
  have HWB := Lib.hid (show w1.heap.size ≤ (w2.alloc (.cells #[.int .i64 c, .slice ad n cap] 26)).heap.size from Nat.le_trans h12 hal.size)
  clear hO hM hc hk hal HD HC h12
  have HF := Lib.hid (l8Draw w p v l (w2.alloc (.cells #[.int .i64 c, .slice ad n cap] 26)) HC2.out)
  have HGP := Lib.hid (show w2.heap.size ≠ p by have := HG.out; omega); have HRP := Lib.hid (show w.heap.size ≠ p by have := HSZ.out; omega); have H3P := Lib.hid (show w.heap.size + 1 ≠ p by have := HSZ.out; omega)
  have HRG := Lib.hid (show w.heap.size ≠ w2.heap.size by have := HG.out; have := HSZ.out; omega); have H3G := Lib.hid (show w.heap.size + 1 ≠ w2.heap.size by have := HG.out; have := HSZ.out; omega); have HR3 := Lib.hid (show w.heap.size ≠ w.heap.size + 1 by omega)
  go_wp2_with fail
  refine HF.out.mono ?_
  rintro e w3 ⟨y_, rfl, hd, hc3, hk3⟩
  obtain ⟨xa, xb, xc, na, ca, nb, cb, nc, cc, y, rfl, hod, hbk, hin⟩ := hd.soft' (by decide)
  have HXL := XK.out.lt
  have hsz3 := hk3.size
  have hon := sN.own_mono hod.1 HWB.out
  replace R2 := Lib.hid (blk_keep R2.out hk3 HRP.out); replace R3 := Lib.hid (blk_keep R3.out hk3 H3P.out); replace XK := Lib.hid (blk_keep XK.out hk3 HGP.out); replace OC := Lib.hid (Kd.own_cur OC.out hk3 HPL.out); replace HWB := Lib.hid (Nat.le_trans HWB.out hk3.size)
  replace HC2 := Lib.hid hc3
  have hal := (Below.refl w3.heap.size w3).alloc (Nat.le_refl _) (.cells #[.slice xa na ca] 29)
  have ON := Lib.hid (Kd.own_on hon hal); have HBN := Lib.hid (show bulk y.1 ≤ 4000 from by have h9 : bulk y.1 + y.2.1.length + bulk y.2.2.1 ≤ 1500 := hbk; omega)
  have XN := Lib.hid (Blk.new w3 #[.slice xa na ca] 29)
  have HGQ := Lib.hid (show w2.heap.size < w3.heap.size by omega)
  replace R2 := Lib.hid (R2.out.on hal); replace R3 := Lib.hid (R3.out.on hal); replace XK := Lib.hid (XK.out.on hal); replace OC := Lib.hid (Kd.own_on OC.out hal); replace HC2 := Lib.hid (HC2.out.on hal); replace HWB := Lib.hid (Nat.le_trans HWB.out hal.size)
  have HQP := Lib.hid (show w3.heap.size ≠ p by have := HG.out; have := HGQ.out; omega); have HQG := Lib.hid (show w3.heap.size ≠ w2.heap.size by have := HGQ.out; omega)
  have HRQ := Lib.hid (show w.heap.size ≠ w3.heap.size by have := HG.out; have := HSZ.out; have := HGQ.out; omega); have H3Q := Lib.hid (show w.heap.size + 1 ≠ w3.heap.size by have := HG.out; have := HSZ.out; have := HGQ.out; omega)
  have hf := fun w_ => field_name12 w_ xa na ca (.slice xb nb cb) (.slice xc nc cc) (.int .i64 y.2.2.2.1) (.int .i64 y.2.2.2.2)
  clear HF hd hod hbk hin hc3 hk3 hal hon HXL hsz3
  go_upto_region 4 with fail
  clear hf
  generalize (w3.alloc (.cells #[.slice xa na ca] 29)) = W at *
  have q1 := XK.out.cell 1
  by_cases hn : 0 < n
  · have hn2 : (0 : Int) < (n : Int) := by omega
    obtain ⟨b, rfl⟩ : ∃ b, ad = some ⟨b, 0, none⟩ := by
      rcases OC.out.2.1.2 with ⟨hv, -⟩ | ⟨g2, cap3, cur, hv, -⟩
      · have hv : Value.slice ad n cap = .slice none 0 0 := hv
        injection hv with e1 e2 e3
        omega
      · have hv : Value.slice ad n cap = .slice (some ⟨g2, 0, none⟩) L.length cap3 := hv
        injection hv with e1 e2 e3
        exact ⟨g2, e1⟩
    have HLE := Lib.hid (show n = L.length from OC.out.2.1.holds.lenEq)
    have HF := Lib.hid (once w p v l W 2 HC2.out)
    go_wp2_with fail
    refine HF.out.mono ?_
    rintro e w4 ⟨y_, rfl, ⟨b0, rfl⟩, hc4, hk4⟩
    replace R2 := Lib.hid (blk_keep R2.out hk4 HRP.out); replace R3 := Lib.hid (blk_keep R3.out hk4 H3P.out); replace XK := Lib.hid (blk_keep XK.out hk4 HGP.out); replace OC := Lib.hid (Kd.own_cur OC.out hk4 HPL.out); replace HWB := Lib.hid (Nat.le_trans HWB.out hk4.size); replace XN := Lib.hid (blk_keep XN.out hk4 HQP.out); replace ON := Lib.hid (Kd.own_cur ON.out hk4 HPL.out); replace HC2 := Lib.hid hc4
    clear HF hc4 hk4 q1
    cases b0 with
    | true =>
      go_upto_region 5 with fail
      refine c12i HC2 XK XN R2 R3 OC HM HLE HGP HQP HRP H3P HQG HPL HWB hn ?_
      intro u23 u24 u25 u26 u27 u28 u29 u30 u31 u32 u33 u34 x2 n2 c2 l2 wx xk xn xr x3 oc on hb2 hc
      have z1 := xk.other (a := ⟨w3.heap.size, 0, none⟩) HQG.out (.slice x2 n2 c2)
      have z2 := xn.set 0 (.slice x2 n2 c2)
      have z3 := xr.other (a := ⟨w3.heap.size, 0, none⟩) (Ne.symm HRQ.out) (.slice x2 n2 c2)
      have z4 := x3.other (a := ⟨w3.heap.size, 0, none⟩) (Ne.symm H3Q.out) (.slice x2 n2 c2)
      have z5 := Kd.own_setT (i := 0) (u := .slice x2 n2 c2) (noRow_sCn (by decide) (by decide) (by decide)) oc xn
      have z6 := Kd.own_setT (i := 0) (u := .slice x2 n2 c2) (noRow_sN (by decide)) on xn
      have z7 := hc.setI 0 (show w.heap.size ≤ w3.heap.size by have := HG.out; have := HSZ.out; have := HGQ.out; omega) HQP.out (.slice x2 n2 c2)
      replace XK := Lib.hid z1; replace XN := Lib.hid z2; replace R2 := Lib.hid z3; replace R3 := Lib.hid z4; replace OC := Lib.hid z5; replace ON := Lib.hid z6; replace HC2 := Lib.hid z7; replace HBN := Lib.hid hb2
      generalize wx.setCell ⟨w3.heap.size, 0, none⟩ (.slice x2 n2 c2) = V at *
      clear z1 z2 z3 z4 z5 z6 z7 xk xn xr x3 oc on hb2 hc HWB
      go_upto_region 6 with fail
      refine c12j HC2 XK XN R2 R3 OC ON HGP HQP HRP H3P HRG HRQ H3G H3Q HR3 HPL (Lib.hid (Nat.le_refl _)) ?_
      intro u35 u36 u37 u38 u39 r wx xr x3 oc on hr0 hr1 hc
      have hne : w.heap.size + 1 ≠ w.heap.size := by omega
      have Z1 := Lib.hid (xr.other (a := ⟨w.heap.size + 1, 0, none⟩) hne (.slice x2 n2 c2))
      have Z2 := Lib.hid (x3.set 0 (.slice x2 n2 c2))
      have Z3 := Lib.hid (Kd.own_setT (i := 0) (u := .slice x2 n2 c2) (noRow_sCn (by decide) (by decide) (by decide)) oc x3)
      have Z4 := Lib.hid (Kd.own_setT (i := 0) (u := .slice x2 n2 c2) (noRow_sN (by decide)) on x3)
      have Z5 := Lib.hid (hc.below.setCell (p := ⟨w.heap.size + 1, 0, none⟩) (Nat.le_succ _) (.slice x2 n2 c2))
      clear xr x3 oc on hc hne
      go_wp2_with fail
      refine bodyPost_ret (results_cct12 rfl _ _ w.heap.size (w.heap.size + 1) [.int .i64 c, .slice (some ⟨b, 0, none⟩) n cap] [.slice x2 n2 c2] rfl rfl aggCn aggNm12 Z1.out.cells Z2.out.cells) rfl ?_
      exact ⟨_, _, _, _, rfl, ⟨c, (some ⟨b, 0, none⟩), n, cap, L, rfl, Z3.out, HM.out⟩, ⟨_, _, _, _, rfl, Z4.out, HBN.out⟩, by omega, by omega, HW1.out, Z5.out⟩
    | false =>
      go_upto_region 6 with fail
      refine c12j HC2 XK XN R2 R3 OC ON HGP HQP HRP H3P HRG HRQ H3G H3Q HR3 HPL (Lib.hid (Nat.le_refl _)) ?_
      intro u35 u36 u37 u38 u39 r wx xr x3 oc on hr0 hr1 hc
      have hne : w.heap.size + 1 ≠ w.heap.size := by omega
      have Z1 := Lib.hid (xr.other (a := ⟨w.heap.size + 1, 0, none⟩) hne (.slice xa na ca))
      have Z2 := Lib.hid (x3.set 0 (.slice xa na ca))
      have Z3 := Lib.hid (Kd.own_setT (i := 0) (u := .slice xa na ca) (noRow_sCn (by decide) (by decide) (by decide)) oc x3)
      have Z4 := Lib.hid (Kd.own_setT (i := 0) (u := .slice xa na ca) (noRow_sN (by decide)) on x3)
      have Z5 := Lib.hid (hc.below.setCell (p := ⟨w.heap.size + 1, 0, none⟩) (Nat.le_succ _) (.slice xa na ca))
      clear xr x3 oc on hc hne
      go_wp2_with fail
      refine bodyPost_ret (results_cct12 rfl _ _ w.heap.size (w.heap.size + 1) [.int .i64 c, .slice (some ⟨b, 0, none⟩) n cap] [.slice xa na ca] rfl rfl aggCn aggNm12 Z1.out.cells Z2.out.cells) rfl ?_
      exact ⟨_, _, _, _, rfl, ⟨c, (some ⟨b, 0, none⟩), n, cap, L, rfl, Z3.out, HM.out⟩, ⟨_, _, _, _, rfl, Z4.out, HBN.out⟩, by omega, by omega, HW1.out, Z5.out⟩
  · have hn2 : ¬ (0 : Int) < (n : Int) := by omega
    go_upto_region 6 with fail
    refine c12j HC2 XK XN R2 R3 OC ON HGP HQP HRP H3P HRG HRQ H3G H3Q HR3 HPL (Lib.hid (Nat.le_refl _)) ?_
    intro u35 u36 u37 u38 u39 r wx xr x3 oc on hr0 hr1 hc
    have hne : w.heap.size + 1 ≠ w.heap.size := by omega
    have Z1 := Lib.hid (xr.other (a := ⟨w.heap.size + 1, 0, none⟩) hne (.slice xa na ca))
    have Z2 := Lib.hid (x3.set 0 (.slice xa na ca))
    have Z3 := Lib.hid (Kd.own_setT (i := 0) (u := .slice xa na ca) (noRow_sCn (by decide) (by decide) (by decide)) oc x3)
    have Z4 := Lib.hid (Kd.own_setT (i := 0) (u := .slice xa na ca) (noRow_sN (by decide)) on x3)
    have Z5 := Lib.hid (hc.below.setCell (p := ⟨w.heap.size + 1, 0, none⟩) (Nat.le_succ _) (.slice xa na ca))
    clear xr x3 oc on hc hne
    go_wp2_with fail
    refine bodyPost_ret (results_cct12 rfl _ _ w.heap.size (w.heap.size + 1) [.int .i64 c, .slice ad n cap] [.slice xa na ca] rfl rfl aggCn aggNm12 Z1.out.cells Z2.out.cells) rfl ?_
    exact ⟨_, _, _, _, rfl, ⟨c, ad, n, cap, L, rfl, Z3.out, HM.out⟩, ⟨_, _, _, _, rfl, Z4.out, HBN.out⟩, by omega, by omega, HW1.out, Z5.out⟩
end Go.Proofs.YtfglcmanmfenpaaGreat.Draw
/- The model's draw DrawCacheLookup. What was in memory stays as it was. -/
namespace Go.Proofs.YtfglcmanmfenpaaGreat.Draw
open Go.ChangeShapes Go.WideShapes Go.ChangeAt Go.RowKit Go.Instr
open Go.Proofs.YtfglcmanmfenpaaGreat.Row
open Go.Proofs.YtfglcmanmfenpaaGreat.Ret (NC Blk Box)
set_option linter.unusedVariables false
set_option maxRecDepth 100000
set_option maxHeartbeats 8000000 in
theorem dDrawCacheLookup (w : World) (v : Value) (l : List UInt8) (hb : Frame.Bytes w v l) :
    Calls Tryz.prog 7 #[v] w (QPair12 w) := by
  obtain ⟨k1, k2, hw, hs⟩ := two_new (w := w) #[.int .i64 0, .slice none 0 0] #[.slice none 0 0] 26 29
  have R2 := Lib.hid k1; have R3 := Lib.hid k2; have HW := Lib.hid hw
  have HF := Lib.hid (dl12Pair ((w.alloc (.cells #[.int .i64 0, .slice none 0 0] 26)).alloc (.cells #[.slice none 0 0] 29)) v l (hb.on hw))
  have HSZ := Lib.hid hs
  clear k1 k2 hw hs hb
  go_enter Tryz.func7, Tryz.ntmps7
  go_wp2_with fail
  refine HF.out.mono ?_
  rintro e w1 ⟨V, U, t, B, rfl, ⟨c, ad, n, cap, L, rfl, hO, hM⟩, ⟨xn, nn, cn, ln, rfl, hN, hbn⟩, ht0, ht1, hB, hbl⟩
  have hwb : w.heap.size ≤ B := by have := HSZ.out; omega
  have hne : w.heap.size + 1 ≠ w.heap.size := by omega
  have x2 := R2.out.on hbl; have x3 := R3.out.on hbl
  have r0 := x2.cell 0; have r1 := x2.cell 1; have t0 := x2.frozen 0; have t1 := x2.frozen 1
  have x3' := (x3.other (a := ⟨w.heap.size, 0, none⟩) (Ne.symm hne) (.int .i64 c)).other (a := ⟨w.heap.size, 1, none⟩) (Ne.symm hne) (.slice ad n cap)
  have s0 := x3'.cell 0; have u0 := x3'.frozen 0
  have x2' := (x2.set 0 (.int .i64 c)).set 1 (.slice ad n cap)
  have Z1 := Lib.hid (x2'.other (a := ⟨w.heap.size + 1, 0, none⟩) hne (.slice xn nn cn))
  have Z2 := Lib.hid (x3'.set 0 (.slice xn nn cn))
  have o1 := Kd.own_setT (i := 1) (u := .slice ad n cap) (noRow_sCn (by decide) (by decide) (by decide)) (Kd.own_setT (i := 0) (u := .int .i64 c) (noRow_sCn (by decide) (by decide) (by decide)) hO x2) (x2.set 0 (.int .i64 c))
  have o2 := Kd.own_setT (i := 1) (u := .slice ad n cap) (noRow_sN (by decide)) (Kd.own_setT (i := 0) (u := .int .i64 c) (noRow_sN (by decide)) hN x2) (x2.set 0 (.int .i64 c))
  have Z3 := Lib.hid (Kd.own_setT (i := 0) (u := .slice xn nn cn) (noRow_sCn (by decide) (by decide) (by decide)) o1 x3')
  have Z4 := Lib.hid (Kd.own_setT (i := 0) (u := .slice xn nn cn) (noRow_sN (by decide)) o2 x3')
  have Z5 := Lib.hid ((((HW.out.trans (hbl.mono HW.out.size)).setCell (p := ⟨w.heap.size, 0, none⟩) (Nat.le_refl _) (.int .i64 c)).setCell (p := ⟨w.heap.size, 1, none⟩) (Nat.le_refl _) (.slice ad n cap)).setCell (p := ⟨w.heap.size + 1, 0, none⟩) (Nat.le_succ _) (.slice xn nn cn))
  have HM := Lib.hid hM; have HBN := Lib.hid hbn; have HWB := Lib.hid hwb
  clear x2 x3 x3' x2' o1 o2 hO hM hN hbn hB hbl hne hwb HF
  go_wp2_with fail
  refine bodyPost_ret (results_cct12 rfl _ _ w.heap.size (w.heap.size + 1) [.int .i64 c, .slice ad n cap] [.slice xn nn cn] rfl rfl aggCn aggNm12 Z1.out.cells Z2.out.cells) rfl ?_
  exact ⟨_, _, _, _, rfl, ⟨c, ad, n, cap, L, rfl, Z3.out, HM.out⟩, ⟨_, _, _, _, rfl, Z4.out, HBN.out⟩, ht0, ht1, HWB.out, Z5.out⟩
end Go.Proofs.YtfglcmanmfenpaaGreat.Draw
/- FnCaches: laws.sameNames over equal lists; chapter 12's contracts and draws in the law's words (by what a value is read as). No conditions but that lengths fit. -/
namespace Go.Proofs.YtfglcmanmfenpaaGreat.Row
open Go.ChangeShapes Go.WideShapes Go.ChangeAt Go.RowKit Go.Instr
set_option linter.unusedVariables false
set_option maxRecDepth 100000
theorem sameNmB {w : World} {V U : Value} {l : Nnt} (h : kNn.At w V l) (g : kNn.At w U l) (hl : l.length ≤ 9000000) :
    Calls Tryz.prog 53 #[V, U] w fun e w' => e = .returned (.bool true) ∧ Below w.heap.size w w' := by
  obtain ⟨v, rfl, h9⟩ := kN_at h
  obtain ⟨u, rfl, g9⟩ := kN_at g
  have h1 := sameName v u l l w h9 g9 (by omega) (by omega)
  rwa [eqB_true rfl] at h1
set_option maxHeartbeats 4000000 in
theorem sameNamesB (V U : Value) (l : List Nnt) (w : World) (h : kLNn.At w V l) (g : kLNn.At w U l) (hl : l.length ≤ 100000000) (hsl : ∀ x ∈ l, adNn x ≤ 9000000) :
    Calls Tryz.prog 23 #[V, U] w fun e w' => e = .returned (.bool true) ∧ Below w.heap.size w w' := by
  obtain ⟨x, n, cx, L, rfl, hn, hL, hh, hel⟩ := kLNn_at h
  obtain ⟨y, n2, cy, M, rfl, hn2, hM, hg, hem⟩ := kLNn_at g
  have hnl : l.length = n := by rw [← hL, List.length_map]; exact hn.symm
  have hnm : l.length = n2 := by rw [← hM, List.length_map]; exact hn2.symm
  obtain rfl : n = n2 := by omega
  rw [hnl] at hl
  have HN := Lib.hid hn; have HM := Lib.hid hn2; have HNL := Lib.hid hnl
  have HH := Lib.hid hh; have HG := Lib.hid hg; have HEL := Lib.hid hel; have HEM := Lib.hid hem
  have HTL := Lib.hid hL; have HTM := Lib.hid hM; have HSL := Lib.hid hsl
  have htest : (((n : Nat) : Int) != ((n : Nat) : Int)) = false := by simp
  clear hn h hh g hg hn2 hL hM hsl hel hem hnl hnm
  go_enter Tryz.func23, Tryz.ntmps23
  go_wp2
  go_loopw [5] (fun i wr => ∃ k : Nat, k ≤ n ∧ i = .int .i64 k ∧ Hid (Below w.heap.size w wr)) (fun i _ => n - (intOf i).toNat)
  case atStart => exact ⟨0, Nat.zero_le _, rfl, Lib.hid (Below.refl _ _)⟩
  case round =>
    obtain ⟨k, hk, rfl, hb⟩ := hrel
    by_cases hlt : k < n
    · have hlen := HN.out
      have hlen2 := HM.out
      obtain ⟨b, off, x0, n0, c0, rfl, -, hc0, hnm⟩ := kLNn_elem (HH.out.on hb.out) (fun y hy => kNn.holds_on (HEL.out y hy) hb.out) (j := k) (by omega)
      obtain ⟨b', off', xy0, ny0, cy0, rfl, -, hd0, hnm'⟩ := kLNn_elem (HG.out.on hb.out) (fun y hy => kNn.holds_on (HEM.out y hy) hb.out) (j := k) (by omega)
      have e1 : kNn.strip (nth L k) = nth l k := by rw [← HTL.out, nth_map _ (by omega)]
      have e2 : kNn.strip (nth M k) = nth l k := by rw [← HTM.out, nth_map _ (by omega)]
      have hl1 := HSL.out (nth l k) (nth_mem (by have := HNL.out; omega))
      rw [e1] at hnm; rw [e2] at hnm'
      have HL := Lib.hid hl1
      have HC0 := Lib.hid hc0; have HD0 := Lib.hid hd0
      have HNM := Lib.hid hnm; have HNM' := Lib.hid hnm'
      clear hlen hlen2 e1 e2 hc0 hd0 hnm hnm' hl1
      go_wp2_with fail
      go_region_held3 (fun w' => w'.cell? ⟨b, off + k, none⟩ = some (.slice x0 n0 c0) ∧ w'.cell? ⟨b', off' + k, none⟩ = some (.slice xy0 ny0 cy0) ∧ Below w.heap.size w w') (first | exact ⟨kc HC0.out ((Below.refl _ _).drew), kc HD0.out ((Below.refl _ _).drew), hb.out.trans (Below.mono ((Below.refl _ _).drew) hb.out.size)⟩ | exact ⟨kc HC0.out (hb1.mono (Nat.le_refl _)), kc HD0.out (hb1.mono (Nat.le_refl _)), hb.out.trans (Below.mono (hb1.mono (Nat.le_refl _)) hb.out.size)⟩ | exact ⟨kc HC0.out ((Below.refl _ _).drew.trans (hb1.mono (Nat.le_refl _))), kc HD0.out ((Below.refl _ _).drew.trans (hb1.mono (Nat.le_refl _))), hb.out.trans (Below.mono ((Below.refl _ _).drew.trans (hb1.mono (Nat.le_refl _))) hb.out.size)⟩) ((go_at_call 53; refine (sameNmB (HNM.out.on (Below.refl _ _).drew) (HNM'.out.on (Below.refl _ _).drew) HL.out).mono ?_; rintro e w1 ⟨rfl, hb1⟩))
      all_goals
        have HB2 := Lib.hid (hb.out.drew.trans (hb1.mono hb.out.size))
        clear hb1
        go_wp2_with fail
        go_roundw
        case rel => exact ⟨k + 1, by omega, by go_num, HB2⟩
        case measure => simp [intOf]; omega
    · obtain rfl : k = n := by omega
      clear hlt
      go_wp2
      go_ret
      exact ⟨rfl, hb.out⟩
theorem smC_evict {k : Nat} {x : Cnt} {now : Int} (h : smC k x) : smC k (evictC x now) := by
  have s : (x.2.filter (frE now)).Sublist x.2 := List.filter_sublist
  exact ⟨h.1, Nat.le_trans s.length_le h.2.1, fun e he => h.2.2 e (s.subset he)⟩
theorem look_fit {k : Nat} {x : Cnt} {n : List ByteArray} {now : Int} (h : smC k x) : inDz (lookC x n now) ∧ wtDz (lookC x n now) ≤ 4000 := by
  unfold lookC
  split
  · rename_i h0
    have hlt : (ixL (hitE n now) x.2).toNat < x.2.length := by
      rcases ixL_cases (hitE n now) x.2 with ⟨e1, -⟩ | ⟨j, hj, e1, -⟩ <;> omega
    have h9 := h.2.2 (nth x.2 (ixL (hitE n now) x.2).toNat) (nth_mem hlt)
    exact ⟨h9.1.1, h9.2⟩
  · exact ⟨⟨⟨by decide, fun y hy => absurd hy (by simp [zeroD])⟩, ⟨by unfold okB; decide, fun y hy => absurd hy (by simp [zeroD])⟩, ⟨by decide, fun y hy => absurd hy (by simp [zeroD])⟩, by decide, by decide⟩, by decide⟩
theorem names_fit {k : Nat} {x : Cnt} (h : smC k x) (hk : k ≤ 100) : (namesC x).length ≤ 100000000 ∧ ∀ y ∈ namesC x, adNn y ≤ 9000000 := by
  refine ⟨?_, fun y hy => ?_⟩
  · unfold namesC
    rw [List.length_map]
    have := h.2.1
    omega
  · obtain ⟨e, he, rfl⟩ := List.mem_map.1 hy
    have h1 := (h.2.2 e he).2
    have h2 := bulk_len e.1.1
    unfold wtDz at h1
    show e.1.1.length ≤ 9000000
    omega
theorem wfC {z : Int} (h1 : -1000 ≤ z) (h2 : z ≤ 1000) : (Lit.int .i64 z).wf = true := by
  have e1 : IntKind.i64.min = -9223372036854775808 := rfl
  have e2 : IntKind.i64.max = 9223372036854775807 := rfl
  simp only [Lit.wf, e1, e2, Bool.and_eq_true, decide_eq_true_eq]
  exact ⟨by omega, by omega⟩
section
variable {w : World} {V U : Value} {x y : Cnt} {d : Dzt} {m : List ByteArray}
theorem sameCV (h : kCn.At w V x) (g : kCn.At w U x) (hk : smC 95 x) :
    Calls Tryz.prog 13 #[V, U] w fun e w' => e = .returned (.bool true) ∧ Below w.heap.size w w' :=
  sameCacheC V U x x w true (by unfold eqC; simp) h g (hk.in (by decide)) (hk.in (by decide)) (hk.fit (by decide)) (hk.fit (by decide))
theorem sameCQ (q : Bool) (hq : eqC x y = q) (h : kCn.At w V x) (g : kCn.At w U y) (hk : smC 95 x) (hy : smC 95 y) :
    Calls Tryz.prog 13 #[V, U] w fun e w' => e = .returned (.bool q) ∧ Below w.heap.size w w' :=
  sameCacheC V U x y w q hq h g (hk.in (by decide)) (hy.in (by decide)) (hk.fit (by decide)) (hy.fit (by decide))
theorem iEqCQ (q : Bool) (hq : eqC x y = q) (h : kCn.At w V x) (g : kCn.At w U y) (hk : smC 95 x) (hy : smC 95 y) :
    Calls Tryz.prog 20 #[V, U] w fun e w' => e = .returned (.bool q) ∧ Below w.heap.size w w' :=
  implEqualCn V U x y w q hq h g (hk.in (by decide)) (hy.in (by decide)) (hk.fit (by decide)) (hy.fit (by decide))
theorem sameZV (h : kDz.At w V d) (g : kDz.At w U d) (hi : inDz d) (hl : wtDz d ≤ 4000) :
    Calls Tryz.prog 15 #[V, U] w fun e w' => e = .returned (.bool true) ∧ Below w.heap.size w w' :=
  sameZ true (by simp) h g hi hi (Nat.le_trans hl (by decide)) (Nat.le_trans hl (by decide))
theorem sameNsV (h : kLNn.At w V (namesC x)) (g : kLNn.At w U (namesC x)) (hk : smC 95 x) :
    Calls Tryz.prog 23 #[V, U] w fun e w' => e = .returned (.bool true) ∧ Below w.heap.size w w' :=
  sameNamesB V U _ w h g (names_fit hk (by decide)).1 (names_fit hk (by decide)).2
theorem iCdV (z : Cnt) (now : Int) (hz : cacheC x d now = z) (h : kCn.At w V x) (g : kDz.At w U d) (hk : smC 95 x) (hd : wtDz d ≤ 4000) :
    Calls Tryz.prog 6 #[V, U, .int .i64 now] w fun e w' => ∃ U, e = .returned U ∧ kCn.In w.heap.size w'.heap.size w' U z ∧ Below w.heap.size w w' :=
  hz ▸ implCacheData V U x d now w h g (hk.fit (by decide)) (Nat.le_trans hd (by decide))
theorem sCdV (z : Cnt) (now : Int) (hz : cacheC x d now = z) (h : kCn.At w V x) (g : kDz.At w U d) (hk : smC 95 x) (hd : wtDz d ≤ 4000) :
    Calls Tryz.prog 14 #[V, U, .int .i64 now] w fun e w' => ∃ U, e = .returned U ∧ kCn.In w.heap.size w'.heap.size w' U z ∧ Below w.heap.size w w' :=
  hz ▸ specCacheData V U x d now w h g (hk.fit (by decide)) (Nat.le_trans hd (by decide))
theorem iLkV (T : Dzt) (q : Bool) (now : Int) (hT : lookC x m now = T) (hQ : lookOk x m now = q) (h : kCn.At w V x) (g : kN.At w U m) (hk : smC 95 x) (hm : bulk m ≤ 4000) :
    Calls Tryz.prog 8 #[V, U, .int .i64 now] w (LookPost T q w) :=
  implCacheLookup V U x m now w T q hT hQ h g (hk.fit (by decide)) (Nat.le_trans hm (by decide))
theorem sLkV (T : Dzt) (q : Bool) (now : Int) (hT : lookC x m now = T) (hQ : lookOk x m now = q) (h : kCn.At w V x) (g : kN.At w U m) (hk : smC 95 x) (hm : bulk m ≤ 4000) :
    Calls Tryz.prog 9 #[V, U, .int .i64 now] w (LookPost T q w) :=
  specCacheLookup V U x m now w T q hT hQ h g (hk.fit (by decide)) (Nat.le_trans hm (by decide))
theorem iToV (z : Cnt) (now : Int) (hz : touchC x m now = z) (h : kCn.At w V x) (g : kN.At w U m) (hk : smC 95 x) (hm : bulk m ≤ 4000) :
    Calls Tryz.prog 16 #[V, U, .int .i64 now] w fun e w' => ∃ U, e = .returned U ∧ kCn.In w.heap.size w'.heap.size w' U z ∧ Below w.heap.size w w' :=
  hz ▸ implTouch V U x m now w h g (hk.fit (by decide)) (Nat.le_trans hm (by decide))
theorem sToV (z : Cnt) (now : Int) (hz : touchC x m now = z) (h : kCn.At w V x) (g : kN.At w U m) (hk : smC 95 x) (hm : bulk m ≤ 4000) :
    Calls Tryz.prog 17 #[V, U, .int .i64 now] w fun e w' => ∃ U, e = .returned U ∧ kCn.In w.heap.size w'.heap.size w' U z ∧ Below w.heap.size w w' :=
  hz ▸ specTouch V U x m now w h g (hk.fit (by decide)) (Nat.le_trans hm (by decide))
theorem iEvV (z : Cnt) (now : Int) (hz : evictC x now = z) (h : kCn.At w V x) (hk : smC 95 x) :
    Calls Tryz.prog 18 #[V, .int .i64 now] w fun e w' => ∃ U, e = .returned U ∧ kCn.In w.heap.size w'.heap.size w' U z ∧ Below w.heap.size w w' :=
  hz ▸ implEvictStale V x now w h (hk.fit (by decide))
theorem sEvV (z : Cnt) (now : Int) (hz : evictC x now = z) (h : kCn.At w V x) (hk : smC 95 x) :
    Calls Tryz.prog 19 #[V, .int .i64 now] w fun e w' => ∃ U, e = .returned U ∧ kCn.In w.heap.size w'.heap.size w' U z ∧ Below w.heap.size w w' :=
  hz ▸ specEvictStale V x now w h (hk.fit (by decide))
theorem iNmV (h : kCn.At w V x) (hk : smC 95 x) :
    Calls Tryz.prog 24 #[V] w fun e w' => ∃ U, e = .returned U ∧ kLNn.In w.heap.size w'.heap.size w' U (namesC x) ∧ Below w.heap.size w w' :=
  implCachedNames V x w h (hk.fit (by decide))
theorem sNmV (h : kCn.At w V x) (hk : smC 95 x) :
    Calls Tryz.prog 25 #[V] w fun e w' => ∃ U, e = .returned U ∧ kLNn.In w.heap.size w'.heap.size w' U (namesC x) ∧ Below w.heap.size w w' :=
  specCachedNames V x w h (hk.fit (by decide))
theorem iVcV (q : Bool) (hq : validC x = q) (h : kCn.At w V x) (hk : smC 95 x) :
    Calls Tryz.prog 26 #[V] w fun e w' => e = .returned (.bool q) ∧ Below w.heap.size w w' :=
  implValidContentStore V x w q hq h (hk.fit (by decide))
theorem sVcV (q : Bool) (hq : validC x = q) (h : kCn.At w V x) (hk : smC 95 x) :
    Calls Tryz.prog 27 #[V] w fun e w' => e = .returned (.bool q) ∧ Below w.heap.size w w' :=
  specValidContentStore V x w q hq h (hk.fit (by decide))
theorem iVdV (q : Bool) (hq : validD d = q) (h : kDz.At w V d) (hd : wtDz d ≤ 4000) :
    Calls Tryz.prog 28 #[V] w fun e w' => e = .returned (.bool q) ∧ Below w.heap.size w w' :=
  hq ▸ implValidDataK V d w (kD_ofZ h) (Nat.le_trans (show bulkD d ≤ 4000 from hd) (by decide))
theorem iFrV (q : Bool) (now : Int) (hq : decide (now ≤ d.2.2.2.1) = q) (h : kDz.At w V d) :
    Calls Tryz.prog 29 #[V, .int .i64 now] w fun e w' => e = .returned (.bool q) ∧ Below w.heap.size w w' :=
  hq ▸ implFreshAtK V d now w (kD_ofZ h)
end
section
variable {w : World} {v : Value} {l : List UInt8}
theorem drCd (hb : Frame.Bytes w v l) :
    Calls Tryz.prog 5 #[v] w fun e w' => ∃ (x : Cnt) (d : Dzt) (t : Int) (V U : Value), e = .returned (.tuple #[V, U, .int .i64 t]) ∧ kCn.At w' V x ∧ smC 15 x ∧ kDz.At w' U d ∧ wtDz d ≤ 4000 ∧ inDz d ∧ 0 ≤ t ∧ t ≤ 100 ∧ Below w.heap.size w w' :=
  (Draw.dDrawCacheData w v l hb).mono fun e w' ⟨V, U, t, B, he, ⟨c, ad, n, cap, L, hV, ho, hs⟩, ⟨xa, xb, xc, na, ca, nb, cb, nc, cc, y, hU, hy, hw, hi⟩, h1, h2, _, hw'⟩ =>
    ⟨_, y, t, V, U, he, by subst hV; exact sCn_at ho, hs, by subst hU; exact Draw.sDz_at12 hy, Nat.le_trans hw (by decide), hi, by omega, by omega, hw'⟩
theorem drLk (hb : Frame.Bytes w v l) :
    Calls Tryz.prog 7 #[v] w fun e w' => ∃ (x : Cnt) (m : List ByteArray) (t : Int) (V U : Value), e = .returned (.tuple #[V, U, .int .i64 t]) ∧ kCn.At w' V x ∧ smC 15 x ∧ kN.At w' U m ∧ bulk m ≤ 4000 ∧ 0 ≤ t ∧ t ≤ 100 ∧ Below w.heap.size w w' :=
  (Draw.dDrawCacheLookup w v l hb).mono fun e w' ⟨V, U, t, B, he, ⟨c, ad, n, cap, L, hV, ho, hs⟩, ⟨xa, na, ca, m, hU, hy, hw⟩, h1, h2, _, hw'⟩ =>
    ⟨_, m, t, V, U, he, by subst hV; exact sCn_at ho, hs, by subst hU; exact Draw.sN_at12 hy, hw, by omega, by omega, hw'⟩
theorem drEv (hb : Frame.Bytes w v l) :
    Calls Tryz.prog 10 #[v] w fun e w' => ∃ (x : Cnt) (t : Int) (V : Value), e = .returned (.tuple #[V, .int .i64 t]) ∧ kCn.At w' V x ∧ smC 15 x ∧ 0 ≤ t ∧ t ≤ 100 ∧ Below w.heap.size w w' :=
  (Draw.dDrawEvictStale w v l hb).mono fun e w' ⟨V, t, B, he, ⟨c, ad, n, cap, L, hV, ho, hs⟩, h1, h2, _, hw'⟩ =>
    ⟨_, t, V, he, by subst hV; exact sCn_at ho, hs, by omega, by omega, hw'⟩
theorem drEq (hb : Frame.Bytes w v l) :
    Calls Tryz.prog 11 #[v] w fun e w' => ∃ (x y : Cnt) (V U : Value), e = .returned (.tuple #[V, U]) ∧ kCn.At w' V x ∧ smC 15 x ∧ kCn.At w' U y ∧ smC 95 y ∧ Below w.heap.size w w' :=
  (Draw.dDrawEqualContentStores w v l hb).mono fun e w' ⟨V, U, B, he, ⟨c, ad, n, cap, L, hV, ho, hs⟩, ⟨c2, ad2, n2, cap2, L2, hU, ho2, hs2⟩, _, hw'⟩ =>
    ⟨_, _, V, U, he, by subst hV; exact sCn_at ho, hs, by subst hU; exact sCn_at ho2, hs2.mono (by decide), hw'⟩
end
end Go.Proofs.YtfglcmanmfenpaaGreat.Row
/- FnCaches: what the end of the law's walk uses: parts of values as they are read, what the mathematics says of the letters. No conditions. -/
namespace Go.Proofs.YtfglcmanmfenpaaGreat.Row
open Go.ChangeShapes Go.WideShapes Go.ChangeAt Go.RowKit Go.Instr
set_option linter.unusedVariables false
set_option maxRecDepth 100000
theorem kDz_name {w : World} {x : Dzt} {xa xb xc : Option Addr} {na ca nb cb nc cc : Nat} {u1 u2 : Int} (h : kDz.At w (.agg #[.slice xa na ca, .slice xb nb cb, .slice xc nc cc, .int .i64 u1, .int .i64 u2]) x) : kN.At w (.agg #[.slice xa na ca]) x.1 := by
  obtain ⟨a, b, c, d, e, f, g, i, j, hV, h0, -, -⟩ := kDz_at h
  injection hV with hV
  have e1 := congrArg (fun z : Array Value => z[0]?) hV
  simp at e1
  obtain ⟨rfl, rfl, rfl⟩ := e1
  exact h0
theorem kCn_len {w : World} {x : Cnt} {ad : Option Addr} {n cap : Nat} {u1 : Int} (h : kCn.At w (.agg #[.int .i64 u1, .slice ad n cap]) x) : n = x.2.length := by
  obtain ⟨a, b, c, hV, h0⟩ := kCn_at h
  injection hV with hV
  have e1 := congrArg (fun z : Array Value => z[1]?) hV
  simp at e1
  obtain ⟨rfl, rfl, rfl⟩ := e1
  exact kLCe_len h0
section
variable {xc xd : Cnt} {xx xy : Dzt} {xk : Cnt} {xn : List ByteArray} {now t wh : Int}
theorem fin_same (hd : cacheC xc xx now = xd) (hv : validC xc = true) (h0 : xc.1 = 0 ∨ validD xx = false) : eqC xd xc = true := by
  rw [← hd, cacheC_same hv h0]
  unfold eqC
  simp
theorem fin_valid (hd : cacheC xc xx now = xd) (hv : validC xc = true) (h0 : ¬ xc.1 = 0) (hx : validD xx = true) : validC xd = true ∧ ((xd.2.length : Nat) : Int) ≤ xc.1 := by
  rw [← hd]
  exact ⟨(cacheC_valid hv h0 hx).1, (cacheC_valid hv h0 hx).2.1⟩
theorem fin_look (hd : cacheC xc xx now = xd) (hv : validC xc = true) (h0 : ¬ xc.1 = 0) (hx : validD xx = true) : lookOk xd xx.1 xx.2.2.2.1 = true ∧ lookC xd xx.1 xx.2.2.2.1 = xx := by
  rw [← hd]
  exact cacheC_look hv h0 hx
theorem fin_evict (hv : validC xd = true) : validC (evictC xd wh) = true := evictC_valid hv
theorem fin_fresh (hy : lookC xk xn t = xy) (ho : lookOk xk xn t = true) : decide (t ≤ xy.2.2.2.1) = true := by
  rw [← hy]
  exact lookC_fresh ho
end
end Go.Proofs.YtfglcmanmfenpaaGreat.Row
