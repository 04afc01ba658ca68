/- Contracts and mathematics, joined: CacheT, CacheV, CacheR0, CacheR1, CacheL. No conditions but those that each states. -/
import Derived.WalkKit
import Derived.Deep.RegionHeld3
import Derived.Test.YthfljbbigpophaaB4
/- The model's Touch and CacheData. No conditions but that lengths fit. -/
namespace Go.Proofs.Ythfljbbigpophaa.Row
open Go.ChangeShapes Go.WideShapes Go.ChangeAt Go.RowKit Go.Instr
set_option linter.unusedVariables false
set_option maxRecDepth 100000
set_option maxHeartbeats 8000000 in
theorem specTouch (V U : Value) (x : Cnt) (m : List ByteArray) (now : Int) (w : World) (h : kCn.At w V x) (g : kN.At w U m) (hp : FitC x) (hm : bulk m ≤ 1200000) :
    Calls Try.prog 33 #[V, U, .int .i64 now] w fun e w' => ∃ U, e = .returned U ∧ kCn.In w.heap.size w'.heap.size w' U (touchC x m now) ∧ Below w.heap.size w w' := by
  obtain ⟨xq, q, cy, rfl, g⟩ := kN_shapeA g
  obtain ⟨x1_0, n1_0, c1_0, rfl, g1⟩ := kCn_at h
  clear h
  obtain ⟨cc, l⟩ := x
  have hfit := hp
  obtain ⟨hl, hp7⟩ := hp.fields
  clear hp
  have hp := hp7
  clear hp7
  dsimp only at g1 hl hp ⊢
  have b0 := (Below.refl w.heap.size w).alloc (Nat.le_refl _) (.cells #[.int .i64 cc, .slice x1_0 n1_0 c1_0] 24)
  have b1 := (Below.refl (w.alloc (.cells #[.int .i64 cc, .slice x1_0 n1_0 c1_0] 24)).heap.size (w.alloc (.cells #[.int .i64 cc, .slice x1_0 n1_0 c1_0] 24))).alloc (Nat.le_refl _) (.cells #[.slice xq q cy] 44)
  have b2 := (Below.refl ((w.alloc (.cells #[.int .i64 cc, .slice x1_0 n1_0 c1_0] 24)).alloc (.cells #[.slice xq q cy] 44)).heap.size ((w.alloc (.cells #[.int .i64 cc, .slice x1_0 n1_0 c1_0] 24)).alloc (.cells #[.slice xq q cy] 44))).alloc (Nat.le_refl _) (.cells #[.int .i64 0, .slice none 0 0] 24)
  have b012 := (b0.trans (b1.mono b0.size)).trans (b2.mono (Nat.le_trans b0.size b1.size))
  have hX0 := ((Ret.Blk.new w #[.int .i64 cc, .slice x1_0 n1_0 c1_0] 24).on b1).on b2
  have hX1 := (Ret.Blk.new' (w := (w.alloc (.cells #[.int .i64 cc, .slice x1_0 n1_0 c1_0] 24))) (n := w.heap.size + 1) #[.slice xq q cy] 44 (by simp)).on b2
  have hX2 := Ret.Blk.new' (w := ((w.alloc (.cells #[.int .i64 cc, .slice x1_0 n1_0 c1_0] 24)).alloc (.cells #[.slice xq q cy] 44))) (n := w.heap.size + 1 + 1) #[.int .i64 0, .slice none 0 0] 24 (by simp)
  have hS3 : (((w.alloc (.cells #[.int .i64 cc, .slice x1_0 n1_0 c1_0] 24)).alloc (.cells #[.slice xq q cy] 44)).alloc (.cells #[.int .i64 0, .slice none 0 0] 24)).heap.size = w.heap.size + 3 := by simp
  have HA := Lib.hid (cn_of (cc := cc) (g1.on b012)); have HG := Lib.hid g; have HMB := Lib.hid hm; have HL0 := Lib.hid g1
  have HLL := Lib.hid (show l.length ≤ 9000000 by omega); have HLP := Lib.hid hp
  have q0 : (((w.alloc (.cells #[.int .i64 cc, .slice x1_0 n1_0 c1_0] 24)).alloc (.cells #[.slice xq q cy] 44)).alloc (.cells #[.int .i64 0, .slice none 0 0] 24)).cell? ⟨w.heap.size, 0, none⟩ = some (.int .i64 cc) := hX0.cell 0
  have q1 : (((w.alloc (.cells #[.int .i64 cc, .slice x1_0 n1_0 c1_0] 24)).alloc (.cells #[.slice xq q cy] 44)).alloc (.cells #[.int .i64 0, .slice none 0 0] 24)).cell? ⟨w.heap.size, 1, none⟩ = some (.slice x1_0 n1_0 c1_0) := hX0.cell 1
  go_enter Try.func33, Try.ntmps33
  go_wp2_with fail
  refine (l12Copy _ (cc, l) _ HA.out hfit).mono ?_
  rintro e w1 ⟨U, rfl, hi, hb1⟩
  obtain ⟨m, rfl, hs, hi⟩ := hi.split
  obtain ⟨ce, r⟩ := m
  obtain ⟨xu, nu, cu, Lu⟩ := r
  obtain ⟨rfl, hsl⟩ : ce = cc ∧ Lu.map kCe.strip = l := by
    have e1 : (ce, Lu.map kCe.strip) = (cc, l) := hs
    injection e1 with e1 e2
    exact ⟨e1, e2⟩
  obtain ⟨-, hi2, -⟩ := Kd.Own.parts hi
  rw [hS3] at hi2
  rw [show kCn.val ((ce, (⟨xu, nu, cu, Lu⟩ : Rw Cem)) : Cnm) = .agg #[.int .i64 ce, .slice xu nu cu] from rfl]
  have hal := (Below.refl w1.heap.size w1).alloc (Nat.le_refl _) (.cells #[.int .i64 ce, .slice xu nu cu] 24)
  have HG1 := Lib.hid (show w.heap.size + 3 ≤ w1.heap.size by rw [← hS3]; exact hb1.size)
  have HX0 := Lib.hid ((hX0.on hb1).on hal); have HX1 := Lib.hid ((hX1.on hb1).on hal); have HX2 := Lib.hid ((hX2.on hb1).on hal)
  have HXD := Lib.hid (Ret.Blk.new w1 #[.int .i64 ce, .slice xu nu cu] 24)
  have HO := Lib.hid (hi2.upto hal); have HSL := Lib.hid hsl
  have HB := Lib.hid (b012.trans ((hb1.trans (hal.mono hb1.size)).mono b012.size))
  have HLU := Lib.hid (show Lu.length ≤ 1100000 by have h9 := hl; rw [← hsl, List.length_map] at h9; exact h9)
  have HPU := Lib.hid (show ∀ x ∈ Lu.map kCe.strip, wtCe x ≤ 1200000 by rw [hsl]; exact hp)
  clear hi hi2 hs hsl hb1 hal hX0 hX1 hX2 b0 b1 b2 b012 g1 g hm HA hfit hl hp hS3 q0 q1
  obtain ⟨z, hz⟩ : ∃ z, ixL (isE m) l = z := ⟨_, rfl⟩
  have HZ := Lib.hid hz; clear hz
  have q1 : (w1.alloc (.cells #[.int .i64 ce, .slice xu nu cu] 24)).cell? ⟨w.heap.size, 1, none⟩ = some (.slice x1_0 n1_0 c1_0) := HX0.out.cell 1
  have q2 : (w1.alloc (.cells #[.int .i64 ce, .slice xu nu cu] 24)).cell? ⟨w.heap.size + 1, 0, none⟩ = some (.slice xq q cy) := HX1.out.cell 0
  go_wp2_with fail
  refine (sFindE _ _ l m _ z HZ.out (HL0.out.on HB.out) (HG.out.on HB.out) HLL.out HLP.out HMB.out).mono ?_
  rintro e wx ⟨rfl, hbx⟩
  replace HX2 := Lib.hid (HX2.out.on hbx); replace HXD := Lib.hid (HXD.out.on hbx); replace HO := Lib.hid (HO.out.upto hbx); replace HB := Lib.hid (HB.out.trans (hbx.mono HB.out.size))
  clear hbx HX0 HX1 q1 q2
  rcases ixL_cases (isE m) l with ⟨e1, -⟩ | ⟨k, hk, e1, -, -⟩
  · obtain rfl : z = -1 := by rw [← HZ.out]; exact e1
    have HRES : Hid (Lu.map kCe.strip = touchE l (ixL (isE m) l) now) := Lib.hid (by rw [HSL.out, e1]; rfl)
    clear e1
    have p0 : wx.cell? ⟨w1.heap.size, 0, none⟩ = some (.int .i64 ce) := HXD.out.cell 0
    have p1 : wx.cell? ⟨w1.heap.size, 1, none⟩ = some (.slice xu nu cu) := HXD.out.cell 1
    have r0 := HX2.out.frozen 0; have r1 := HX2.out.frozen 1; have r2 := HX2.out.cell 0; have r3 := HX2.out.cell 1
    have Z := Lib.hid ((HX2.out.set 0 (.int .i64 ce)).set 1 (.slice xu nu cu))
    have ZO := Lib.hid (own_setS (i := 1) (u := .slice xu nu cu) (own_setS (i := 0) (u := .int .i64 ce) HO.out (g := w.heap.size + 1 + 1) (by omega)) (g := w.heap.size + 1 + 1) (by omega))
    have ZB := Lib.hid ((HB.out.setCell (p := ⟨w.heap.size + 1 + 1, 0, none⟩) (by show w.heap.size ≤ w.heap.size + 1 + 1; omega) (.int .i64 ce)).setCell (p := ⟨w.heap.size + 1 + 1, 1, none⟩) (by show w.heap.size ≤ w.heap.size + 1 + 1; omega) (.slice xu nu cu))
    go_wp2_with fail
    refine bodyPost_ret (Ret.results_c rfl _ _ (w.heap.size + 1 + 1) [.int .i64 ce, .slice xu nu cu] rfl aggCn Z.out.cells) rfl ?_
    exact ⟨_, rfl, cn_in ZO.out (by omega) HRES.out ZB.out.size, ZB.out⟩
  · obtain rfl : z = (k : Int) := by rw [← HZ.out]; exact e1
    have hkL : k < Lu.length := by rw [← HSL.out, List.length_map] at hk; exact hk
    have hnl : nu = Lu.length := HO.out.1.1.holds.lenEq
    have hnc : nu ≤ cu := by obtain ⟨x', n', cap', hv, hn', hc', -⟩ := HO.out.1.1.holds.shapeN; cases hv; exact hc'
    rcases HO.out.1.1.form with ⟨hv, hL⟩ | ⟨gR, cap', hv, h1, h2, h3, h4⟩
    · rw [show Lu = [] from hL] at hkL
      exact absurd hkL (by simp)
    · replace hv : Value.slice xu nu cu = .slice (some ⟨gR, 0, none⟩) Lu.length cap' := hv
      injection hv with e5 e6 e7
      subst e5
      have HRES : Hid ((Lu.set k (((nth Lu k).1, now) : Cem)).map kCe.strip = touchE l (ixL (isE m) l) now) := Lib.hid (by rw [touch_strip hkL, HSL.out, e1])
      have hkn : k < nu := by omega
      have hkc : k ≤ cu := by omega
      have HNL := Lib.hid hnl; have HKL := Lib.hid hkL
      have c5 : wx.cell? ⟨gR, k * 6 + 5, none⟩ = (kCe.cells (nth Lu k))[5]? := (ownK_cell szCe_cells HO.out.1.1 hnl hkL (i := 5) (by decide)).1
      have f5 : wx.frozen? ⟨gR, k * 6 + 5, none⟩ = false := (ownK_cell szCe_cells HO.out.1.1 hnl hkL (i := 5) (by decide)).2
      obtain ⟨z5, hz5⟩ : ∃ z, wx.cell? ⟨gR, k * 6 + 5, none⟩ = some z := ⟨_, c5.trans (List.getElem?_eq_getElem (by rw [kCe.len]; decide))⟩
      have k1 : wx.cell? ⟨w1.heap.size, 1, none⟩ = some (.slice (some ⟨gR, 0, none⟩) nu cu) := HXD.out.cell 1
      have HNE : Hid (gR ≠ w1.heap.size) := Lib.hid (fun e => row_ne_blk HO.out.1.1 HXD.out (by decide) (by rw [← e]; rfl))
      have HR3 := Lib.hid (show w.heap.size + 3 ≤ gR from h1)
      clear e1 e6 e7 h1 h2 h3 h4 c5 hnl hkL
      have HO5 := Lib.hid (put_used (now := now) HO.out HNL.out HKL.out)
      have HXD5 := Lib.hid (HXD.out.other (a := ⟨gR, k * 6 + 5, none⟩) HNE.out (.int .i64 now))
      have HX25 := Lib.hid (HX2.out.other (a := ⟨gR, k * 6 + 5, none⟩) (by show gR ≠ w.heap.size + 1 + 1; have := HR3.out; omega) (.int .i64 now))
      have HB5 := Lib.hid (HB.out.setCell (p := ⟨gR, k * 6 + 5, none⟩) (by show w.heap.size ≤ gR; have := HR3.out; omega) (.int .i64 now))
      clear HO HXD HX2 HB
      have p0 : (wx.setCell ⟨gR, k * 6 + 5, none⟩ (.int .i64 now)).cell? ⟨w1.heap.size, 0, none⟩ = some (.int .i64 ce) := HXD5.out.cell 0
      have p1 : (wx.setCell ⟨gR, k * 6 + 5, none⟩ (.int .i64 now)).cell? ⟨w1.heap.size, 1, none⟩ = some (.slice (some ⟨gR, 0, none⟩) nu cu) := HXD5.out.cell 1
      have r0 := HX25.out.frozen 0; have r1 := HX25.out.frozen 1; have r2 := HX25.out.cell 0; have r3 := HX25.out.cell 1
      have Z := Lib.hid ((HX25.out.set 0 (.int .i64 ce)).set 1 (.slice (some ⟨gR, 0, none⟩) nu cu))
      have ZO := Lib.hid (own_setS (i := 1) (u := .slice (some ⟨gR, 0, none⟩) nu cu) (own_setS (i := 0) (u := .int .i64 ce) HO5.out (g := w.heap.size + 1 + 1) (by omega)) (g := w.heap.size + 1 + 1) (by omega))
      have ZB := Lib.hid ((HB5.out.setCell (p := ⟨w.heap.size + 1 + 1, 0, none⟩) (by show w.heap.size ≤ w.heap.size + 1 + 1; omega) (.int .i64 ce)).setCell (p := ⟨w.heap.size + 1 + 1, 1, none⟩) (by show w.heap.size ≤ w.heap.size + 1 + 1; omega) (.slice (some ⟨gR, 0, none⟩) nu cu))
      go_wp2_with fail
      refine bodyPost_ret (Ret.results_c rfl _ _ (w.heap.size + 1 + 1) [.int .i64 ce, .slice (some ⟨gR, 0, none⟩) nu cu] rfl aggCn Z.out.cells) rfl ?_
      exact ⟨_, rfl, cn_in ZO.out (by omega) HRES.out ZB.out.size, ZB.out⟩
set_option maxRecDepth 100000 in
set_option maxHeartbeats 4000000 in
theorem rsc {Q : Exit → Act → World → Prop} {v0 v1 v2 v3 v4 v5 v6 v8 v11 v12 v13 v14 v15 v16 v17 v18 v19 v20 v21 v22 v23 v24 v25 v26 v27 v28 v29 v30 v31 v32 v33 v34 v35 v36 v37 v38 v39 v40 v41 v42 v43 v44 v45 v46 v47 v48 v49 v50 v51 v52 v53 v54 v55 v56 v57 v58 v59 v60 v61 v62 v63 v64 v65 v66 v67 v68 v69 v70 v71 v72 v73 v74 v75 v76 v77 v78 v79 v80 v81 v82 : Value} {w : World} {b off n c gD k j : Nat} {u1 u2 : Int} (hk : k < n) (hj : j < n) (hkc : k ≤ c) (hjc : j ≤ c) (hn : n ≤ 9000000) (K1 : Hid (w.cell? ⟨gD, 1, none⟩ = some (.slice (some ⟨b, off, none⟩) n c))) (E5 : Hid (w.cell? ⟨b, off + k * 6 + 5, none⟩ = some (.int .i64 u1))) (J5 : Hid (w.cell? ⟨b, off + j * 6 + 5, none⟩ = some (.int .i64 u2)))
  (hQ : ∀ (u53 u54 u55 u56 u57 u58 u59 u60 u61 u62 u63 u64 : Value)  (wx : World), Below w.heap.size w wx → Q .normal ⟨#[v0, v1, v2, v3, v4, v5, v6, .pointer (some ⟨gD, 0, none⟩), v8, .int .i64 j, .int .i64 k, v11, v12, v13, v14, v15, v16, v17, v18, v19, v20, v21, v22, v23, v24, v25, v26, v27, v28, v29, v30, v31, v32, v33, v34, v35, v36, v37, v38, v39, v40, v41, v42, v43, v44, v45, v46, v47, v48, v49, v50, v51, v52, u53, u54, u55, u56, u57, u58, u59, u60, u61, u62, u63, u64, .bool (decide (u1 < u2)), v66, v67, v68, v69, v70, v71, v72, v73, v74, v75, v76, v77, v78, v79, v80, v81, v82], []⟩ wx) :
  (Code.region 13 #[⟨some 53, .fieldAddr 24 (.tmp 7) 1, 0, "l12_cache.go:54", #[], none⟩,
   ⟨some 54, .load 22 (.tmp 53), 22, "l12_cache.go:54", #[⟨0, .data⟩], none⟩,
   ⟨some 55, .move (.tmp 10), 3, "l12_cache.go:54", #[], none⟩,
   ⟨some 56, .indexAddr 22 (.tmp 54) (.tmp 55), 0, "l12_cache.go:54", #[⟨1, .data⟩, ⟨2, .data⟩], none⟩,
   ⟨some 57, .fieldAddr 72 (.tmp 56) 1, 0, "l12_cache.go:54", #[⟨3, .data⟩], none⟩,
   ⟨some 58, .load 3 (.tmp 57), 3, "l12_cache.go:54", #[⟨4, .data⟩], none⟩,
   ⟨some 59, .fieldAddr 24 (.tmp 7) 1, 0, "l12_cache.go:54", #[], none⟩,
   ⟨some 60, .load 22 (.tmp 59), 22, "l12_cache.go:54", #[⟨6, .data⟩], none⟩,
   ⟨some 61, .move (.tmp 9), 3, "l12_cache.go:54", #[], none⟩,
   ⟨some 62, .indexAddr 22 (.tmp 60) (.tmp 61), 0, "l12_cache.go:54", #[⟨7, .data⟩, ⟨8, .data⟩], none⟩,
   ⟨some 63, .fieldAddr 72 (.tmp 62) 1, 0, "l12_cache.go:54", #[⟨9, .data⟩], none⟩,
   ⟨some 64, .load 3 (.tmp 63), 3, "l12_cache.go:54", #[⟨10, .data⟩], none⟩,
   ⟨some 65, .binOp BinOp.lss 3 (.tmp 58) (.tmp 64) 3, 4, "l12_cache.go:54", #[⟨5, .data⟩, ⟨11, .data⟩], none⟩] true).wp Try.prog Q ⟨#[v0, v1, v2, v3, v4, v5, v6, .pointer (some ⟨gD, 0, none⟩), v8, .int .i64 j, .int .i64 k, v11, v12, v13, v14, v15, v16, v17, v18, v19, v20, v21, v22, v23, v24, v25, v26, v27, v28, v29, v30, v31, v32, v33, v34, v35, v36, v37, v38, v39, v40, v41, v42, v43, v44, v45, v46, v47, v48, v49, v50, v51, v52, v53, v54, v55, v56, v57, v58, v59, v60, v61, v62, v63, v64, v65, v66, v67, v68, v69, v70, v71, v72, v73, v74, v75, v76, v77, v78, v79, v80, v81, v82], []⟩ w := by
 have HQ := Lib.hid hQ; clear hQ
 have hdr : Below w.heap.size w w.drew := (Below.refl _ _).drew
 have BB := Lib.hid hdr
 refine wp_region_noPanic ?_
 refine wp_region_held_drew (S := (fun w' => w'.cell? ⟨gD, 1, none⟩ = some (.slice (some ⟨b, off, none⟩) n c) ∧ w'.cell? ⟨b, off + k * 6 + 5, none⟩ = some (.int .i64 u1) ∧ w'.cell? ⟨b, off + j * 6 + 5, none⟩ = some (.int .i64 u2))) (by kernel_rfl) ?_ (fun hHeld => ?_)
 ·
  exact ⟨kc K1.out BB.out, kc E5.out BB.out, kc J5.out BB.out⟩
 clear hdr
 generalize w.drew = wd at *
 refine wpAnyH_take (i := 0) (oi := ⟨some 53, .fieldAddr 24 (.tmp 7) 1, 0, "l12_cache.go:54", #[], none⟩) (v := ?_) rfl (by kernel_rfl) (by kernel_rfl) (by kernel_rfl) (fun _ _ _ h => h) (Or.inl ⟨by rfl, ?_⟩) (by assumption) ?_
 rotate_left
 ·
  intro w' hSw; (try dsimp only at hSw); first | (go_simp; done) | (go_simp; with_reducible rfl)
 (try simp only [Act.put, Row.pB0, Row.pB1, Row.pB2])
 refine wpAnyH_take (i := 1) (oi := ⟨some 54, .load 22 (.tmp 53), 22, "l12_cache.go:54", #[⟨0, .data⟩], none⟩) (v := ?_) rfl (by kernel_rfl) (by kernel_rfl) (by kernel_rfl) (fun _ _ _ h => h) (Or.inl ⟨by rfl, ?_⟩) (by assumption) ?_
 rotate_left
 ·
  intro w' hSw; (try dsimp only at hSw); first | (go_simp; done) | (go_simp; with_reducible rfl)
 (try simp only [Act.put, Row.pB0, Row.pB1, Row.pB2])
 refine wpAnyH_take (i := 2) (oi := ⟨some 55, .move (.tmp 10), 3, "l12_cache.go:54", #[], none⟩) (v := ?_) rfl (by kernel_rfl) (by kernel_rfl) (by kernel_rfl) (fun _ _ _ h => h) (Or.inl ⟨by rfl, ?_⟩) (by assumption) ?_
 rotate_left
 ·
  intro w' hSw; (try dsimp only at hSw); first | (go_simp; done) | (go_simp; with_reducible rfl)
 (try simp only [Act.put, Row.pB0, Row.pB1, Row.pB2])
 refine wpAnyH_take (i := 3) (oi := ⟨some 56, .indexAddr 22 (.tmp 54) (.tmp 55), 0, "l12_cache.go:54", #[⟨1, .data⟩, ⟨2, .data⟩], none⟩) (v := ?_) rfl (by kernel_rfl) (by kernel_rfl) (by kernel_rfl) (fun _ _ _ h => h) (Or.inl ⟨by rfl, ?_⟩) (by assumption) ?_
 rotate_left
 ·
  intro w' hSw; (try dsimp only at hSw); first | (go_simp; done) | (go_simp; with_reducible rfl)
 (try simp only [Act.put, Row.pB0, Row.pB1, Row.pB2])
 refine wpAnyH_take (i := 4) (oi := ⟨some 57, .fieldAddr 72 (.tmp 56) 1, 0, "l12_cache.go:54", #[⟨3, .data⟩], none⟩) (v := ?_) rfl (by kernel_rfl) (by kernel_rfl) (by kernel_rfl) (fun _ _ _ h => h) (Or.inl ⟨by rfl, ?_⟩) (by assumption) ?_
 rotate_left
 ·
  intro w' hSw; (try dsimp only at hSw); first | (go_simp; done) | (go_simp; with_reducible rfl)
 (try simp only [Act.put, Row.pB0, Row.pB1, Row.pB2])
 refine wpAnyH_take (i := 5) (oi := ⟨some 58, .load 3 (.tmp 57), 3, "l12_cache.go:54", #[⟨4, .data⟩], none⟩) (v := ?_) rfl (by kernel_rfl) (by kernel_rfl) (by kernel_rfl) (fun _ _ _ h => h) (Or.inl ⟨by rfl, ?_⟩) (by assumption) ?_
 rotate_left
 ·
  intro w' hSw; (try dsimp only at hSw); first | (go_simp; done) | (go_simp; with_reducible rfl)
 (try simp only [Act.put, Row.pB0, Row.pB1, Row.pB2])
 refine wpAnyH_take (i := 6) (oi := ⟨some 59, .fieldAddr 24 (.tmp 7) 1, 0, "l12_cache.go:54", #[], none⟩) (v := ?_) rfl (by kernel_rfl) (by kernel_rfl) (by kernel_rfl) (fun _ _ _ h => h) (Or.inl ⟨by rfl, ?_⟩) (by assumption) ?_
 rotate_left
 ·
  intro w' hSw; (try dsimp only at hSw); first | (go_simp; done) | (go_simp; with_reducible rfl)
 (try simp only [Act.put, Row.pB0, Row.pB1, Row.pB2])
 refine wpAnyH_take (i := 7) (oi := ⟨some 60, .load 22 (.tmp 59), 22, "l12_cache.go:54", #[⟨6, .data⟩], none⟩) (v := ?_) rfl (by kernel_rfl) (by kernel_rfl) (by kernel_rfl) (fun _ _ _ h => h) (Or.inl ⟨by rfl, ?_⟩) (by assumption) ?_
 rotate_left
 ·
  intro w' hSw; (try dsimp only at hSw); first | (go_simp; done) | (go_simp; with_reducible rfl)
 (try simp only [Act.put, Row.pB0, Row.pB1, Row.pB2])
 refine wpAnyH_take (i := 8) (oi := ⟨some 61, .move (.tmp 9), 3, "l12_cache.go:54", #[], none⟩) (v := ?_) rfl (by kernel_rfl) (by kernel_rfl) (by kernel_rfl) (fun _ _ _ h => h) (Or.inl ⟨by rfl, ?_⟩) (by assumption) ?_
 rotate_left
 ·
  intro w' hSw; (try dsimp only at hSw); first | (go_simp; done) | (go_simp; with_reducible rfl)
 (try simp only [Act.put, Row.pB0, Row.pB1, Row.pB2])
 refine wpAnyH_take (i := 9) (oi := ⟨some 62, .indexAddr 22 (.tmp 60) (.tmp 61), 0, "l12_cache.go:54", #[⟨7, .data⟩, ⟨8, .data⟩], none⟩) (v := ?_) rfl (by kernel_rfl) (by kernel_rfl) (by kernel_rfl) (fun _ _ _ h => h) (Or.inl ⟨by rfl, ?_⟩) (by assumption) ?_
 rotate_left
 ·
  intro w' hSw; (try dsimp only at hSw); first | (go_simp; done) | (go_simp; with_reducible rfl)
 (try simp only [Act.put, Row.pB0, Row.pB1, Row.pB2])
 refine wpAnyH_take (i := 10) (oi := ⟨some 63, .fieldAddr 72 (.tmp 62) 1, 0, "l12_cache.go:54", #[⟨9, .data⟩], none⟩) (v := ?_) rfl (by kernel_rfl) (by kernel_rfl) (by kernel_rfl) (fun _ _ _ h => h) (Or.inl ⟨by rfl, ?_⟩) (by assumption) ?_
 rotate_left
 ·
  intro w' hSw; (try dsimp only at hSw); first | (go_simp; done) | (go_simp; with_reducible rfl)
 (try simp only [Act.put, Row.pB0, Row.pB1, Row.pB2])
 refine wpAnyH_take (i := 11) (oi := ⟨some 64, .load 3 (.tmp 63), 3, "l12_cache.go:54", #[⟨10, .data⟩], none⟩) (v := ?_) rfl (by kernel_rfl) (by kernel_rfl) (by kernel_rfl) (fun _ _ _ h => h) (Or.inl ⟨by rfl, ?_⟩) (by assumption) ?_
 rotate_left
 ·
  intro w' hSw; (try dsimp only at hSw); first | (go_simp; done) | (go_simp; with_reducible rfl)
 (try simp only [Act.put, Row.pB0, Row.pB1, Row.pB2])
 refine wpAnyH_take (i := 12) (oi := ⟨some 65, .binOp BinOp.lss 3 (.tmp 58) (.tmp 64) 3, 4, "l12_cache.go:54", #[⟨5, .data⟩, ⟨11, .data⟩], none⟩) (v := ?_) rfl (by kernel_rfl) (by kernel_rfl) (by kernel_rfl) (fun _ _ _ h => h) (Or.inl ⟨by rfl, ?_⟩) (by assumption) ?_
 rotate_left
 ·
  intro w' hSw; (try dsimp only at hSw); first | (go_simp; done) | (go_simp; with_reducible rfl)
 (try simp only [Act.put, Row.pB0, Row.pB1, Row.pB2])
 refine wpAnyH_done (by kernel_rfl) ?_ _
 exact NoPanic.normal (HQ.out _ _ _ _ _ _ _ _ _ _ _ _  _  BB.out)
theorem noRow_Cs : kLCe.NoRow 24 := noRow_kLCe _ (by decide) (by decide) (by decide)
def lenAt (w : World) (a : Addr) : Nat := match w.cell? a with | some (.slice _ n _) => n | _ => 0
theorem lenAt_eq {w : World} {a : Addr} {x : Option Addr} {n c : Nat} (h : w.cell? a = some (.slice x n c)) : lenAt w a = n := by unfold lenAt; rw [h]
set_option maxHeartbeats 16000000 in
theorem specCacheData (V U : Value) (x : Cnt) (d : Dzt) (now : Int) (w : World) (h : kCn.At w V x) (g : kDz.At w U d) (hp : FitC x) (hd : wtDz d ≤ 1200000) :
    Calls Try.prog 21 #[V, U, .int .i64 now] w fun e w' => ∃ U, e = .returned U ∧ kCn.In w.heap.size w'.heap.size w' U (cacheC x d now) ∧ Below w.heap.size w w' := by
  obtain ⟨ya, ma, da, yb, mb, db, yc, mc, dc_, rfl, g⟩ := kDz_shapeA g
  have hgn : kN.At w (.agg #[.slice ya ma da]) d.1 := by
    obtain ⟨a0, a1, a2, b0, b1, b2, d0, d1, d2, e, g0, -, -⟩ := kDz_at g
    simp only [Value.agg.injEq, Array.mk.injEq, List.cons.injEq, Value.slice.injEq, and_true] at e
    obtain ⟨⟨rfl, rfl, rfl⟩, -⟩ := e
    exact g0
  obtain ⟨x1_0, n1_0, c1_0, rfl, g1⟩ := kCn_at h
  clear h
  obtain ⟨cc, l⟩ := x
  have hfit := hp
  obtain ⟨hl, hp7⟩ := hp.fields
  clear hp
  have hp := hp7
  clear hp7
  dsimp only at g1 hl hp ⊢
  have b0 := (Below.refl w.heap.size w).alloc (Nat.le_refl _) (.cells #[.int .i64 cc, .slice x1_0 n1_0 c1_0] 24)
  have b1 := (Below.refl (w.alloc (.cells #[.int .i64 cc, .slice x1_0 n1_0 c1_0] 24)).heap.size (w.alloc (.cells #[.int .i64 cc, .slice x1_0 n1_0 c1_0] 24))).alloc (Nat.le_refl _) (.cells #[.slice ya ma da, .slice yb mb db, .slice yc mc dc_, .int .i64 d.2.2.2.1, .int .i64 d.2.2.2.2] 46)
  have b2 := (Below.refl ((w.alloc (.cells #[.int .i64 cc, .slice x1_0 n1_0 c1_0] 24)).alloc (.cells #[.slice ya ma da, .slice yb mb db, .slice yc mc dc_, .int .i64 d.2.2.2.1, .int .i64 d.2.2.2.2] 46)).heap.size ((w.alloc (.cells #[.int .i64 cc, .slice x1_0 n1_0 c1_0] 24)).alloc (.cells #[.slice ya ma da, .slice yb mb db, .slice yc mc dc_, .int .i64 d.2.2.2.1, .int .i64 d.2.2.2.2] 46))).alloc (Nat.le_refl _) (.cells #[.int .i64 0, .slice none 0 0] 24)
  have b012 := (b0.trans (b1.mono b0.size)).trans (b2.mono (Nat.le_trans b0.size b1.size))
  have hX0 := ((Ret.Blk.new w #[.int .i64 cc, .slice x1_0 n1_0 c1_0] 24).on b1).on b2
  have hX1 := (Ret.Blk.new' (w := (w.alloc (.cells #[.int .i64 cc, .slice x1_0 n1_0 c1_0] 24))) (n := w.heap.size + 1) #[.slice ya ma da, .slice yb mb db, .slice yc mc dc_, .int .i64 d.2.2.2.1, .int .i64 d.2.2.2.2] 46 (by simp)).on b2
  have hX2 := Ret.Blk.new' (w := ((w.alloc (.cells #[.int .i64 cc, .slice x1_0 n1_0 c1_0] 24)).alloc (.cells #[.slice ya ma da, .slice yb mb db, .slice yc mc dc_, .int .i64 d.2.2.2.1, .int .i64 d.2.2.2.2] 46))) (n := w.heap.size + 1 + 1) #[.int .i64 0, .slice none 0 0] 24 (by simp)
  have hS3 : (((w.alloc (.cells #[.int .i64 cc, .slice x1_0 n1_0 c1_0] 24)).alloc (.cells #[.slice ya ma da, .slice yb mb db, .slice yc mc dc_, .int .i64 d.2.2.2.1, .int .i64 d.2.2.2.2] 46)).alloc (.cells #[.int .i64 0, .slice none 0 0] 24)).heap.size = w.heap.size + 3 := by simp
  have HA := Lib.hid (cn_of (cc := cc) (g1.on b012)); have HG := Lib.hid g; have HGN := Lib.hid hgn; have HDB := Lib.hid hd
  have q0 : (((w.alloc (.cells #[.int .i64 cc, .slice x1_0 n1_0 c1_0] 24)).alloc (.cells #[.slice ya ma da, .slice yb mb db, .slice yc mc dc_, .int .i64 d.2.2.2.1, .int .i64 d.2.2.2.2] 46)).alloc (.cells #[.int .i64 0, .slice none 0 0] 24)).cell? ⟨w.heap.size, 0, none⟩ = some (.int .i64 cc) := hX0.cell 0
  have q1 : (((w.alloc (.cells #[.int .i64 cc, .slice x1_0 n1_0 c1_0] 24)).alloc (.cells #[.slice ya ma da, .slice yb mb db, .slice yc mc dc_, .int .i64 d.2.2.2.1, .int .i64 d.2.2.2.2] 46)).alloc (.cells #[.int .i64 0, .slice none 0 0] 24)).cell? ⟨w.heap.size, 1, none⟩ = some (.slice x1_0 n1_0 c1_0) := hX0.cell 1
  obtain ⟨T, hT⟩ : ∃ T, cacheC (cc, l) d now = T := ⟨_, rfl⟩
  rw [hT]
  have HTT := Lib.hid hT; clear hT
  go_enter Try.func21, Try.ntmps21
  go_wp2_with fail
  refine (l12Copy _ (cc, l) _ HA.out hfit).mono ?_
  rintro e w1 ⟨U, rfl, hi, hb1⟩
  obtain ⟨m, rfl, hs, hi⟩ := hi.split
  obtain ⟨ce, r⟩ := m
  obtain ⟨xu, nu, cu, Lu⟩ := r
  obtain ⟨rfl, hsl⟩ : ce = cc ∧ Lu.map kCe.strip = l := by
    have e1 : (ce, Lu.map kCe.strip) = (cc, l) := hs
    injection e1 with e1 e2
    exact ⟨e1, e2⟩
  obtain ⟨-, hi2, -⟩ := Kd.Own.parts hi
  rw [hS3] at hi2
  rw [show kCn.val ((ce, (⟨xu, nu, cu, Lu⟩ : Rw Cem)) : Cnm) = .agg #[.int .i64 ce, .slice xu nu cu] from rfl]
  have hal := (Below.refl w1.heap.size w1).alloc (Nat.le_refl _) (.cells #[.int .i64 ce, .slice xu nu cu] 24)
  have HG1 := Lib.hid (show w.heap.size + 3 ≤ w1.heap.size by rw [← hS3]; exact hb1.size)
  have HX0 := Lib.hid ((hX0.on hb1).on hal); have HX1 := Lib.hid ((hX1.on hb1).on hal); have HX2 := Lib.hid ((hX2.on hb1).on hal)
  have HXD := Lib.hid (Ret.Blk.new w1 #[.int .i64 ce, .slice xu nu cu] 24)
  have HO := Lib.hid (hi2.upto hal); have HSL := Lib.hid hsl
  have HB := Lib.hid (b012.trans ((hb1.trans (hal.mono hb1.size)).mono b012.size))
  have HLU := Lib.hid (show Lu.length ≤ 1100000 by have h9 := hl; rw [← hsl, List.length_map] at h9; exact h9)
  have HPU := Lib.hid (show ∀ x ∈ Lu.map kCe.strip, wtCe x ≤ 1200000 by rw [hsl]; exact hp)
  clear hi hi2 hs hsl hb1 hal hX0 hX1 hX2 b0 b1 b2 b012 g1 g hgn hd HA hfit hl hp hS3 q0 q1
  have k0 : (w1.alloc (.cells #[.int .i64 ce, .slice xu nu cu] 24)).cell? ⟨w.heap.size, 0, none⟩ = some (.int .i64 ce) := HX0.out.cell 0
  by_cases hc1 : ce < 1
  · have HRES : Hid (T = (ce, l)) := Lib.hid (by rw [← HTT.out]; unfold cacheC; exact if_pos hc1)
    have p0 : (w1.alloc (.cells #[.int .i64 ce, .slice xu nu cu] 24)).cell? ⟨w1.heap.size, 0, none⟩ = some (.int .i64 ce) := HXD.out.cell 0
    have p1 : (w1.alloc (.cells #[.int .i64 ce, .slice xu nu cu] 24)).cell? ⟨w1.heap.size, 1, none⟩ = some (.slice xu nu cu) := HXD.out.cell 1
    have r0 := HX2.out.frozen 0; have r1 := HX2.out.frozen 1; have r2 := HX2.out.cell 0; have r3 := HX2.out.cell 1
    have Z := Lib.hid ((HX2.out.set 0 (.int .i64 ce)).set 1 (.slice xu nu cu))
    have ZO := Lib.hid (own_setS (i := 1) (u := .slice xu nu cu) (own_setS (i := 0) (u := .int .i64 ce) HO.out (g := w.heap.size + 1 + 1) (by omega)) (g := w.heap.size + 1 + 1) (by omega))
    have ZB := Lib.hid ((HB.out.setCell (p := ⟨w.heap.size + 1 + 1, 0, none⟩) (by show w.heap.size ≤ w.heap.size + 1 + 1; omega) (.int .i64 ce)).setCell (p := ⟨w.heap.size + 1 + 1, 1, none⟩) (by show w.heap.size ≤ w.heap.size + 1 + 1; omega) (.slice xu nu cu))
    go_wp2_with fail
    refine bodyPost_ret (Ret.results_c rfl _ _ (w.heap.size + 1 + 1) [.int .i64 ce, .slice xu nu cu] rfl aggCn Z.out.cells) rfl ?_
    rw [HRES.out]
    exact ⟨_, rfl, cn_in ZO.out (by omega) HSL.out ZB.out.size, ZB.out⟩
  · have hc2 : (1 : Int) ≤ ce := by omega
    obtain ⟨v, hv⟩ : ∃ v, validD d = v := ⟨_, rfl⟩
    have HV := Lib.hid hv; clear hv
    have e0 : (w1.alloc (.cells #[.int .i64 ce, .slice xu nu cu] 24)).cell? ⟨w.heap.size + 1, 0, none⟩ = some (.slice ya ma da) := HX1.out.cell 0
    have e1 : (w1.alloc (.cells #[.int .i64 ce, .slice xu nu cu] 24)).cell? ⟨w.heap.size + 1, 1, none⟩ = some (.slice yb mb db) := HX1.out.cell 1
    have e2 : (w1.alloc (.cells #[.int .i64 ce, .slice xu nu cu] 24)).cell? ⟨w.heap.size + 1, 2, none⟩ = some (.slice yc mc dc_) := HX1.out.cell 2
    have e3 : (w1.alloc (.cells #[.int .i64 ce, .slice xu nu cu] 24)).cell? ⟨w.heap.size + 1, 3, none⟩ = some (.int .i64 d.2.2.2.1) := HX1.out.cell 3
    have e4 : (w1.alloc (.cells #[.int .i64 ce, .slice xu nu cu] 24)).cell? ⟨w.heap.size + 1, 4, none⟩ = some (.int .i64 d.2.2.2.2) := HX1.out.cell 4
    go_wp2_with fail
    refine (sValZ v HV.out (HG.out.on HB.out) (Nat.le_trans HDB.out (by decide))).mono ?_
    rintro e w2 ⟨rfl, hb2⟩
    have HG2 := Lib.hid (Nat.le_trans HG1.out (Nat.le_trans (by simp) hb2.size) : w.heap.size + 3 ≤ w2.heap.size)
    replace HX0 := Lib.hid (HX0.out.on hb2); replace HX1 := Lib.hid (HX1.out.on hb2); replace HX2 := Lib.hid (HX2.out.on hb2); replace HXD := Lib.hid (HXD.out.on hb2); replace HO := Lib.hid (HO.out.upto hb2); replace HB := Lib.hid (HB.out.trans (hb2.mono HB.out.size))
    clear hb2 k0 e0 e1 e2 e3 e4
    cases v with
    | false =>
      have HRES : Hid (T = (ce, l)) := Lib.hid (by rw [← HTT.out]; unfold cacheC; dsimp only; rw [if_neg (show ¬ ce < 1 by omega), HV.out]; rfl)
      have p0 : w2.cell? ⟨w1.heap.size, 0, none⟩ = some (.int .i64 ce) := HXD.out.cell 0
      have p1 : w2.cell? ⟨w1.heap.size, 1, none⟩ = some (.slice xu nu cu) := HXD.out.cell 1
      have r0 := HX2.out.frozen 0; have r1 := HX2.out.frozen 1; have r2 := HX2.out.cell 0; have r3 := HX2.out.cell 1
      have Z := Lib.hid ((HX2.out.set 0 (.int .i64 ce)).set 1 (.slice xu nu cu))
      have ZO := Lib.hid (own_setS (i := 1) (u := .slice xu nu cu) (own_setS (i := 0) (u := .int .i64 ce) HO.out (g := w.heap.size + 1 + 1) (by omega)) (g := w.heap.size + 1 + 1) (by omega))
      have ZB := Lib.hid ((HB.out.setCell (p := ⟨w.heap.size + 1 + 1, 0, none⟩) (by show w.heap.size ≤ w.heap.size + 1 + 1; omega) (.int .i64 ce)).setCell (p := ⟨w.heap.size + 1 + 1, 1, none⟩) (by show w.heap.size ≤ w.heap.size + 1 + 1; omega) (.slice xu nu cu))
      go_wp2_with fail
      refine bodyPost_ret (Ret.results_c rfl _ _ (w.heap.size + 1 + 1) [.int .i64 ce, .slice xu nu cu] rfl aggCn Z.out.cells) rfl ?_
      rw [HRES.out]
      exact ⟨_, rfl, cn_in ZO.out (by omega) HSL.out ZB.out.size, ZB.out⟩
    | true =>
      have HRES : Hid (T = (ce, roomE ce (rmE l d.1) ++ [(d, now)])) := Lib.hid (by rw [← HTT.out]; unfold cacheC; dsimp only; rw [if_neg (show ¬ ce < 1 by omega), HV.out]; rfl)
      have HNB := Lib.hid (wtDz_lens d HDB.out).1
      have e0 : w2.cell? ⟨w.heap.size + 1, 0, none⟩ = some (.slice ya ma da) := HX1.out.cell 0
      have k1 : w2.cell? ⟨w1.heap.size, 1, none⟩ = some (.slice xu nu cu) := HXD.out.cell 1
      obtain ⟨z, hz⟩ : ∃ z, ixL (isE d.1) (Lu.map kCe.strip) = z := ⟨_, rfl⟩
      have HZ := Lib.hid hz; clear hz
      have HRM : Hid (rmE (Lu.map kCe.strip) d.1 = rmE l d.1) := Lib.hid (by rw [HSL.out])
      clear HSL HTT HV
      go_wp2_with fail
      refine (sFindE _ _ (Lu.map kCe.strip) d.1 _ z HZ.out ⟨⟨xu, nu, cu, Lu⟩, rfl, rfl, HO.out.holds⟩ (HGN.out.on HB.out) (by rw [List.length_map]; have := HLU.out; omega) HPU.out HNB.out).mono ?_
      rintro e w3 ⟨rfl, hb3⟩
      replace HX0 := Lib.hid (HX0.out.on hb3); replace HX1 := Lib.hid (HX1.out.on hb3); replace HX2 := Lib.hid (HX2.out.on hb3); replace HXD := Lib.hid (HXD.out.on hb3); replace HO := Lib.hid (HO.out.upto hb3); replace HB := Lib.hid (HB.out.trans (hb3.mono HB.out.size)); replace HG2 := Lib.hid (Nat.le_trans HG2.out hb3.size)
      clear hb3 e0 k1
      go_wp2_with fail
      go_loopw [8] (fun kv wr => ∃ (z : Int) (xu : Option Addr) (nu cu : Nat) (Lu : List Cem), kv = .int .i64 z ∧ Hid (ixL (isE d.1) (Lu.map kCe.strip) = z) ∧ Hid (rmE (Lu.map kCe.strip) d.1 = rmE l d.1) ∧ Hid (Lu.length ≤ 1100000) ∧ Hid (∀ x ∈ Lu.map kCe.strip, wtCe x ≤ 1200000) ∧ Hid (kLCe.Own (w.heap.size + 3) wr.heap.size wr ⟨xu, nu, cu, Lu⟩) ∧ Hid (Ret.Blk wr w1.heap.size #[.int .i64 ce, .slice xu nu cu] 24) ∧ Hid (Ret.Blk wr (w.heap.size + 1) #[.slice ya ma da, .slice yb mb db, .slice yc mc dc_, .int .i64 d.2.2.2.1, .int .i64 d.2.2.2.2] 46) ∧ Hid (Ret.Blk wr (w.heap.size + 1 + 1) #[.int .i64 0, .slice none 0 0] 24) ∧ Hid (Ret.Blk wr w.heap.size #[.int .i64 ce, .slice x1_0 n1_0 c1_0] 24) ∧ Hid (Below w.heap.size w wr) ∧ Hid (w.heap.size + 3 ≤ wr.heap.size)) (fun _ wr => lenAt wr ⟨w1.heap.size, 1, none⟩)
      case atStart => exact ⟨z, xu, nu, cu, Lu, rfl, HZ, HRM, HLU, HPU, HO, HXD, HX1, HX2, HX0, HB, HG2⟩
      case round =>
        clear HZ HRM HLU HPU HO HXD HX1 HX2 HX0 HB HG2
        obtain ⟨z, xu, nu, cu, Lu, rfl, HZ, HRM, HLU, HPU, HO, HXD, HX1, HX2, HX0, HB, HG2⟩ := hrel
        have k1 : wr.cell? ⟨w1.heap.size, 1, none⟩ = some (.slice xu nu cu) := HXD.out.cell 1
        have hnl : nu = Lu.length := HO.out.1.1.holds.lenEq
        rcases ixL_cases (isE d.1) (Lu.map kCe.strip) with ⟨e1, hno⟩ | ⟨k, hk, e1, hyes, -⟩
        · obtain rfl : z = -1 := by rw [← HZ.out]; exact e1
          have HEX : Hid (Lu.map kCe.strip = rmE l d.1) := Lib.hid (by rw [← HRM.out, rmE_none hno])
          have k0 : wr.cell? ⟨w.heap.size, 0, none⟩ = some (.int .i64 ce) := HX0.out.cell 0
          have HNL := Lib.hid hnl
          rename World => wa
          have hn11 : nu ≤ 1100000 := by rw [hnl]; exact HLU.out
          clear e1 hno hnl
          by_cases hfull : ce ≤ (nu : Int)
          · have hfull2 : (nu : Int) ≥ ce := hfull
            have hnpos : 1 ≤ nu := by omega
            go_wp2_with fail
            go_loopw [9, 10] (fun jv iv wr => ∃ i : Nat, 1 ≤ i ∧ i ≤ nu ∧ iv = .int .i64 i ∧ ∃ j : Nat, jv = .int .i64 j ∧ Hid (j = leastE (Lu.map kCe.strip) i) ∧ j < i ∧ Hid (Below wa.heap.size wa wr)) (fun _ iv _ => nu - (intOf iv).toNat)
            case atStart => exact ⟨1, Nat.le_refl _, hnpos, rfl, 0, rfl, Lib.hid (leastE_one _).symm, by decide, Lib.hid (Below.refl _ _)⟩
            case round =>
              obtain ⟨i, hi1, hin, rfl, j, rfl, hj, hji, hbw⟩ := hrel
              clear k0 k1
              have k1 : wr.cell? ⟨w1.heap.size, 1, none⟩ = some (.slice xu nu cu) := (HXD.out.on hbw.out).cell 1
              by_cases hlt : i < nu
              · have hnL := HNL.out
                obtain ⟨b, off, y0, m0, d0, y1, m1, d1, y2, m2, d2, rfl, -, hc0, hc1', hc2', hc3, hc4, hc5, -⟩ := kLCe_elem (HO.out.1.1.holds.on hbw.out) (fun y hy => kCe.holds_on (HO.out.elOf hy) hbw.out) (j := i) (by show i < Lu.length; omega)
                obtain ⟨b', off', y3, m3, d3, y4, m4, d4, y5, m5, d5, e8, -, gc0, gc1, gc2, gc3, gc4, gc5, -⟩ := kLCe_elem (HO.out.1.1.holds.on hbw.out) (fun y hy => kCe.holds_on (HO.out.elOf hy) hbw.out) (j := j) (by show j < Lu.length; omega)
                cases e8
                have hpi : kCe.strip (nth Lu i) = nth (Lu.map kCe.strip) i := (nth_map _ (by omega)).symm
                have hpj : kCe.strip (nth Lu j) = nth (Lu.map kCe.strip) j := (nth_map _ (by omega)).symm
                have hncu : nu ≤ cu := by obtain ⟨x', n', cap', hv, hn', hc', -⟩ := HO.out.1.1.holds.shapeN; cases hv; exact hc'
                obtain ⟨ui, hui⟩ : ∃ u, (nth (Lu.map kCe.strip) i).2 = u := ⟨_, rfl⟩
                obtain ⟨uj, huj⟩ : ∃ u, (nth (Lu.map kCe.strip) j).2 = u := ⟨_, rfl⟩
                replace hc5 : wr.cell? ⟨b, off + i * 6 + 5, none⟩ = some (.int .i64 ui) := by rw [← hui, ← hpi]; exact hc5
                replace gc5 : wr.cell? ⟨b, off + j * 6 + 5, none⟩ = some (.int .i64 uj) := by rw [← huj, ← hpj]; exact gc5
                have H5 := Lib.hid hc5; have G5 := Lib.hid gc5; have K1 := Lib.hid k1; have HUI := Lib.hid hui; have HUJ := Lib.hid huj
                clear hc0 hc1' hc2' hc3 hc4 hc5 gc0 gc1 gc2 gc3 gc4 gc5 hpi hpj hnL hui huj
                go_wp2_with fail
                clear k1
                refine rsc hlt (by omega) (by omega) (by omega) (by omega) K1 H5 G5 ?_
                intro u53 u54 u55 u56 u57 u58 u59 u60 u61 u62 u63 u64 wx hbx
                have hbz := Lib.hid (hbw.out.trans (hbx.mono hbw.out.size)); clear hbx
                by_cases h0 : ui < uj
                · have t0 : decide (ui < uj) = true := decide_eq_true h0
                  have HJ : Hid (i = leastE (Lu.map kCe.strip) (i + 1)) := Lib.hid (by unfold leastE; rw [← hj.out, HUI.out, HUJ.out, if_pos h0])
                  go_wp2_with fail
                  go_roundw
                  case rel => exact ⟨i + 1, by omega, by omega, by go_num, i, rfl, HJ, by omega, hbz⟩
                  case measure => simp [intOf]; omega
                · have t0 : decide (ui < uj) = false := decide_eq_false h0
                  have HJ : Hid (j = leastE (Lu.map kCe.strip) (i + 1)) := Lib.hid (by
                    conv => rhs; unfold leastE
                    rw [← hj.out, HUI.out, HUJ.out, if_neg h0])
                  go_wp2_with fail
                  go_roundw
                  case rel => exact ⟨i + 1, by omega, by omega, by go_num, j, rfl, HJ, by omega, hbz⟩
                  case measure => simp [intOf]; omega
              · obtain rfl : i = nu := by omega
                have HROOM0 : Hid (roomE ce (rmE l d.1) = (Lu.eraseIdx j).map kCe.strip) := Lib.hid (by
                  rw [← HEX.out]
                  unfold roomE
                  rw [List.length_map, ← HNL.out, ← hj.out, if_pos hfull, erase_parts, erase_parts, List.map_append, List.map_take, List.map_drop])
                have hbz9 := Lib.hid hbw.out.size
                replace HX0 := Lib.hid (HX0.out.on hbw.out); replace HX1 := Lib.hid (HX1.out.on hbw.out); replace HX2 := Lib.hid (HX2.out.on hbw.out); replace HXD := Lib.hid (HXD.out.on hbw.out); replace HO := Lib.hid (HO.out.upto hbw.out); replace HB := Lib.hid (HB.out.trans (hbw.out.mono HB.out.size))
                have hjL : j < Lu.length := by rw [← HNL.out]; exact hji
                have HJL := Lib.hid hjL
                clear hlt hbw hj hjL
                go_wp2_with fail
                refine (l12Without xu i cu Lu j _ HO.out.1.1.holds HJL.out HLU.out).mono ?_
                rintro e w4 ⟨xv, nv, cv, rfl, hov, hb4⟩
                have HG3 := Lib.hid (Nat.le_trans HG2.out hbz9.out)
                have hOn : kLCe.Own (w.heap.size + 3) w4.heap.size w4 ⟨xv, nv, cv, Lu.eraseIdx j⟩ := Kd.sub noRow_kCe HO.out (List.eraseIdx_sublist _ _) (Sl.grown_of_below hb4 none) (fun g e => by cases e) (hov.mono HG3.out)
                have hX4 := HXD.out.on hb4
                have s0 := hX4.cell 1; have s1 := hX4.frozen 1
                have HROOM : Hid ((Lu.eraseIdx j).map kCe.strip = roomE ce (rmE l d.1)) := Lib.hid HROOM0.out.symm
                have HLR : Hid ((Lu.eraseIdx j).length ≤ 1100000) := Lib.hid (by rw [List.length_eraseIdx]; have := HLU.out; split <;> omega)
                have HXD' := Lib.hid (hX4.set 1 (.slice xv nv cv))
                have HO' := Lib.hid (show kLCe.Own (w.heap.size + 3) (w4.setCell ⟨w1.heap.size, 1, none⟩ (.slice xv nv cv)).heap.size (w4.setCell ⟨w1.heap.size, 1, none⟩ (.slice xv nv cv)) ⟨xv, nv, cv, Lu.eraseIdx j⟩ by rw [World.size_setCell]; exact own_setT noRow_Cs hOn hX4)
                have HG2' : Hid (w.heap.size + 3 ≤ (w4.setCell ⟨w1.heap.size, 1, none⟩ (.slice xv nv cv)).heap.size) := Lib.hid (by rw [World.size_setCell]; exact Nat.le_trans HG3.out hb4.size)
                replace HX1 := Lib.hid ((HX1.out.on hb4).other (a := ⟨w1.heap.size, 1, none⟩) (by show w1.heap.size ≠ w.heap.size + 1; have := HG1.out; omega) (.slice xv nv cv)); replace HX2 := Lib.hid ((HX2.out.on hb4).other (a := ⟨w1.heap.size, 1, none⟩) (by show w1.heap.size ≠ w.heap.size + 1 + 1; have := HG1.out; omega) (.slice xv nv cv))
                replace HB := Lib.hid ((HB.out.trans (hb4.mono HB.out.size)).setCell (p := ⟨w1.heap.size, 1, none⟩) (by show w.heap.size ≤ w1.heap.size; have := HG1.out; omega) (.slice xv nv cv))
                clear HO HXD HG2 HG3 hov hb4 hOn hX4 HROOM0
                have HG2 := HG2'
                clear HG2'
                have e0 : (w4.setCell ⟨w1.heap.size, 1, none⟩ (.slice xv nv cv)).cell? ⟨w.heap.size + 1, 0, none⟩ = some (.slice ya ma da) := HX1.out.cell 0
                have e1 : (w4.setCell ⟨w1.heap.size, 1, none⟩ (.slice xv nv cv)).cell? ⟨w.heap.size + 1, 1, none⟩ = some (.slice yb mb db) := HX1.out.cell 1
                have e2 : (w4.setCell ⟨w1.heap.size, 1, none⟩ (.slice xv nv cv)).cell? ⟨w.heap.size + 1, 2, none⟩ = some (.slice yc mc dc_) := HX1.out.cell 2
                have e3 : (w4.setCell ⟨w1.heap.size, 1, none⟩ (.slice xv nv cv)).cell? ⟨w.heap.size + 1, 3, none⟩ = some (.int .i64 d.2.2.2.1) := HX1.out.cell 3
                have e4 : (w4.setCell ⟨w1.heap.size, 1, none⟩ (.slice xv nv cv)).cell? ⟨w.heap.size + 1, 4, none⟩ = some (.int .i64 d.2.2.2.2) := HX1.out.cell 4
                go_wp2_with fail
                refine (sCpyZ (HG.out.on HB.out) (Nat.le_trans HDB.out (by decide))).mono ?_
                rintro e w5 ⟨U, rfl, hi5, hb5⟩
                obtain ⟨m5, za, na, ea, zb, nb, eb, zc, nc, ec, rfl, hs5, hd5, ho5⟩ := kDz_split hi5
                have hal5 := (Below.refl w5.heap.size w5).alloc (Nat.le_refl _) (.cells #[.slice za na ea, .slice zb nb eb, .slice zc nc ec, .int .i64 d.2.2.2.1, .int .i64 d.2.2.2.2] 46)
                have hbl := hal5.alloc hal5.size (.cells #[.slice za na ea, .slice zb nb eb, .slice zc nc ec, .int .i64 d.2.2.2.1, .int .i64 d.2.2.2.2, .int .i64 now] 72)
                have HOA := Lib.hid (show OwnK 72 kCe.cells 6 (w.heap.size + 3) ((w5.alloc (.cells #[.slice za na ea, .slice zb nb eb, .slice zc nc ec, .int .i64 d.2.2.2.1, .int .i64 d.2.2.2.2] 46)).alloc (.cells #[.slice za na ea, .slice zb nb eb, .slice zc nc ec, .int .i64 d.2.2.2.1, .int .i64 d.2.2.2.2, .int .i64 now] 72)) (.slice xv nv cv) (Lu.eraseIdx j) from ((HO'.out.on hb5).on hbl).1.1)
                have HSO := Lib.hid (one_ce (W := (w5.alloc (.cells #[.slice za na ea, .slice zb nb eb, .slice zc nc ec, .int .i64 d.2.2.2.1, .int .i64 d.2.2.2.2] 46))) (u := now) (g := w5.heap.size + 1) hd5 (by simp))
                have HBC := Lib.hid (HB.out.trans ((hb5.trans (hbl.mono hb5.size)).mono HB.out.size))
                have HXL := Lib.hid ((HXD'.out.on hb5).on hbl); have HX2L := Lib.hid ((HX2.out.on hb5).on hbl)
                have HB5 := Lib.hid hb5; have HI5 := Lib.hid ho5; have HBL := Lib.hid hbl
                have HB3 := Lib.hid (show w.heap.size + 3 ≤ ((w5.alloc (.cells #[.slice za na ea, .slice zb nb eb, .slice zc nc ec, .int .i64 d.2.2.2.1, .int .i64 d.2.2.2.2] 46)).alloc (.cells #[.slice za na ea, .slice zb nb eb, .slice zc nc ec, .int .i64 d.2.2.2.1, .int .i64 d.2.2.2.2, .int .i64 now] 72)).heap.size from Nat.le_trans (Nat.le_trans HG2.out hb5.size) hbl.size)
                have HLM := Lib.hid (show ((Lu.eraseIdx j).length + 1) * 96 ≤ 140737488355328 by have := HLR.out; omega)
                have HLX := Lib.hid (show (Lu.eraseIdx j).length + 1 ≤ maxLen by have := HLR.out; unfold maxLen; omega)
                have HS5 := Lib.hid hs5
                have g1 : (w5.alloc (.cells #[.slice za na ea, .slice zb nb eb, .slice zc nc ec, .int .i64 d.2.2.2.1, .int .i64 d.2.2.2.2] 46)).cell? ⟨w1.heap.size, 1, none⟩ = some (.slice xv nv cv) := ((HXD'.out.on hb5).on hal5).cell 1
                clear hi5 ho5 hs5 hd5 hb5 hal5 hbl e0 e1 e2 e3 e4
                go_wp2_with (at_builtin; refine wpList_appK kindCe (B := w.heap.size + 3) (l := (Lu.eraseIdx j)) (m := [((m5, now) : Cem)]) rfl _ _ rfl Try.underlying22 rfl rfl HOA.out HSO.out HLM.out HLX.out HB3.out ?_)
                intro v6 w6 ho6 hg6
                obtain ⟨x6, n6, c6, rfl, -, -, ho6⟩ := ho6.shapeN
                have hlt6 : ∀ g, (Value.slice xv nv cv).ownBlock = some g → w.heap.size + 3 ≤ g := fun g hg => (HOA.out.lt g hg).1
                have hX6 := HXL.out.grown hg6 (row_ne_blk HOA.out HXL.out (by decide))
                have z0 := hX6.cell 1; have z1 := hX6.frozen 1
                have HX6 := Lib.hid hX6; have HX26 := Lib.hid (HX2L.out.grown hg6 (fun e => by have := hlt6 _ e.symm; omega))
                have HO6 := Lib.hid (ce_grow HO'.out HB5.out HI5.out HBL.out ho6 hg6 HG2.out)
                have HB6 := Lib.hid (HBC.out.grown hg6 HBC.out.size (fun g hg => by have := hlt6 g hg; omega))
                have HRS : Hid (((Lu.eraseIdx j) ++ [((m5, now) : Cem)]).map kCe.strip = roomE ce (rmE l d.1) ++ [(d, now)]) := Lib.hid (by rw [List.map_append, HROOM.out]; show _ ++ [(kDz.strip m5, now)] = _; rw [HS5.out])
                clear ho6 hg6 hX6 hlt6 g1
                have HXD7 := Lib.hid (HX6.out.set 1 (.slice x6 n6 c6))
                have HX27 := Lib.hid (HX26.out.other (a := ⟨w1.heap.size, 1, none⟩) (by show w1.heap.size ≠ w.heap.size + 1 + 1; have := HG1.out; omega) (.slice x6 n6 c6))
                have HO7 : Hid (kLCe.Own (w.heap.size + 3) (w6.setCell ⟨w1.heap.size, 1, none⟩ (.slice x6 n6 c6)).heap.size (w6.setCell ⟨w1.heap.size, 1, none⟩ (.slice x6 n6 c6)) ⟨x6, n6, c6, (Lu.eraseIdx j) ++ [((m5, now) : Cem)]⟩) := Lib.hid (by rw [World.size_setCell]; exact own_setT noRow_Cs HO6.out HX6.out)
                have HB7 := Lib.hid (HB6.out.setCell (p := ⟨w1.heap.size, 1, none⟩) (by show w.heap.size ≤ w1.heap.size; have := HG1.out; omega) (.slice x6 n6 c6))
                have p0 : (w6.setCell ⟨w1.heap.size, 1, none⟩ (.slice x6 n6 c6)).cell? ⟨w1.heap.size, 0, none⟩ = some (.int .i64 ce) := HXD7.out.cell 0
                have p1 : (w6.setCell ⟨w1.heap.size, 1, none⟩ (.slice x6 n6 c6)).cell? ⟨w1.heap.size, 1, none⟩ = some (.slice x6 n6 c6) := HXD7.out.cell 1
                have r0 := HX27.out.frozen 0; have r1 := HX27.out.frozen 1; have r2 := HX27.out.cell 0; have r3 := HX27.out.cell 1
                have Z := Lib.hid ((HX27.out.set 0 (.int .i64 ce)).set 1 (.slice x6 n6 c6))
                have ZO := Lib.hid (own_setS (i := 1) (u := .slice x6 n6 c6) (own_setS (i := 0) (u := .int .i64 ce) HO7.out (g := w.heap.size + 1 + 1) (by omega)) (g := w.heap.size + 1 + 1) (by omega))
                have ZB := Lib.hid ((HB7.out.setCell (p := ⟨w.heap.size + 1 + 1, 0, none⟩) (by show w.heap.size ≤ w.heap.size + 1 + 1; omega) (.int .i64 ce)).setCell (p := ⟨w.heap.size + 1 + 1, 1, none⟩) (by show w.heap.size ≤ w.heap.size + 1 + 1; omega) (.slice x6 n6 c6))
                go_wp2_with fail
                refine bodyPost_ret (Ret.results_c rfl _ _ (w.heap.size + 1 + 1) [.int .i64 ce, .slice x6 n6 c6] rfl aggCn Z.out.cells) rfl ?_
                rw [HRES.out]
                exact ⟨_, rfl, cn_in ZO.out (by omega) HRS.out ZB.out.size, ZB.out⟩
          · have HROOM : Hid (Lu.map kCe.strip = roomE ce (rmE l d.1)) := Lib.hid (by rw [← HEX.out]; unfold roomE; rw [if_neg (by rw [List.length_map, ← HNL.out]; exact hfull)])
            have HLR := HLU
            have e0 : wa.cell? ⟨w.heap.size + 1, 0, none⟩ = some (.slice ya ma da) := HX1.out.cell 0
            have e1 : wa.cell? ⟨w.heap.size + 1, 1, none⟩ = some (.slice yb mb db) := HX1.out.cell 1
            have e2 : wa.cell? ⟨w.heap.size + 1, 2, none⟩ = some (.slice yc mc dc_) := HX1.out.cell 2
            have e3 : wa.cell? ⟨w.heap.size + 1, 3, none⟩ = some (.int .i64 d.2.2.2.1) := HX1.out.cell 3
            have e4 : wa.cell? ⟨w.heap.size + 1, 4, none⟩ = some (.int .i64 d.2.2.2.2) := HX1.out.cell 4
            go_wp2_with fail
            refine (sCpyZ (HG.out.on HB.out) (Nat.le_trans HDB.out (by decide))).mono ?_
            rintro e w5 ⟨U, rfl, hi5, hb5⟩
            obtain ⟨m5, za, na, ea, zb, nb, eb, zc, nc, ec, rfl, hs5, hd5, ho5⟩ := kDz_split hi5
            have hal5 := (Below.refl w5.heap.size w5).alloc (Nat.le_refl _) (.cells #[.slice za na ea, .slice zb nb eb, .slice zc nc ec, .int .i64 d.2.2.2.1, .int .i64 d.2.2.2.2] 46)
            have hbl := hal5.alloc hal5.size (.cells #[.slice za na ea, .slice zb nb eb, .slice zc nc ec, .int .i64 d.2.2.2.1, .int .i64 d.2.2.2.2, .int .i64 now] 72)
            have HOA := Lib.hid (show OwnK 72 kCe.cells 6 (w.heap.size + 3) ((w5.alloc (.cells #[.slice za na ea, .slice zb nb eb, .slice zc nc ec, .int .i64 d.2.2.2.1, .int .i64 d.2.2.2.2] 46)).alloc (.cells #[.slice za na ea, .slice zb nb eb, .slice zc nc ec, .int .i64 d.2.2.2.1, .int .i64 d.2.2.2.2, .int .i64 now] 72)) (.slice xu nu cu) Lu from ((HO.out.on hb5).on hbl).1.1)
            have HSO := Lib.hid (one_ce (W := (w5.alloc (.cells #[.slice za na ea, .slice zb nb eb, .slice zc nc ec, .int .i64 d.2.2.2.1, .int .i64 d.2.2.2.2] 46))) (u := now) (g := w5.heap.size + 1) hd5 (by simp))
            have HBC := Lib.hid (HB.out.trans ((hb5.trans (hbl.mono hb5.size)).mono HB.out.size))
            have HXL := Lib.hid ((HXD.out.on hb5).on hbl); have HX2L := Lib.hid ((HX2.out.on hb5).on hbl)
            have HB5 := Lib.hid hb5; have HI5 := Lib.hid ho5; have HBL := Lib.hid hbl
            have HB3 := Lib.hid (show w.heap.size + 3 ≤ ((w5.alloc (.cells #[.slice za na ea, .slice zb nb eb, .slice zc nc ec, .int .i64 d.2.2.2.1, .int .i64 d.2.2.2.2] 46)).alloc (.cells #[.slice za na ea, .slice zb nb eb, .slice zc nc ec, .int .i64 d.2.2.2.1, .int .i64 d.2.2.2.2, .int .i64 now] 72)).heap.size from Nat.le_trans (Nat.le_trans HG2.out hb5.size) hbl.size)
            have HLM := Lib.hid (show (Lu.length + 1) * 96 ≤ 140737488355328 by have := HLR.out; omega)
            have HLX := Lib.hid (show Lu.length + 1 ≤ maxLen by have := HLR.out; unfold maxLen; omega)
            have HS5 := Lib.hid hs5
            have g1 : (w5.alloc (.cells #[.slice za na ea, .slice zb nb eb, .slice zc nc ec, .int .i64 d.2.2.2.1, .int .i64 d.2.2.2.2] 46)).cell? ⟨w1.heap.size, 1, none⟩ = some (.slice xu nu cu) := ((HXD.out.on hb5).on hal5).cell 1
            clear hi5 ho5 hs5 hd5 hb5 hal5 hbl e0 e1 e2 e3 e4
            go_wp2_with (at_builtin; refine wpList_appK kindCe (B := w.heap.size + 3) (l := Lu) (m := [((m5, now) : Cem)]) rfl _ _ rfl Try.underlying22 rfl rfl HOA.out HSO.out HLM.out HLX.out HB3.out ?_)
            intro v6 w6 ho6 hg6
            obtain ⟨x6, n6, c6, rfl, -, -, ho6⟩ := ho6.shapeN
            have hlt6 : ∀ g, (Value.slice xu nu cu).ownBlock = some g → w.heap.size + 3 ≤ g := fun g hg => (HOA.out.lt g hg).1
            have hX6 := HXL.out.grown hg6 (row_ne_blk HOA.out HXL.out (by decide))
            have z0 := hX6.cell 1; have z1 := hX6.frozen 1
            have HX6 := Lib.hid hX6; have HX26 := Lib.hid (HX2L.out.grown hg6 (fun e => by have := hlt6 _ e.symm; omega))
            have HO6 := Lib.hid (ce_grow HO.out HB5.out HI5.out HBL.out ho6 hg6 HG2.out)
            have HB6 := Lib.hid (HBC.out.grown hg6 HBC.out.size (fun g hg => by have := hlt6 g hg; omega))
            have HRS : Hid ((Lu ++ [((m5, now) : Cem)]).map kCe.strip = roomE ce (rmE l d.1) ++ [(d, now)]) := Lib.hid (by rw [List.map_append, HROOM.out]; show _ ++ [(kDz.strip m5, now)] = _; rw [HS5.out])
            clear ho6 hg6 hX6 hlt6 g1
            have HXD7 := Lib.hid (HX6.out.set 1 (.slice x6 n6 c6))
            have HX27 := Lib.hid (HX26.out.other (a := ⟨w1.heap.size, 1, none⟩) (by show w1.heap.size ≠ w.heap.size + 1 + 1; have := HG1.out; omega) (.slice x6 n6 c6))
            have HO7 : Hid (kLCe.Own (w.heap.size + 3) (w6.setCell ⟨w1.heap.size, 1, none⟩ (.slice x6 n6 c6)).heap.size (w6.setCell ⟨w1.heap.size, 1, none⟩ (.slice x6 n6 c6)) ⟨x6, n6, c6, Lu ++ [((m5, now) : Cem)]⟩) := Lib.hid (by rw [World.size_setCell]; exact own_setT noRow_Cs HO6.out HX6.out)
            have HB7 := Lib.hid (HB6.out.setCell (p := ⟨w1.heap.size, 1, none⟩) (by show w.heap.size ≤ w1.heap.size; have := HG1.out; omega) (.slice x6 n6 c6))
            have p0 : (w6.setCell ⟨w1.heap.size, 1, none⟩ (.slice x6 n6 c6)).cell? ⟨w1.heap.size, 0, none⟩ = some (.int .i64 ce) := HXD7.out.cell 0
            have p1 : (w6.setCell ⟨w1.heap.size, 1, none⟩ (.slice x6 n6 c6)).cell? ⟨w1.heap.size, 1, none⟩ = some (.slice x6 n6 c6) := HXD7.out.cell 1
            have r0 := HX27.out.frozen 0; have r1 := HX27.out.frozen 1; have r2 := HX27.out.cell 0; have r3 := HX27.out.cell 1
            have Z := Lib.hid ((HX27.out.set 0 (.int .i64 ce)).set 1 (.slice x6 n6 c6))
            have ZO := Lib.hid (own_setS (i := 1) (u := .slice x6 n6 c6) (own_setS (i := 0) (u := .int .i64 ce) HO7.out (g := w.heap.size + 1 + 1) (by omega)) (g := w.heap.size + 1 + 1) (by omega))
            have ZB := Lib.hid ((HB7.out.setCell (p := ⟨w.heap.size + 1 + 1, 0, none⟩) (by show w.heap.size ≤ w.heap.size + 1 + 1; omega) (.int .i64 ce)).setCell (p := ⟨w.heap.size + 1 + 1, 1, none⟩) (by show w.heap.size ≤ w.heap.size + 1 + 1; omega) (.slice x6 n6 c6))
            go_wp2_with fail
            refine bodyPost_ret (Ret.results_c rfl _ _ (w.heap.size + 1 + 1) [.int .i64 ce, .slice x6 n6 c6] rfl aggCn Z.out.cells) rfl ?_
            rw [HRES.out]
            exact ⟨_, rfl, cn_in ZO.out (by omega) HRS.out ZB.out.size, ZB.out⟩
        · obtain rfl : z = (k : Int) := by rw [← HZ.out]; exact e1
          have hkL : k < Lu.length := by rw [List.length_map] at hk; exact hk
          have HKL := Lib.hid hkL; have HNL := Lib.hid hnl; have HK1 := Lib.hid k1
          have hyes2 : isE d.1 (nth (Lu.map kCe.strip) k) = true := hyes
          have HRM2 : Hid (rmE ((Lu.eraseIdx k).map kCe.strip) d.1 = rmE l d.1) := Lib.hid (by
            rw [← HRM.out, ← rmE_erase (k := k) hk hyes2, erase_parts, erase_parts, List.map_append, List.map_take, List.map_drop])
          clear e1 hk hyes hyes2 hnl hkL
          go_wp2_with fail
          refine (l12Without xu nu cu Lu k _ HO.out.1.1.holds HKL.out HLU.out).mono ?_
          rintro e w4 ⟨xv, nv, cv, rfl, hov, hb4⟩
          have hOn : kLCe.Own (w.heap.size + 3) w4.heap.size w4 ⟨xv, nv, cv, Lu.eraseIdx k⟩ := Kd.sub noRow_kCe HO.out (List.eraseIdx_sublist _ _) (Sl.grown_of_below hb4 none) (fun g e => by cases e) (hov.mono HG2.out)
          have hX4 := HXD.out.on hb4
          have s0 := hX4.cell 1; have s1 := hX4.frozen 1
          have HLR : Hid ((Lu.eraseIdx k).length + 1 = Lu.length) := Lib.hid (by rw [List.length_eraseIdx, if_pos HKL.out]; have := HKL.out; omega)
          have HPR : Hid (∀ x ∈ (Lu.eraseIdx k).map kCe.strip, wtCe x ≤ 1200000) := Lib.hid (fun x hx => by
            obtain ⟨y, hy, rfl⟩ := List.mem_map.1 hx
            exact HPU.out _ (List.mem_map.2 ⟨y, List.mem_of_mem_eraseIdx hy, rfl⟩))
          replace HXD := Lib.hid (hX4.set 1 (.slice xv nv cv))
          replace HO := Lib.hid (show kLCe.Own (w.heap.size + 3) (w4.setCell ⟨w1.heap.size, 1, none⟩ (.slice xv nv cv)).heap.size (w4.setCell ⟨w1.heap.size, 1, none⟩ (.slice xv nv cv)) ⟨xv, nv, cv, Lu.eraseIdx k⟩ by rw [World.size_setCell]; exact own_setT noRow_Cs hOn hX4)
          replace HG2 := Lib.hid (show w.heap.size + 3 ≤ (w4.setCell ⟨w1.heap.size, 1, none⟩ (.slice xv nv cv)).heap.size by rw [World.size_setCell]; exact Nat.le_trans HG2.out hb4.size)
          replace HX0 := Lib.hid ((HX0.out.on hb4).other (a := ⟨w1.heap.size, 1, none⟩) (by show w1.heap.size ≠ w.heap.size; have := HG1.out; omega) (.slice xv nv cv))
          replace HX1 := Lib.hid ((HX1.out.on hb4).other (a := ⟨w1.heap.size, 1, none⟩) (by show w1.heap.size ≠ w.heap.size + 1; have := HG1.out; omega) (.slice xv nv cv)); replace HX2 := Lib.hid ((HX2.out.on hb4).other (a := ⟨w1.heap.size, 1, none⟩) (by show w1.heap.size ≠ w.heap.size + 1 + 1; have := HG1.out; omega) (.slice xv nv cv))
          replace HB := Lib.hid ((HB.out.trans (hb4.mono HB.out.size)).setCell (p := ⟨w1.heap.size, 1, none⟩) (by show w.heap.size ≤ w1.heap.size; have := HG1.out; omega) (.slice xv nv cv))
          obtain ⟨z2, hz2⟩ : ∃ z, ixL (isE d.1) ((Lu.eraseIdx k).map kCe.strip) = z := ⟨_, rfl⟩
          have HZ2 := Lib.hid hz2
          have p1 : (w4.setCell ⟨w1.heap.size, 1, none⟩ (.slice xv nv cv)).cell? ⟨w1.heap.size, 1, none⟩ = some (.slice xv nv cv) := HXD.out.cell 1
          have p2 : (w4.setCell ⟨w1.heap.size, 1, none⟩ (.slice xv nv cv)).cell? ⟨w.heap.size + 1, 0, none⟩ = some (.slice ya ma da) := HX1.out.cell 0
          clear hov hb4 hOn hX4 hz2 k1
          go_wp2_with fail
          refine (sFindE _ _ ((Lu.eraseIdx k).map kCe.strip) d.1 _ z2 HZ2.out ⟨⟨xv, nv, cv, Lu.eraseIdx k⟩, rfl, rfl, HO.out.holds⟩ (HGN.out.on HB.out) (by rw [List.length_map]; have := HLU.out; have := HLR.out; omega) HPR.out HNB.out).mono ?_
          rintro e w7 ⟨rfl, hb7⟩
          replace HX0 := Lib.hid (HX0.out.on hb7); replace HX1 := Lib.hid (HX1.out.on hb7); replace HX2 := Lib.hid (HX2.out.on hb7); replace HXD := Lib.hid (HXD.out.on hb7); replace HO := Lib.hid (HO.out.upto hb7); replace HB := Lib.hid (HB.out.trans (hb7.mono HB.out.size)); replace HG2 := Lib.hid (Nat.le_trans HG2.out hb7.size)
          clear hb7 s0 s1 p1 p2
          go_wp2_with fail
          go_roundw
          case rel => exact ⟨z2, xv, nv, cv, Lu.eraseIdx k, rfl, HZ2, HRM2, Lib.hid (by have := HLU.out; have := HLR.out; omega), HPR, HO, HXD, HX1, HX2, HX0, HB, HG2⟩
          case measure =>
            show lenAt _ _ < lenAt _ _
            rw [lenAt_eq (HXD.out.cell 1), lenAt_eq HK1.out, show nv = (Lu.eraseIdx k).length from HO.out.1.1.holds.lenEq, HNL.out]
            have := HLR.out
            omega
end Go.Proofs.Ythfljbbigpophaa.Row
/- The program's CacheData. No conditions but that lengths fit. -/
namespace Go.Proofs.Ythfljbbigpophaa.Row
open Go.ChangeShapes Go.WideShapes Go.ChangeAt Go.RowKit Go.Instr
set_option linter.unusedVariables false
set_option maxRecDepth 100000
set_option maxHeartbeats 8000000 in
theorem implCacheData (V U : Value) (x : Cnt) (d : Dzt) (now : Int) (w : World) (h : kCn.At w V x) (g : kDz.At w U d) (hp : FitC x) (hd : wtDz d ≤ 1200000) :
    Calls Try.prog 23 #[V, U, .int .i64 now] w fun e w' => ∃ U, e = .returned U ∧ kCn.In w.heap.size w'.heap.size w' U (cacheC x d now) ∧ Below w.heap.size w w' := by
  obtain ⟨ya, ma, da, yb, mb, db, yc, mc, dc_, rfl, g⟩ := kDz_shapeA g
  have hgn : kN.At w (.agg #[.slice ya ma da]) d.1 := by
    obtain ⟨a0, a1, a2, b0, b1, b2, d0, d1, d2, e, g0, -, -⟩ := kDz_at g
    simp only [Value.agg.injEq, Array.mk.injEq, List.cons.injEq, Value.slice.injEq, and_true] at e
    obtain ⟨⟨rfl, rfl, rfl⟩, -⟩ := e
    exact g0
  obtain ⟨x1_0, n1_0, c1_0, rfl, g1⟩ := kCn_at h
  clear h
  obtain ⟨cc, l⟩ := x
  have hfit := hp
  obtain ⟨hl, hp7⟩ := hp.fields
  clear hp
  have hp := hp7
  clear hp7
  dsimp only at g1 hl hp ⊢
  have b0 := (Below.refl w.heap.size w).alloc (Nat.le_refl _) (.cells #[.int .i64 cc, .slice x1_0 n1_0 c1_0] 24)
  have b1 := (Below.refl (w.alloc (.cells #[.int .i64 cc, .slice x1_0 n1_0 c1_0] 24)).heap.size (w.alloc (.cells #[.int .i64 cc, .slice x1_0 n1_0 c1_0] 24))).alloc (Nat.le_refl _) (.cells #[.slice ya ma da, .slice yb mb db, .slice yc mc dc_, .int .i64 d.2.2.2.1, .int .i64 d.2.2.2.2] 46)
  have b2 := (Below.refl ((w.alloc (.cells #[.int .i64 cc, .slice x1_0 n1_0 c1_0] 24)).alloc (.cells #[.slice ya ma da, .slice yb mb db, .slice yc mc dc_, .int .i64 d.2.2.2.1, .int .i64 d.2.2.2.2] 46)).heap.size ((w.alloc (.cells #[.int .i64 cc, .slice x1_0 n1_0 c1_0] 24)).alloc (.cells #[.slice ya ma da, .slice yb mb db, .slice yc mc dc_, .int .i64 d.2.2.2.1, .int .i64 d.2.2.2.2] 46))).alloc (Nat.le_refl _) (.cells #[.int .i64 0, .slice none 0 0] 24)
  have b012 := (b0.trans (b1.mono b0.size)).trans (b2.mono (Nat.le_trans b0.size b1.size))
  have hX0 := ((Ret.Blk.new w #[.int .i64 cc, .slice x1_0 n1_0 c1_0] 24).on b1).on b2
  have hX1 := (Ret.Blk.new' (w := (w.alloc (.cells #[.int .i64 cc, .slice x1_0 n1_0 c1_0] 24))) (n := w.heap.size + 1) #[.slice ya ma da, .slice yb mb db, .slice yc mc dc_, .int .i64 d.2.2.2.1, .int .i64 d.2.2.2.2] 46 (by simp)).on b2
  have hX2 := Ret.Blk.new' (w := ((w.alloc (.cells #[.int .i64 cc, .slice x1_0 n1_0 c1_0] 24)).alloc (.cells #[.slice ya ma da, .slice yb mb db, .slice yc mc dc_, .int .i64 d.2.2.2.1, .int .i64 d.2.2.2.2] 46))) (n := w.heap.size + 1 + 1) #[.int .i64 0, .slice none 0 0] 24 (by simp)
  have hS3 : (((w.alloc (.cells #[.int .i64 cc, .slice x1_0 n1_0 c1_0] 24)).alloc (.cells #[.slice ya ma da, .slice yb mb db, .slice yc mc dc_, .int .i64 d.2.2.2.1, .int .i64 d.2.2.2.2] 46)).alloc (.cells #[.int .i64 0, .slice none 0 0] 24)).heap.size = w.heap.size + 3 := by simp
  have HA := Lib.hid (cn_of (cc := cc) (g1.on b012)); have HG := Lib.hid g; have HGN := Lib.hid hgn; have HDB := Lib.hid hd
  have q0 : (((w.alloc (.cells #[.int .i64 cc, .slice x1_0 n1_0 c1_0] 24)).alloc (.cells #[.slice ya ma da, .slice yb mb db, .slice yc mc dc_, .int .i64 d.2.2.2.1, .int .i64 d.2.2.2.2] 46)).alloc (.cells #[.int .i64 0, .slice none 0 0] 24)).cell? ⟨w.heap.size, 0, none⟩ = some (.int .i64 cc) := hX0.cell 0
  have q1 : (((w.alloc (.cells #[.int .i64 cc, .slice x1_0 n1_0 c1_0] 24)).alloc (.cells #[.slice ya ma da, .slice yb mb db, .slice yc mc dc_, .int .i64 d.2.2.2.1, .int .i64 d.2.2.2.2] 46)).alloc (.cells #[.int .i64 0, .slice none 0 0] 24)).cell? ⟨w.heap.size, 1, none⟩ = some (.slice x1_0 n1_0 c1_0) := hX0.cell 1
  obtain ⟨T, hT⟩ : ∃ T, cacheC (cc, l) d now = T := ⟨_, rfl⟩
  rw [hT]
  have HTT := Lib.hid hT; clear hT
  go_enter Try.func23, Try.ntmps23
  go_wp2_with fail
  refine (implCloneStore _ (cc, l) _ HA.out hfit).mono ?_
  rintro e w1 ⟨U, rfl, hi, hb1⟩
  obtain ⟨m, rfl, hs, hi⟩ := hi.split
  obtain ⟨ce, r⟩ := m
  obtain ⟨xu, nu, cu, Lu⟩ := r
  obtain ⟨rfl, hsl⟩ : ce = cc ∧ Lu.map kCe.strip = l := by
    have e1 : (ce, Lu.map kCe.strip) = (cc, l) := hs
    injection e1 with e1 e2
    exact ⟨e1, e2⟩
  obtain ⟨-, hi2, -⟩ := Kd.Own.parts hi
  rw [hS3] at hi2
  rw [show kCn.val ((ce, (⟨xu, nu, cu, Lu⟩ : Rw Cem)) : Cnm) = .agg #[.int .i64 ce, .slice xu nu cu] from rfl]
  have hal := (Below.refl w1.heap.size w1).alloc (Nat.le_refl _) (.cells #[.int .i64 ce, .slice xu nu cu] 76)
  have HG1 := Lib.hid (show w.heap.size + 3 ≤ w1.heap.size by rw [← hS3]; exact hb1.size)
  have HX0 := Lib.hid ((hX0.on hb1).on hal); have HX1 := Lib.hid ((hX1.on hb1).on hal); have HX2 := Lib.hid ((hX2.on hb1).on hal)
  have HXD := Lib.hid (Ret.Blk.new w1 #[.int .i64 ce, .slice xu nu cu] 76)
  have HO := Lib.hid (hi2.upto hal); have HSL := Lib.hid hsl
  have HB := Lib.hid (b012.trans ((hb1.trans (hal.mono hb1.size)).mono b012.size))
  have HLU := Lib.hid (show Lu.length ≤ 1100000 by have h9 := hl; rw [← hsl, List.length_map] at h9; exact h9)
  have HPU := Lib.hid (show ∀ x ∈ Lu.map kCe.strip, wtCe x ≤ 1200000 by rw [hsl]; exact hp)
  clear hi hi2 hs hsl hb1 hal hX0 hX1 hX2 b0 b1 b2 b012 g1 g hgn hd HA hfit hl hp hS3 q0 q1
  by_cases hc1 : ce < 1
  · have hc2 : ¬ (1 : Int) ≤ ce := by omega
    have HRES : Hid (T = (ce, l)) := Lib.hid (by rw [← HTT.out]; unfold cacheC; exact if_pos hc1)
    have p0 : (w1.alloc (.cells #[.int .i64 ce, .slice xu nu cu] 76)).cell? ⟨w1.heap.size, 0, none⟩ = some (.int .i64 ce) := HXD.out.cell 0
    have p1 : (w1.alloc (.cells #[.int .i64 ce, .slice xu nu cu] 76)).cell? ⟨w1.heap.size, 1, none⟩ = some (.slice xu nu cu) := HXD.out.cell 1
    have r0 := HX2.out.frozen 0; have r1 := HX2.out.frozen 1; have r2 := HX2.out.cell 0; have r3 := HX2.out.cell 1
    have Z := Lib.hid ((HX2.out.set 0 (.int .i64 ce)).set 1 (.slice xu nu cu))
    have ZO := Lib.hid (own_setS (i := 1) (u := .slice xu nu cu) (own_setS (i := 0) (u := .int .i64 ce) HO.out (g := w.heap.size + 1 + 1) (by omega)) (g := w.heap.size + 1 + 1) (by omega))
    have ZB := Lib.hid ((HB.out.setCell (p := ⟨w.heap.size + 1 + 1, 0, none⟩) (by show w.heap.size ≤ w.heap.size + 1 + 1; omega) (.int .i64 ce)).setCell (p := ⟨w.heap.size + 1 + 1, 1, none⟩) (by show w.heap.size ≤ w.heap.size + 1 + 1; omega) (.slice xu nu cu))
    go_wp2_with fail
    refine bodyPost_ret (Ret.results_c rfl _ _ (w.heap.size + 1 + 1) [.int .i64 ce, .slice xu nu cu] rfl aggCn Z.out.cells) rfl ?_
    rw [HRES.out]
    exact ⟨_, rfl, cn_in ZO.out (by omega) HSL.out ZB.out.size, ZB.out⟩
  · have hc2 : (1 : Int) ≤ ce := by omega
    obtain ⟨v, hv⟩ : ∃ v, validD d = v := ⟨_, rfl⟩
    have HV := Lib.hid hv; clear hv
    have k0 : (w1.alloc (.cells #[.int .i64 ce, .slice xu nu cu] 76)).cell? ⟨w1.heap.size, 0, none⟩ = some (.int .i64 ce) := HXD.out.cell 0
    have e0 : (w1.alloc (.cells #[.int .i64 ce, .slice xu nu cu] 76)).cell? ⟨w.heap.size + 1, 0, none⟩ = some (.slice ya ma da) := HX1.out.cell 0
    have e1 : (w1.alloc (.cells #[.int .i64 ce, .slice xu nu cu] 76)).cell? ⟨w.heap.size + 1, 1, none⟩ = some (.slice yb mb db) := HX1.out.cell 1
    have e2 : (w1.alloc (.cells #[.int .i64 ce, .slice xu nu cu] 76)).cell? ⟨w.heap.size + 1, 2, none⟩ = some (.slice yc mc dc_) := HX1.out.cell 2
    have e3 : (w1.alloc (.cells #[.int .i64 ce, .slice xu nu cu] 76)).cell? ⟨w.heap.size + 1, 3, none⟩ = some (.int .i64 d.2.2.2.1) := HX1.out.cell 3
    have e4 : (w1.alloc (.cells #[.int .i64 ce, .slice xu nu cu] 76)).cell? ⟨w.heap.size + 1, 4, none⟩ = some (.int .i64 d.2.2.2.2) := HX1.out.cell 4
    go_wp2_with fail
    refine (iValZ v HV.out (HG.out.on HB.out) (Nat.le_trans HDB.out (by decide))).mono ?_
    rintro e w2 ⟨rfl, hb2⟩
    have HG2 := Lib.hid (Nat.le_trans HG1.out (Nat.le_trans (by simp) hb2.size) : w.heap.size + 3 ≤ w2.heap.size)
    replace HX1 := Lib.hid (HX1.out.on hb2); replace HX2 := Lib.hid (HX2.out.on hb2); replace HXD := Lib.hid (HXD.out.on hb2); replace HO := Lib.hid (HO.out.upto hb2); replace HB := Lib.hid (HB.out.trans (hb2.mono HB.out.size))
    clear hb2 k0 e0 e1 e2 e3 e4 HX0
    cases v with
    | false =>
      have HRES : Hid (T = (ce, l)) := Lib.hid (by rw [← HTT.out]; unfold cacheC; dsimp only; rw [if_neg (show ¬ ce < 1 by omega), HV.out]; rfl)
      have p0 : w2.cell? ⟨w1.heap.size, 0, none⟩ = some (.int .i64 ce) := HXD.out.cell 0
      have p1 : w2.cell? ⟨w1.heap.size, 1, none⟩ = some (.slice xu nu cu) := HXD.out.cell 1
      have r0 := HX2.out.frozen 0; have r1 := HX2.out.frozen 1; have r2 := HX2.out.cell 0; have r3 := HX2.out.cell 1
      have Z := Lib.hid ((HX2.out.set 0 (.int .i64 ce)).set 1 (.slice xu nu cu))
      have ZO := Lib.hid (own_setS (i := 1) (u := .slice xu nu cu) (own_setS (i := 0) (u := .int .i64 ce) HO.out (g := w.heap.size + 1 + 1) (by omega)) (g := w.heap.size + 1 + 1) (by omega))
      have ZB := Lib.hid ((HB.out.setCell (p := ⟨w.heap.size + 1 + 1, 0, none⟩) (by show w.heap.size ≤ w.heap.size + 1 + 1; omega) (.int .i64 ce)).setCell (p := ⟨w.heap.size + 1 + 1, 1, none⟩) (by show w.heap.size ≤ w.heap.size + 1 + 1; omega) (.slice xu nu cu))
      go_wp2_with fail
      refine bodyPost_ret (Ret.results_c rfl _ _ (w.heap.size + 1 + 1) [.int .i64 ce, .slice xu nu cu] rfl aggCn Z.out.cells) rfl ?_
      rw [HRES.out]
      exact ⟨_, rfl, cn_in ZO.out (by omega) HSL.out ZB.out.size, ZB.out⟩
    | true =>
      have HRES : Hid (T = (ce, roomE ce (rmE l d.1) ++ [(d, now)])) := Lib.hid (by rw [← HTT.out]; unfold cacheC; dsimp only; rw [if_neg (show ¬ ce < 1 by omega), HV.out]; rfl)
      have e0 : w2.cell? ⟨w.heap.size + 1, 0, none⟩ = some (.slice ya ma da) := HX1.out.cell 0
      go_wp2_with fail
      refine (iNamed ya ma da _).mono ?_
      rintro e w3 ⟨gN, rfl, hgN, hXN, hb3⟩
      replace HX1 := Lib.hid (HX1.out.on hb3); replace HX2 := Lib.hid (HX2.out.on hb3); replace HXD := Lib.hid (HXD.out.on hb3)
      have HORow := Lib.hid (fun g hg => (HO.out.1.1.lt g hg) : ∀ g, (Value.slice xu nu cu).ownBlock = some g → w.heap.size + 3 ≤ g ∧ g < w2.heap.size)
      replace HO := Lib.hid (HO.out.upto hb3); replace HB := Lib.hid (HB.out.trans (hb3.mono HB.out.size)); replace HG2 := Lib.hid (Nat.le_trans HG2.out hb3.size)
      have HCL : Hid (ClosR Try.prog kCe 95 #[.pointer (some ⟨gN, 0, none⟩)] (isE d.1) (fun x => wtCe x ≤ 1200000) w3 (Value.slice xu nu cu).ownBlock) := Lib.hid (closNd gN ya ma da d.1 w3 _ (fun er => by have := (HORow.out _ er.symm).2; omega) hXN (fun W hW => HGN.out.on (HB.out.grown hW HB.out.size (fun g hg => by have := (HORow.out g hg).1; omega))) (wtDz_lens d HDB.out).1)
      clear hb3 hXN hgN e0 HORow
      go_wp2_with fail
      refine (removeNd ⟨gN, 0, none⟩ (isE d.1) (fun x => wtCe x ≤ 1200000) (w.heap.size + 3) (w.heap.size + 3) w1.heap.size ce xu nu cu Lu _ HXD.out HO.out HLU.out HPU.out HCL.out (Nat.le_refl _) HG1.out HG2.out).mono ?_
      rintro e w4 ⟨rfl, ad', n', cap', L', hx4, ho4, hs4, hl4, hb4⟩
      have HXD4 := Lib.hid hx4; have HO4 := Lib.hid ho4; have HL4 := Lib.hid (Nat.le_trans hl4 HLU.out)
      have HS4 : Hid (L'.map kCe.strip = rmE l d.1) := Lib.hid (by rw [hs4, HSL.out]; rfl)
      replace HX1 := Lib.hid (blk_lowC HX1.out hb4 (by omega)); replace HX2 := Lib.hid (blk_lowC HX2.out hb4 (by omega))
      replace HB := Lib.hid (HB.out.trans (hb4.mono (Nat.le_add_right _ _))); replace HG2 := Lib.hid (Nat.le_trans HG2.out hb4.size)
      clear hx4 ho4 hs4 hl4 hb4 HXD HO HCL HLU HPU HSL
      have HF : Hid (Five w4 (w.heap.size + 1) 0 (.slice ya ma da) (.slice yb mb db) (.slice yc mc dc_) d.2.2.2.1 d.2.2.2.2) := Lib.hid ⟨HX1.out.cell 0, HX1.out.cell 1, HX1.out.cell 2, HX1.out.cell 3, HX1.out.cell 4⟩
      go_wp2_with fail
      refine (iClnZ (w.heap.size + 1) 0 _ _ _ d _ HF.out (HG.out.on HB.out) (Nat.le_trans HDB.out (by decide))).mono ?_
      rintro e w5 ⟨U, rfl, hi5, hb5⟩
      obtain ⟨m5, za, na, ea, zb, nb, eb, zc, nc, ec, rfl, hs5, hd5, ho5⟩ := kDz_split hi5
      replace HX2 := Lib.hid (HX2.out.on hb5); replace HXD4 := Lib.hid (HXD4.out.on hb5)
      have HM : Hid (kCe.Own (w.heap.size + 3) w5.heap.size w5 ((m5, now) : Cem)) := Lib.hid (kCe_own (ho5.mono HG2.out (Nat.le_refl _)) now (Nat.le_trans HG2.out hb5.size))
      have HDJ : Hid (∀ g ∈ kCe.blocks ((m5, now) : Cem), g ∉ L'.flatMap kCe.blocks) := Lib.hid (fun g hg hgm => by
        have h1 : g ∈ kDz.blocks m5 := by
          have h2 : g ∈ kDz.blocks m5 ++ kInt.blocks now := hg
          rcases List.mem_append.1 h2 with h2 | h2
          · exact h2
          · cases h2
        have h3 := (ho5.lt g h1).1
        have h4 := (HO4.out.lt g (List.mem_append_right _ hgm)).2.1
        omega)
      have HCS : Hid (kCe.cells ((m5, now) : Cem) = [.slice za na ea, .slice zb nb eb, .slice zc nc ec, .int .i64 d.2.2.2.1, .int .i64 d.2.2.2.2, .int .i64 now]) := Lib.hid (by show kDz.cells m5 ++ kInt.cells now = _; rw [hd5]; rfl)
      have HST : Hid (kCe.strip ((m5, now) : Cem) = (d, now)) := Lib.hid (Prod.ext hs5 rfl)
      replace HO4 := Lib.hid (HO4.out.upto hb5); replace HB := Lib.hid (HB.out.trans (hb5.mono HB.out.size)); replace HG2 := Lib.hid (Nat.le_trans HG2.out hb5.size)
      clear hi5 ho5 hs5 hd5 hb5 HF
      go_wp2_with fail
      refine (implAdd (w.heap.size + 3) (w.heap.size + 3) w1.heap.size ce ad' n' cap' L' (d, now) (m5, now) za na ea zb nb eb zc nc ec _ HXD4.out HO4.out HL4.out hc2 HST.out HCS.out HM.out HDJ.out (Nat.le_refl _) HG1.out HG2.out).mono ?_
      rintro e w6 ⟨rfl, ad6, n6, cap6, L6, hx6, ho6, hs6, hb6⟩
      have HXD6 := Lib.hid hx6; have HO6 := Lib.hid ho6
      have HS6 : Hid (L6.map kCe.strip = roomE ce (rmE l d.1) ++ [(d, now)]) := Lib.hid (by rw [hs6, HS4.out])
      have HX26 := Lib.hid (blk_lowC HX2.out hb6 (by omega)); have HB6 := Lib.hid (HB.out.trans (hb6.mono (Nat.le_add_right _ _)))
      clear hx6 ho6 hs6 hb6 HX2 HB
      have p0 : w6.cell? ⟨w1.heap.size, 0, none⟩ = some (.int .i64 ce) := HXD6.out.cell 0
      have p1 : w6.cell? ⟨w1.heap.size, 1, none⟩ = some (.slice ad6 n6 cap6) := HXD6.out.cell 1
      have r0 := HX26.out.frozen 0; have r1 := HX26.out.frozen 1; have r2 := HX26.out.cell 0; have r3 := HX26.out.cell 1
      have Z := Lib.hid ((HX26.out.set 0 (.int .i64 ce)).set 1 (.slice ad6 n6 cap6))
      have ZO := Lib.hid (own_setS (i := 1) (u := .slice ad6 n6 cap6) (own_setS (i := 0) (u := .int .i64 ce) HO6.out (g := w.heap.size + 1 + 1) (by omega)) (g := w.heap.size + 1 + 1) (by omega))
      have ZB := Lib.hid ((HB6.out.setCell (p := ⟨w.heap.size + 1 + 1, 0, none⟩) (by show w.heap.size ≤ w.heap.size + 1 + 1; omega) (.int .i64 ce)).setCell (p := ⟨w.heap.size + 1 + 1, 1, none⟩) (by show w.heap.size ≤ w.heap.size + 1 + 1; omega) (.slice ad6 n6 cap6))
      go_wp2_with fail
      refine bodyPost_ret (Ret.results_c rfl _ _ (w.heap.size + 1 + 1) [.int .i64 ce, .slice ad6 n6 cap6] rfl aggCn Z.out.cells) rfl ?_
      rw [HRES.out]
      exact ⟨_, rfl, cn_in ZO.out (by omega) HS6.out ZB.out.size, ZB.out⟩
end Go.Proofs.Ythfljbbigpophaa.Row
/- A result laid in a variable that was made before it: all that was there is kept. No conditions. -/
namespace Go.Proofs.Ythfljbbigpophaa.Row
open Go.ChangeShapes Go.WideShapes Go.ChangeAt Go.RowKit Go.Instr
set_option linter.unusedVariables false
set_option maxRecDepth 100000
theorem noRow_kCn12 : kCn.NoRow 24 := Kd.noRow_scalar.pair (noRow_kLCe _ (by decide) (by decide) (by decide))
theorem size_two12 {w : World} {g : Nat} {a b : Value} : ((w.setCell ⟨g, 0, none⟩ (a)).setCell ⟨g, 1, none⟩ (b)).heap.size = w.heap.size := by simp
theorem size_five12 {w : World} {g : Nat} {a b c d e : Value} : (((((w.setCell ⟨g, 0, none⟩ (a)).setCell ⟨g, 1, none⟩ (b)).setCell ⟨g, 2, none⟩ (c)).setCell ⟨g, 3, none⟩ (d)).setCell ⟨g, 4, none⟩ (e)).heap.size = w.heap.size := by simp
theorem two_facts12 {B B' : Nat} {w wx : World} {g : Nat} {V : Value} {x : Cnt} {a0 b0 a b : Value} (hg : B ≤ g) (hB : B ≤ B') (hx : Ret.Blk wx g #[a0, b0] 24) (hin : kCn.In B' wx.heap.size wx V x) (hb : Below B w wx) :
    Below B w ((wx.setCell ⟨g, 0, none⟩ (a)).setCell ⟨g, 1, none⟩ (b)) ∧ kCn.In B ((wx.setCell ⟨g, 0, none⟩ (a)).setCell ⟨g, 1, none⟩ (b)).heap.size ((wx.setCell ⟨g, 0, none⟩ (a)).setCell ⟨g, 1, none⟩ (b)) V x ∧ Ret.Blk ((wx.setCell ⟨g, 0, none⟩ (a)).setCell ⟨g, 1, none⟩ (b)) g #[a, b] 24 := by
  obtain ⟨m, rfl, rfl, ho⟩ := (hin.mono hB (Nat.le_refl _)).split
  have hx0 := hx.set 0 a
  refine ⟨(hb.setCell (p := ⟨g, 0, none⟩) hg a).setCell (p := ⟨g, 1, none⟩) hg b, ?_, hx0.set 1 b⟩
  rw [size_two12]
  exact (own_setT (i := 1) (u := b) noRow_kCn12 (own_setT (i := 0) (u := a) noRow_kCn12 ho hx) hx0).in
theorem five_facts12 {B B' : Nat} {w wx : World} {g : Nat} {V : Value} {x : Dzt} {a0 b0 c0 d0 e0 a b c d e : Value} (hg : B ≤ g) (hB : B ≤ B') (hx : Ret.Blk wx g #[a0, b0, c0, d0, e0] 46) (hin : kDz.In B' wx.heap.size wx V x) (hb : Below B w wx) :
    Below B w (((((wx.setCell ⟨g, 0, none⟩ (a)).setCell ⟨g, 1, none⟩ (b)).setCell ⟨g, 2, none⟩ (c)).setCell ⟨g, 3, none⟩ (d)).setCell ⟨g, 4, none⟩ (e)) ∧ kDz.In B (((((wx.setCell ⟨g, 0, none⟩ (a)).setCell ⟨g, 1, none⟩ (b)).setCell ⟨g, 2, none⟩ (c)).setCell ⟨g, 3, none⟩ (d)).setCell ⟨g, 4, none⟩ (e)).heap.size (((((wx.setCell ⟨g, 0, none⟩ (a)).setCell ⟨g, 1, none⟩ (b)).setCell ⟨g, 2, none⟩ (c)).setCell ⟨g, 3, none⟩ (d)).setCell ⟨g, 4, none⟩ (e)) V x ∧ Ret.Blk (((((wx.setCell ⟨g, 0, none⟩ (a)).setCell ⟨g, 1, none⟩ (b)).setCell ⟨g, 2, none⟩ (c)).setCell ⟨g, 3, none⟩ (d)).setCell ⟨g, 4, none⟩ (e)) g #[a, b, c, d, e] 46 := by
  obtain ⟨m, rfl, rfl, ho⟩ := (hin.mono hB (Nat.le_refl _)).split
  have hN : kDz.NoRow 46 := noRow_kDz _ (by decide) (by decide)
  have x0 := hx.set 0 a
  have x1 := x0.set 1 b
  have x2 := x1.set 2 c
  have x3 := x2.set 3 d
  refine ⟨((((hb.setCell (p := ⟨g, 0, none⟩) hg a).setCell (p := ⟨g, 1, none⟩) hg b).setCell (p := ⟨g, 2, none⟩) hg c).setCell (p := ⟨g, 3, none⟩) hg d).setCell (p := ⟨g, 4, none⟩) hg e, ?_, x3.set 4 e⟩
  rw [size_five12]
  exact (own_setT (i := 4) (u := e) hN (own_setT (i := 3) (u := d) hN (own_setT (i := 2) (u := c) hN (own_setT (i := 1) (u := b) hN (own_setT (i := 0) (u := a) hN ho hx) x0) x1) x2) x3).in
theorem cell_five12 {w : World} {p g i : Nat} {u a b c d e : Value} (h : w.cell? ⟨p, i, none⟩ = some u) (hn : g ≠ p) : (((((w.setCell ⟨g, 0, none⟩ (a)).setCell ⟨g, 1, none⟩ (b)).setCell ⟨g, 2, none⟩ (c)).setCell ⟨g, 3, none⟩ (d)).setCell ⟨g, 4, none⟩ (e)).cell? ⟨p, i, none⟩ = some u := by
  have st : ∀ {w1 : World} (j : Nat) (v : Value), w1.cell? ⟨p, i, none⟩ = some u → (w1.setCell ⟨g, j, none⟩ v).cell? ⟨p, i, none⟩ = some u := fun {w1} j v h1 => (World.cell?_of_block (w := w1) (Go.RowKit.Below.heap_setCell _ _ _ _ (fun e => hn e.symm))).trans h1
  exact st 4 _ (st 3 _ (st 2 _ (st 1 _ (st 0 _ h))))
end Go.Proofs.Ythfljbbigpophaa.Row
/- Regions of the exact law on CacheData: arguments copied, the call, the result laid in a variable, whatever order is drawn. No conditions. -/
namespace Go.Proofs.Ythfljbbigpophaa.Row
open Go.ChangeShapes Go.WideShapes Go.ChangeAt Go.RowKit Go.Instr
set_option linter.unusedVariables false
set_option maxRecDepth 100000
set_option maxRecDepth 100000 in
set_option maxHeartbeats 4000000 in
theorem specR10 {Q : Exit → Act → World → Prop} {v0 v1 v5 v6 v7 v8 v9 v10 v11 v12 v13 v14 v15 v16 v17 v18 v19 v20 v21 v22 v23 v24 v25 v26 v27 v28 v29 v30 v31 v32 v33 v34 v35 v36 v37 v38 v39 v40 v41 v42 v43 v44 v45 v46 v47 v48 v49 v50 v51 v52 v53 v54 v55 v56 v57 v58 v59 v60 v61 v62 v63 v64 v65 v66 v67 v68 v69 v70 v71 v72 v73 v74 v75 v76 v77 v78 v79 v80 v81 v82 v83 v84 v85 v86 v87 v88 v89 v90 v91 v92 v93 v94 v95 v96 : Value} {w : World} {p q nl cl na ca nb cb nc cc_ : Nat} {xl xa xb xc : Option Addr} {l0 : Cnt} {l1 : Dt} {a2 : Int} (H0 : Hid (kCn.At w (.agg #[.int .i64 l0.1, .slice xl nl cl]) l0)) (H1 : Hid (kD.At w (.agg #[.slice xa na ca, .slice xb nb cb, .slice xc nc cc_, .int .i64 l1.2.2.2.1, .int .i64 l1.2.2.2.2]) l1)) (Z0 : wtCn l0 ≤ 1048576) (Z1 : bulkD l1 ≤ 1048576) (KC0 : Hid (w.cell? ⟨p, 0, none⟩ = some (.int .i64 l0.1))) (KC1 : Hid (w.cell? ⟨p, 1, none⟩ = some (.slice xl nl cl))) (KN0 : Hid (w.cell? ⟨q, 0, none⟩ = some (.slice xa na ca))) (KN1 : Hid (w.cell? ⟨q, 1, none⟩ = some (.slice xb nb cb))) (KN2 : Hid (w.cell? ⟨q, 2, none⟩ = some (.slice xc nc cc_))) (KN3 : Hid (w.cell? ⟨q, 3, none⟩ = some (.int .i64 l1.2.2.2.1))) (KN4 : Hid (w.cell? ⟨q, 4, none⟩ = some (.int .i64 l1.2.2.2.2)))
  (hQ : ∀ (u26 u27 u28 u29 u30 u31 : Value) (gD mb db : Nat) (yb : Option Addr)  (wx : World), w.heap.size ≤ gD → Ret.Blk wx gD #[.int .i64 0, .slice none 0 0] 24 → kCn.In w.heap.size wx.heap.size wx (.agg #[.int .i64 (cacheC l0 l1 a2).1, .slice yb mb db]) (cacheC l0 l1 a2) → Below w.heap.size w wx → Q .normal ⟨#[v0, v1, .int .i64 a2, .pointer (some ⟨p, 0, none⟩), .pointer (some ⟨q, 0, none⟩), v5, v6, v7, .pointer (some ⟨gD, 0, none⟩), v9, v10, v11, v12, v13, v14, v15, v16, v17, v18, v19, v20, v21, v22, v23, v24, v25, u26, u27, u28, u29, u30, u31, v32, v33, v34, v35, v36, v37, v38, v39, v40, v41, v42, v43, v44, v45, v46, v47, v48, v49, v50, v51, v52, v53, v54, v55, v56, v57, v58, v59, v60, v61, v62, v63, v64, v65, v66, v67, v68, v69, v70, v71, v72, v73, v74, v75, v76, v77, v78, v79, v80, v81, v82, v83, v84, v85, v86, v87, v88, v89, v90, v91, v92, v93, v94, v95, v96], []⟩ (((wx).setCell ⟨gD, 0, none⟩ (.int .i64 (cacheC l0 l1 a2).1)).setCell ⟨gD, 1, none⟩ (.slice yb mb db))) :
  (Code.region 8 #[⟨some 26, .load 31 (.tmp 3), 31, "exact.go:6983", #[], none⟩,
   ⟨some 27, .call ⟨.value (.func 18), #[.tmp 26], #[31]⟩, 24, "exact.go:6983", #[⟨0, .data⟩], none⟩,
   ⟨some 28, .load 41 (.tmp 4), 41, "exact.go:6983", #[], none⟩,
   ⟨some 29, .call ⟨.value (.func 22), #[.tmp 28], #[41]⟩, 46, "exact.go:6983", #[⟨2, .data⟩, ⟨1, .chain⟩], none⟩,
   ⟨some 30, .move (.tmp 2), 3, "exact.go:6983", #[], none⟩,
   ⟨some 31, .call ⟨.value (.func 21), #[.tmp 27, .tmp 29, .tmp 30], #[24, 46, 3]⟩, 24, "exact.go:6983", #[⟨1, .data⟩, ⟨3, .data⟩, ⟨4, .data⟩, ⟨3, .chain⟩], none⟩,
   ⟨some 8, .alloc 24, 0, "exact.go:6983", #[], none⟩,
   ⟨none, .store 24 (.tmp 8) (.tmp 31), 0, "exact.go:6983", #[⟨6, .data⟩, ⟨5, .data⟩, ⟨5, .chain⟩, ⟨0, .phase⟩, ⟨1, .phase⟩, ⟨2, .phase⟩, ⟨3, .phase⟩, ⟨4, .phase⟩, ⟨5, .phase⟩, ⟨6, .phase⟩], none⟩] true).wp Try.prog Q ⟨#[v0, v1, .int .i64 a2, .pointer (some ⟨p, 0, none⟩), .pointer (some ⟨q, 0, none⟩), v5, v6, v7, v8, v9, v10, v11, v12, v13, v14, v15, v16, v17, v18, v19, v20, v21, v22, v23, v24, v25, v26, v27, v28, v29, v30, v31, v32, v33, v34, v35, v36, v37, v38, v39, v40, v41, v42, v43, v44, v45, v46, v47, v48, v49, v50, v51, v52, v53, v54, v55, v56, v57, v58, v59, v60, v61, v62, v63, v64, v65, v66, v67, v68, v69, v70, v71, v72, v73, v74, v75, v76, v77, v78, v79, v80, v81, v82, v83, v84, v85, v86, v87, v88, v89, v90, v91, v92, v93, v94, v95, v96], []⟩ w := by
 have HQ := Lib.hid hQ; clear hQ
 have hdr : Below w.heap.size w w.drew := (Below.refl _ _).drew
 have BB := Lib.hid hdr
 refine wp_region_noPanic ?_
 refine wp_region_held_drew (S := (fun w' => w'.cell? ⟨p, 0, none⟩ = some (.int .i64 l0.1) ∧ w'.cell? ⟨p, 1, none⟩ = some (.slice xl nl cl) ∧ w'.cell? ⟨q, 0, none⟩ = some (.slice xa na ca) ∧ w'.cell? ⟨q, 1, none⟩ = some (.slice xb nb cb) ∧ w'.cell? ⟨q, 2, none⟩ = some (.slice xc nc cc_) ∧ w'.cell? ⟨q, 3, none⟩ = some (.int .i64 l1.2.2.2.1) ∧ w'.cell? ⟨q, 4, none⟩ = some (.int .i64 l1.2.2.2.2))) (by kernel_rfl) ?_ (fun hHeld => ?_)
 ·
  exact ⟨kc KC0.out BB.out, kc KC1.out BB.out, kc KN0.out BB.out, kc KN1.out BB.out, kc KN2.out BB.out, kc KN3.out BB.out, kc KN4.out BB.out⟩
 clear hdr
 generalize w.drew = wd at *
 refine wpAnyH_take (i := 0) (oi := ⟨some 26, .load 31 (.tmp 3), 31, "exact.go:6983", #[], none⟩) (v := ?_) rfl (by kernel_rfl) (by kernel_rfl) (by kernel_rfl) (fun _ _ _ h => h) (Or.inl ⟨by rfl, ?_⟩) (by assumption) ?_
 rotate_left
 ·
  intro w' hSw; (try dsimp only at hSw); first | (go_simp; done) | (go_simp; with_reducible rfl)
 (try simp only [Act.put, Row.pB0, Row.pB1, Row.pB2])
 refine wpAnyH_take (i := 2) (oi := ⟨some 28, .load 41 (.tmp 4), 41, "exact.go:6983", #[], none⟩) (v := ?_) rfl (by kernel_rfl) (by kernel_rfl) (by kernel_rfl) (fun _ _ _ h => h) (Or.inl ⟨by rfl, ?_⟩) (by assumption) ?_
 rotate_left
 ·
  intro w' hSw; (try dsimp only at hSw); first | (go_simp; done) | (go_simp; with_reducible rfl)
 (try simp only [Act.put, Row.pB0, Row.pB1, Row.pB2])
 refine wpAnyH_take (i := 4) (oi := ⟨some 30, .move (.tmp 2), 3, "exact.go:6983", #[], none⟩) (v := ?_) rfl (by kernel_rfl) (by kernel_rfl) (by kernel_rfl) (fun _ _ _ h => h) (Or.inl ⟨by rfl, ?_⟩) (by assumption) ?_
 rotate_left
 ·
  intro w' hSw; (try dsimp only at hSw); first | (go_simp; done) | (go_simp; with_reducible rfl)
 (try simp only [Act.put, Row.pB0, Row.pB1, Row.pB2])
 refine wpAnyH_ready (rs := [1, 6]) (by kernel_rfl) (by simp) ?_
 refine AllReadyH.cons (o := ⟨some 27, .call ⟨.value (.func 18), #[.tmp 26], #[31]⟩, 24, "exact.go:6983", #[⟨0, .data⟩], none⟩) rfl (fun K hK => ?_) ?_
 ·
  go_simp
  refine (toContentStoreK _ l0 _ (H0.out.on BB.out) (Nat.le_trans (adCn_big Z0) (by decide))).mono ?_
  rintro e wn1 ⟨v, rfl, ho, hb⟩
  obtain ⟨xA, nA, cA, rfl, ho⟩ := kCn_shape ho
  have HA := Lib.hid ho.at; clear ho
  replace BB := Lib.hid (BB.out.trans (hb.mono BB.out.size))
  clear hb
  (try go_wp2_with fail)
  clear hHeld
  refine hK.out _ _ ?_ (fun hHeld => ?_)
  ·
   (try dsimp only); exact ⟨kc KC0.out BB.out, kc KC1.out BB.out, kc KN0.out BB.out, kc KN1.out BB.out, kc KN2.out BB.out, kc KN3.out BB.out, kc KN4.out BB.out⟩
  clear hK K
  (try simp only [Act.put, Row.pB0, Row.pB1, Row.pB2])
  refine wpAnyH_ready (rs := [3, 6]) (by kernel_rfl) (by simp) ?_
  refine AllReadyH.cons (o := ⟨some 29, .call ⟨.value (.func 22), #[.tmp 28], #[41]⟩, 46, "exact.go:6983", #[⟨2, .data⟩, ⟨1, .chain⟩], none⟩) rfl (fun K hK => ?_) ?_
  ·
   go_simp
   refine (toDK _ l1 _ (H1.out.on BB.out) (Nat.le_trans Z1 (by decide))).mono ?_
   rintro e wn2 ⟨v, rfl, ho, hb⟩
   obtain ⟨xB0, nB0, cB0, xB1, nB1, cB1, xB2, nB2, cB2, rfl, ho⟩ := kD_shape ho
   have HBk := Lib.hid ho.at; clear ho
   replace HA := Lib.hid (HA.out.on hb)
   replace BB := Lib.hid (BB.out.trans (hb.mono BB.out.size))
   clear hb
   (try go_wp2_with fail)
   clear hHeld
   refine hK.out _ _ ?_ (fun hHeld => ?_)
   ·
    (try dsimp only); exact ⟨kc KC0.out BB.out, kc KC1.out BB.out, kc KN0.out BB.out, kc KN1.out BB.out, kc KN2.out BB.out, kc KN3.out BB.out, kc KN4.out BB.out⟩
   clear hK K
   (try simp only [Act.put, Row.pB0, Row.pB1, Row.pB2])
   refine wpAnyH_ready (rs := [5, 6]) (by kernel_rfl) (by simp) ?_
   refine AllReadyH.cons (o := ⟨some 31, .call ⟨.value (.func 21), #[.tmp 27, .tmp 29, .tmp 30], #[24, 46, 3]⟩, 24, "exact.go:6983", #[⟨1, .data⟩, ⟨3, .data⟩, ⟨4, .data⟩, ⟨3, .chain⟩], none⟩) rfl (fun K hK => ?_) ?_
   ·
    go_simp
    refine (specCacheData _ _ l0 l1 a2 _ HA.out HBk.out (show wtCn l0 ≤ 1100000 by omega) (show bulkD l1 ≤ 1200000 by omega)).mono ?_
    rintro e wn3 ⟨v, rfl, ho, hb⟩
    obtain ⟨yb, mb, db, rfl, ho⟩ := kCn_shape ho
    have HX := Lib.hid (show kCn.In w.heap.size wn3.heap.size wn3 (.agg #[.int .i64 (cacheC l0 l1 a2).1, .slice yb mb db]) (cacheC l0 l1 a2) from Kd.In.mono ho BB.out.size (Nat.le_refl _)); clear ho
    replace HA := Lib.hid (HA.out.on hb)
    replace HBk := Lib.hid (HBk.out.on hb)
    replace BB := Lib.hid (BB.out.trans (hb.mono BB.out.size))
    clear hb
    (try go_wp2_with fail)
    clear hHeld
    refine hK.out _ _ ?_ (fun hHeld => ?_)
    ·
     (try dsimp only); exact ⟨kc KC0.out BB.out, kc KC1.out BB.out, kc KN0.out BB.out, kc KN1.out BB.out, kc KN2.out BB.out, kc KN3.out BB.out, kc KN4.out BB.out⟩
    clear hK K
    (try simp only [Act.put, Row.pB0, Row.pB1, Row.pB2])
    refine wpAnyH_ready (rs := [6]) (by kernel_rfl) (by simp) ?_
    refine AllReadyH.cons (o := ⟨some 8, .alloc 24, 0, "exact.go:6983", #[], none⟩) rfl (fun K hK => ?_) AllReadyH.nil
    go_simp
    have hb : Below wn3.heap.size wn3 (wn3.alloc (.cells #[.int .i64 0, .slice none 0 0] 24)) := (Below.refl _ _).alloc (Nat.le_refl _) _
    obtain ⟨gD, hgD⟩ : ∃ g, g = wn3.heap.size := ⟨_, rfl⟩
    have XD := Lib.hid (show Ret.Blk (wn3.alloc (.cells #[.int .i64 0, .slice none 0 0] 24)) gD #[.int .i64 0, .slice none 0 0] 24 from by rw [hgD]; exact Ret.Blk.new wn3 _ _)
    have HDW := Lib.hid (show w.heap.size ≤ gD from by rw [hgD]; exact BB.out.size)
    (first | replace HX := Lib.hid (show kCn.In w.heap.size (wn3.alloc (.cells #[.int .i64 0, .slice none 0 0] 24)).heap.size (wn3.alloc (.cells #[.int .i64 0, .slice none 0 0] 24)) (.agg #[.int .i64 (cacheC l0 l1 a2).1, .slice yb mb db]) (cacheC l0 l1 a2) from Kd.In.mono (Kd.In.on HX.out hb) (Nat.le_refl _) hb.size) | skip)
    rw [← hgD]
    clear hgD
    replace HA := Lib.hid (HA.out.on hb)
    replace HBk := Lib.hid (HBk.out.on hb)
    replace BB := Lib.hid (BB.out.trans (hb.mono BB.out.size))
    clear hb
    generalize wn3.alloc (.cells #[.int .i64 0, .slice none 0 0] 24) = wn4 at *
    clear hHeld
    refine hK.out _ _ ?_ (fun hHeld => ?_)
    ·
     (try dsimp only); exact ⟨kc KC0.out BB.out, kc KC1.out BB.out, kc KN0.out BB.out, kc KN1.out BB.out, kc KN2.out BB.out, kc KN3.out BB.out, kc KN4.out BB.out⟩
    clear hK K
    (try simp only [Act.put, Row.pB0, Row.pB1, Row.pB2])
    refine wpAnyH_ready (rs := [7]) (by kernel_rfl) (by simp) ?_
    refine AllReadyH.cons (o := ⟨none, .store 24 (.tmp 8) (.tmp 31), 0, "exact.go:6983", #[⟨6, .data⟩, ⟨5, .data⟩, ⟨5, .chain⟩, ⟨0, .phase⟩, ⟨1, .phase⟩, ⟨2, .phase⟩, ⟨3, .phase⟩, ⟨4, .phase⟩, ⟨5, .phase⟩, ⟨6, .phase⟩], none⟩) rfl (fun K hK => ?_) AllReadyH.nil
    have r0 := XD.out.cell 0; have r1 := XD.out.cell 1
    have t0 := XD.out.frozen 0; have t1 := XD.out.frozen 1
    go_simp
    clear hHeld
    refine hK.out _ _ ?_ (fun hHeld => ?_)
    ·
     (try dsimp only); exact ⟨cell_two (kc KC0.out BB.out) (by have h1 : p < w.heap.size := Ret.cell_lt KC0.out; have h2 := HDW.out; omega), cell_two (kc KC1.out BB.out) (by have h1 : p < w.heap.size := Ret.cell_lt KC1.out; have h2 := HDW.out; omega), cell_two (kc KN0.out BB.out) (by have h1 : q < w.heap.size := Ret.cell_lt KN0.out; have h2 := HDW.out; omega), cell_two (kc KN1.out BB.out) (by have h1 : q < w.heap.size := Ret.cell_lt KN1.out; have h2 := HDW.out; omega), cell_two (kc KN2.out BB.out) (by have h1 : q < w.heap.size := Ret.cell_lt KN2.out; have h2 := HDW.out; omega), cell_two (kc KN3.out BB.out) (by have h1 : q < w.heap.size := Ret.cell_lt KN3.out; have h2 := HDW.out; omega), cell_two (kc KN4.out BB.out) (by have h1 : q < w.heap.size := Ret.cell_lt KN4.out; have h2 := HDW.out; omega)⟩
    clear hK K
    (try simp only [Act.put, Row.pB0, Row.pB1, Row.pB2])
    refine wpAnyH_done (by kernel_rfl) ?_ _
    exact NoPanic.normal (HQ.out _ _ _ _ _ _ gD mb db yb _ HDW.out XD.out HX.out BB.out)
   refine AllReadyH.cons (o := ⟨some 8, .alloc 24, 0, "exact.go:6983", #[], none⟩) rfl (fun K hK => ?_) AllReadyH.nil
   go_simp
   have hb : Below wn2.heap.size wn2 (wn2.alloc (.cells #[.int .i64 0, .slice none 0 0] 24)) := (Below.refl _ _).alloc (Nat.le_refl _) _
   obtain ⟨gD, hgD⟩ : ∃ g, g = wn2.heap.size := ⟨_, rfl⟩
   have XD := Lib.hid (show Ret.Blk (wn2.alloc (.cells #[.int .i64 0, .slice none 0 0] 24)) gD #[.int .i64 0, .slice none 0 0] 24 from by rw [hgD]; exact Ret.Blk.new wn2 _ _)
   have HDW := Lib.hid (show w.heap.size ≤ gD from by rw [hgD]; exact BB.out.size)
   (first | replace HX := Lib.hid (show kCn.In w.heap.size (wn2.alloc (.cells #[.int .i64 0, .slice none 0 0] 24)).heap.size (wn2.alloc (.cells #[.int .i64 0, .slice none 0 0] 24)) (.agg #[.int .i64 (cacheC l0 l1 a2).1, .slice yb mb db]) (cacheC l0 l1 a2) from Kd.In.mono (Kd.In.on HX.out hb) (Nat.le_refl _) hb.size) | skip)
   rw [← hgD]
   clear hgD
   replace HA := Lib.hid (HA.out.on hb)
   replace HBk := Lib.hid (HBk.out.on hb)
   replace BB := Lib.hid (BB.out.trans (hb.mono BB.out.size))
   clear hb
   generalize wn2.alloc (.cells #[.int .i64 0, .slice none 0 0] 24) = wn6 at *
   clear hHeld
   refine hK.out _ _ ?_ (fun hHeld => ?_)
   ·
    (try dsimp only); exact ⟨kc KC0.out BB.out, kc KC1.out BB.out, kc KN0.out BB.out, kc KN1.out BB.out, kc KN2.out BB.out, kc KN3.out BB.out, kc KN4.out BB.out⟩
   clear hK K
   (try simp only [Act.put, Row.pB0, Row.pB1, Row.pB2])
   refine wpAnyH_ready (rs := [5]) (by kernel_rfl) (by simp) ?_
   refine AllReadyH.cons (o := ⟨some 31, .call ⟨.value (.func 21), #[.tmp 27, .tmp 29, .tmp 30], #[24, 46, 3]⟩, 24, "exact.go:6983", #[⟨1, .data⟩, ⟨3, .data⟩, ⟨4, .data⟩, ⟨3, .chain⟩], none⟩) rfl (fun K hK => ?_) AllReadyH.nil
   go_simp
   refine (specCacheData _ _ l0 l1 a2 _ HA.out HBk.out (show wtCn l0 ≤ 1100000 by omega) (show bulkD l1 ≤ 1200000 by omega)).mono ?_
   rintro e wn7 ⟨v, rfl, ho, hb⟩
   obtain ⟨yb, mb, db, rfl, ho⟩ := kCn_shape ho
   have HX := Lib.hid (show kCn.In w.heap.size wn7.heap.size wn7 (.agg #[.int .i64 (cacheC l0 l1 a2).1, .slice yb mb db]) (cacheC l0 l1 a2) from Kd.In.mono ho BB.out.size (Nat.le_refl _)); clear ho
   replace HA := Lib.hid (HA.out.on hb)
   replace HBk := Lib.hid (HBk.out.on hb)
   replace XD := Lib.hid (XD.out.on hb)
   replace BB := Lib.hid (BB.out.trans (hb.mono BB.out.size))
   clear hb
   (try go_wp2_with fail)
   clear hHeld
   refine hK.out _ _ ?_ (fun hHeld => ?_)
   ·
    (try dsimp only); exact ⟨kc KC0.out BB.out, kc KC1.out BB.out, kc KN0.out BB.out, kc KN1.out BB.out, kc KN2.out BB.out, kc KN3.out BB.out, kc KN4.out BB.out⟩
   clear hK K
   (try simp only [Act.put, Row.pB0, Row.pB1, Row.pB2])
   refine wpAnyH_ready (rs := [7]) (by kernel_rfl) (by simp) ?_
   refine AllReadyH.cons (o := ⟨none, .store 24 (.tmp 8) (.tmp 31), 0, "exact.go:6983", #[⟨6, .data⟩, ⟨5, .data⟩, ⟨5, .chain⟩, ⟨0, .phase⟩, ⟨1, .phase⟩, ⟨2, .phase⟩, ⟨3, .phase⟩, ⟨4, .phase⟩, ⟨5, .phase⟩, ⟨6, .phase⟩], none⟩) rfl (fun K hK => ?_) AllReadyH.nil
   have r0 := XD.out.cell 0; have r1 := XD.out.cell 1
   have t0 := XD.out.frozen 0; have t1 := XD.out.frozen 1
   go_simp
   clear hHeld
   refine hK.out _ _ ?_ (fun hHeld => ?_)
   ·
    (try dsimp only); exact ⟨cell_two (kc KC0.out BB.out) (by have h1 : p < w.heap.size := Ret.cell_lt KC0.out; have h2 := HDW.out; omega), cell_two (kc KC1.out BB.out) (by have h1 : p < w.heap.size := Ret.cell_lt KC1.out; have h2 := HDW.out; omega), cell_two (kc KN0.out BB.out) (by have h1 : q < w.heap.size := Ret.cell_lt KN0.out; have h2 := HDW.out; omega), cell_two (kc KN1.out BB.out) (by have h1 : q < w.heap.size := Ret.cell_lt KN1.out; have h2 := HDW.out; omega), cell_two (kc KN2.out BB.out) (by have h1 : q < w.heap.size := Ret.cell_lt KN2.out; have h2 := HDW.out; omega), cell_two (kc KN3.out BB.out) (by have h1 : q < w.heap.size := Ret.cell_lt KN3.out; have h2 := HDW.out; omega), cell_two (kc KN4.out BB.out) (by have h1 : q < w.heap.size := Ret.cell_lt KN4.out; have h2 := HDW.out; omega)⟩
   clear hK K
   (try simp only [Act.put, Row.pB0, Row.pB1, Row.pB2])
   refine wpAnyH_done (by kernel_rfl) ?_ _
   exact NoPanic.normal (HQ.out _ _ _ _ _ _ gD mb db yb _ HDW.out XD.out HX.out BB.out)
  refine AllReadyH.cons (o := ⟨some 8, .alloc 24, 0, "exact.go:6983", #[], none⟩) rfl (fun K hK => ?_) AllReadyH.nil
  go_simp
  have hb : Below wn1.heap.size wn1 (wn1.alloc (.cells #[.int .i64 0, .slice none 0 0] 24)) := (Below.refl _ _).alloc (Nat.le_refl _) _
  obtain ⟨gD, hgD⟩ : ∃ g, g = wn1.heap.size := ⟨_, rfl⟩
  have XD := Lib.hid (show Ret.Blk (wn1.alloc (.cells #[.int .i64 0, .slice none 0 0] 24)) gD #[.int .i64 0, .slice none 0 0] 24 from by rw [hgD]; exact Ret.Blk.new wn1 _ _)
  have HDW := Lib.hid (show w.heap.size ≤ gD from by rw [hgD]; exact BB.out.size)
  (first | replace HX := Lib.hid (show kCn.In w.heap.size (wn1.alloc (.cells #[.int .i64 0, .slice none 0 0] 24)).heap.size (wn1.alloc (.cells #[.int .i64 0, .slice none 0 0] 24)) (.agg #[.int .i64 (cacheC l0 l1 a2).1, .slice yb mb db]) (cacheC l0 l1 a2) from Kd.In.mono (Kd.In.on HX.out hb) (Nat.le_refl _) hb.size) | skip)
  rw [← hgD]
  clear hgD
  replace HA := Lib.hid (HA.out.on hb)
  replace BB := Lib.hid (BB.out.trans (hb.mono BB.out.size))
  clear hb
  generalize wn1.alloc (.cells #[.int .i64 0, .slice none 0 0] 24) = wn9 at *
  clear hHeld
  refine hK.out _ _ ?_ (fun hHeld => ?_)
  ·
   (try dsimp only); exact ⟨kc KC0.out BB.out, kc KC1.out BB.out, kc KN0.out BB.out, kc KN1.out BB.out, kc KN2.out BB.out, kc KN3.out BB.out, kc KN4.out BB.out⟩
  clear hK K
  (try simp only [Act.put, Row.pB0, Row.pB1, Row.pB2])
  refine wpAnyH_ready (rs := [3]) (by kernel_rfl) (by simp) ?_
  refine AllReadyH.cons (o := ⟨some 29, .call ⟨.value (.func 22), #[.tmp 28], #[41]⟩, 46, "exact.go:6983", #[⟨2, .data⟩, ⟨1, .chain⟩], none⟩) rfl (fun K hK => ?_) AllReadyH.nil
  go_simp
  refine (toDK _ l1 _ (H1.out.on BB.out) (Nat.le_trans Z1 (by decide))).mono ?_
  rintro e wn10 ⟨v, rfl, ho, hb⟩
  obtain ⟨xB0, nB0, cB0, xB1, nB1, cB1, xB2, nB2, cB2, rfl, ho⟩ := kD_shape ho
  have HBk := Lib.hid ho.at; clear ho
  replace HA := Lib.hid (HA.out.on hb)
  replace XD := Lib.hid (XD.out.on hb)
  replace BB := Lib.hid (BB.out.trans (hb.mono BB.out.size))
  clear hb
  (try go_wp2_with fail)
  clear hHeld
  refine hK.out _ _ ?_ (fun hHeld => ?_)
  ·
   (try dsimp only); exact ⟨kc KC0.out BB.out, kc KC1.out BB.out, kc KN0.out BB.out, kc KN1.out BB.out, kc KN2.out BB.out, kc KN3.out BB.out, kc KN4.out BB.out⟩
  clear hK K
  (try simp only [Act.put, Row.pB0, Row.pB1, Row.pB2])
  refine wpAnyH_ready (rs := [5]) (by kernel_rfl) (by simp) ?_
  refine AllReadyH.cons (o := ⟨some 31, .call ⟨.value (.func 21), #[.tmp 27, .tmp 29, .tmp 30], #[24, 46, 3]⟩, 24, "exact.go:6983", #[⟨1, .data⟩, ⟨3, .data⟩, ⟨4, .data⟩, ⟨3, .chain⟩], none⟩) rfl (fun K hK => ?_) AllReadyH.nil
  go_simp
  refine (specCacheData _ _ l0 l1 a2 _ HA.out HBk.out (show wtCn l0 ≤ 1100000 by omega) (show bulkD l1 ≤ 1200000 by omega)).mono ?_
  rintro e wn11 ⟨v, rfl, ho, hb⟩
  obtain ⟨yb, mb, db, rfl, ho⟩ := kCn_shape ho
  have HX := Lib.hid (show kCn.In w.heap.size wn11.heap.size wn11 (.agg #[.int .i64 (cacheC l0 l1 a2).1, .slice yb mb db]) (cacheC l0 l1 a2) from Kd.In.mono ho BB.out.size (Nat.le_refl _)); clear ho
  replace HA := Lib.hid (HA.out.on hb)
  replace XD := Lib.hid (XD.out.on hb)
  replace HBk := Lib.hid (HBk.out.on hb)
  replace BB := Lib.hid (BB.out.trans (hb.mono BB.out.size))
  clear hb
  (try go_wp2_with fail)
  clear hHeld
  refine hK.out _ _ ?_ (fun hHeld => ?_)
  ·
   (try dsimp only); exact ⟨kc KC0.out BB.out, kc KC1.out BB.out, kc KN0.out BB.out, kc KN1.out BB.out, kc KN2.out BB.out, kc KN3.out BB.out, kc KN4.out BB.out⟩
  clear hK K
  (try simp only [Act.put, Row.pB0, Row.pB1, Row.pB2])
  refine wpAnyH_ready (rs := [7]) (by kernel_rfl) (by simp) ?_
  refine AllReadyH.cons (o := ⟨none, .store 24 (.tmp 8) (.tmp 31), 0, "exact.go:6983", #[⟨6, .data⟩, ⟨5, .data⟩, ⟨5, .chain⟩, ⟨0, .phase⟩, ⟨1, .phase⟩, ⟨2, .phase⟩, ⟨3, .phase⟩, ⟨4, .phase⟩, ⟨5, .phase⟩, ⟨6, .phase⟩], none⟩) rfl (fun K hK => ?_) AllReadyH.nil
  have r0 := XD.out.cell 0; have r1 := XD.out.cell 1
  have t0 := XD.out.frozen 0; have t1 := XD.out.frozen 1
  go_simp
  clear hHeld
  refine hK.out _ _ ?_ (fun hHeld => ?_)
  ·
   (try dsimp only); exact ⟨cell_two (kc KC0.out BB.out) (by have h1 : p < w.heap.size := Ret.cell_lt KC0.out; have h2 := HDW.out; omega), cell_two (kc KC1.out BB.out) (by have h1 : p < w.heap.size := Ret.cell_lt KC1.out; have h2 := HDW.out; omega), cell_two (kc KN0.out BB.out) (by have h1 : q < w.heap.size := Ret.cell_lt KN0.out; have h2 := HDW.out; omega), cell_two (kc KN1.out BB.out) (by have h1 : q < w.heap.size := Ret.cell_lt KN1.out; have h2 := HDW.out; omega), cell_two (kc KN2.out BB.out) (by have h1 : q < w.heap.size := Ret.cell_lt KN2.out; have h2 := HDW.out; omega), cell_two (kc KN3.out BB.out) (by have h1 : q < w.heap.size := Ret.cell_lt KN3.out; have h2 := HDW.out; omega), cell_two (kc KN4.out BB.out) (by have h1 : q < w.heap.size := Ret.cell_lt KN4.out; have h2 := HDW.out; omega)⟩
  clear hK K
  (try simp only [Act.put, Row.pB0, Row.pB1, Row.pB2])
  refine wpAnyH_done (by kernel_rfl) ?_ _
  exact NoPanic.normal (HQ.out _ _ _ _ _ _ gD mb db yb _ HDW.out XD.out HX.out BB.out)
 refine AllReadyH.cons (o := ⟨some 8, .alloc 24, 0, "exact.go:6983", #[], none⟩) rfl (fun K hK => ?_) AllReadyH.nil
 go_simp
 have hb : Below wd.heap.size wd (wd.alloc (.cells #[.int .i64 0, .slice none 0 0] 24)) := (Below.refl _ _).alloc (Nat.le_refl _) _
 obtain ⟨gD, hgD⟩ : ∃ g, g = wd.heap.size := ⟨_, rfl⟩
 have XD := Lib.hid (show Ret.Blk (wd.alloc (.cells #[.int .i64 0, .slice none 0 0] 24)) gD #[.int .i64 0, .slice none 0 0] 24 from by rw [hgD]; exact Ret.Blk.new wd _ _)
 have HDW := Lib.hid (show w.heap.size ≤ gD from by rw [hgD]; exact BB.out.size)
 (first | replace HX := Lib.hid (show kCn.In w.heap.size (wd.alloc (.cells #[.int .i64 0, .slice none 0 0] 24)).heap.size (wd.alloc (.cells #[.int .i64 0, .slice none 0 0] 24)) (.agg #[.int .i64 (cacheC l0 l1 a2).1, .slice yb mb db]) (cacheC l0 l1 a2) from Kd.In.mono (Kd.In.on HX.out hb) (Nat.le_refl _) hb.size) | skip)
 rw [← hgD]
 clear hgD
 replace BB := Lib.hid (BB.out.trans (hb.mono BB.out.size))
 clear hb
 generalize wd.alloc (.cells #[.int .i64 0, .slice none 0 0] 24) = wn13 at *
 clear hHeld
 refine hK.out _ _ ?_ (fun hHeld => ?_)
 ·
  (try dsimp only); exact ⟨kc KC0.out BB.out, kc KC1.out BB.out, kc KN0.out BB.out, kc KN1.out BB.out, kc KN2.out BB.out, kc KN3.out BB.out, kc KN4.out BB.out⟩
 clear hK K
 (try simp only [Act.put, Row.pB0, Row.pB1, Row.pB2])
 refine wpAnyH_ready (rs := [1]) (by kernel_rfl) (by simp) ?_
 refine AllReadyH.cons (o := ⟨some 27, .call ⟨.value (.func 18), #[.tmp 26], #[31]⟩, 24, "exact.go:6983", #[⟨0, .data⟩], none⟩) rfl (fun K hK => ?_) AllReadyH.nil
 go_simp
 refine (toContentStoreK _ l0 _ (H0.out.on BB.out) (Nat.le_trans (adCn_big Z0) (by decide))).mono ?_
 rintro e wn14 ⟨v, rfl, ho, hb⟩
 obtain ⟨xA, nA, cA, rfl, ho⟩ := kCn_shape ho
 have HA := Lib.hid ho.at; clear ho
 replace XD := Lib.hid (XD.out.on hb)
 replace BB := Lib.hid (BB.out.trans (hb.mono BB.out.size))
 clear hb
 (try go_wp2_with fail)
 clear hHeld
 refine hK.out _ _ ?_ (fun hHeld => ?_)
 ·
  (try dsimp only); exact ⟨kc KC0.out BB.out, kc KC1.out BB.out, kc KN0.out BB.out, kc KN1.out BB.out, kc KN2.out BB.out, kc KN3.out BB.out, kc KN4.out BB.out⟩
 clear hK K
 (try simp only [Act.put, Row.pB0, Row.pB1, Row.pB2])
 refine wpAnyH_ready (rs := [3]) (by kernel_rfl) (by simp) ?_
 refine AllReadyH.cons (o := ⟨some 29, .call ⟨.value (.func 22), #[.tmp 28], #[41]⟩, 46, "exact.go:6983", #[⟨2, .data⟩, ⟨1, .chain⟩], none⟩) rfl (fun K hK => ?_) AllReadyH.nil
 go_simp
 refine (toDK _ l1 _ (H1.out.on BB.out) (Nat.le_trans Z1 (by decide))).mono ?_
 rintro e wn15 ⟨v, rfl, ho, hb⟩
 obtain ⟨xB0, nB0, cB0, xB1, nB1, cB1, xB2, nB2, cB2, rfl, ho⟩ := kD_shape ho
 have HBk := Lib.hid ho.at; clear ho
 replace XD := Lib.hid (XD.out.on hb)
 replace HA := Lib.hid (HA.out.on hb)
 replace BB := Lib.hid (BB.out.trans (hb.mono BB.out.size))
 clear hb
 (try go_wp2_with fail)
 clear hHeld
 refine hK.out _ _ ?_ (fun hHeld => ?_)
 ·
  (try dsimp only); exact ⟨kc KC0.out BB.out, kc KC1.out BB.out, kc KN0.out BB.out, kc KN1.out BB.out, kc KN2.out BB.out, kc KN3.out BB.out, kc KN4.out BB.out⟩
 clear hK K
 (try simp only [Act.put, Row.pB0, Row.pB1, Row.pB2])
 refine wpAnyH_ready (rs := [5]) (by kernel_rfl) (by simp) ?_
 refine AllReadyH.cons (o := ⟨some 31, .call ⟨.value (.func 21), #[.tmp 27, .tmp 29, .tmp 30], #[24, 46, 3]⟩, 24, "exact.go:6983", #[⟨1, .data⟩, ⟨3, .data⟩, ⟨4, .data⟩, ⟨3, .chain⟩], none⟩) rfl (fun K hK => ?_) AllReadyH.nil
 go_simp
 refine (specCacheData _ _ l0 l1 a2 _ HA.out HBk.out (show wtCn l0 ≤ 1100000 by omega) (show bulkD l1 ≤ 1200000 by omega)).mono ?_
 rintro e wn16 ⟨v, rfl, ho, hb⟩
 obtain ⟨yb, mb, db, rfl, ho⟩ := kCn_shape ho
 have HX := Lib.hid (show kCn.In w.heap.size wn16.heap.size wn16 (.agg #[.int .i64 (cacheC l0 l1 a2).1, .slice yb mb db]) (cacheC l0 l1 a2) from Kd.In.mono ho BB.out.size (Nat.le_refl _)); clear ho
 replace XD := Lib.hid (XD.out.on hb)
 replace HA := Lib.hid (HA.out.on hb)
 replace HBk := Lib.hid (HBk.out.on hb)
 replace BB := Lib.hid (BB.out.trans (hb.mono BB.out.size))
 clear hb
 (try go_wp2_with fail)
 clear hHeld
 refine hK.out _ _ ?_ (fun hHeld => ?_)
 ·
  (try dsimp only); exact ⟨kc KC0.out BB.out, kc KC1.out BB.out, kc KN0.out BB.out, kc KN1.out BB.out, kc KN2.out BB.out, kc KN3.out BB.out, kc KN4.out BB.out⟩
 clear hK K
 (try simp only [Act.put, Row.pB0, Row.pB1, Row.pB2])
 refine wpAnyH_ready (rs := [7]) (by kernel_rfl) (by simp) ?_
 refine AllReadyH.cons (o := ⟨none, .store 24 (.tmp 8) (.tmp 31), 0, "exact.go:6983", #[⟨6, .data⟩, ⟨5, .data⟩, ⟨5, .chain⟩, ⟨0, .phase⟩, ⟨1, .phase⟩, ⟨2, .phase⟩, ⟨3, .phase⟩, ⟨4, .phase⟩, ⟨5, .phase⟩, ⟨6, .phase⟩], none⟩) rfl (fun K hK => ?_) AllReadyH.nil
 have r0 := XD.out.cell 0; have r1 := XD.out.cell 1
 have t0 := XD.out.frozen 0; have t1 := XD.out.frozen 1
 go_simp
 clear hHeld
 refine hK.out _ _ ?_ (fun hHeld => ?_)
 ·
  (try dsimp only); exact ⟨cell_two (kc KC0.out BB.out) (by have h1 : p < w.heap.size := Ret.cell_lt KC0.out; have h2 := HDW.out; omega), cell_two (kc KC1.out BB.out) (by have h1 : p < w.heap.size := Ret.cell_lt KC1.out; have h2 := HDW.out; omega), cell_two (kc KN0.out BB.out) (by have h1 : q < w.heap.size := Ret.cell_lt KN0.out; have h2 := HDW.out; omega), cell_two (kc KN1.out BB.out) (by have h1 : q < w.heap.size := Ret.cell_lt KN1.out; have h2 := HDW.out; omega), cell_two (kc KN2.out BB.out) (by have h1 : q < w.heap.size := Ret.cell_lt KN2.out; have h2 := HDW.out; omega), cell_two (kc KN3.out BB.out) (by have h1 : q < w.heap.size := Ret.cell_lt KN3.out; have h2 := HDW.out; omega), cell_two (kc KN4.out BB.out) (by have h1 : q < w.heap.size := Ret.cell_lt KN4.out; have h2 := HDW.out; omega)⟩
 clear hK K
 (try simp only [Act.put, Row.pB0, Row.pB1, Row.pB2])
 refine wpAnyH_done (by kernel_rfl) ?_ _
 exact NoPanic.normal (HQ.out _ _ _ _ _ _ gD mb db yb _ HDW.out XD.out HX.out BB.out)
set_option maxRecDepth 100000 in
set_option maxHeartbeats 4000000 in
theorem specregR1 {Q : Exit → Act → World → Prop} {v0 v1 v5 v6 v7 v8 v9 v10 v11 v12 v13 v14 v15 v16 v17 v18 v19 v20 v21 v22 v23 v24 v25 v26 v27 v28 v29 v30 v31 v32 v33 v34 v35 v36 v37 v38 v39 v40 v41 v42 v43 v44 v45 v46 v47 v48 v49 v50 v51 v52 v53 v54 v55 v56 v57 v58 v59 v60 v61 v62 v63 v64 v65 v66 v67 v68 v69 v70 v71 v72 v73 v74 v75 v76 v77 v78 v79 v80 v81 v82 v83 v84 v85 v86 v87 v88 v89 v90 v91 v92 v93 v94 v95 v96 : Value} {w : World} {p q nl cl na ca nb cb nc cc_ : Nat} {xl xa xb xc : Option Addr} {l0 : Cnt} {l1 : Dt} {a2 : Int} (H0 : Hid (kCn.At w (.agg #[.int .i64 l0.1, .slice xl nl cl]) l0)) (H1 : Hid (kD.At w (.agg #[.slice xa na ca, .slice xb nb cb, .slice xc nc cc_, .int .i64 l1.2.2.2.1, .int .i64 l1.2.2.2.2]) l1)) (Z0 : wtCn l0 ≤ 1048576) (Z1 : bulkD l1 ≤ 1048576) (KC0 : Hid (w.cell? ⟨p, 0, none⟩ = some (.int .i64 l0.1))) (KC1 : Hid (w.cell? ⟨p, 1, none⟩ = some (.slice xl nl cl))) (KN0 : Hid (w.cell? ⟨q, 0, none⟩ = some (.slice xa na ca))) (KN1 : Hid (w.cell? ⟨q, 1, none⟩ = some (.slice xb nb cb))) (KN2 : Hid (w.cell? ⟨q, 2, none⟩ = some (.slice xc nc cc_))) (KN3 : Hid (w.cell? ⟨q, 3, none⟩ = some (.int .i64 l1.2.2.2.1))) (KN4 : Hid (w.cell? ⟨q, 4, none⟩ = some (.int .i64 l1.2.2.2.2)))
    (hQ : ∀ (u26 u27 u28 u29 u30 u31 : Value) (gD mb db : Nat) (yb : Option Addr) (w2 : World), Below w.heap.size w w2 → kCn.In w.heap.size w2.heap.size w2 (.agg #[.int .i64 (cacheC l0 l1 a2).1, .slice yb mb db]) (cacheC l0 l1 a2) → Ret.Blk w2 gD #[.int .i64 (cacheC l0 l1 a2).1, .slice yb mb db] 24 → w.heap.size ≤ gD → gD < w2.heap.size → Q .normal ⟨#[v0, v1, .int .i64 a2, .pointer (some ⟨p, 0, none⟩), .pointer (some ⟨q, 0, none⟩), v5, v6, v7, .pointer (some ⟨gD, 0, none⟩), v9, v10, v11, v12, v13, v14, v15, v16, v17, v18, v19, v20, v21, v22, v23, v24, v25, u26, u27, u28, u29, u30, u31, v32, v33, v34, v35, v36, v37, v38, v39, v40, v41, v42, v43, v44, v45, v46, v47, v48, v49, v50, v51, v52, v53, v54, v55, v56, v57, v58, v59, v60, v61, v62, v63, v64, v65, v66, v67, v68, v69, v70, v71, v72, v73, v74, v75, v76, v77, v78, v79, v80, v81, v82, v83, v84, v85, v86, v87, v88, v89, v90, v91, v92, v93, v94, v95, v96], []⟩ w2) :
    (Code.region 8 #[{ dst := some 26, op := Op.load 31 (Operand.tmp 3), type := 31, pos := "exact.go:6983", after := #[], guard := none },
      { dst := some 27, op := Op.call { callee := Callee.value (Operand.func 18), args := #[Operand.tmp 26], argTypes := #[31] }, type := 24, pos := "exact.go:6983", after := #[{ on := 0, ground := Ground.data }], guard := none },
      { dst := some 28, op := Op.load 41 (Operand.tmp 4), type := 41, pos := "exact.go:6983", after := #[], guard := none },
      { dst := some 29, op := Op.call { callee := Callee.value (Operand.func 22), args := #[Operand.tmp 28], argTypes := #[41] }, type := 46, pos := "exact.go:6983", after := #[{ on := 2, ground := Ground.data }, { on := 1, ground := Ground.chain }], guard := none },
      { dst := some 30, op := Op.move (Operand.tmp 2), type := 3, pos := "exact.go:6983", after := #[], guard := none },
      { dst := some 31, op := Op.call { callee := Callee.value (Operand.func 21), args := #[Operand.tmp 27, Operand.tmp 29, Operand.tmp 30], argTypes := #[24, 46, 3] }, type := 24, pos := "exact.go:6983", after := #[{ on := 1, ground := Ground.data }, { on := 3, ground := Ground.data }, { on := 4, ground := Ground.data }, { on := 3, ground := Ground.chain }], guard := none },
      { dst := some 8, op := Op.alloc 24, type := 0, pos := "exact.go:6983", after := #[], guard := none },
      { dst := none, op := Op.store 24 (Operand.tmp 8) (Operand.tmp 31), type := 0, pos := "exact.go:6983", after := #[{ on := 6, ground := Ground.data }, { on := 5, ground := Ground.data }, { on := 5, ground := Ground.chain }, { on := 0, ground := Ground.phase }, { on := 1, ground := Ground.phase }, { on := 2, ground := Ground.phase }, { on := 3, ground := Ground.phase }, { on := 4, ground := Ground.phase }, { on := 5, ground := Ground.phase }, { on := 6, ground := Ground.phase }], guard := none }] true).wp Try.prog Q ⟨#[v0, v1, .int .i64 a2, .pointer (some ⟨p, 0, none⟩), .pointer (some ⟨q, 0, none⟩), v5, v6, v7, v8, v9, v10, v11, v12, v13, v14, v15, v16, v17, v18, v19, v20, v21, v22, v23, v24, v25, v26, v27, v28, v29, v30, v31, v32, v33, v34, v35, v36, v37, v38, v39, v40, v41, v42, v43, v44, v45, v46, v47, v48, v49, v50, v51, v52, v53, v54, v55, v56, v57, v58, v59, v60, v61, v62, v63, v64, v65, v66, v67, v68, v69, v70, v71, v72, v73, v74, v75, v76, v77, v78, v79, v80, v81, v82, v83, v84, v85, v86, v87, v88, v89, v90, v91, v92, v93, v94, v95, v96], []⟩ w := by
  refine specR10 H0 H1 Z0 Z1 KC0 KC1 KN0 KN1 KN2 KN3 KN4 ?_
  intro u26 u27 u28 u29 u30 u31 gD mb db yb wx hgd hxd hin hb
  obtain ⟨h1, h2, h3⟩ := two_facts12 (a := .int .i64 (cacheC l0 l1 a2).1) (b := .slice yb mb db) hgd (Nat.le_refl _) hxd hin hb
  exact hQ _ _ _ _ _ _ gD mb db yb _ h1 h2 h3 hgd (by rw [size_two12]; exact hxd.lt)
set_option maxRecDepth 100000 in
set_option maxHeartbeats 4000000 in
theorem implR10 {Q : Exit → Act → World → Prop} {v0 v1 v5 v6 v7 v8 v9 v10 v11 v12 v13 v14 v15 v16 v17 v18 v19 v20 v21 v22 v23 v24 v25 v26 v27 v28 v29 v30 v31 v32 v33 v34 v35 v36 v37 v38 v39 v40 v41 v42 v43 v44 v45 v46 v47 v48 v49 v50 v51 v52 v53 v54 v55 v56 v57 v58 v59 v60 v61 v62 v63 v64 v65 v66 v67 v68 v69 v70 v71 v72 v73 v74 v75 v76 v77 v78 v79 v80 v81 v82 v83 v84 v85 v86 v87 v88 v89 v90 v91 v92 v93 v94 v95 v96 : Value} {w : World} {p q nl cl na ca nb cb nc cc_ : Nat} {xl xa xb xc : Option Addr} {l0 : Cnt} {l1 : Dt} {a2 : Int} (H0 : Hid (kCn.At w (.agg #[.int .i64 l0.1, .slice xl nl cl]) l0)) (H1 : Hid (kD.At w (.agg #[.slice xa na ca, .slice xb nb cb, .slice xc nc cc_, .int .i64 l1.2.2.2.1, .int .i64 l1.2.2.2.2]) l1)) (Z0 : wtCn l0 ≤ 1048576) (Z1 : bulkD l1 ≤ 1048576) (KC0 : Hid (w.cell? ⟨p, 0, none⟩ = some (.int .i64 l0.1))) (KC1 : Hid (w.cell? ⟨p, 1, none⟩ = some (.slice xl nl cl))) (KN0 : Hid (w.cell? ⟨q, 0, none⟩ = some (.slice xa na ca))) (KN1 : Hid (w.cell? ⟨q, 1, none⟩ = some (.slice xb nb cb))) (KN2 : Hid (w.cell? ⟨q, 2, none⟩ = some (.slice xc nc cc_))) (KN3 : Hid (w.cell? ⟨q, 3, none⟩ = some (.int .i64 l1.2.2.2.1))) (KN4 : Hid (w.cell? ⟨q, 4, none⟩ = some (.int .i64 l1.2.2.2.2)))
  (hQ : ∀ (u79 u80 u81 u82 u83 u84 : Value) (gD mb db : Nat) (yb : Option Addr)  (wx : World), w.heap.size ≤ gD → Ret.Blk wx gD #[.int .i64 0, .slice none 0 0] 24 → kCn.In w.heap.size wx.heap.size wx (.agg #[.int .i64 (cacheC l0 l1 a2).1, .slice yb mb db]) (cacheC l0 l1 a2) → Below w.heap.size w wx → Q .normal ⟨#[v0, v1, .int .i64 a2, .pointer (some ⟨p, 0, none⟩), .pointer (some ⟨q, 0, none⟩), v5, v6, v7, v8, v9, v10, v11, v12, v13, v14, .pointer (some ⟨gD, 0, none⟩), v16, v17, v18, v19, v20, v21, v22, v23, v24, v25, v26, v27, v28, v29, v30, v31, v32, v33, v34, v35, v36, v37, v38, v39, v40, v41, v42, v43, v44, v45, v46, v47, v48, v49, v50, v51, v52, v53, v54, v55, v56, v57, v58, v59, v60, v61, v62, v63, v64, v65, v66, v67, v68, v69, v70, v71, v72, v73, v74, v75, v76, v77, v78, u79, u80, u81, u82, u83, u84, v85, v86, v87, v88, v89, v90, v91, v92, v93, v94, v95, v96], []⟩ (((wx).setCell ⟨gD, 0, none⟩ (.int .i64 (cacheC l0 l1 a2).1)).setCell ⟨gD, 1, none⟩ (.slice yb mb db))) :
  (Code.region 31 #[⟨some 79, .load 31 (.tmp 3), 31, "exact.go:7012", #[], none⟩,
   ⟨some 80, .call ⟨.value (.func 18), #[.tmp 79], #[31]⟩, 24, "exact.go:7012", #[⟨0, .data⟩], none⟩,
   ⟨some 81, .load 41 (.tmp 4), 41, "exact.go:7012", #[], none⟩,
   ⟨some 82, .call ⟨.value (.func 22), #[.tmp 81], #[41]⟩, 46, "exact.go:7012", #[⟨2, .data⟩, ⟨1, .chain⟩], none⟩,
   ⟨some 83, .move (.tmp 2), 3, "exact.go:7012", #[], none⟩,
   ⟨some 84, .call ⟨.value (.func 23), #[.tmp 80, .tmp 82, .tmp 83], #[24, 46, 3]⟩, 24, "exact.go:7012", #[⟨1, .data⟩, ⟨3, .data⟩, ⟨4, .data⟩, ⟨3, .chain⟩], none⟩,
   ⟨some 15, .alloc 24, 0, "exact.go:7012", #[], none⟩,
   ⟨none, .store 24 (.tmp 15) (.tmp 84), 0, "exact.go:7012", #[⟨6, .data⟩, ⟨5, .data⟩, ⟨5, .chain⟩, ⟨0, .phase⟩, ⟨1, .phase⟩, ⟨2, .phase⟩, ⟨3, .phase⟩, ⟨4, .phase⟩, ⟨5, .phase⟩, ⟨6, .phase⟩], none⟩] true).wp Try.prog Q ⟨#[v0, v1, .int .i64 a2, .pointer (some ⟨p, 0, none⟩), .pointer (some ⟨q, 0, none⟩), v5, v6, v7, v8, v9, v10, v11, v12, v13, v14, v15, v16, v17, v18, v19, v20, v21, v22, v23, v24, v25, v26, v27, v28, v29, v30, v31, v32, v33, v34, v35, v36, v37, v38, v39, v40, v41, v42, v43, v44, v45, v46, v47, v48, v49, v50, v51, v52, v53, v54, v55, v56, v57, v58, v59, v60, v61, v62, v63, v64, v65, v66, v67, v68, v69, v70, v71, v72, v73, v74, v75, v76, v77, v78, v79, v80, v81, v82, v83, v84, v85, v86, v87, v88, v89, v90, v91, v92, v93, v94, v95, v96], []⟩ w := by
 have HQ := Lib.hid hQ; clear hQ
 have hdr : Below w.heap.size w w.drew := (Below.refl _ _).drew
 have BB := Lib.hid hdr
 refine wp_region_noPanic ?_
 refine wp_region_held_drew (S := (fun w' => w'.cell? ⟨p, 0, none⟩ = some (.int .i64 l0.1) ∧ w'.cell? ⟨p, 1, none⟩ = some (.slice xl nl cl) ∧ w'.cell? ⟨q, 0, none⟩ = some (.slice xa na ca) ∧ w'.cell? ⟨q, 1, none⟩ = some (.slice xb nb cb) ∧ w'.cell? ⟨q, 2, none⟩ = some (.slice xc nc cc_) ∧ w'.cell? ⟨q, 3, none⟩ = some (.int .i64 l1.2.2.2.1) ∧ w'.cell? ⟨q, 4, none⟩ = some (.int .i64 l1.2.2.2.2))) (by kernel_rfl) ?_ (fun hHeld => ?_)
 ·
  exact ⟨kc KC0.out BB.out, kc KC1.out BB.out, kc KN0.out BB.out, kc KN1.out BB.out, kc KN2.out BB.out, kc KN3.out BB.out, kc KN4.out BB.out⟩
 clear hdr
 generalize w.drew = wd at *
 refine wpAnyH_take (i := 0) (oi := ⟨some 79, .load 31 (.tmp 3), 31, "exact.go:7012", #[], none⟩) (v := ?_) rfl (by kernel_rfl) (by kernel_rfl) (by kernel_rfl) (fun _ _ _ h => h) (Or.inl ⟨by rfl, ?_⟩) (by assumption) ?_
 rotate_left
 ·
  intro w' hSw; (try dsimp only at hSw); first | (go_simp; done) | (go_simp; with_reducible rfl)
 (try simp only [Act.put, Row.pB0, Row.pB1, Row.pB2])
 refine wpAnyH_take (i := 2) (oi := ⟨some 81, .load 41 (.tmp 4), 41, "exact.go:7012", #[], none⟩) (v := ?_) rfl (by kernel_rfl) (by kernel_rfl) (by kernel_rfl) (fun _ _ _ h => h) (Or.inl ⟨by rfl, ?_⟩) (by assumption) ?_
 rotate_left
 ·
  intro w' hSw; (try dsimp only at hSw); first | (go_simp; done) | (go_simp; with_reducible rfl)
 (try simp only [Act.put, Row.pB0, Row.pB1, Row.pB2])
 refine wpAnyH_take (i := 4) (oi := ⟨some 83, .move (.tmp 2), 3, "exact.go:7012", #[], none⟩) (v := ?_) rfl (by kernel_rfl) (by kernel_rfl) (by kernel_rfl) (fun _ _ _ h => h) (Or.inl ⟨by rfl, ?_⟩) (by assumption) ?_
 rotate_left
 ·
  intro w' hSw; (try dsimp only at hSw); first | (go_simp; done) | (go_simp; with_reducible rfl)
 (try simp only [Act.put, Row.pB0, Row.pB1, Row.pB2])
 refine wpAnyH_ready (rs := [1, 6]) (by kernel_rfl) (by simp) ?_
 refine AllReadyH.cons (o := ⟨some 80, .call ⟨.value (.func 18), #[.tmp 79], #[31]⟩, 24, "exact.go:7012", #[⟨0, .data⟩], none⟩) rfl (fun K hK => ?_) ?_
 ·
  go_simp
  refine (toContentStoreK _ l0 _ (H0.out.on BB.out) (Nat.le_trans (adCn_big Z0) (by decide))).mono ?_
  rintro e wn1 ⟨v, rfl, ho, hb⟩
  obtain ⟨xA, nA, cA, rfl, ho⟩ := kCn_shape ho
  have HA := Lib.hid ho.at; clear ho
  replace BB := Lib.hid (BB.out.trans (hb.mono BB.out.size))
  clear hb
  (try go_wp2_with fail)
  clear hHeld
  refine hK.out _ _ ?_ (fun hHeld => ?_)
  ·
   (try dsimp only); exact ⟨kc KC0.out BB.out, kc KC1.out BB.out, kc KN0.out BB.out, kc KN1.out BB.out, kc KN2.out BB.out, kc KN3.out BB.out, kc KN4.out BB.out⟩
  clear hK K
  (try simp only [Act.put, Row.pB0, Row.pB1, Row.pB2])
  refine wpAnyH_ready (rs := [3, 6]) (by kernel_rfl) (by simp) ?_
  refine AllReadyH.cons (o := ⟨some 82, .call ⟨.value (.func 22), #[.tmp 81], #[41]⟩, 46, "exact.go:7012", #[⟨2, .data⟩, ⟨1, .chain⟩], none⟩) rfl (fun K hK => ?_) ?_
  ·
   go_simp
   refine (toDK _ l1 _ (H1.out.on BB.out) (Nat.le_trans Z1 (by decide))).mono ?_
   rintro e wn2 ⟨v, rfl, ho, hb⟩
   obtain ⟨xB0, nB0, cB0, xB1, nB1, cB1, xB2, nB2, cB2, rfl, ho⟩ := kD_shape ho
   have HBk := Lib.hid ho.at; clear ho
   replace HA := Lib.hid (HA.out.on hb)
   replace BB := Lib.hid (BB.out.trans (hb.mono BB.out.size))
   clear hb
   (try go_wp2_with fail)
   clear hHeld
   refine hK.out _ _ ?_ (fun hHeld => ?_)
   ·
    (try dsimp only); exact ⟨kc KC0.out BB.out, kc KC1.out BB.out, kc KN0.out BB.out, kc KN1.out BB.out, kc KN2.out BB.out, kc KN3.out BB.out, kc KN4.out BB.out⟩
   clear hK K
   (try simp only [Act.put, Row.pB0, Row.pB1, Row.pB2])
   refine wpAnyH_ready (rs := [5, 6]) (by kernel_rfl) (by simp) ?_
   refine AllReadyH.cons (o := ⟨some 84, .call ⟨.value (.func 23), #[.tmp 80, .tmp 82, .tmp 83], #[24, 46, 3]⟩, 24, "exact.go:7012", #[⟨1, .data⟩, ⟨3, .data⟩, ⟨4, .data⟩, ⟨3, .chain⟩], none⟩) rfl (fun K hK => ?_) ?_
   ·
    go_simp
    refine (implCacheData _ _ l0 l1 a2 _ HA.out HBk.out (show wtCn l0 ≤ 1100000 by omega) (show bulkD l1 ≤ 1200000 by omega)).mono ?_
    rintro e wn3 ⟨v, rfl, ho, hb⟩
    obtain ⟨yb, mb, db, rfl, ho⟩ := kCn_shape ho
    have HX := Lib.hid (show kCn.In w.heap.size wn3.heap.size wn3 (.agg #[.int .i64 (cacheC l0 l1 a2).1, .slice yb mb db]) (cacheC l0 l1 a2) from Kd.In.mono ho BB.out.size (Nat.le_refl _)); clear ho
    replace HA := Lib.hid (HA.out.on hb)
    replace HBk := Lib.hid (HBk.out.on hb)
    replace BB := Lib.hid (BB.out.trans (hb.mono BB.out.size))
    clear hb
    (try go_wp2_with fail)
    clear hHeld
    refine hK.out _ _ ?_ (fun hHeld => ?_)
    ·
     (try dsimp only); exact ⟨kc KC0.out BB.out, kc KC1.out BB.out, kc KN0.out BB.out, kc KN1.out BB.out, kc KN2.out BB.out, kc KN3.out BB.out, kc KN4.out BB.out⟩
    clear hK K
    (try simp only [Act.put, Row.pB0, Row.pB1, Row.pB2])
    refine wpAnyH_ready (rs := [6]) (by kernel_rfl) (by simp) ?_
    refine AllReadyH.cons (o := ⟨some 15, .alloc 24, 0, "exact.go:7012", #[], none⟩) rfl (fun K hK => ?_) AllReadyH.nil
    go_simp
    have hb : Below wn3.heap.size wn3 (wn3.alloc (.cells #[.int .i64 0, .slice none 0 0] 24)) := (Below.refl _ _).alloc (Nat.le_refl _) _
    obtain ⟨gD, hgD⟩ : ∃ g, g = wn3.heap.size := ⟨_, rfl⟩
    have XD := Lib.hid (show Ret.Blk (wn3.alloc (.cells #[.int .i64 0, .slice none 0 0] 24)) gD #[.int .i64 0, .slice none 0 0] 24 from by rw [hgD]; exact Ret.Blk.new wn3 _ _)
    have HDW := Lib.hid (show w.heap.size ≤ gD from by rw [hgD]; exact BB.out.size)
    (first | replace HX := Lib.hid (show kCn.In w.heap.size (wn3.alloc (.cells #[.int .i64 0, .slice none 0 0] 24)).heap.size (wn3.alloc (.cells #[.int .i64 0, .slice none 0 0] 24)) (.agg #[.int .i64 (cacheC l0 l1 a2).1, .slice yb mb db]) (cacheC l0 l1 a2) from Kd.In.mono (Kd.In.on HX.out hb) (Nat.le_refl _) hb.size) | skip)
    rw [← hgD]
    clear hgD
    replace HA := Lib.hid (HA.out.on hb)
    replace HBk := Lib.hid (HBk.out.on hb)
    replace BB := Lib.hid (BB.out.trans (hb.mono BB.out.size))
    clear hb
    generalize wn3.alloc (.cells #[.int .i64 0, .slice none 0 0] 24) = wn4 at *
    clear hHeld
    refine hK.out _ _ ?_ (fun hHeld => ?_)
    ·
     (try dsimp only); exact ⟨kc KC0.out BB.out, kc KC1.out BB.out, kc KN0.out BB.out, kc KN1.out BB.out, kc KN2.out BB.out, kc KN3.out BB.out, kc KN4.out BB.out⟩
    clear hK K
    (try simp only [Act.put, Row.pB0, Row.pB1, Row.pB2])
    refine wpAnyH_ready (rs := [7]) (by kernel_rfl) (by simp) ?_
    refine AllReadyH.cons (o := ⟨none, .store 24 (.tmp 15) (.tmp 84), 0, "exact.go:7012", #[⟨6, .data⟩, ⟨5, .data⟩, ⟨5, .chain⟩, ⟨0, .phase⟩, ⟨1, .phase⟩, ⟨2, .phase⟩, ⟨3, .phase⟩, ⟨4, .phase⟩, ⟨5, .phase⟩, ⟨6, .phase⟩], none⟩) rfl (fun K hK => ?_) AllReadyH.nil
    have r0 := XD.out.cell 0; have r1 := XD.out.cell 1
    have t0 := XD.out.frozen 0; have t1 := XD.out.frozen 1
    go_simp
    clear hHeld
    refine hK.out _ _ ?_ (fun hHeld => ?_)
    ·
     (try dsimp only); exact ⟨cell_two (kc KC0.out BB.out) (by have h1 : p < w.heap.size := Ret.cell_lt KC0.out; have h2 := HDW.out; omega), cell_two (kc KC1.out BB.out) (by have h1 : p < w.heap.size := Ret.cell_lt KC1.out; have h2 := HDW.out; omega), cell_two (kc KN0.out BB.out) (by have h1 : q < w.heap.size := Ret.cell_lt KN0.out; have h2 := HDW.out; omega), cell_two (kc KN1.out BB.out) (by have h1 : q < w.heap.size := Ret.cell_lt KN1.out; have h2 := HDW.out; omega), cell_two (kc KN2.out BB.out) (by have h1 : q < w.heap.size := Ret.cell_lt KN2.out; have h2 := HDW.out; omega), cell_two (kc KN3.out BB.out) (by have h1 : q < w.heap.size := Ret.cell_lt KN3.out; have h2 := HDW.out; omega), cell_two (kc KN4.out BB.out) (by have h1 : q < w.heap.size := Ret.cell_lt KN4.out; have h2 := HDW.out; omega)⟩
    clear hK K
    (try simp only [Act.put, Row.pB0, Row.pB1, Row.pB2])
    refine wpAnyH_done (by kernel_rfl) ?_ _
    exact NoPanic.normal (HQ.out _ _ _ _ _ _ gD mb db yb _ HDW.out XD.out HX.out BB.out)
   refine AllReadyH.cons (o := ⟨some 15, .alloc 24, 0, "exact.go:7012", #[], none⟩) rfl (fun K hK => ?_) AllReadyH.nil
   go_simp
   have hb : Below wn2.heap.size wn2 (wn2.alloc (.cells #[.int .i64 0, .slice none 0 0] 24)) := (Below.refl _ _).alloc (Nat.le_refl _) _
   obtain ⟨gD, hgD⟩ : ∃ g, g = wn2.heap.size := ⟨_, rfl⟩
   have XD := Lib.hid (show Ret.Blk (wn2.alloc (.cells #[.int .i64 0, .slice none 0 0] 24)) gD #[.int .i64 0, .slice none 0 0] 24 from by rw [hgD]; exact Ret.Blk.new wn2 _ _)
   have HDW := Lib.hid (show w.heap.size ≤ gD from by rw [hgD]; exact BB.out.size)
   (first | replace HX := Lib.hid (show kCn.In w.heap.size (wn2.alloc (.cells #[.int .i64 0, .slice none 0 0] 24)).heap.size (wn2.alloc (.cells #[.int .i64 0, .slice none 0 0] 24)) (.agg #[.int .i64 (cacheC l0 l1 a2).1, .slice yb mb db]) (cacheC l0 l1 a2) from Kd.In.mono (Kd.In.on HX.out hb) (Nat.le_refl _) hb.size) | skip)
   rw [← hgD]
   clear hgD
   replace HA := Lib.hid (HA.out.on hb)
   replace HBk := Lib.hid (HBk.out.on hb)
   replace BB := Lib.hid (BB.out.trans (hb.mono BB.out.size))
   clear hb
   generalize wn2.alloc (.cells #[.int .i64 0, .slice none 0 0] 24) = wn6 at *
   clear hHeld
   refine hK.out _ _ ?_ (fun hHeld => ?_)
   ·
    (try dsimp only); exact ⟨kc KC0.out BB.out, kc KC1.out BB.out, kc KN0.out BB.out, kc KN1.out BB.out, kc KN2.out BB.out, kc KN3.out BB.out, kc KN4.out BB.out⟩
   clear hK K
   (try simp only [Act.put, Row.pB0, Row.pB1, Row.pB2])
   refine wpAnyH_ready (rs := [5]) (by kernel_rfl) (by simp) ?_
   refine AllReadyH.cons (o := ⟨some 84, .call ⟨.value (.func 23), #[.tmp 80, .tmp 82, .tmp 83], #[24, 46, 3]⟩, 24, "exact.go:7012", #[⟨1, .data⟩, ⟨3, .data⟩, ⟨4, .data⟩, ⟨3, .chain⟩], none⟩) rfl (fun K hK => ?_) AllReadyH.nil
   go_simp
   refine (implCacheData _ _ l0 l1 a2 _ HA.out HBk.out (show wtCn l0 ≤ 1100000 by omega) (show bulkD l1 ≤ 1200000 by omega)).mono ?_
   rintro e wn7 ⟨v, rfl, ho, hb⟩
   obtain ⟨yb, mb, db, rfl, ho⟩ := kCn_shape ho
   have HX := Lib.hid (show kCn.In w.heap.size wn7.heap.size wn7 (.agg #[.int .i64 (cacheC l0 l1 a2).1, .slice yb mb db]) (cacheC l0 l1 a2) from Kd.In.mono ho BB.out.size (Nat.le_refl _)); clear ho
   replace HA := Lib.hid (HA.out.on hb)
   replace HBk := Lib.hid (HBk.out.on hb)
   replace XD := Lib.hid (XD.out.on hb)
   replace BB := Lib.hid (BB.out.trans (hb.mono BB.out.size))
   clear hb
   (try go_wp2_with fail)
   clear hHeld
   refine hK.out _ _ ?_ (fun hHeld => ?_)
   ·
    (try dsimp only); exact ⟨kc KC0.out BB.out, kc KC1.out BB.out, kc KN0.out BB.out, kc KN1.out BB.out, kc KN2.out BB.out, kc KN3.out BB.out, kc KN4.out BB.out⟩
   clear hK K
   (try simp only [Act.put, Row.pB0, Row.pB1, Row.pB2])
   refine wpAnyH_ready (rs := [7]) (by kernel_rfl) (by simp) ?_
   refine AllReadyH.cons (o := ⟨none, .store 24 (.tmp 15) (.tmp 84), 0, "exact.go:7012", #[⟨6, .data⟩, ⟨5, .data⟩, ⟨5, .chain⟩, ⟨0, .phase⟩, ⟨1, .phase⟩, ⟨2, .phase⟩, ⟨3, .phase⟩, ⟨4, .phase⟩, ⟨5, .phase⟩, ⟨6, .phase⟩], none⟩) rfl (fun K hK => ?_) AllReadyH.nil
   have r0 := XD.out.cell 0; have r1 := XD.out.cell 1
   have t0 := XD.out.frozen 0; have t1 := XD.out.frozen 1
   go_simp
   clear hHeld
   refine hK.out _ _ ?_ (fun hHeld => ?_)
   ·
    (try dsimp only); exact ⟨cell_two (kc KC0.out BB.out) (by have h1 : p < w.heap.size := Ret.cell_lt KC0.out; have h2 := HDW.out; omega), cell_two (kc KC1.out BB.out) (by have h1 : p < w.heap.size := Ret.cell_lt KC1.out; have h2 := HDW.out; omega), cell_two (kc KN0.out BB.out) (by have h1 : q < w.heap.size := Ret.cell_lt KN0.out; have h2 := HDW.out; omega), cell_two (kc KN1.out BB.out) (by have h1 : q < w.heap.size := Ret.cell_lt KN1.out; have h2 := HDW.out; omega), cell_two (kc KN2.out BB.out) (by have h1 : q < w.heap.size := Ret.cell_lt KN2.out; have h2 := HDW.out; omega), cell_two (kc KN3.out BB.out) (by have h1 : q < w.heap.size := Ret.cell_lt KN3.out; have h2 := HDW.out; omega), cell_two (kc KN4.out BB.out) (by have h1 : q < w.heap.size := Ret.cell_lt KN4.out; have h2 := HDW.out; omega)⟩
   clear hK K
   (try simp only [Act.put, Row.pB0, Row.pB1, Row.pB2])
   refine wpAnyH_done (by kernel_rfl) ?_ _
   exact NoPanic.normal (HQ.out _ _ _ _ _ _ gD mb db yb _ HDW.out XD.out HX.out BB.out)
  refine AllReadyH.cons (o := ⟨some 15, .alloc 24, 0, "exact.go:7012", #[], none⟩) rfl (fun K hK => ?_) AllReadyH.nil
  go_simp
  have hb : Below wn1.heap.size wn1 (wn1.alloc (.cells #[.int .i64 0, .slice none 0 0] 24)) := (Below.refl _ _).alloc (Nat.le_refl _) _
  obtain ⟨gD, hgD⟩ : ∃ g, g = wn1.heap.size := ⟨_, rfl⟩
  have XD := Lib.hid (show Ret.Blk (wn1.alloc (.cells #[.int .i64 0, .slice none 0 0] 24)) gD #[.int .i64 0, .slice none 0 0] 24 from by rw [hgD]; exact Ret.Blk.new wn1 _ _)
  have HDW := Lib.hid (show w.heap.size ≤ gD from by rw [hgD]; exact BB.out.size)
  (first | replace HX := Lib.hid (show kCn.In w.heap.size (wn1.alloc (.cells #[.int .i64 0, .slice none 0 0] 24)).heap.size (wn1.alloc (.cells #[.int .i64 0, .slice none 0 0] 24)) (.agg #[.int .i64 (cacheC l0 l1 a2).1, .slice yb mb db]) (cacheC l0 l1 a2) from Kd.In.mono (Kd.In.on HX.out hb) (Nat.le_refl _) hb.size) | skip)
  rw [← hgD]
  clear hgD
  replace HA := Lib.hid (HA.out.on hb)
  replace BB := Lib.hid (BB.out.trans (hb.mono BB.out.size))
  clear hb
  generalize wn1.alloc (.cells #[.int .i64 0, .slice none 0 0] 24) = wn9 at *
  clear hHeld
  refine hK.out _ _ ?_ (fun hHeld => ?_)
  ·
   (try dsimp only); exact ⟨kc KC0.out BB.out, kc KC1.out BB.out, kc KN0.out BB.out, kc KN1.out BB.out, kc KN2.out BB.out, kc KN3.out BB.out, kc KN4.out BB.out⟩
  clear hK K
  (try simp only [Act.put, Row.pB0, Row.pB1, Row.pB2])
  refine wpAnyH_ready (rs := [3]) (by kernel_rfl) (by simp) ?_
  refine AllReadyH.cons (o := ⟨some 82, .call ⟨.value (.func 22), #[.tmp 81], #[41]⟩, 46, "exact.go:7012", #[⟨2, .data⟩, ⟨1, .chain⟩], none⟩) rfl (fun K hK => ?_) AllReadyH.nil
  go_simp
  refine (toDK _ l1 _ (H1.out.on BB.out) (Nat.le_trans Z1 (by decide))).mono ?_
  rintro e wn10 ⟨v, rfl, ho, hb⟩
  obtain ⟨xB0, nB0, cB0, xB1, nB1, cB1, xB2, nB2, cB2, rfl, ho⟩ := kD_shape ho
  have HBk := Lib.hid ho.at; clear ho
  replace HA := Lib.hid (HA.out.on hb)
  replace XD := Lib.hid (XD.out.on hb)
  replace BB := Lib.hid (BB.out.trans (hb.mono BB.out.size))
  clear hb
  (try go_wp2_with fail)
  clear hHeld
  refine hK.out _ _ ?_ (fun hHeld => ?_)
  ·
   (try dsimp only); exact ⟨kc KC0.out BB.out, kc KC1.out BB.out, kc KN0.out BB.out, kc KN1.out BB.out, kc KN2.out BB.out, kc KN3.out BB.out, kc KN4.out BB.out⟩
  clear hK K
  (try simp only [Act.put, Row.pB0, Row.pB1, Row.pB2])
  refine wpAnyH_ready (rs := [5]) (by kernel_rfl) (by simp) ?_
  refine AllReadyH.cons (o := ⟨some 84, .call ⟨.value (.func 23), #[.tmp 80, .tmp 82, .tmp 83], #[24, 46, 3]⟩, 24, "exact.go:7012", #[⟨1, .data⟩, ⟨3, .data⟩, ⟨4, .data⟩, ⟨3, .chain⟩], none⟩) rfl (fun K hK => ?_) AllReadyH.nil
  go_simp
  refine (implCacheData _ _ l0 l1 a2 _ HA.out HBk.out (show wtCn l0 ≤ 1100000 by omega) (show bulkD l1 ≤ 1200000 by omega)).mono ?_
  rintro e wn11 ⟨v, rfl, ho, hb⟩
  obtain ⟨yb, mb, db, rfl, ho⟩ := kCn_shape ho
  have HX := Lib.hid (show kCn.In w.heap.size wn11.heap.size wn11 (.agg #[.int .i64 (cacheC l0 l1 a2).1, .slice yb mb db]) (cacheC l0 l1 a2) from Kd.In.mono ho BB.out.size (Nat.le_refl _)); clear ho
  replace HA := Lib.hid (HA.out.on hb)
  replace XD := Lib.hid (XD.out.on hb)
  replace HBk := Lib.hid (HBk.out.on hb)
  replace BB := Lib.hid (BB.out.trans (hb.mono BB.out.size))
  clear hb
  (try go_wp2_with fail)
  clear hHeld
  refine hK.out _ _ ?_ (fun hHeld => ?_)
  ·
   (try dsimp only); exact ⟨kc KC0.out BB.out, kc KC1.out BB.out, kc KN0.out BB.out, kc KN1.out BB.out, kc KN2.out BB.out, kc KN3.out BB.out, kc KN4.out BB.out⟩
  clear hK K
  (try simp only [Act.put, Row.pB0, Row.pB1, Row.pB2])
  refine wpAnyH_ready (rs := [7]) (by kernel_rfl) (by simp) ?_
  refine AllReadyH.cons (o := ⟨none, .store 24 (.tmp 15) (.tmp 84), 0, "exact.go:7012", #[⟨6, .data⟩, ⟨5, .data⟩, ⟨5, .chain⟩, ⟨0, .phase⟩, ⟨1, .phase⟩, ⟨2, .phase⟩, ⟨3, .phase⟩, ⟨4, .phase⟩, ⟨5, .phase⟩, ⟨6, .phase⟩], none⟩) rfl (fun K hK => ?_) AllReadyH.nil
  have r0 := XD.out.cell 0; have r1 := XD.out.cell 1
  have t0 := XD.out.frozen 0; have t1 := XD.out.frozen 1
  go_simp
  clear hHeld
  refine hK.out _ _ ?_ (fun hHeld => ?_)
  ·
   (try dsimp only); exact ⟨cell_two (kc KC0.out BB.out) (by have h1 : p < w.heap.size := Ret.cell_lt KC0.out; have h2 := HDW.out; omega), cell_two (kc KC1.out BB.out) (by have h1 : p < w.heap.size := Ret.cell_lt KC1.out; have h2 := HDW.out; omega), cell_two (kc KN0.out BB.out) (by have h1 : q < w.heap.size := Ret.cell_lt KN0.out; have h2 := HDW.out; omega), cell_two (kc KN1.out BB.out) (by have h1 : q < w.heap.size := Ret.cell_lt KN1.out; have h2 := HDW.out; omega), cell_two (kc KN2.out BB.out) (by have h1 : q < w.heap.size := Ret.cell_lt KN2.out; have h2 := HDW.out; omega), cell_two (kc KN3.out BB.out) (by have h1 : q < w.heap.size := Ret.cell_lt KN3.out; have h2 := HDW.out; omega), cell_two (kc KN4.out BB.out) (by have h1 : q < w.heap.size := Ret.cell_lt KN4.out; have h2 := HDW.out; omega)⟩
  clear hK K
  (try simp only [Act.put, Row.pB0, Row.pB1, Row.pB2])
  refine wpAnyH_done (by kernel_rfl) ?_ _
  exact NoPanic.normal (HQ.out _ _ _ _ _ _ gD mb db yb _ HDW.out XD.out HX.out BB.out)
 refine AllReadyH.cons (o := ⟨some 15, .alloc 24, 0, "exact.go:7012", #[], none⟩) rfl (fun K hK => ?_) AllReadyH.nil
 go_simp
 have hb : Below wd.heap.size wd (wd.alloc (.cells #[.int .i64 0, .slice none 0 0] 24)) := (Below.refl _ _).alloc (Nat.le_refl _) _
 obtain ⟨gD, hgD⟩ : ∃ g, g = wd.heap.size := ⟨_, rfl⟩
 have XD := Lib.hid (show Ret.Blk (wd.alloc (.cells #[.int .i64 0, .slice none 0 0] 24)) gD #[.int .i64 0, .slice none 0 0] 24 from by rw [hgD]; exact Ret.Blk.new wd _ _)
 have HDW := Lib.hid (show w.heap.size ≤ gD from by rw [hgD]; exact BB.out.size)
 (first | replace HX := Lib.hid (show kCn.In w.heap.size (wd.alloc (.cells #[.int .i64 0, .slice none 0 0] 24)).heap.size (wd.alloc (.cells #[.int .i64 0, .slice none 0 0] 24)) (.agg #[.int .i64 (cacheC l0 l1 a2).1, .slice yb mb db]) (cacheC l0 l1 a2) from Kd.In.mono (Kd.In.on HX.out hb) (Nat.le_refl _) hb.size) | skip)
 rw [← hgD]
 clear hgD
 replace BB := Lib.hid (BB.out.trans (hb.mono BB.out.size))
 clear hb
 generalize wd.alloc (.cells #[.int .i64 0, .slice none 0 0] 24) = wn13 at *
 clear hHeld
 refine hK.out _ _ ?_ (fun hHeld => ?_)
 ·
  (try dsimp only); exact ⟨kc KC0.out BB.out, kc KC1.out BB.out, kc KN0.out BB.out, kc KN1.out BB.out, kc KN2.out BB.out, kc KN3.out BB.out, kc KN4.out BB.out⟩
 clear hK K
 (try simp only [Act.put, Row.pB0, Row.pB1, Row.pB2])
 refine wpAnyH_ready (rs := [1]) (by kernel_rfl) (by simp) ?_
 refine AllReadyH.cons (o := ⟨some 80, .call ⟨.value (.func 18), #[.tmp 79], #[31]⟩, 24, "exact.go:7012", #[⟨0, .data⟩], none⟩) rfl (fun K hK => ?_) AllReadyH.nil
 go_simp
 refine (toContentStoreK _ l0 _ (H0.out.on BB.out) (Nat.le_trans (adCn_big Z0) (by decide))).mono ?_
 rintro e wn14 ⟨v, rfl, ho, hb⟩
 obtain ⟨xA, nA, cA, rfl, ho⟩ := kCn_shape ho
 have HA := Lib.hid ho.at; clear ho
 replace XD := Lib.hid (XD.out.on hb)
 replace BB := Lib.hid (BB.out.trans (hb.mono BB.out.size))
 clear hb
 (try go_wp2_with fail)
 clear hHeld
 refine hK.out _ _ ?_ (fun hHeld => ?_)
 ·
  (try dsimp only); exact ⟨kc KC0.out BB.out, kc KC1.out BB.out, kc KN0.out BB.out, kc KN1.out BB.out, kc KN2.out BB.out, kc KN3.out BB.out, kc KN4.out BB.out⟩
 clear hK K
 (try simp only [Act.put, Row.pB0, Row.pB1, Row.pB2])
 refine wpAnyH_ready (rs := [3]) (by kernel_rfl) (by simp) ?_
 refine AllReadyH.cons (o := ⟨some 82, .call ⟨.value (.func 22), #[.tmp 81], #[41]⟩, 46, "exact.go:7012", #[⟨2, .data⟩, ⟨1, .chain⟩], none⟩) rfl (fun K hK => ?_) AllReadyH.nil
 go_simp
 refine (toDK _ l1 _ (H1.out.on BB.out) (Nat.le_trans Z1 (by decide))).mono ?_
 rintro e wn15 ⟨v, rfl, ho, hb⟩
 obtain ⟨xB0, nB0, cB0, xB1, nB1, cB1, xB2, nB2, cB2, rfl, ho⟩ := kD_shape ho
 have HBk := Lib.hid ho.at; clear ho
 replace XD := Lib.hid (XD.out.on hb)
 replace HA := Lib.hid (HA.out.on hb)
 replace BB := Lib.hid (BB.out.trans (hb.mono BB.out.size))
 clear hb
 (try go_wp2_with fail)
 clear hHeld
 refine hK.out _ _ ?_ (fun hHeld => ?_)
 ·
  (try dsimp only); exact ⟨kc KC0.out BB.out, kc KC1.out BB.out, kc KN0.out BB.out, kc KN1.out BB.out, kc KN2.out BB.out, kc KN3.out BB.out, kc KN4.out BB.out⟩
 clear hK K
 (try simp only [Act.put, Row.pB0, Row.pB1, Row.pB2])
 refine wpAnyH_ready (rs := [5]) (by kernel_rfl) (by simp) ?_
 refine AllReadyH.cons (o := ⟨some 84, .call ⟨.value (.func 23), #[.tmp 80, .tmp 82, .tmp 83], #[24, 46, 3]⟩, 24, "exact.go:7012", #[⟨1, .data⟩, ⟨3, .data⟩, ⟨4, .data⟩, ⟨3, .chain⟩], none⟩) rfl (fun K hK => ?_) AllReadyH.nil
 go_simp
 refine (implCacheData _ _ l0 l1 a2 _ HA.out HBk.out (show wtCn l0 ≤ 1100000 by omega) (show bulkD l1 ≤ 1200000 by omega)).mono ?_
 rintro e wn16 ⟨v, rfl, ho, hb⟩
 obtain ⟨yb, mb, db, rfl, ho⟩ := kCn_shape ho
 have HX := Lib.hid (show kCn.In w.heap.size wn16.heap.size wn16 (.agg #[.int .i64 (cacheC l0 l1 a2).1, .slice yb mb db]) (cacheC l0 l1 a2) from Kd.In.mono ho BB.out.size (Nat.le_refl _)); clear ho
 replace XD := Lib.hid (XD.out.on hb)
 replace HA := Lib.hid (HA.out.on hb)
 replace HBk := Lib.hid (HBk.out.on hb)
 replace BB := Lib.hid (BB.out.trans (hb.mono BB.out.size))
 clear hb
 (try go_wp2_with fail)
 clear hHeld
 refine hK.out _ _ ?_ (fun hHeld => ?_)
 ·
  (try dsimp only); exact ⟨kc KC0.out BB.out, kc KC1.out BB.out, kc KN0.out BB.out, kc KN1.out BB.out, kc KN2.out BB.out, kc KN3.out BB.out, kc KN4.out BB.out⟩
 clear hK K
 (try simp only [Act.put, Row.pB0, Row.pB1, Row.pB2])
 refine wpAnyH_ready (rs := [7]) (by kernel_rfl) (by simp) ?_
 refine AllReadyH.cons (o := ⟨none, .store 24 (.tmp 15) (.tmp 84), 0, "exact.go:7012", #[⟨6, .data⟩, ⟨5, .data⟩, ⟨5, .chain⟩, ⟨0, .phase⟩, ⟨1, .phase⟩, ⟨2, .phase⟩, ⟨3, .phase⟩, ⟨4, .phase⟩, ⟨5, .phase⟩, ⟨6, .phase⟩], none⟩) rfl (fun K hK => ?_) AllReadyH.nil
 have r0 := XD.out.cell 0; have r1 := XD.out.cell 1
 have t0 := XD.out.frozen 0; have t1 := XD.out.frozen 1
 go_simp
 clear hHeld
 refine hK.out _ _ ?_ (fun hHeld => ?_)
 ·
  (try dsimp only); exact ⟨cell_two (kc KC0.out BB.out) (by have h1 : p < w.heap.size := Ret.cell_lt KC0.out; have h2 := HDW.out; omega), cell_two (kc KC1.out BB.out) (by have h1 : p < w.heap.size := Ret.cell_lt KC1.out; have h2 := HDW.out; omega), cell_two (kc KN0.out BB.out) (by have h1 : q < w.heap.size := Ret.cell_lt KN0.out; have h2 := HDW.out; omega), cell_two (kc KN1.out BB.out) (by have h1 : q < w.heap.size := Ret.cell_lt KN1.out; have h2 := HDW.out; omega), cell_two (kc KN2.out BB.out) (by have h1 : q < w.heap.size := Ret.cell_lt KN2.out; have h2 := HDW.out; omega), cell_two (kc KN3.out BB.out) (by have h1 : q < w.heap.size := Ret.cell_lt KN3.out; have h2 := HDW.out; omega), cell_two (kc KN4.out BB.out) (by have h1 : q < w.heap.size := Ret.cell_lt KN4.out; have h2 := HDW.out; omega)⟩
 clear hK K
 (try simp only [Act.put, Row.pB0, Row.pB1, Row.pB2])
 refine wpAnyH_done (by kernel_rfl) ?_ _
 exact NoPanic.normal (HQ.out _ _ _ _ _ _ gD mb db yb _ HDW.out XD.out HX.out BB.out)
set_option maxRecDepth 100000 in
set_option maxHeartbeats 4000000 in
theorem implregR1 {Q : Exit → Act → World → Prop} {v0 v1 v5 v6 v7 v8 v9 v10 v11 v12 v13 v14 v15 v16 v17 v18 v19 v20 v21 v22 v23 v24 v25 v26 v27 v28 v29 v30 v31 v32 v33 v34 v35 v36 v37 v38 v39 v40 v41 v42 v43 v44 v45 v46 v47 v48 v49 v50 v51 v52 v53 v54 v55 v56 v57 v58 v59 v60 v61 v62 v63 v64 v65 v66 v67 v68 v69 v70 v71 v72 v73 v74 v75 v76 v77 v78 v79 v80 v81 v82 v83 v84 v85 v86 v87 v88 v89 v90 v91 v92 v93 v94 v95 v96 : Value} {w : World} {p q nl cl na ca nb cb nc cc_ : Nat} {xl xa xb xc : Option Addr} {l0 : Cnt} {l1 : Dt} {a2 : Int} (H0 : Hid (kCn.At w (.agg #[.int .i64 l0.1, .slice xl nl cl]) l0)) (H1 : Hid (kD.At w (.agg #[.slice xa na ca, .slice xb nb cb, .slice xc nc cc_, .int .i64 l1.2.2.2.1, .int .i64 l1.2.2.2.2]) l1)) (Z0 : wtCn l0 ≤ 1048576) (Z1 : bulkD l1 ≤ 1048576) (KC0 : Hid (w.cell? ⟨p, 0, none⟩ = some (.int .i64 l0.1))) (KC1 : Hid (w.cell? ⟨p, 1, none⟩ = some (.slice xl nl cl))) (KN0 : Hid (w.cell? ⟨q, 0, none⟩ = some (.slice xa na ca))) (KN1 : Hid (w.cell? ⟨q, 1, none⟩ = some (.slice xb nb cb))) (KN2 : Hid (w.cell? ⟨q, 2, none⟩ = some (.slice xc nc cc_))) (KN3 : Hid (w.cell? ⟨q, 3, none⟩ = some (.int .i64 l1.2.2.2.1))) (KN4 : Hid (w.cell? ⟨q, 4, none⟩ = some (.int .i64 l1.2.2.2.2)))
    (hQ : ∀ (u79 u80 u81 u82 u83 u84 : Value) (gD mb db : Nat) (yb : Option Addr) (w2 : World), Below w.heap.size w w2 → kCn.In w.heap.size w2.heap.size w2 (.agg #[.int .i64 (cacheC l0 l1 a2).1, .slice yb mb db]) (cacheC l0 l1 a2) → Ret.Blk w2 gD #[.int .i64 (cacheC l0 l1 a2).1, .slice yb mb db] 24 → w.heap.size ≤ gD → gD < w2.heap.size → Q .normal ⟨#[v0, v1, .int .i64 a2, .pointer (some ⟨p, 0, none⟩), .pointer (some ⟨q, 0, none⟩), v5, v6, v7, v8, v9, v10, v11, v12, v13, v14, .pointer (some ⟨gD, 0, none⟩), v16, v17, v18, v19, v20, v21, v22, v23, v24, v25, v26, v27, v28, v29, v30, v31, v32, v33, v34, v35, v36, v37, v38, v39, v40, v41, v42, v43, v44, v45, v46, v47, v48, v49, v50, v51, v52, v53, v54, v55, v56, v57, v58, v59, v60, v61, v62, v63, v64, v65, v66, v67, v68, v69, v70, v71, v72, v73, v74, v75, v76, v77, v78, u79, u80, u81, u82, u83, u84, v85, v86, v87, v88, v89, v90, v91, v92, v93, v94, v95, v96], []⟩ w2) :
    (Code.region 31 #[{ dst := some 79, op := Op.load 31 (Operand.tmp 3), type := 31, pos := "exact.go:7012", after := #[], guard := none },
      { dst := some 80, op := Op.call { callee := Callee.value (Operand.func 18), args := #[Operand.tmp 79], argTypes := #[31] }, type := 24, pos := "exact.go:7012", after := #[{ on := 0, ground := Ground.data }], guard := none },
      { dst := some 81, op := Op.load 41 (Operand.tmp 4), type := 41, pos := "exact.go:7012", after := #[], guard := none },
      { dst := some 82, op := Op.call { callee := Callee.value (Operand.func 22), args := #[Operand.tmp 81], argTypes := #[41] }, type := 46, pos := "exact.go:7012", after := #[{ on := 2, ground := Ground.data }, { on := 1, ground := Ground.chain }], guard := none },
      { dst := some 83, op := Op.move (Operand.tmp 2), type := 3, pos := "exact.go:7012", after := #[], guard := none },
      { dst := some 84, op := Op.call { callee := Callee.value (Operand.func 23), args := #[Operand.tmp 80, Operand.tmp 82, Operand.tmp 83], argTypes := #[24, 46, 3] }, type := 24, pos := "exact.go:7012", after := #[{ on := 1, ground := Ground.data }, { on := 3, ground := Ground.data }, { on := 4, ground := Ground.data }, { on := 3, ground := Ground.chain }], guard := none },
      { dst := some 15, op := Op.alloc 24, type := 0, pos := "exact.go:7012", after := #[], guard := none },
      { dst := none, op := Op.store 24 (Operand.tmp 15) (Operand.tmp 84), type := 0, pos := "exact.go:7012", after := #[{ on := 6, ground := Ground.data }, { on := 5, ground := Ground.data }, { on := 5, ground := Ground.chain }, { on := 0, ground := Ground.phase }, { on := 1, ground := Ground.phase }, { on := 2, ground := Ground.phase }, { on := 3, ground := Ground.phase }, { on := 4, ground := Ground.phase }, { on := 5, ground := Ground.phase }, { on := 6, ground := Ground.phase }], guard := none }] true).wp Try.prog Q ⟨#[v0, v1, .int .i64 a2, .pointer (some ⟨p, 0, none⟩), .pointer (some ⟨q, 0, none⟩), v5, v6, v7, v8, v9, v10, v11, v12, v13, v14, v15, v16, v17, v18, v19, v20, v21, v22, v23, v24, v25, v26, v27, v28, v29, v30, v31, v32, v33, v34, v35, v36, v37, v38, v39, v40, v41, v42, v43, v44, v45, v46, v47, v48, v49, v50, v51, v52, v53, v54, v55, v56, v57, v58, v59, v60, v61, v62, v63, v64, v65, v66, v67, v68, v69, v70, v71, v72, v73, v74, v75, v76, v77, v78, v79, v80, v81, v82, v83, v84, v85, v86, v87, v88, v89, v90, v91, v92, v93, v94, v95, v96], []⟩ w := by
  refine implR10 H0 H1 Z0 Z1 KC0 KC1 KN0 KN1 KN2 KN3 KN4 ?_
  intro u79 u80 u81 u82 u83 u84 gD mb db yb wx hgd hxd hin hb
  obtain ⟨h1, h2, h3⟩ := two_facts12 (a := .int .i64 (cacheC l0 l1 a2).1) (b := .slice yb mb db) hgd (Nat.le_refl _) hxd hin hb
  exact hQ _ _ _ _ _ _ gD mb db yb _ h1 h2 h3 hgd (by rw [size_two12]; exact hxd.lt)
end Go.Proofs.Ythfljbbigpophaa.Row
/- CacheLookup, model and program. No conditions but that lengths fit. -/
namespace Go.Proofs.Ythfljbbigpophaa.Row
open Go.ChangeShapes Go.WideShapes Go.ChangeAt Go.RowKit Go.Instr
set_option linter.unusedVariables false
set_option maxRecDepth 100000
set_option maxRecDepth 100000 in
set_option maxHeartbeats 4000000 in
theorem rcl0 {Q : Exit → Act → World → Prop} {v0 v1 v5 v6 v7 v9 v10 v11 v12 v13 v14 v15 v16 v17 v18 v19 v20 v21 v22 v23 v24 v25 v26 v27 v28 v29 v30 v31 v32 v33 v34 v35 v36 v37 v38 v39 v40 v41 v42 : Value} {w : World} {b off n c g q k na ca : Nat} {xa xn : Option Addr} {nn cn : Nat} {now : Int} {dd : Dzt} {m : List ByteArray}  (hk : k < n) (hkc : k ≤ c) (hn : n ≤ 9000000) (HZ : Hid (decide (dd.1 = m) = false)) (H_a : Hid (kN.At w (.agg #[.slice xa na ca]) dd.1)) (H_m : Hid (kN.At w (.agg #[.slice xn nn cn]) m)) (HAB : Hid (bulk dd.1 ≤ 1200000)) (HMB : Hid (bulk m ≤ 1200000)) (K0 : Hid (w.cell? ⟨q, 0, none⟩ = some (.slice xn nn cn))) (K1 : Hid (w.cell? ⟨g, 1, none⟩ = some (.slice (some ⟨b, off, none⟩) n c))) (E0 : Hid (w.cell? ⟨b, off + k * 6, none⟩ = some (.slice xa na ca)))
  (hQ : ∀ (u16 u17 u18 u19 u20 u21 u22 u23 u24 u25 u26 u27 u28 u29 u30 u31 u32 u33 : Value)  (wx : World), Below w.heap.size w wx → Q .normal ⟨#[v0, v1, .int .i64 now, .pointer (some ⟨g, 0, none⟩), .pointer (some ⟨q, 0, none⟩), v5, v6, v7, .int .i64 k, v9, v10, v11, v12, v13, v14, v15, u16, u17, u18, u19, u20, u21, u22, u23, u24, u25, u26, u27, u28, u29, u30, u31, u32, u33, .bool false, v35, v36, v37, v38, v39, v40, v41, v42], []⟩ wx) :
  (Code.region 4 #[⟨some 16, .fieldAddr 24 (.tmp 3) 1, 0, "l12_cache.go:67", #[], none⟩,
   ⟨some 17, .load 22 (.tmp 16), 22, "l12_cache.go:67", #[⟨0, .data⟩], none⟩,
   ⟨some 18, .move (.tmp 8), 3, "l12_cache.go:67", #[], none⟩,
   ⟨some 19, .indexAddr 22 (.tmp 17) (.tmp 18), 0, "l12_cache.go:67", #[⟨1, .data⟩, ⟨2, .data⟩], none⟩,
   ⟨some 20, .fieldAddr 72 (.tmp 19) 0, 0, "l12_cache.go:67", #[⟨3, .data⟩], none⟩,
   ⟨some 21, .fieldAddr 46 (.tmp 20) 0, 0, "l12_cache.go:67", #[⟨4, .data⟩], none⟩,
   ⟨some 22, .load 44 (.tmp 21), 44, "l12_cache.go:67", #[⟨5, .data⟩], none⟩,
   ⟨some 23, .load 44 (.tmp 4), 44, "l12_cache.go:67", #[], none⟩,
   ⟨some 24, .call ⟨.value (.func 69), #[.tmp 22, .tmp 23], #[44, 44]⟩, 4, "l12_cache.go:67", #[⟨6, .data⟩, ⟨7, .data⟩], none⟩,
   ⟨some 25, .move (.tmp 24), 4, "l12_cache.go:67", #[⟨8, .data⟩, ⟨8, .chain⟩], none⟩,
   ⟨some 26, .fieldAddr 24 (.tmp 3) 1, 0, "l12_cache.go:67", #[⟨9, .guard⟩], some (9, true)⟩,
   ⟨some 27, .load 22 (.tmp 26), 22, "l12_cache.go:67", #[⟨10, .data⟩, ⟨9, .guard⟩], some (9, true)⟩,
   ⟨some 28, .move (.tmp 8), 3, "l12_cache.go:67", #[⟨9, .guard⟩], some (9, true)⟩,
   ⟨some 29, .indexAddr 22 (.tmp 27) (.tmp 28), 0, "l12_cache.go:67", #[⟨11, .data⟩, ⟨12, .data⟩, ⟨9, .guard⟩], some (9, true)⟩,
   ⟨some 30, .fieldAddr 72 (.tmp 29) 0, 0, "l12_cache.go:67", #[⟨13, .data⟩, ⟨9, .guard⟩], some (9, true)⟩,
   ⟨some 31, .load 46 (.tmp 30), 46, "l12_cache.go:67", #[⟨14, .data⟩, ⟨9, .guard⟩], some (9, true)⟩,
   ⟨some 32, .move (.tmp 2), 3, "l12_cache.go:67", #[⟨9, .guard⟩], some (9, true)⟩,
   ⟨some 33, .call ⟨.value (.func 70), #[.tmp 31, .tmp 32], #[46, 3]⟩, 4, "l12_cache.go:67", #[⟨15, .data⟩, ⟨16, .data⟩, ⟨9, .chain⟩, ⟨9, .guard⟩], some (9, true)⟩,
   ⟨some 34, .pick (.tmp 25) (.tmp 33) (.const (Value.bool false)), 4, "l12_cache.go:67", #[⟨9, .data⟩, ⟨17, .data⟩], none⟩] true).wp Try.prog Q ⟨#[v0, v1, .int .i64 now, .pointer (some ⟨g, 0, none⟩), .pointer (some ⟨q, 0, none⟩), v5, v6, v7, .int .i64 k, v9, v10, v11, v12, v13, v14, v15, v16, v17, v18, v19, v20, v21, v22, v23, v24, v25, v26, v27, v28, v29, v30, v31, v32, v33, v34, v35, v36, v37, v38, v39, v40, v41, v42], []⟩ w := by
 have HQ := Lib.hid hQ; clear hQ
 have hdr : Below w.heap.size w w.drew := (Below.refl _ _).drew
 have BB := Lib.hid hdr
 refine wp_region_noPanic ?_
 refine wp_region_held_drew (S := (fun w' => w'.cell? ⟨q, 0, none⟩ = some (.slice xn nn cn) ∧ w'.cell? ⟨g, 1, none⟩ = some (.slice (some ⟨b, off, none⟩) n c) ∧ w'.cell? ⟨b, off + k * 6, none⟩ = some (.slice xa na ca))) (by kernel_rfl) ?_ (fun hHeld => ?_)
 ·
  exact ⟨kc K0.out BB.out, kc K1.out BB.out, kc E0.out BB.out⟩
 clear hdr
 generalize w.drew = wd at *
 refine wpAnyH_take (i := 0) (oi := ⟨some 16, .fieldAddr 24 (.tmp 3) 1, 0, "l12_cache.go:67", #[], none⟩) (v := ?_) rfl (by kernel_rfl) (by kernel_rfl) (by kernel_rfl) (fun _ _ _ h => h) (Or.inl ⟨by rfl, ?_⟩) (by assumption) ?_
 rotate_left
 ·
  intro w' hSw; (try dsimp only at hSw); first | (go_simp; done) | (go_simp; with_reducible rfl)
 (try simp only [Act.put, Row.pB0, Row.pB1, Row.pB2])
 refine wpAnyH_take (i := 1) (oi := ⟨some 17, .load 22 (.tmp 16), 22, "l12_cache.go:67", #[⟨0, .data⟩], none⟩) (v := ?_) rfl (by kernel_rfl) (by kernel_rfl) (by kernel_rfl) (fun _ _ _ h => h) (Or.inl ⟨by rfl, ?_⟩) (by assumption) ?_
 rotate_left
 ·
  intro w' hSw; (try dsimp only at hSw); first | (go_simp; done) | (go_simp; with_reducible rfl)
 (try simp only [Act.put, Row.pB0, Row.pB1, Row.pB2])
 refine wpAnyH_take (i := 2) (oi := ⟨some 18, .move (.tmp 8), 3, "l12_cache.go:67", #[], none⟩) (v := ?_) rfl (by kernel_rfl) (by kernel_rfl) (by kernel_rfl) (fun _ _ _ h => h) (Or.inl ⟨by rfl, ?_⟩) (by assumption) ?_
 rotate_left
 ·
  intro w' hSw; (try dsimp only at hSw); first | (go_simp; done) | (go_simp; with_reducible rfl)
 (try simp only [Act.put, Row.pB0, Row.pB1, Row.pB2])
 refine wpAnyH_take (i := 3) (oi := ⟨some 19, .indexAddr 22 (.tmp 17) (.tmp 18), 0, "l12_cache.go:67", #[⟨1, .data⟩, ⟨2, .data⟩], none⟩) (v := ?_) rfl (by kernel_rfl) (by kernel_rfl) (by kernel_rfl) (fun _ _ _ h => h) (Or.inl ⟨by rfl, ?_⟩) (by assumption) ?_
 rotate_left
 ·
  intro w' hSw; (try dsimp only at hSw); first | (go_simp; done) | (go_simp; with_reducible rfl)
 (try simp only [Act.put, Row.pB0, Row.pB1, Row.pB2])
 refine wpAnyH_take (i := 4) (oi := ⟨some 20, .fieldAddr 72 (.tmp 19) 0, 0, "l12_cache.go:67", #[⟨3, .data⟩], none⟩) (v := ?_) rfl (by kernel_rfl) (by kernel_rfl) (by kernel_rfl) (fun _ _ _ h => h) (Or.inl ⟨by rfl, ?_⟩) (by assumption) ?_
 rotate_left
 ·
  intro w' hSw; (try dsimp only at hSw); first | (go_simp; done) | (go_simp; with_reducible rfl)
 (try simp only [Act.put, Row.pB0, Row.pB1, Row.pB2])
 refine wpAnyH_take (i := 5) (oi := ⟨some 21, .fieldAddr 46 (.tmp 20) 0, 0, "l12_cache.go:67", #[⟨4, .data⟩], none⟩) (v := ?_) rfl (by kernel_rfl) (by kernel_rfl) (by kernel_rfl) (fun _ _ _ h => h) (Or.inl ⟨by rfl, ?_⟩) (by assumption) ?_
 rotate_left
 ·
  intro w' hSw; (try dsimp only at hSw); first | (go_simp; done) | (go_simp; with_reducible rfl)
 (try simp only [Act.put, Row.pB0, Row.pB1, Row.pB2])
 refine wpAnyH_take (i := 6) (oi := ⟨some 22, .load 44 (.tmp 21), 44, "l12_cache.go:67", #[⟨5, .data⟩], none⟩) (v := ?_) rfl (by kernel_rfl) (by kernel_rfl) (by kernel_rfl) (fun _ _ _ h => h) (Or.inl ⟨by rfl, ?_⟩) (by assumption) ?_
 rotate_left
 ·
  intro w' hSw; (try dsimp only at hSw); first | (go_simp; done) | (go_simp; with_reducible rfl)
 (try simp only [Act.put, Row.pB0, Row.pB1, Row.pB2])
 refine wpAnyH_take (i := 7) (oi := ⟨some 23, .load 44 (.tmp 4), 44, "l12_cache.go:67", #[], none⟩) (v := ?_) rfl (by kernel_rfl) (by kernel_rfl) (by kernel_rfl) (fun _ _ _ h => h) (Or.inl ⟨by rfl, ?_⟩) (by assumption) ?_
 rotate_left
 ·
  intro w' hSw; (try dsimp only at hSw); first | (go_simp; done) | (go_simp; with_reducible rfl)
 (try simp only [Act.put, Row.pB0, Row.pB1, Row.pB2])
 refine wpAnyH_ready (rs := [8]) (by kernel_rfl) (by simp) ?_
 refine AllReadyH.cons (o := ⟨some 24, .call ⟨.value (.func 69), #[.tmp 22, .tmp 23], #[44, 44]⟩, 4, "l12_cache.go:67", #[⟨6, .data⟩, ⟨7, .data⟩], none⟩) rfl (fun K hK => ?_) AllReadyH.nil
 go_simp
 refine (sEqK false HZ.out (H_a.out.on BB.out) (H_m.out.on BB.out) (Nat.le_trans HAB.out (by decide)) (Nat.le_trans HMB.out (by decide))).mono ?_
 rintro e wn1 ⟨rfl, hb⟩
 replace BB := Lib.hid (BB.out.trans (hb.mono BB.out.size))
 clear hb
 (try go_wp2_with fail)
 clear hHeld
 refine hK.out _ _ ?_ (fun hHeld => ?_)
 ·
  (try dsimp only); exact ⟨kc K0.out BB.out, kc K1.out BB.out, kc E0.out BB.out⟩
 clear hK K
 (try simp only [Act.put, Row.pB0, Row.pB1, Row.pB2])
 refine wpAnyH_take (i := 9) (oi := ⟨some 25, .move (.tmp 24), 4, "l12_cache.go:67", #[⟨8, .data⟩, ⟨8, .chain⟩], none⟩) (v := ?_) rfl (by kernel_rfl) (by kernel_rfl) (by kernel_rfl) (fun _ _ _ h => h) (Or.inl ⟨by rfl, ?_⟩) (by assumption) ?_
 rotate_left
 ·
  intro w' hSw; (try dsimp only at hSw); first | (go_simp; done) | (go_simp; with_reducible rfl)
 (try simp only [Act.put, Row.pB0, Row.pB1, Row.pB2])
 refine wpAnyH_take (i := 10) (oi := ⟨some 26, .fieldAddr 24 (.tmp 3) 1, 0, "l12_cache.go:67", #[⟨9, .guard⟩], some (9, true)⟩) (v := undef) rfl (by kernel_rfl) (by kernel_rfl) (by kernel_rfl) (fun _ _ _ h => h) (Or.inr ⟨by rfl, rfl⟩) (by assumption) ?_
 (try simp only [Act.put, Row.pB0, Row.pB1, Row.pB2])
 refine wpAnyH_take (i := 11) (oi := ⟨some 27, .load 22 (.tmp 26), 22, "l12_cache.go:67", #[⟨10, .data⟩, ⟨9, .guard⟩], some (9, true)⟩) (v := undef) rfl (by kernel_rfl) (by kernel_rfl) (by kernel_rfl) (fun _ _ _ h => h) (Or.inr ⟨by rfl, rfl⟩) (by assumption) ?_
 (try simp only [Act.put, Row.pB0, Row.pB1, Row.pB2])
 refine wpAnyH_take (i := 12) (oi := ⟨some 28, .move (.tmp 8), 3, "l12_cache.go:67", #[⟨9, .guard⟩], some (9, true)⟩) (v := undef) rfl (by kernel_rfl) (by kernel_rfl) (by kernel_rfl) (fun _ _ _ h => h) (Or.inr ⟨by rfl, rfl⟩) (by assumption) ?_
 (try simp only [Act.put, Row.pB0, Row.pB1, Row.pB2])
 refine wpAnyH_take (i := 13) (oi := ⟨some 29, .indexAddr 22 (.tmp 27) (.tmp 28), 0, "l12_cache.go:67", #[⟨11, .data⟩, ⟨12, .data⟩, ⟨9, .guard⟩], some (9, true)⟩) (v := undef) rfl (by kernel_rfl) (by kernel_rfl) (by kernel_rfl) (fun _ _ _ h => h) (Or.inr ⟨by rfl, rfl⟩) (by assumption) ?_
 (try simp only [Act.put, Row.pB0, Row.pB1, Row.pB2])
 refine wpAnyH_take (i := 14) (oi := ⟨some 30, .fieldAddr 72 (.tmp 29) 0, 0, "l12_cache.go:67", #[⟨13, .data⟩, ⟨9, .guard⟩], some (9, true)⟩) (v := undef) rfl (by kernel_rfl) (by kernel_rfl) (by kernel_rfl) (fun _ _ _ h => h) (Or.inr ⟨by rfl, rfl⟩) (by assumption) ?_
 (try simp only [Act.put, Row.pB0, Row.pB1, Row.pB2])
 refine wpAnyH_take (i := 15) (oi := ⟨some 31, .load 46 (.tmp 30), 46, "l12_cache.go:67", #[⟨14, .data⟩, ⟨9, .guard⟩], some (9, true)⟩) (v := undef) rfl (by kernel_rfl) (by kernel_rfl) (by kernel_rfl) (fun _ _ _ h => h) (Or.inr ⟨by rfl, rfl⟩) (by assumption) ?_
 (try simp only [Act.put, Row.pB0, Row.pB1, Row.pB2])
 refine wpAnyH_take (i := 16) (oi := ⟨some 32, .move (.tmp 2), 3, "l12_cache.go:67", #[⟨9, .guard⟩], some (9, true)⟩) (v := undef) rfl (by kernel_rfl) (by kernel_rfl) (by kernel_rfl) (fun _ _ _ h => h) (Or.inr ⟨by rfl, rfl⟩) (by assumption) ?_
 (try simp only [Act.put, Row.pB0, Row.pB1, Row.pB2])
 refine wpAnyH_take (i := 17) (oi := ⟨some 33, .call ⟨.value (.func 70), #[.tmp 31, .tmp 32], #[46, 3]⟩, 4, "l12_cache.go:67", #[⟨15, .data⟩, ⟨16, .data⟩, ⟨9, .chain⟩, ⟨9, .guard⟩], some (9, true)⟩) (v := undef) rfl (by kernel_rfl) (by kernel_rfl) (by kernel_rfl) (fun _ _ _ h => h) (Or.inr ⟨by rfl, rfl⟩) (by assumption) ?_
 (try simp only [Act.put, Row.pB0, Row.pB1, Row.pB2])
 refine wpAnyH_take (i := 18) (oi := ⟨some 34, .pick (.tmp 25) (.tmp 33) (.const (Value.bool false)), 4, "l12_cache.go:67", #[⟨9, .data⟩, ⟨17, .data⟩], none⟩) (v := ?_) rfl (by kernel_rfl) (by kernel_rfl) (by kernel_rfl) (fun _ _ _ h => h) (Or.inl ⟨by rfl, ?_⟩) (by assumption) ?_
 rotate_left
 ·
  intro w' hSw; (try dsimp only at hSw); first | (go_simp; done) | (go_simp; with_reducible rfl)
 (try simp only [Act.put, Row.pB0, Row.pB1, Row.pB2])
 refine wpAnyH_done (by kernel_rfl) ?_ _
 exact NoPanic.normal (HQ.out _ _ _ _ _ _ _ _ _ _ _ _ _ _ _ _ _ _  _  BB.out)
set_option maxRecDepth 100000 in
set_option maxHeartbeats 4000000 in
theorem rcl1 {Q : Exit → Act → World → Prop} {v0 v1 v5 v6 v7 v9 v10 v11 v12 v13 v14 v15 v16 v17 v18 v19 v20 v21 v22 v23 v24 v25 v26 v27 v28 v29 v30 v31 v32 v33 v34 v35 v36 v37 v38 v39 v40 v41 v42 : Value} {w : World} {b off n c g q k na ca nb cb nc cc_ : Nat} {xa xb xc xn : Option Addr} {nn cn : Nat} {f s now : Int} {dd : Dzt} {m : List ByteArray} {z : Bool} (hk : k < n) (hkc : k ≤ c) (hn : n ≤ 9000000) (HZ : Hid (decide (dd.1 = m) = true)) (H_a : Hid (kN.At w (.agg #[.slice xa na ca]) dd.1)) (H_m : Hid (kN.At w (.agg #[.slice xn nn cn]) m)) (HAB : Hid (bulk dd.1 ≤ 1200000)) (HMB : Hid (bulk m ≤ 1200000)) (HF : Hid (decide (now ≤ dd.2.2.2.1) = z)) (H_d : Hid (kDz.At w (.agg #[.slice xa na ca, .slice xb nb cb, .slice xc nc cc_, .int .i64 f, .int .i64 s]) dd)) (K0 : Hid (w.cell? ⟨q, 0, none⟩ = some (.slice xn nn cn))) (K1 : Hid (w.cell? ⟨g, 1, none⟩ = some (.slice (some ⟨b, off, none⟩) n c))) (E0 : Hid (w.cell? ⟨b, off + k * 6, none⟩ = some (.slice xa na ca))) (E1 : Hid (w.cell? ⟨b, off + k * 6 + 1, none⟩ = some (.slice xb nb cb))) (E2 : Hid (w.cell? ⟨b, off + k * 6 + 2, none⟩ = some (.slice xc nc cc_))) (E3 : Hid (w.cell? ⟨b, off + k * 6 + 3, none⟩ = some (.int .i64 f))) (E4 : Hid (w.cell? ⟨b, off + k * 6 + 4, none⟩ = some (.int .i64 s)))
  (hQ : ∀ (u16 u17 u18 u19 u20 u21 u22 u23 u24 u25 u26 u27 u28 u29 u30 u31 u32 u33 : Value)  (wx : World), Below w.heap.size w wx → Q .normal ⟨#[v0, v1, .int .i64 now, .pointer (some ⟨g, 0, none⟩), .pointer (some ⟨q, 0, none⟩), v5, v6, v7, .int .i64 k, v9, v10, v11, v12, v13, v14, v15, u16, u17, u18, u19, u20, u21, u22, u23, u24, u25, u26, u27, u28, u29, u30, u31, u32, u33, .bool z, v35, v36, v37, v38, v39, v40, v41, v42], []⟩ wx) :
  (Code.region 4 #[⟨some 16, .fieldAddr 24 (.tmp 3) 1, 0, "l12_cache.go:67", #[], none⟩,
   ⟨some 17, .load 22 (.tmp 16), 22, "l12_cache.go:67", #[⟨0, .data⟩], none⟩,
   ⟨some 18, .move (.tmp 8), 3, "l12_cache.go:67", #[], none⟩,
   ⟨some 19, .indexAddr 22 (.tmp 17) (.tmp 18), 0, "l12_cache.go:67", #[⟨1, .data⟩, ⟨2, .data⟩], none⟩,
   ⟨some 20, .fieldAddr 72 (.tmp 19) 0, 0, "l12_cache.go:67", #[⟨3, .data⟩], none⟩,
   ⟨some 21, .fieldAddr 46 (.tmp 20) 0, 0, "l12_cache.go:67", #[⟨4, .data⟩], none⟩,
   ⟨some 22, .load 44 (.tmp 21), 44, "l12_cache.go:67", #[⟨5, .data⟩], none⟩,
   ⟨some 23, .load 44 (.tmp 4), 44, "l12_cache.go:67", #[], none⟩,
   ⟨some 24, .call ⟨.value (.func 69), #[.tmp 22, .tmp 23], #[44, 44]⟩, 4, "l12_cache.go:67", #[⟨6, .data⟩, ⟨7, .data⟩], none⟩,
   ⟨some 25, .move (.tmp 24), 4, "l12_cache.go:67", #[⟨8, .data⟩, ⟨8, .chain⟩], none⟩,
   ⟨some 26, .fieldAddr 24 (.tmp 3) 1, 0, "l12_cache.go:67", #[⟨9, .guard⟩], some (9, true)⟩,
   ⟨some 27, .load 22 (.tmp 26), 22, "l12_cache.go:67", #[⟨10, .data⟩, ⟨9, .guard⟩], some (9, true)⟩,
   ⟨some 28, .move (.tmp 8), 3, "l12_cache.go:67", #[⟨9, .guard⟩], some (9, true)⟩,
   ⟨some 29, .indexAddr 22 (.tmp 27) (.tmp 28), 0, "l12_cache.go:67", #[⟨11, .data⟩, ⟨12, .data⟩, ⟨9, .guard⟩], some (9, true)⟩,
   ⟨some 30, .fieldAddr 72 (.tmp 29) 0, 0, "l12_cache.go:67", #[⟨13, .data⟩, ⟨9, .guard⟩], some (9, true)⟩,
   ⟨some 31, .load 46 (.tmp 30), 46, "l12_cache.go:67", #[⟨14, .data⟩, ⟨9, .guard⟩], some (9, true)⟩,
   ⟨some 32, .move (.tmp 2), 3, "l12_cache.go:67", #[⟨9, .guard⟩], some (9, true)⟩,
   ⟨some 33, .call ⟨.value (.func 70), #[.tmp 31, .tmp 32], #[46, 3]⟩, 4, "l12_cache.go:67", #[⟨15, .data⟩, ⟨16, .data⟩, ⟨9, .chain⟩, ⟨9, .guard⟩], some (9, true)⟩,
   ⟨some 34, .pick (.tmp 25) (.tmp 33) (.const (Value.bool false)), 4, "l12_cache.go:67", #[⟨9, .data⟩, ⟨17, .data⟩], none⟩] true).wp Try.prog Q ⟨#[v0, v1, .int .i64 now, .pointer (some ⟨g, 0, none⟩), .pointer (some ⟨q, 0, none⟩), v5, v6, v7, .int .i64 k, v9, v10, v11, v12, v13, v14, v15, v16, v17, v18, v19, v20, v21, v22, v23, v24, v25, v26, v27, v28, v29, v30, v31, v32, v33, v34, v35, v36, v37, v38, v39, v40, v41, v42], []⟩ w := by
 have HQ := Lib.hid hQ; clear hQ
 have hdr : Below w.heap.size w w.drew := (Below.refl _ _).drew
 have BB := Lib.hid hdr
 refine wp_region_noPanic ?_
 refine wp_region_held_drew (S := (fun w' => w'.cell? ⟨q, 0, none⟩ = some (.slice xn nn cn) ∧ w'.cell? ⟨g, 1, none⟩ = some (.slice (some ⟨b, off, none⟩) n c) ∧ w'.cell? ⟨b, off + k * 6, none⟩ = some (.slice xa na ca) ∧ w'.cell? ⟨b, off + k * 6 + 1, none⟩ = some (.slice xb nb cb) ∧ w'.cell? ⟨b, off + k * 6 + 2, none⟩ = some (.slice xc nc cc_) ∧ w'.cell? ⟨b, off + k * 6 + 3, none⟩ = some (.int .i64 f) ∧ w'.cell? ⟨b, off + k * 6 + 4, none⟩ = some (.int .i64 s))) (by kernel_rfl) ?_ (fun hHeld => ?_)
 ·
  exact ⟨kc K0.out BB.out, kc K1.out BB.out, kc E0.out BB.out, kc E1.out BB.out, kc E2.out BB.out, kc E3.out BB.out, kc E4.out BB.out⟩
 clear hdr
 generalize w.drew = wd at *
 refine wpAnyH_take (i := 0) (oi := ⟨some 16, .fieldAddr 24 (.tmp 3) 1, 0, "l12_cache.go:67", #[], none⟩) (v := ?_) rfl (by kernel_rfl) (by kernel_rfl) (by kernel_rfl) (fun _ _ _ h => h) (Or.inl ⟨by rfl, ?_⟩) (by assumption) ?_
 rotate_left
 ·
  intro w' hSw; (try dsimp only at hSw); first | (go_simp; done) | (go_simp; with_reducible rfl)
 (try simp only [Act.put, Row.pB0, Row.pB1, Row.pB2])
 refine wpAnyH_take (i := 1) (oi := ⟨some 17, .load 22 (.tmp 16), 22, "l12_cache.go:67", #[⟨0, .data⟩], none⟩) (v := ?_) rfl (by kernel_rfl) (by kernel_rfl) (by kernel_rfl) (fun _ _ _ h => h) (Or.inl ⟨by rfl, ?_⟩) (by assumption) ?_
 rotate_left
 ·
  intro w' hSw; (try dsimp only at hSw); first | (go_simp; done) | (go_simp; with_reducible rfl)
 (try simp only [Act.put, Row.pB0, Row.pB1, Row.pB2])
 refine wpAnyH_take (i := 2) (oi := ⟨some 18, .move (.tmp 8), 3, "l12_cache.go:67", #[], none⟩) (v := ?_) rfl (by kernel_rfl) (by kernel_rfl) (by kernel_rfl) (fun _ _ _ h => h) (Or.inl ⟨by rfl, ?_⟩) (by assumption) ?_
 rotate_left
 ·
  intro w' hSw; (try dsimp only at hSw); first | (go_simp; done) | (go_simp; with_reducible rfl)
 (try simp only [Act.put, Row.pB0, Row.pB1, Row.pB2])
 refine wpAnyH_take (i := 3) (oi := ⟨some 19, .indexAddr 22 (.tmp 17) (.tmp 18), 0, "l12_cache.go:67", #[⟨1, .data⟩, ⟨2, .data⟩], none⟩) (v := ?_) rfl (by kernel_rfl) (by kernel_rfl) (by kernel_rfl) (fun _ _ _ h => h) (Or.inl ⟨by rfl, ?_⟩) (by assumption) ?_
 rotate_left
 ·
  intro w' hSw; (try dsimp only at hSw); first | (go_simp; done) | (go_simp; with_reducible rfl)
 (try simp only [Act.put, Row.pB0, Row.pB1, Row.pB2])
 refine wpAnyH_take (i := 4) (oi := ⟨some 20, .fieldAddr 72 (.tmp 19) 0, 0, "l12_cache.go:67", #[⟨3, .data⟩], none⟩) (v := ?_) rfl (by kernel_rfl) (by kernel_rfl) (by kernel_rfl) (fun _ _ _ h => h) (Or.inl ⟨by rfl, ?_⟩) (by assumption) ?_
 rotate_left
 ·
  intro w' hSw; (try dsimp only at hSw); first | (go_simp; done) | (go_simp; with_reducible rfl)
 (try simp only [Act.put, Row.pB0, Row.pB1, Row.pB2])
 refine wpAnyH_take (i := 5) (oi := ⟨some 21, .fieldAddr 46 (.tmp 20) 0, 0, "l12_cache.go:67", #[⟨4, .data⟩], none⟩) (v := ?_) rfl (by kernel_rfl) (by kernel_rfl) (by kernel_rfl) (fun _ _ _ h => h) (Or.inl ⟨by rfl, ?_⟩) (by assumption) ?_
 rotate_left
 ·
  intro w' hSw; (try dsimp only at hSw); first | (go_simp; done) | (go_simp; with_reducible rfl)
 (try simp only [Act.put, Row.pB0, Row.pB1, Row.pB2])
 refine wpAnyH_take (i := 6) (oi := ⟨some 22, .load 44 (.tmp 21), 44, "l12_cache.go:67", #[⟨5, .data⟩], none⟩) (v := ?_) rfl (by kernel_rfl) (by kernel_rfl) (by kernel_rfl) (fun _ _ _ h => h) (Or.inl ⟨by rfl, ?_⟩) (by assumption) ?_
 rotate_left
 ·
  intro w' hSw; (try dsimp only at hSw); first | (go_simp; done) | (go_simp; with_reducible rfl)
 (try simp only [Act.put, Row.pB0, Row.pB1, Row.pB2])
 refine wpAnyH_take (i := 7) (oi := ⟨some 23, .load 44 (.tmp 4), 44, "l12_cache.go:67", #[], none⟩) (v := ?_) rfl (by kernel_rfl) (by kernel_rfl) (by kernel_rfl) (fun _ _ _ h => h) (Or.inl ⟨by rfl, ?_⟩) (by assumption) ?_
 rotate_left
 ·
  intro w' hSw; (try dsimp only at hSw); first | (go_simp; done) | (go_simp; with_reducible rfl)
 (try simp only [Act.put, Row.pB0, Row.pB1, Row.pB2])
 refine wpAnyH_ready (rs := [8]) (by kernel_rfl) (by simp) ?_
 refine AllReadyH.cons (o := ⟨some 24, .call ⟨.value (.func 69), #[.tmp 22, .tmp 23], #[44, 44]⟩, 4, "l12_cache.go:67", #[⟨6, .data⟩, ⟨7, .data⟩], none⟩) rfl (fun K hK => ?_) AllReadyH.nil
 go_simp
 refine (sEqK true HZ.out (H_a.out.on BB.out) (H_m.out.on BB.out) (Nat.le_trans HAB.out (by decide)) (Nat.le_trans HMB.out (by decide))).mono ?_
 rintro e wn1 ⟨rfl, hb⟩
 replace BB := Lib.hid (BB.out.trans (hb.mono BB.out.size))
 clear hb
 (try go_wp2_with fail)
 clear hHeld
 refine hK.out _ _ ?_ (fun hHeld => ?_)
 ·
  (try dsimp only); exact ⟨kc K0.out BB.out, kc K1.out BB.out, kc E0.out BB.out, kc E1.out BB.out, kc E2.out BB.out, kc E3.out BB.out, kc E4.out BB.out⟩
 clear hK K
 (try simp only [Act.put, Row.pB0, Row.pB1, Row.pB2])
 refine wpAnyH_take (i := 9) (oi := ⟨some 25, .move (.tmp 24), 4, "l12_cache.go:67", #[⟨8, .data⟩, ⟨8, .chain⟩], none⟩) (v := ?_) rfl (by kernel_rfl) (by kernel_rfl) (by kernel_rfl) (fun _ _ _ h => h) (Or.inl ⟨by rfl, ?_⟩) (by assumption) ?_
 rotate_left
 ·
  intro w' hSw; (try dsimp only at hSw); first | (go_simp; done) | (go_simp; with_reducible rfl)
 (try simp only [Act.put, Row.pB0, Row.pB1, Row.pB2])
 refine wpAnyH_take (i := 10) (oi := ⟨some 26, .fieldAddr 24 (.tmp 3) 1, 0, "l12_cache.go:67", #[⟨9, .guard⟩], some (9, true)⟩) (v := ?_) rfl (by kernel_rfl) (by kernel_rfl) (by kernel_rfl) (fun _ _ _ h => h) (Or.inl ⟨by rfl, ?_⟩) (by assumption) ?_
 rotate_left
 ·
  intro w' hSw; (try dsimp only at hSw); first | (go_simp; done) | (go_simp; with_reducible rfl)
 (try simp only [Act.put, Row.pB0, Row.pB1, Row.pB2])
 refine wpAnyH_take (i := 11) (oi := ⟨some 27, .load 22 (.tmp 26), 22, "l12_cache.go:67", #[⟨10, .data⟩, ⟨9, .guard⟩], some (9, true)⟩) (v := ?_) rfl (by kernel_rfl) (by kernel_rfl) (by kernel_rfl) (fun _ _ _ h => h) (Or.inl ⟨by rfl, ?_⟩) (by assumption) ?_
 rotate_left
 ·
  intro w' hSw; (try dsimp only at hSw); first | (go_simp; done) | (go_simp; with_reducible rfl)
 (try simp only [Act.put, Row.pB0, Row.pB1, Row.pB2])
 refine wpAnyH_take (i := 12) (oi := ⟨some 28, .move (.tmp 8), 3, "l12_cache.go:67", #[⟨9, .guard⟩], some (9, true)⟩) (v := ?_) rfl (by kernel_rfl) (by kernel_rfl) (by kernel_rfl) (fun _ _ _ h => h) (Or.inl ⟨by rfl, ?_⟩) (by assumption) ?_
 rotate_left
 ·
  intro w' hSw; (try dsimp only at hSw); first | (go_simp; done) | (go_simp; with_reducible rfl)
 (try simp only [Act.put, Row.pB0, Row.pB1, Row.pB2])
 refine wpAnyH_take (i := 13) (oi := ⟨some 29, .indexAddr 22 (.tmp 27) (.tmp 28), 0, "l12_cache.go:67", #[⟨11, .data⟩, ⟨12, .data⟩, ⟨9, .guard⟩], some (9, true)⟩) (v := ?_) rfl (by kernel_rfl) (by kernel_rfl) (by kernel_rfl) (fun _ _ _ h => h) (Or.inl ⟨by rfl, ?_⟩) (by assumption) ?_
 rotate_left
 ·
  intro w' hSw; (try dsimp only at hSw); first | (go_simp; done) | (go_simp; with_reducible rfl)
 (try simp only [Act.put, Row.pB0, Row.pB1, Row.pB2])
 refine wpAnyH_take (i := 14) (oi := ⟨some 30, .fieldAddr 72 (.tmp 29) 0, 0, "l12_cache.go:67", #[⟨13, .data⟩, ⟨9, .guard⟩], some (9, true)⟩) (v := ?_) rfl (by kernel_rfl) (by kernel_rfl) (by kernel_rfl) (fun _ _ _ h => h) (Or.inl ⟨by rfl, ?_⟩) (by assumption) ?_
 rotate_left
 ·
  intro w' hSw; (try dsimp only at hSw); first | (go_simp; done) | (go_simp; with_reducible rfl)
 (try simp only [Act.put, Row.pB0, Row.pB1, Row.pB2])
 refine wpAnyH_take (i := 15) (oi := ⟨some 31, .load 46 (.tmp 30), 46, "l12_cache.go:67", #[⟨14, .data⟩, ⟨9, .guard⟩], some (9, true)⟩) (v := ?_) rfl (by kernel_rfl) (by kernel_rfl) (by kernel_rfl) (fun _ _ _ h => h) (Or.inl ⟨by rfl, ?_⟩) (by assumption) ?_
 rotate_left
 ·
  intro w' hSw; (try dsimp only at hSw); first | (go_simp; done) | (go_simp; with_reducible rfl)
 (try simp only [Act.put, Row.pB0, Row.pB1, Row.pB2])
 refine wpAnyH_take (i := 16) (oi := ⟨some 32, .move (.tmp 2), 3, "l12_cache.go:67", #[⟨9, .guard⟩], some (9, true)⟩) (v := ?_) rfl (by kernel_rfl) (by kernel_rfl) (by kernel_rfl) (fun _ _ _ h => h) (Or.inl ⟨by rfl, ?_⟩) (by assumption) ?_
 rotate_left
 ·
  intro w' hSw; (try dsimp only at hSw); first | (go_simp; done) | (go_simp; with_reducible rfl)
 (try simp only [Act.put, Row.pB0, Row.pB1, Row.pB2])
 refine wpAnyH_ready (rs := [17]) (by kernel_rfl) (by simp) ?_
 refine AllReadyH.cons (o := ⟨some 33, .call ⟨.value (.func 70), #[.tmp 31, .tmp 32], #[46, 3]⟩, 4, "l12_cache.go:67", #[⟨15, .data⟩, ⟨16, .data⟩, ⟨9, .chain⟩, ⟨9, .guard⟩], some (9, true)⟩) rfl (fun K hK => ?_) AllReadyH.nil
 go_simp
 refine (sFrZ now z HF.out (H_d.out.on BB.out)).mono ?_
 rintro e wn2 ⟨rfl, hb⟩
 replace BB := Lib.hid (BB.out.trans (hb.mono BB.out.size))
 clear hb
 (try go_wp2_with fail)
 clear hHeld
 refine hK.out _ _ ?_ (fun hHeld => ?_)
 ·
  (try dsimp only); exact ⟨kc K0.out BB.out, kc K1.out BB.out, kc E0.out BB.out, kc E1.out BB.out, kc E2.out BB.out, kc E3.out BB.out, kc E4.out BB.out⟩
 clear hK K
 (try simp only [Act.put, Row.pB0, Row.pB1, Row.pB2])
 refine wpAnyH_take (i := 18) (oi := ⟨some 34, .pick (.tmp 25) (.tmp 33) (.const (Value.bool false)), 4, "l12_cache.go:67", #[⟨9, .data⟩, ⟨17, .data⟩], none⟩) (v := ?_) rfl (by kernel_rfl) (by kernel_rfl) (by kernel_rfl) (fun _ _ _ h => h) (Or.inl ⟨by rfl, ?_⟩) (by assumption) ?_
 rotate_left
 ·
  intro w' hSw; (try dsimp only at hSw); first | (go_simp; done) | (go_simp; with_reducible rfl)
 (try simp only [Act.put, Row.pB0, Row.pB1, Row.pB2])
 refine wpAnyH_done (by kernel_rfl) ?_ _
 exact NoPanic.normal (HQ.out _ _ _ _ _ _ _ _ _ _ _ _ _ _ _ _ _ _  _  BB.out)
theorem blk_five {w : World} {g : Nat} {t : TypeId} {a0 a1 a2 a3 a4 a b c d e : Value} (h : Ret.Blk w g #[a0, a1, a2, a3, a4] t) : Ret.Blk (((((w.setCell ⟨g, 0, none⟩ (a)).setCell ⟨g, 1, none⟩ (b)).setCell ⟨g, 2, none⟩ (c)).setCell ⟨g, 3, none⟩ (d)).setCell ⟨g, 4, none⟩ (e)) g #[a, b, c, d, e] t := ((((h.set 0 a).set 1 b).set 2 c).set 3 d).set 4 e
theorem own_five' {α M : Type} {k : Kd α M} {B E g : Nat} {w : World} {m : M} {a b c d e : Value} (h : k.Own B E w m) (hg : g < B) : k.Own B E (((((w.setCell ⟨g, 0, none⟩ (a)).setCell ⟨g, 1, none⟩ (b)).setCell ⟨g, 2, none⟩ (c)).setCell ⟨g, 3, none⟩ (d)).setCell ⟨g, 4, none⟩ (e)) m := ((((h.set hg).set hg).set hg).set hg).set hg
theorem below_five {w0 w : World} {g B : Nat} {a b c d e : Value} (h : Below B w0 w) (hg : B ≤ g) : Below B w0 (((((w.setCell ⟨g, 0, none⟩ (a)).setCell ⟨g, 1, none⟩ (b)).setCell ⟨g, 2, none⟩ (c)).setCell ⟨g, 3, none⟩ (d)).setCell ⟨g, 4, none⟩ (e)) := ((((h.setCell hg a).setCell hg b).setCell hg c).setCell hg d).setCell hg e
theorem size_five' {w : World} {g : Nat} {a b c d e : Value} : (((((w.setCell ⟨g, 0, none⟩ (a)).setCell ⟨g, 1, none⟩ (b)).setCell ⟨g, 2, none⟩ (c)).setCell ⟨g, 3, none⟩ (d)).setCell ⟨g, 4, none⟩ (e)).heap.size = w.heap.size := by simp
theorem aggDz5 : Ret.AggOf Try.prog 46 5 := aggDz
theorem zeroD_in (B E : Nat) (w : World) : kDz.In B E w (.agg #[.slice none 0 0, .slice none 0 0, .slice none 0 0, .int .i64 0, .int .i64 0]) zeroD :=
  ⟨(⟨none, 0, 0, []⟩, ⟨none, 0, 0, []⟩, ⟨none, 0, 0, []⟩, 0, 0), rfl, rfl, ⟨⟨OwnK.nil _ _ _ _ _, fun x hx => (by cases hx)⟩, ⟨OwnK.nil _ _ _ _ _, fun x hx => (by cases hx)⟩, ⟨OwnK.nil _ _ _ _ _, fun x hx => (by cases hx)⟩, trivial, trivial⟩, List.nodup_nil, fun g hg => (by cases hg)⟩
def LookPost (T : Dzt) (q : Bool) (w : World) (e : Ending) (w' : World) : Prop := ∃ U, e = .returned (.tuple #[U, .bool q]) ∧ kDz.In w.heap.size w'.heap.size w' U T ∧ Below w.heap.size w w'
set_option maxHeartbeats 8000000 in
theorem specCacheLookup (V U : Value) (x : Cnt) (m : List ByteArray) (now : Int) (w : World) (T : Dzt) (Qz : Bool) (hT : lookC x m now = T) (hQ : lookOk x m now = Qz) (h : kCn.At w V x) (g : kN.At w U m) (hp : FitC x) (hm : bulk m ≤ 1200000) :
    Calls Try.prog 27 #[V, U, .int .i64 now] w (LookPost T Qz w) := by
  obtain ⟨xq, q, cy, rfl, g⟩ := kN_shapeA g
  obtain ⟨x1_0, n1_0, c1_0, rfl, g1⟩ := kCn_at h
  clear h
  obtain ⟨cc, l⟩ := x
  have hfit := hp
  obtain ⟨hl, hp7⟩ := hp.fields
  clear hp
  have hp := hp7
  clear hp7
  dsimp only at g1 hl hp ⊢
  have b0 := (Below.refl w.heap.size w).alloc (Nat.le_refl _) (.cells #[.int .i64 cc, .slice x1_0 n1_0 c1_0] 24)
  have b1 := (Below.refl (w.alloc (.cells #[.int .i64 cc, .slice x1_0 n1_0 c1_0] 24)).heap.size (w.alloc (.cells #[.int .i64 cc, .slice x1_0 n1_0 c1_0] 24))).alloc (Nat.le_refl _) (.cells #[.slice xq q cy] 44)
  have b2 := (Below.refl ((w.alloc (.cells #[.int .i64 cc, .slice x1_0 n1_0 c1_0] 24)).alloc (.cells #[.slice xq q cy] 44)).heap.size ((w.alloc (.cells #[.int .i64 cc, .slice x1_0 n1_0 c1_0] 24)).alloc (.cells #[.slice xq q cy] 44))).alloc (Nat.le_refl _) (.cells #[.slice none 0 0, .slice none 0 0, .slice none 0 0, .int .i64 0, .int .i64 0] 46)
  have b012 := (b0.trans (b1.mono b0.size)).trans (b2.mono (Nat.le_trans b0.size b1.size))
  have hX0 := ((Ret.Blk.new w #[.int .i64 cc, .slice x1_0 n1_0 c1_0] 24).on b1).on b2
  have hX1 := (Ret.Blk.new' (w := (w.alloc (.cells #[.int .i64 cc, .slice x1_0 n1_0 c1_0] 24))) (n := w.heap.size + 1) #[.slice xq q cy] 44 (by simp)).on b2
  have hX2 := Ret.Blk.new' (w := ((w.alloc (.cells #[.int .i64 cc, .slice x1_0 n1_0 c1_0] 24)).alloc (.cells #[.slice xq q cy] 44))) (n := w.heap.size + 1 + 1) #[.slice none 0 0, .slice none 0 0, .slice none 0 0, .int .i64 0, .int .i64 0] 46 (by simp)
  have hS3 : (((w.alloc (.cells #[.int .i64 cc, .slice x1_0 n1_0 c1_0] 24)).alloc (.cells #[.slice xq q cy] 44)).alloc (.cells #[.slice none 0 0, .slice none 0 0, .slice none 0 0, .int .i64 0, .int .i64 0] 46)).heap.size = w.heap.size + 3 := by simp
  obtain ⟨x, n, cx, L, e9, hn, ht, hh, hel⟩ := kLCe_at g1
  cases e9
  have hlen : l.length = n1_0 := by rw [← ht, List.length_map]; exact hn.symm
  rw [hlen] at hl
  have hcap : n1_0 ≤ c1_0 := by obtain ⟨x', n', cap', hv, hn', hc', -⟩ := hh.shapeN; cases hv; exact hc'
  have HX0 := Lib.hid hX0; have HX1 := Lib.hid hX1; have HX2 := Lib.hid hX2; have HB := Lib.hid b012; have HG := Lib.hid g; have HMB := Lib.hid hm; have HTT := Lib.hid hT; have HQQ := Lib.hid hQ
  have HN := Lib.hid hn; have HT := Lib.hid ht; have HH := Lib.hid hh; have HEL := Lib.hid hel; have HLEN := Lib.hid hlen; have HP := Lib.hid hp
  have hl9 : n1_0 ≤ 9000000 := by omega
  clear hn ht hh hel hlen hp g1 g hm hT hQ b0 b1 b2 b012 hX0 hX1 hX2 hfit hS3
  unfold LookPost
  go_enter Try.func27, Try.ntmps27
  go_wp2
  go_loopw [8] (fun iv wr => ∃ i : Nat, i ≤ n1_0 ∧ iv = .int .i64 i ∧ Hid (noL (hitE m now) l i) ∧ Hid (Ret.Blk wr w.heap.size #[.int .i64 cc, .slice x1_0 n1_0 c1_0] 24) ∧ Hid (Ret.Blk wr (w.heap.size + 1) #[.slice xq q cy] 44) ∧ Hid (Ret.Blk wr (w.heap.size + 1 + 1) #[.slice none 0 0, .slice none 0 0, .slice none 0 0, .int .i64 0, .int .i64 0] 46) ∧ Hid (Below w.heap.size w wr) ∧ Hid (w.heap.size + 3 ≤ wr.heap.size)) (fun iv _ => n1_0 - (intOf iv).toNat)
  case atStart => exact ⟨0, Nat.zero_le _, rfl, Lib.hid (noL_zero _ _), HX0, HX1, HX2, HB, Lib.hid (by simp)⟩
  case round =>
    clear HX0 HX1 HX2 HB
    obtain ⟨k, hk, rfl, ha, hx0, hx1, hx2, hb, hsz⟩ := hrel
    have q1 : wr.cell? ⟨w.heap.size, 1, none⟩ = some (.slice x1_0 n1_0 c1_0) := hx0.out.cell 1
    by_cases hlt : k < n1_0
    · have hlen := HN.out
      obtain ⟨b, off, y0, m0, d0, y1, m1, d1, y2, m2, d2, rfl, -, hc0, hc1, hc2, hc3, hc4, hc5, hA⟩ := kLCe_elem (HH.out.on hb.out) (fun y hy => kCe.holds_on (HEL.out y hy) hb.out) (j := k) (by omega)
      have hpt : nth l k = kCe.strip (nth L k) := by rw [← HT.out, nth_map _ (by omega)]
      have hps := HP.out (nth l k) (nth_mem (by have := HLEN.out; omega))
      rw [← hpt] at hA hc3 hc4 hc5
      obtain ⟨hD, hNM⟩ := kCe_parts hA
      have HA := Lib.hid hA; have HD := Lib.hid hD; have HNM := Lib.hid hNM; have HPS := Lib.hid hps; have HPD := Lib.hid (show wtDz (nth l k).1 ≤ 1200000 from hps); have HPN := Lib.hid (show bulk (nth l k).1.1 ≤ 1200000 from (wtDz_lens _ hps).1)
      have H0 := Lib.hid hc0; have H1 := Lib.hid hc1; have H2 := Lib.hid hc2; have H3 := Lib.hid hc3; have H4 := Lib.hid hc4; have H5 := Lib.hid hc5
      clear hlen hpt hps hA hD hNM
      obtain ⟨q, hq⟩ : ∃ q, decide ((nth l k).1.1 = m) = q := ⟨_, rfl⟩
      obtain ⟨fz, hf⟩ : ∃ z, decide (now ≤ (nth l k).1.2.2.2.1) = z := ⟨_, rfl⟩
      have HQ0 := Lib.hid hq; have HF := Lib.hid hf; have HGW := Lib.hid (HG.out.on hb.out); clear hq hf hc0 hc1 hc2 hc3 hc4 hc5
      have HHIT : Hid (hitE m now (nth l k) = (q && fz)) := Lib.hid (by unfold hitE isE frE; rw [HQ0.out, HF.out])
      go_wp2_with fail
      clear q1
      cases q with
      | false =>
        refine rcl0 hlt (by omega) hl9 HQ0 HNM HGW HPN HMB (Lib.hid (hx1.out.cell 0)) (Lib.hid (hx0.out.cell 1)) H0 ?_
        intro u16 u17 u18 u19 u20 u21 u22 u23 u24 u25 u26 u27 u28 u29 u30 u31 u32 u33 wx hbx
        replace hx0 := Lib.hid (hx0.out.on hbx); replace hx1 := Lib.hid (hx1.out.on hbx); replace hx2 := Lib.hid (hx2.out.on hbx); replace hb := Lib.hid (hb.out.trans (hbx.mono hb.out.size)); replace hsz := Lib.hid (Nat.le_trans hsz.out hbx.size)
        have HA2 := Lib.hid (noL_succ ha.out (HHIT.out.trans (Bool.false_and _)))
        clear hbx
        go_wp2
        go_roundw
        case rel => exact ⟨k + 1, by omega, by go_num, HA2, hx0, hx1, hx2, hb, hsz⟩
        case measure => simp [intOf]; omega
      | true =>
        refine rcl1 hlt (by omega) hl9 HQ0 HNM HGW HPN HMB HF HD (Lib.hid (hx1.out.cell 0)) (Lib.hid (hx0.out.cell 1)) H0 H1 H2 H3 H4 ?_
        intro u16 u17 u18 u19 u20 u21 u22 u23 u24 u25 u26 u27 u28 u29 u30 u31 u32 u33 wx hbx
        replace hx0 := Lib.hid (hx0.out.on hbx); replace hx1 := Lib.hid (hx1.out.on hbx); replace hx2 := Lib.hid (hx2.out.on hbx); replace hb := Lib.hid (hb.out.trans (hbx.mono hb.out.size)); replace hsz := Lib.hid (Nat.le_trans hsz.out hbx.size)
        replace HD := Lib.hid (HD.out.on hbx); replace H0 := Lib.hid (kc H0.out hbx); replace H1 := Lib.hid (kc H1.out hbx); replace H2 := Lib.hid (kc H2.out hbx); replace H3 := Lib.hid (kc H3.out hbx); replace H4 := Lib.hid (kc H4.out hbx)
        clear hbx
        cases fz with
        | false =>
          have HA2 := Lib.hid (noL_succ ha.out (HHIT.out.trans rfl))
          go_wp2
          go_roundw
          case rel => exact ⟨k + 1, by omega, by go_num, HA2, hx0, hx1, hx2, hb, hsz⟩
          case measure => simp [intOf]; omega
        | true =>
          have HIX : Hid (ixL (hitE m now) l = (k : Int)) := Lib.hid (ixL_at (by have := HLEN.out; omega) ha.out (HHIT.out.trans rfl))
          have HTQ : Hid (T = (nth l k).1) := Lib.hid (by rw [← HTT.out]; unfold lookC; dsimp only; rw [HIX.out, if_pos (by omega), Int.toNat_natCast])
          have HQ : Hid (Qz = true) := Lib.hid (by rw [← HQQ.out]; unfold lookOk; dsimp only; rw [HIX.out]; simp)
          have q1 : wx.cell? ⟨w.heap.size, 1, none⟩ = some (.slice (some ⟨b, off, none⟩) n1_0 c1_0) := hx0.out.cell 1
          have hc0 := H0.out; have hc1 := H1.out; have hc2 := H2.out; have hc3 := H3.out; have hc4 := H4.out
          go_wp2_with fail
          clear hc0 hc1 hc2 hc3 hc4 q1
          refine (sCpyZ HD.out (Nat.le_trans HPD.out (by decide))).mono ?_
          rintro e w5 ⟨U, rfl, hi5, hb5⟩
          obtain ⟨m5, za, na, ea, zb, nb, eb, zc, nc, ec, rfl, hs5, hd5, ho5⟩ := kDz_split hi5
          have hXR := hx2.out; have hbR := hb.out
          have hlow : w.heap.size + 1 + 1 < wx.heap.size := by have := hsz.out; omega
          have hlow0 : w.heap.size ≤ wx.heap.size := by have := hsz.out; omega
          have hX5 := hXR.on hb5
          have t0 := hX5.frozen 0; have t1 := hX5.frozen 1; have t2 := hX5.frozen 2; have t3 := hX5.frozen 3; have t4 := hX5.frozen 4
          have r0 := hX5.cell 0; have r1 := hX5.cell 1; have r2 := hX5.cell 2; have r3 := hX5.cell 3; have r4 := hX5.cell 4
          have Z := Lib.hid (blk_five (a := .slice za na ea) (b := .slice zb nb eb) (c := .slice zc nc ec) (d := .int .i64 (nth l k).1.2.2.2.1) (e := .int .i64 (nth l k).1.2.2.2.2) hX5)
          have ZO := Lib.hid (own_five' (g := w.heap.size + 1 + 1) (a := .slice za na ea) (b := .slice zb nb eb) (c := .slice zc nc ec) (d := .int .i64 (nth l k).1.2.2.2.1) (e := .int .i64 (nth l k).1.2.2.2.2) ho5 hlow)
          have HBZ := Lib.hid (hbR.trans (hb5.mono hbR.size))
          have HS5 := Lib.hid hs5; have HD5 := Lib.hid hd5
          clear hi5 ho5 hs5 hd5 hb5 hX5 hXR hbR
          go_wp2_with fail
          refine bodyPost_ret (Ret.results_ct rfl _ _ (w.heap.size + 1 + 1) [.slice za na ea, .slice zb nb eb, .slice zc nc ec, .int .i64 (nth l k).1.2.2.2.1, .int .i64 (nth l k).1.2.2.2.2] rfl aggDz5 Z.out.cells) rfl ?_
          have hin := (ZO.out.mono hlow0 (Nat.le_refl _)).in
          rw [show kDz.val m5 = .agg #[.slice za na ea, .slice zb nb eb, .slice zc nc ec, .int .i64 (nth l k).1.2.2.2.1, .int .i64 (nth l k).1.2.2.2.2] by show Value.agg (kDz.cells m5).toArray = _; rw [HD5.out], HS5.out] at hin
          rw [HTQ.out, HQ.out]
          exact ⟨_, rfl, by rw [size_five']; exact hin, below_five HBZ.out (by omega)⟩
    · obtain rfl : k = n1_0 := by omega
      have HIX : Hid (ixL (hitE m now) l = -1) := Lib.hid (ixL_none (by rw [HLEN.out]; exact ha.out))
      clear hlt q1
      have HTQ : Hid (T = zeroD) := Lib.hid (by rw [← HTT.out]; unfold lookC; dsimp only; rw [HIX.out]; rfl)
      have HQ : Hid (Qz = false) := Lib.hid (by rw [← HQQ.out]; unfold lookOk; dsimp only; rw [HIX.out]; rfl)
      have q1 : wr.cell? ⟨w.heap.size, 1, none⟩ = some (.slice x1_0 k c1_0) := hx0.out.cell 1
      have hXR := hx2.out; have hbR := hb.out
      have t0 := hXR.frozen 0; have t1 := hXR.frozen 1; have t2 := hXR.frozen 2; have t3 := hXR.frozen 3; have t4 := hXR.frozen 4
      have r0 := hXR.cell 0; have r1 := hXR.cell 1; have r2 := hXR.cell 2; have r3 := hXR.cell 3; have r4 := hXR.cell 4
      have Z := Lib.hid (blk_five (a := .slice none 0 0) (b := .slice none 0 0) (c := .slice none 0 0) (d := .int .i64 0) (e := .int .i64 0) hXR)
      have HBZ := Lib.hid hbR
      clear hXR hbR
      go_wp2_with fail
      refine bodyPost_ret (Ret.results_ct rfl _ _ (w.heap.size + 1 + 1) [.slice none 0 0, .slice none 0 0, .slice none 0 0, .int .i64 0, .int .i64 0] rfl aggDz5 Z.out.cells) rfl ?_
      rw [HTQ.out, HQ.out]
      exact ⟨_, rfl, zeroD_in _ _ _, below_five HBZ.out (by omega)⟩
set_option maxHeartbeats 2000000 in
theorem closLk (b b' : Nat) (y : Option Addr) (q cy : Nat) (m : List ByteArray) (now : Int) (w : World) (hc : Ret.Blk w b #[.slice y q cy] 44) (hi : Ret.Blk w b' #[.int .i64 now] 3) (hg : kN.At w (.agg #[.slice y q cy]) m) (hm : bulk m ≤ 1200000) :
    ClosK Try.prog kCe 73 #[.pointer (some ⟨b, 0, none⟩), .pointer (some ⟨b', 0, none⟩)] (hitE m now) (fun x => wtCe x ≤ 1200000) w := by
  intro x V W hW hx hxl
  obtain ⟨x0, n0, c0, x1, n1, c1, x2, n2, c2, rfl, hx⟩ := kCe_shapeA hx
  have hB := (Below.refl W.heap.size W).alloc (Nat.le_refl _) (.cells #[.slice x0 n0 c0, .slice x1 n1 c1, .slice x2 n2 c2, .int .i64 x.1.2.2.2.1, .int .i64 x.1.2.2.2.2, .int .i64 x.2] 72)
  have HC := Lib.hid ((hc.on hW).on hB); have HI := Lib.hid ((hi.on hW).on hB)
  have HX := Lib.hid (Ret.Blk.new W #[.slice x0 n0 c0, .slice x1 n1 c1, .slice x2 n2 c2, .int .i64 x.1.2.2.2.1, .int .i64 x.1.2.2.2.2, .int .i64 x.2] 72)
  have HNM := Lib.hid ((kCe_parts hx).2.on hB); have HD := Lib.hid ((kCe_parts hx).1.on hB)
  have HG := Lib.hid ((hg.on hW).on hB)
  have HB := Lib.hid hB
  have HXL := Lib.hid (show bulk x.1.1 ≤ 9000000 from Nat.le_trans (wtDz_lens x.1 (show wtDz x.1 ≤ 1200000 from hxl)).1 (by decide))
  have HM := Lib.hid (Nat.le_trans hm (by decide) : bulk m ≤ 9000000)
  have q0 : (W.alloc (.cells #[.slice x0 n0 c0, .slice x1 n1 c1, .slice x2 n2 c2, .int .i64 x.1.2.2.2.1, .int .i64 x.1.2.2.2.2, .int .i64 x.2] 72)).cell? ⟨b, 0, none⟩ = some (.slice y q cy) := HC.out.cell 0
  have q1 : (W.alloc (.cells #[.slice x0 n0 c0, .slice x1 n1 c1, .slice x2 n2 c2, .int .i64 x.1.2.2.2.1, .int .i64 x.1.2.2.2.2, .int .i64 x.2] 72)).cell? ⟨W.heap.size, 0, none⟩ = some (.slice x0 n0 c0) := HX.out.cell 0
  obtain ⟨z, hz⟩ : ∃ z, decide (x.1.1 = m) = z := ⟨_, rfl⟩
  obtain ⟨f, hf⟩ : ∃ f, decide (now ≤ x.1.2.2.2.1) = f := ⟨_, rfl⟩
  have HHIT : Hid (hitE m now x = (z && f)) := Lib.hid (by unfold hitE isE frE; rw [hz, hf])
  have HZ := Lib.hid hz; have HF := Lib.hid hf
  rw [HHIT.out]
  clear hB hx hg hc hi hW hxl hm hz hf
  go_enter Try.func73, Try.ntmps73
  go_wp2_with fail
  refine (iEqK z HZ.out HNM.out HG.out HXL.out HM.out).mono ?_
  rintro e w1 ⟨rfl, hb⟩
  have HX1 := Lib.hid (HX.out.on hb); have HI1 := Lib.hid (HI.out.on hb); have HD1 := Lib.hid (HD.out.on hb)
  have HB2 := Lib.hid (HB.out.trans (hb.mono HB.out.size)); clear hb q0 q1
  cases z with
  | false =>
    go_wp2_with fail
    go_ret
    exact ⟨rfl, HB2.out⟩
  | true =>
    have f0 := HX1.out.cell 0; have f1 := HX1.out.cell 1; have f2 := HX1.out.cell 2; have f3 := HX1.out.cell 3; have f4 := HX1.out.cell 4
    have j0 : w1.cell? ⟨b', 0, none⟩ = some (.int .i64 now) := HI1.out.cell 0
    go_wp2_with fail
    refine (iFrZ now f HF.out HD1.out).mono ?_
    rintro e w2 ⟨rfl, hb⟩
    have HB3 := Lib.hid (HB2.out.trans (hb.mono HB2.out.size)); clear hb
    go_wp2_with fail
    go_ret
    exact ⟨rfl, HB3.out⟩
set_option maxHeartbeats 2000000 in
theorem indexLk (b0 b1 : Addr) (p : Cet → Bool) (ok : Cet → Prop) (v : Value) (l : List Cet) (w : World) (z : Int) (hz : ixL p l = z) (h : kLCe.At w v l) (hl : l.length ≤ 9000000) (hp : ∀ x ∈ l, ok x) (hc : ClosK Try.prog kCe 73 #[.pointer (some b0), .pointer (some b1)] p ok w) :
    Calls Try.prog 100 #[v, .func (.func 73) #[] #[.pointer (some b0), .pointer (some b1)]] w fun e w' => e = .returned (.int .i64 z) ∧ Below w.heap.size w w' := by
  obtain ⟨x, n, cx, L, rfl, hn, ht, hh, hel⟩ := kLCe_at h
  have hlen : l.length = n := by rw [← ht, List.length_map]; exact hn.symm
  rw [hlen] at hl
  have hcap : n ≤ cx := by obtain ⟨x', n', cap', hv, hn', hc', -⟩ := hh.shapeN; cases hv; exact hc'
  have HN := Lib.hid hn; have HT := Lib.hid ht; have HH := Lib.hid hh; have HEL := Lib.hid hel; have HLEN := Lib.hid hlen; have HP := Lib.hid hp; have HC := Lib.hid hc; have HZ := Lib.hid hz
  clear hn h hh hc hp ht hel hlen hz
  go_enter Try.func100, Try.ntmps100
  go_wp2
  go_loopw [8] (fun iv wr => ∃ i : Nat, i ≤ n ∧ iv = .int .i64 i ∧ Hid (noL p l i) ∧ Hid (Below w.heap.size w wr)) (fun iv _ => n - (intOf iv).toNat)
  case atStart => exact ⟨0, Nat.zero_le _, rfl, Lib.hid (noL_zero _ _), Lib.hid (Below.refl _ _)⟩
  case round =>
    obtain ⟨k, hk, rfl, ha, hb⟩ := hrel
    by_cases hlt : k < n
    · have hlen := HN.out
      obtain ⟨b, off, y0, m0, d0, y1, m1, d1, y2, m2, d2, rfl, -, hc0, hc1, hc2, hc3, hc4, hc5, hA⟩ := kLCe_elem (HH.out.on hb.out) (fun y hy => kCe.holds_on (HEL.out y hy) hb.out) (j := k) (by omega)
      have hpt : nth l k = kCe.strip (nth L k) := by rw [← HT.out, nth_map _ (by omega)]
      have hps := HP.out (nth l k) (nth_mem (by have := HLEN.out; omega))
      rw [hpt] at hps
      obtain ⟨q, hq⟩ : ∃ q, p (kCe.strip (nth L k)) = q := ⟨_, rfl⟩
      have HCL := HC.out _ _ wr hb.out hA hps
      rw [hq] at HCL
      rw [← hpt] at hq
      replace HCL := Lib.hid HCL
      have HQ := Lib.hid hq
      clear hlen hpt hps hA hq
      go_wp2_with fail
      refine HCL.out.mono ?_
      rintro e w2 ⟨rfl, hb2⟩
      have HB2 := Lib.hid (hb.out.trans (hb2.mono hb.out.size))
      clear hb2 hc0 hc1 hc2 hc3 hc4 hc5 HCL
      cases q with
      | true =>
        have HV := Lib.hid (show z = (k : Int) from HZ.out.symm.trans (ixL_at (by have := HLEN.out; omega) ha.out HQ.out))
        go_wp2
        go_ret
        exact ⟨ret_int HV.out.symm, HB2.out⟩
      | false =>
        have HA := Lib.hid (noL_succ ha.out HQ.out)
        go_wp2
        go_roundw
        case rel => exact ⟨k + 1, by omega, by go_num, HA, HB2⟩
        case measure => simp [intOf]; omega
    · obtain rfl : k = n := by omega
      have HV := Lib.hid (show z = -1 from HZ.out.symm.trans (ixL_none (by rw [HLEN.out]; exact ha.out)))
      clear hlt
      go_wp2
      go_ret
      exact ⟨ret_int HV.out.symm, hb.out⟩
set_option maxHeartbeats 2000000 in
theorem findLk (b0 b1 : Addr) (p : Cet → Bool) (ok : Cet → Prop) (x : Option Addr) (n c : Nat) (cc : Int) (l : List Cet) (w : World) (z : Int) (hz : ixL p l = z) (h : kLCe.At w (.slice x n c) l) (hl : l.length ≤ 9000000) (hp : ∀ x ∈ l, ok x) (hc : ClosK Try.prog kCe 73 #[.pointer (some b0), .pointer (some b1)] p ok w) :
    Calls Try.prog 72 #[.agg #[.int .i64 cc, .slice x n c], .func (.func 73) #[] #[.pointer (some b0), .pointer (some b1)]] w fun e w' => e = .returned (.int .i64 z) ∧ Below w.heap.size w w' := by
  have hB := (Below.refl w.heap.size w).alloc (Nat.le_refl _) (.cells #[.int .i64 cc, .slice x n c] 76)
  have hX := Ret.Blk.new w #[.int .i64 cc, .slice x n c] 76
  have q1 : (w.alloc (.cells #[.int .i64 cc, .slice x n c] 76)).cell? ⟨w.heap.size, 1, none⟩ = some (.slice x n c) := hX.cell 1
  have HH := Lib.hid (h.on hB); have HC := Lib.hid (hc.on hB); have HP := Lib.hid hp; have HZ := Lib.hid hz; have HB := Lib.hid hB
  clear hB hX h hc hp hz
  go_enter Try.func72, Try.ntmps72
  go_wp2_with fail
  refine (indexLk b0 b1 p ok _ l _ z HZ.out HH.out hl HP.out HC.out).mono ?_
  rintro e w1 ⟨rfl, hb⟩
  have HB2 := Lib.hid (HB.out.trans (hb.mono HB.out.size)); clear hb
  go_wp2
  go_ret
  exact ⟨rfl, HB2.out⟩
set_option maxHeartbeats 8000000 in
theorem implCacheLookup (V U : Value) (x : Cnt) (m : List ByteArray) (now : Int) (w : World) (T : Dzt) (Qz : Bool) (hT : lookC x m now = T) (hQ : lookOk x m now = Qz) (h : kCn.At w V x) (g : kN.At w U m) (hp : FitC x) (hm : bulk m ≤ 1200000) :
    Calls Try.prog 29 #[V, U, .int .i64 now] w (LookPost T Qz w) := by
  obtain ⟨xq, q, cy, rfl, g⟩ := kN_shapeA g
  obtain ⟨x1_0, n1_0, c1_0, rfl, g1⟩ := kCn_at h
  clear h
  obtain ⟨cc, l⟩ := x
  have hfit := hp
  obtain ⟨hl, hp7⟩ := hp.fields
  clear hp
  have hp := hp7
  clear hp7
  dsimp only at g1 hl hp ⊢
  have b0 := (Below.refl w.heap.size w).alloc (Nat.le_refl _) (.cells #[.int .i64 cc, .slice x1_0 n1_0 c1_0] 24)
  have b1 := (Below.refl (w.alloc (.cells #[.int .i64 cc, .slice x1_0 n1_0 c1_0] 24)).heap.size (w.alloc (.cells #[.int .i64 cc, .slice x1_0 n1_0 c1_0] 24))).alloc (Nat.le_refl _) (.cells #[.slice xq q cy] 44)
  have b2 := (Below.refl ((w.alloc (.cells #[.int .i64 cc, .slice x1_0 n1_0 c1_0] 24)).alloc (.cells #[.slice xq q cy] 44)).heap.size ((w.alloc (.cells #[.int .i64 cc, .slice x1_0 n1_0 c1_0] 24)).alloc (.cells #[.slice xq q cy] 44))).alloc (Nat.le_refl _) (.cells #[.int .i64 now] 3)
  have b3 := (Below.refl (((w.alloc (.cells #[.int .i64 cc, .slice x1_0 n1_0 c1_0] 24)).alloc (.cells #[.slice xq q cy] 44)).alloc (.cells #[.int .i64 now] 3)).heap.size (((w.alloc (.cells #[.int .i64 cc, .slice x1_0 n1_0 c1_0] 24)).alloc (.cells #[.slice xq q cy] 44)).alloc (.cells #[.int .i64 now] 3))).alloc (Nat.le_refl _) (.cells #[.slice none 0 0, .slice none 0 0, .slice none 0 0, .int .i64 0, .int .i64 0] 46)
  have b012 := ((b0.trans (b1.mono b0.size)).trans (b2.mono (Nat.le_trans b0.size b1.size))).trans (b3.mono (Nat.le_trans (Nat.le_trans b0.size b1.size) b2.size))
  have HX0 := Lib.hid ((((Ret.Blk.new w #[.int .i64 cc, .slice x1_0 n1_0 c1_0] 24).on b1).on b2).on b3)
  have hX1 := ((Ret.Blk.new' (w := (w.alloc (.cells #[.int .i64 cc, .slice x1_0 n1_0 c1_0] 24))) (n := w.heap.size + 1) #[.slice xq q cy] 44 (by simp)).on b2).on b3
  have hX2 := (Ret.Blk.new' (w := ((w.alloc (.cells #[.int .i64 cc, .slice x1_0 n1_0 c1_0] 24)).alloc (.cells #[.slice xq q cy] 44))) (n := w.heap.size + 1 + 1) #[.int .i64 now] 3 (by simp)).on b3
  have HX3 := Lib.hid (Ret.Blk.new' (w := (((w.alloc (.cells #[.int .i64 cc, .slice x1_0 n1_0 c1_0] 24)).alloc (.cells #[.slice xq q cy] 44)).alloc (.cells #[.int .i64 now] 3))) (n := w.heap.size + 1 + 1 + 1) #[.slice none 0 0, .slice none 0 0, .slice none 0 0, .int .i64 0, .int .i64 0] 46 (by simp))
  have HS4 : Hid (((((w.alloc (.cells #[.int .i64 cc, .slice x1_0 n1_0 c1_0] 24)).alloc (.cells #[.slice xq q cy] 44)).alloc (.cells #[.int .i64 now] 3)).alloc (.cells #[.slice none 0 0, .slice none 0 0, .slice none 0 0, .int .i64 0, .int .i64 0] 46)).heap.size = w.heap.size + 4) := Lib.hid (by simp)
  have HB := Lib.hid b012; have HTT := Lib.hid hT; have HQQ := Lib.hid hQ
  have HL := Lib.hid g1; have HP := Lib.hid hp
  have HC := Lib.hid (closLk (w.heap.size + 1) (w.heap.size + 1 + 1) xq q cy m now _ hX1 hX2 (g.on b012) hm)
  have HLL := Lib.hid (show l.length ≤ 9000000 by omega)
  have HA := Lib.hid (g1.on b012)
  obtain ⟨z, hz⟩ : ∃ z, ixL (hitE m now) l = z := ⟨_, rfl⟩
  have HIX := Lib.hid hz; clear hz
  have hmf : ∀ (fn : Fn) (first cap : Array Value) (w : World), (Instr.makeFunc fn first cap).run Try.prog w = .ok (.func fn first cap) w := fun _ _ _ _ => rfl
  have q0 : ((((w.alloc (.cells #[.int .i64 cc, .slice x1_0 n1_0 c1_0] 24)).alloc (.cells #[.slice xq q cy] 44)).alloc (.cells #[.int .i64 now] 3)).alloc (.cells #[.slice none 0 0, .slice none 0 0, .slice none 0 0, .int .i64 0, .int .i64 0] 46)).cell? ⟨w.heap.size, 0, none⟩ = some (.int .i64 cc) := HX0.out.cell 0
  have q1 : ((((w.alloc (.cells #[.int .i64 cc, .slice x1_0 n1_0 c1_0] 24)).alloc (.cells #[.slice xq q cy] 44)).alloc (.cells #[.int .i64 now] 3)).alloc (.cells #[.slice none 0 0, .slice none 0 0, .slice none 0 0, .int .i64 0, .int .i64 0] 46)).cell? ⟨w.heap.size, 1, none⟩ = some (.slice x1_0 n1_0 c1_0) := HX0.out.cell 1
  clear b0 b1 b2 b3 b012 hX1 hX2 g g1 hm hp hl hT hQ hfit
  unfold LookPost
  go_enter Try.func29, Try.ntmps29
  go_wp2_with fail
  refine (findLk ⟨w.heap.size + 1, 0, none⟩ ⟨w.heap.size + 1 + 1, 0, none⟩ (hitE m now) (fun x => wtCe x ≤ 1200000) _ _ _ cc l _ z HIX.out HA.out HLL.out HP.out HC.out).mono ?_
  rintro e wr ⟨rfl, hb1⟩
  replace HX0 := Lib.hid (HX0.out.on hb1); replace HX3 := Lib.hid (HX3.out.on hb1); replace HB := Lib.hid (HB.out.trans (hb1.mono HB.out.size)); have HSZ := Lib.hid (show w.heap.size + 4 ≤ wr.heap.size by rw [← HS4.out]; exact hb1.size)
  clear hb1 q0 q1 HC HA
  rcases ixL_cases (hitE m now) l with ⟨e1, -⟩ | ⟨k, hkl, e1, -, -⟩
  · obtain rfl : z = -1 := by rw [← HIX.out]; exact e1
    clear e1
    have HTQ : Hid (T = zeroD) := Lib.hid (by rw [← HTT.out]; unfold lookC; dsimp only; rw [HIX.out]; rfl)
    have HQ : Hid (Qz = false) := Lib.hid (by rw [← HQQ.out]; unfold lookOk; dsimp only; rw [HIX.out]; rfl)
    have hXR := HX3.out; have hbR := HB.out
    have t0 := hXR.frozen 0; have t1 := hXR.frozen 1; have t2 := hXR.frozen 2; have t3 := hXR.frozen 3; have t4 := hXR.frozen 4
    have r0 := hXR.cell 0; have r1 := hXR.cell 1; have r2 := hXR.cell 2; have r3 := hXR.cell 3; have r4 := hXR.cell 4
    have Z := Lib.hid (blk_five (a := .slice none 0 0) (b := .slice none 0 0) (c := .slice none 0 0) (d := .int .i64 0) (e := .int .i64 0) hXR)
    have HBZ := Lib.hid hbR
    clear hXR hbR
    go_wp2_with fail
    refine bodyPost_ret (Ret.results_ct rfl _ _ (w.heap.size + 1 + 1 + 1) [.slice none 0 0, .slice none 0 0, .slice none 0 0, .int .i64 0, .int .i64 0] rfl aggDz5 Z.out.cells) rfl ?_
    rw [HTQ.out, HQ.out]
    exact ⟨_, rfl, zeroD_in _ _ _, below_five HBZ.out (by omega)⟩
  · obtain rfl : z = (k : Int) := by rw [← HIX.out]; exact e1
    clear e1
    have HTQ : Hid (T = (nth l k).1) := Lib.hid (by rw [← HTT.out]; unfold lookC; dsimp only; rw [HIX.out, if_pos (by omega), Int.toNat_natCast])
    have HQ : Hid (Qz = true) := Lib.hid (by rw [← HQQ.out]; unfold lookOk; dsimp only; rw [HIX.out]; simp)
    obtain ⟨x, n, cx, L, e9, hn, ht, hh, hel⟩ := kLCe_at HL.out
    cases e9
    have hlen : l.length = n1_0 := by rw [← ht, List.length_map]; exact hn.symm
    have hcap : n1_0 ≤ c1_0 := by obtain ⟨x', n', cap', hv, hn', hc', -⟩ := hh.shapeN; cases hv; exact hc'
    have hlt : k < n1_0 := by rw [← hlen]; exact hkl
    have hb := HB
    have HN := Lib.hid hn; have HT := Lib.hid ht; have HH := Lib.hid hh; have HEL := Lib.hid hel; have HLEN := Lib.hid hlen
    clear hn ht hh hel hlen hkl
    have hlen := HN.out
    obtain ⟨b, off, y0, m0, d0, y1, m1, d1, y2, m2, d2, rfl, -, hc0, hc1, hc2, hc3, hc4, hc5, hA⟩ := kLCe_elem (HH.out.on hb.out) (fun y hy => kCe.holds_on (HEL.out y hy) hb.out) (j := k) (by omega)
    have hpt : nth l k = kCe.strip (nth L k) := by rw [← HT.out, nth_map _ (by omega)]
    have hps := HP.out (nth l k) (nth_mem (by have := HLEN.out; omega))
    rw [← hpt] at hA hc3 hc4 hc5
    obtain ⟨hD, hNM⟩ := kCe_parts hA
    have HA := Lib.hid hA; have HD := Lib.hid hD; have HNM := Lib.hid hNM; have HPS := Lib.hid hps; have HPD := Lib.hid (show wtDz (nth l k).1 ≤ 1200000 from hps); have HPN := Lib.hid (show bulk (nth l k).1.1 ≤ 1200000 from (wtDz_lens _ hps).1)
    have H0 := Lib.hid hc0; have H1 := Lib.hid hc1; have H2 := Lib.hid hc2; have H3 := Lib.hid hc3; have H4 := Lib.hid hc4; have H5 := Lib.hid hc5
    clear hlen hpt hps hA hD hNM
    have HF : Hid (Five wr b (off + k * 6) (.slice y0 m0 d0) (.slice y1 m1 d1) (.slice y2 m2 d2) (nth l k).1.2.2.2.1 (nth l k).1.2.2.2.2) := Lib.hid ⟨H0.out, H1.out, H2.out, H3.out, H4.out⟩
    have q1 : wr.cell? ⟨w.heap.size, 1, none⟩ = some (.slice (some ⟨b, off, none⟩) n1_0 c1_0) := HX0.out.cell 1
    clear hc0 hc1 hc2 hc3 hc4 hc5
    go_wp2_with fail
    clear q1
    refine (iClnZ b (off + k * 6) _ _ _ (nth l k).1 _ HF.out HD.out (Nat.le_trans HPD.out (by decide))).mono ?_
    rintro e w5 ⟨U, rfl, hi5, hb5⟩
    obtain ⟨m5, za, na, ea, zb, nb, eb, zc, nc, ec, rfl, hs5, hd5, ho5⟩ := kDz_split hi5
    have hXR := HX3.out; have hbR := HB.out
    have hlow : w.heap.size + 1 + 1 + 1 < wr.heap.size := by have := HSZ.out; omega
    have hlow0 : w.heap.size ≤ wr.heap.size := by have := HSZ.out; omega
    have hX5 := hXR.on hb5
    have t0 := hX5.frozen 0; have t1 := hX5.frozen 1; have t2 := hX5.frozen 2; have t3 := hX5.frozen 3; have t4 := hX5.frozen 4
    have r0 := hX5.cell 0; have r1 := hX5.cell 1; have r2 := hX5.cell 2; have r3 := hX5.cell 3; have r4 := hX5.cell 4
    have Z := Lib.hid (blk_five (a := .slice za na ea) (b := .slice zb nb eb) (c := .slice zc nc ec) (d := .int .i64 (nth l k).1.2.2.2.1) (e := .int .i64 (nth l k).1.2.2.2.2) hX5)
    have ZO := Lib.hid (own_five' (g := w.heap.size + 1 + 1 + 1) (a := .slice za na ea) (b := .slice zb nb eb) (c := .slice zc nc ec) (d := .int .i64 (nth l k).1.2.2.2.1) (e := .int .i64 (nth l k).1.2.2.2.2) ho5 hlow)
    have HBZ := Lib.hid (hbR.trans (hb5.mono hbR.size))
    have HS5 := Lib.hid hs5; have HD5 := Lib.hid hd5
    clear hi5 ho5 hs5 hd5 hb5 hX5 hXR hbR
    go_wp2_with fail
    refine bodyPost_ret (Ret.results_ct rfl _ _ (w.heap.size + 1 + 1 + 1) [.slice za na ea, .slice zb nb eb, .slice zc nc ec, .int .i64 (nth l k).1.2.2.2.1, .int .i64 (nth l k).1.2.2.2.2] rfl aggDz5 Z.out.cells) rfl ?_
    have hin := (ZO.out.mono hlow0 (Nat.le_refl _)).in
    rw [show kDz.val m5 = .agg #[.slice za na ea, .slice zb nb eb, .slice zc nc ec, .int .i64 (nth l k).1.2.2.2.1, .int .i64 (nth l k).1.2.2.2.2] by show Value.agg (kDz.cells m5).toArray = _; rw [HD5.out], HS5.out] at hin
    rw [HTQ.out, HQ.out]
    exact ⟨_, rfl, by rw [size_five']; exact hin, below_five HBZ.out (by omega)⟩
end Go.Proofs.Ythfljbbigpophaa.Row
