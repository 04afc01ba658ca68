/- Contracts and mathematics, joined: CacheT. No conditions but those that each states. -/
import Derived.WalkKit
import Derived.Deep.RegionHeld3
import Derived.Test.YtfglcmanmfenpaaGreatB16
/- The model's Touch and CacheData. No conditions but that lengths fit. -/
namespace Go.Proofs.YtfglcmanmfenpaaGreat.Row
open Go.ChangeShapes Go.WideShapes Go.ChangeAt Go.RowKit Go.Instr
set_option linter.unusedVariables false
set_option maxRecDepth 100000
set_option maxHeartbeats 8000000 in
theorem specTouch (V U : Value) (x : Cnt) (m : List ByteArray) (now : Int) (w : World) (h : kCn.At w V x) (g : kN.At w U m) (hp : FitC x) (hm : bulk m ≤ 1200000) :
    Calls Tryz.prog 17 #[V, U, .int .i64 now] w fun e w' => ∃ U, e = .returned U ∧ kCn.In w.heap.size w'.heap.size w' U (touchC x m now) ∧ Below w.heap.size w w' := by
  obtain ⟨xq, q, cy, rfl, g⟩ := kN_shapeA g
  obtain ⟨x1_0, n1_0, c1_0, rfl, g1⟩ := kCn_at h
  clear h
  obtain ⟨cc, l⟩ := x
  have hfit := hp
  obtain ⟨hl, hp7⟩ := hp.fields
  clear hp
  have hp := hp7
  clear hp7
  dsimp only at g1 hl hp ⊢
  have b0 := (Below.refl w.heap.size w).alloc (Nat.le_refl _) (.cells #[.int .i64 cc, .slice x1_0 n1_0 c1_0] 26)
  have b1 := (Below.refl (w.alloc (.cells #[.int .i64 cc, .slice x1_0 n1_0 c1_0] 26)).heap.size (w.alloc (.cells #[.int .i64 cc, .slice x1_0 n1_0 c1_0] 26))).alloc (Nat.le_refl _) (.cells #[.slice xq q cy] 29)
  have b2 := (Below.refl ((w.alloc (.cells #[.int .i64 cc, .slice x1_0 n1_0 c1_0] 26)).alloc (.cells #[.slice xq q cy] 29)).heap.size ((w.alloc (.cells #[.int .i64 cc, .slice x1_0 n1_0 c1_0] 26)).alloc (.cells #[.slice xq q cy] 29))).alloc (Nat.le_refl _) (.cells #[.int .i64 0, .slice none 0 0] 26)
  have b012 := (b0.trans (b1.mono b0.size)).trans (b2.mono (Nat.le_trans b0.size b1.size))
  have hX0 := ((Ret.Blk.new w #[.int .i64 cc, .slice x1_0 n1_0 c1_0] 26).on b1).on b2
  have hX1 := (Ret.Blk.new' (w := (w.alloc (.cells #[.int .i64 cc, .slice x1_0 n1_0 c1_0] 26))) (n := w.heap.size + 1) #[.slice xq q cy] 29 (by simp)).on b2
  have hX2 := Ret.Blk.new' (w := ((w.alloc (.cells #[.int .i64 cc, .slice x1_0 n1_0 c1_0] 26)).alloc (.cells #[.slice xq q cy] 29))) (n := w.heap.size + 1 + 1) #[.int .i64 0, .slice none 0 0] 26 (by simp)
  have hS3 : (((w.alloc (.cells #[.int .i64 cc, .slice x1_0 n1_0 c1_0] 26)).alloc (.cells #[.slice xq q cy] 29)).alloc (.cells #[.int .i64 0, .slice none 0 0] 26)).heap.size = w.heap.size + 3 := by simp
  have HA := Lib.hid (cn_of (cc := cc) (g1.on b012)); have HG := Lib.hid g; have HMB := Lib.hid hm; have HL0 := Lib.hid g1
  have HLL := Lib.hid (show l.length ≤ 9000000 by omega); have HLP := Lib.hid hp
  have q0 : (((w.alloc (.cells #[.int .i64 cc, .slice x1_0 n1_0 c1_0] 26)).alloc (.cells #[.slice xq q cy] 29)).alloc (.cells #[.int .i64 0, .slice none 0 0] 26)).cell? ⟨w.heap.size, 0, none⟩ = some (.int .i64 cc) := hX0.cell 0
  have q1 : (((w.alloc (.cells #[.int .i64 cc, .slice x1_0 n1_0 c1_0] 26)).alloc (.cells #[.slice xq q cy] 29)).alloc (.cells #[.int .i64 0, .slice none 0 0] 26)).cell? ⟨w.heap.size, 1, none⟩ = some (.slice x1_0 n1_0 c1_0) := hX0.cell 1
  go_enter Tryz.func17, Tryz.ntmps17
  go_wp2_with fail
  refine (l12Copy _ (cc, l) _ HA.out hfit).mono ?_
  rintro e w1 ⟨U, rfl, hi, hb1⟩
  obtain ⟨m, rfl, hs, hi⟩ := hi.split
  obtain ⟨ce, r⟩ := m
  obtain ⟨xu, nu, cu, Lu⟩ := r
  obtain ⟨rfl, hsl⟩ : ce = cc ∧ Lu.map kCe.strip = l := by
    have e1 : (ce, Lu.map kCe.strip) = (cc, l) := hs
    injection e1 with e1 e2
    exact ⟨e1, e2⟩
  obtain ⟨-, hi2, -⟩ := Kd.Own.parts hi
  rw [hS3] at hi2
  rw [show kCn.val ((ce, (⟨xu, nu, cu, Lu⟩ : Rw Cem)) : Cnm) = .agg #[.int .i64 ce, .slice xu nu cu] from rfl]
  have hal := (Below.refl w1.heap.size w1).alloc (Nat.le_refl _) (.cells #[.int .i64 ce, .slice xu nu cu] 26)
  have HG1 := Lib.hid (show w.heap.size + 3 ≤ w1.heap.size by rw [← hS3]; exact hb1.size)
  have HX0 := Lib.hid ((hX0.on hb1).on hal); have HX1 := Lib.hid ((hX1.on hb1).on hal); have HX2 := Lib.hid ((hX2.on hb1).on hal)
  have HXD := Lib.hid (Ret.Blk.new w1 #[.int .i64 ce, .slice xu nu cu] 26)
  have HO := Lib.hid (hi2.upto hal); have HSL := Lib.hid hsl
  have HB := Lib.hid (b012.trans ((hb1.trans (hal.mono hb1.size)).mono b012.size))
  have HLU := Lib.hid (show Lu.length ≤ 1100000 by have h9 := hl; rw [← hsl, List.length_map] at h9; exact h9)
  have HPU := Lib.hid (show ∀ x ∈ Lu.map kCe.strip, wtCe x ≤ 1200000 by rw [hsl]; exact hp)
  clear hi hi2 hs hsl hb1 hal hX0 hX1 hX2 b0 b1 b2 b012 g1 g hm HA hfit hl hp hS3 q0 q1
  obtain ⟨z, hz⟩ : ∃ z, ixL (isE m) l = z := ⟨_, rfl⟩
  have HZ := Lib.hid hz; clear hz
  have q1 : (w1.alloc (.cells #[.int .i64 ce, .slice xu nu cu] 26)).cell? ⟨w.heap.size, 1, none⟩ = some (.slice x1_0 n1_0 c1_0) := HX0.out.cell 1
  have q2 : (w1.alloc (.cells #[.int .i64 ce, .slice xu nu cu] 26)).cell? ⟨w.heap.size + 1, 0, none⟩ = some (.slice xq q cy) := HX1.out.cell 0
  go_wp2_with fail
  refine (sFindE _ _ l m _ z HZ.out (HL0.out.on HB.out) (HG.out.on HB.out) HLL.out HLP.out HMB.out).mono ?_
  rintro e wx ⟨rfl, hbx⟩
  replace HX2 := Lib.hid (HX2.out.on hbx); replace HXD := Lib.hid (HXD.out.on hbx); replace HO := Lib.hid (HO.out.upto hbx); replace HB := Lib.hid (HB.out.trans (hbx.mono HB.out.size))
  clear hbx HX0 HX1 q1 q2
  rcases ixL_cases (isE m) l with ⟨e1, -⟩ | ⟨k, hk, e1, -, -⟩
  · obtain rfl : z = -1 := by rw [← HZ.out]; exact e1
    have HRES : Hid (Lu.map kCe.strip = touchE l (ixL (isE m) l) now) := Lib.hid (by rw [HSL.out, e1]; rfl)
    clear e1
    have p0 : wx.cell? ⟨w1.heap.size, 0, none⟩ = some (.int .i64 ce) := HXD.out.cell 0
    have p1 : wx.cell? ⟨w1.heap.size, 1, none⟩ = some (.slice xu nu cu) := HXD.out.cell 1
    have r0 := HX2.out.frozen 0; have r1 := HX2.out.frozen 1; have r2 := HX2.out.cell 0; have r3 := HX2.out.cell 1
    have Z := Lib.hid ((HX2.out.set 0 (.int .i64 ce)).set 1 (.slice xu nu cu))
    have ZO := Lib.hid (own_setS (i := 1) (u := .slice xu nu cu) (own_setS (i := 0) (u := .int .i64 ce) HO.out (g := w.heap.size + 1 + 1) (by omega)) (g := w.heap.size + 1 + 1) (by omega))
    have ZB := Lib.hid ((HB.out.setCell (p := ⟨w.heap.size + 1 + 1, 0, none⟩) (by show w.heap.size ≤ w.heap.size + 1 + 1; omega) (.int .i64 ce)).setCell (p := ⟨w.heap.size + 1 + 1, 1, none⟩) (by show w.heap.size ≤ w.heap.size + 1 + 1; omega) (.slice xu nu cu))
    go_wp2_with fail
    refine bodyPost_ret (Ret.results_c rfl _ _ (w.heap.size + 1 + 1) [.int .i64 ce, .slice xu nu cu] rfl aggCn Z.out.cells) rfl ?_
    exact ⟨_, rfl, cn_in ZO.out (by omega) HRES.out ZB.out.size, ZB.out⟩
  · obtain rfl : z = (k : Int) := by rw [← HZ.out]; exact e1
    have hkL : k < Lu.length := by rw [← HSL.out, List.length_map] at hk; exact hk
    have hnl : nu = Lu.length := HO.out.1.1.holds.lenEq
    have hnc : nu ≤ cu := by obtain ⟨x', n', cap', hv, hn', hc', -⟩ := HO.out.1.1.holds.shapeN; cases hv; exact hc'
    rcases HO.out.1.1.form with ⟨hv, hL⟩ | ⟨gR, cap', hv, h1, h2, h3, h4⟩
    · rw [show Lu = [] from hL] at hkL
      exact absurd hkL (by simp)
    · replace hv : Value.slice xu nu cu = .slice (some ⟨gR, 0, none⟩) Lu.length cap' := hv
      injection hv with e5 e6 e7
      subst e5
      have HRES : Hid ((Lu.set k (((nth Lu k).1, now) : Cem)).map kCe.strip = touchE l (ixL (isE m) l) now) := Lib.hid (by rw [touch_strip hkL, HSL.out, e1])
      have hkn : k < nu := by omega
      have hkc : k ≤ cu := by omega
      have HNL := Lib.hid hnl; have HKL := Lib.hid hkL
      have c5 : wx.cell? ⟨gR, k * 6 + 5, none⟩ = (kCe.cells (nth Lu k))[5]? := (ownK_cell szCe_cells HO.out.1.1 hnl hkL (i := 5) (by decide)).1
      have f5 : wx.frozen? ⟨gR, k * 6 + 5, none⟩ = false := (ownK_cell szCe_cells HO.out.1.1 hnl hkL (i := 5) (by decide)).2
      obtain ⟨z5, hz5⟩ : ∃ z, wx.cell? ⟨gR, k * 6 + 5, none⟩ = some z := ⟨_, c5.trans (List.getElem?_eq_getElem (by rw [kCe.len]; decide))⟩
      have k1 : wx.cell? ⟨w1.heap.size, 1, none⟩ = some (.slice (some ⟨gR, 0, none⟩) nu cu) := HXD.out.cell 1
      have HNE : Hid (gR ≠ w1.heap.size) := Lib.hid (fun e => row_ne_blk HO.out.1.1 HXD.out (by decide) (by rw [← e]; rfl))
      have HR3 := Lib.hid (show w.heap.size + 3 ≤ gR from h1)
      clear e1 e6 e7 h1 h2 h3 h4 c5 hnl hkL
      have HO5 := Lib.hid (put_used (now := now) HO.out HNL.out HKL.out)
      have HXD5 := Lib.hid (HXD.out.other (a := ⟨gR, k * 6 + 5, none⟩) HNE.out (.int .i64 now))
      have HX25 := Lib.hid (HX2.out.other (a := ⟨gR, k * 6 + 5, none⟩) (by show gR ≠ w.heap.size + 1 + 1; have := HR3.out; omega) (.int .i64 now))
      have HB5 := Lib.hid (HB.out.setCell (p := ⟨gR, k * 6 + 5, none⟩) (by show w.heap.size ≤ gR; have := HR3.out; omega) (.int .i64 now))
      clear HO HXD HX2 HB
      have p0 : (wx.setCell ⟨gR, k * 6 + 5, none⟩ (.int .i64 now)).cell? ⟨w1.heap.size, 0, none⟩ = some (.int .i64 ce) := HXD5.out.cell 0
      have p1 : (wx.setCell ⟨gR, k * 6 + 5, none⟩ (.int .i64 now)).cell? ⟨w1.heap.size, 1, none⟩ = some (.slice (some ⟨gR, 0, none⟩) nu cu) := HXD5.out.cell 1
      have r0 := HX25.out.frozen 0; have r1 := HX25.out.frozen 1; have r2 := HX25.out.cell 0; have r3 := HX25.out.cell 1
      have Z := Lib.hid ((HX25.out.set 0 (.int .i64 ce)).set 1 (.slice (some ⟨gR, 0, none⟩) nu cu))
      have ZO := Lib.hid (own_setS (i := 1) (u := .slice (some ⟨gR, 0, none⟩) nu cu) (own_setS (i := 0) (u := .int .i64 ce) HO5.out (g := w.heap.size + 1 + 1) (by omega)) (g := w.heap.size + 1 + 1) (by omega))
      have ZB := Lib.hid ((HB5.out.setCell (p := ⟨w.heap.size + 1 + 1, 0, none⟩) (by show w.heap.size ≤ w.heap.size + 1 + 1; omega) (.int .i64 ce)).setCell (p := ⟨w.heap.size + 1 + 1, 1, none⟩) (by show w.heap.size ≤ w.heap.size + 1 + 1; omega) (.slice (some ⟨gR, 0, none⟩) nu cu))
      go_wp2_with fail
      refine bodyPost_ret (Ret.results_c rfl _ _ (w.heap.size + 1 + 1) [.int .i64 ce, .slice (some ⟨gR, 0, none⟩) nu cu] rfl aggCn Z.out.cells) rfl ?_
      exact ⟨_, rfl, cn_in ZO.out (by omega) HRES.out ZB.out.size, ZB.out⟩
set_option maxRecDepth 100000 in
set_option maxHeartbeats 4000000 in
theorem rsc {Q : Exit → Act → World → Prop} {v0 v1 v2 v3 v4 v5 v6 v8 v11 v12 v13 v14 v15 v16 v17 v18 v19 v20 v21 v22 v23 v24 v25 v26 v27 v28 v29 v30 v31 v32 v33 v34 v35 v36 v37 v38 v39 v40 v41 v42 v43 v44 v45 v46 v47 v48 v49 v50 v51 v52 v53 v54 v55 v56 v57 v58 v59 v60 v61 v62 v63 v64 v65 v66 v67 v68 v69 v70 v71 v72 v73 v74 v75 v76 v77 v78 v79 v80 v81 v82 : Value} {w : World} {b off n c gD k j : Nat} {u1 u2 : Int} (hk : k < n) (hj : j < n) (hkc : k ≤ c) (hjc : j ≤ c) (hn : n ≤ 9000000) (K1 : Hid (w.cell? ⟨gD, 1, none⟩ = some (.slice (some ⟨b, off, none⟩) n c))) (E5 : Hid (w.cell? ⟨b, off + k * 6 + 5, none⟩ = some (.int .i64 u1))) (J5 : Hid (w.cell? ⟨b, off + j * 6 + 5, none⟩ = some (.int .i64 u2)))
  (hQ : ∀ (u53 u54 u55 u56 u57 u58 u59 u60 u61 u62 u63 u64 : Value)  (wx : World), Below w.heap.size w wx → Q .normal ⟨#[v0, v1, v2, v3, v4, v5, v6, .pointer (some ⟨gD, 0, none⟩), v8, .int .i64 j, .int .i64 k, v11, v12, v13, v14, v15, v16, v17, v18, v19, v20, v21, v22, v23, v24, v25, v26, v27, v28, v29, v30, v31, v32, v33, v34, v35, v36, v37, v38, v39, v40, v41, v42, v43, v44, v45, v46, v47, v48, v49, v50, v51, v52, u53, u54, u55, u56, u57, u58, u59, u60, u61, u62, u63, u64, .bool (decide (u1 < u2)), v66, v67, v68, v69, v70, v71, v72, v73, v74, v75, v76, v77, v78, v79, v80, v81, v82], []⟩ wx) :
  (Code.region 13 #[⟨some 53, .fieldAddr 26 (.tmp 7) 1, 0, "l12_cache.go:54", #[], none⟩,
   ⟨some 54, .load 24 (.tmp 53), 24, "l12_cache.go:54", #[⟨0, .data⟩], none⟩,
   ⟨some 55, .move (.tmp 10), 3, "l12_cache.go:54", #[], none⟩,
   ⟨some 56, .indexAddr 24 (.tmp 54) (.tmp 55), 0, "l12_cache.go:54", #[⟨1, .data⟩, ⟨2, .data⟩], none⟩,
   ⟨some 57, .fieldAddr 64 (.tmp 56) 1, 0, "l12_cache.go:54", #[⟨3, .data⟩], none⟩,
   ⟨some 58, .load 3 (.tmp 57), 3, "l12_cache.go:54", #[⟨4, .data⟩], none⟩,
   ⟨some 59, .fieldAddr 26 (.tmp 7) 1, 0, "l12_cache.go:54", #[], none⟩,
   ⟨some 60, .load 24 (.tmp 59), 24, "l12_cache.go:54", #[⟨6, .data⟩], none⟩,
   ⟨some 61, .move (.tmp 9), 3, "l12_cache.go:54", #[], none⟩,
   ⟨some 62, .indexAddr 24 (.tmp 60) (.tmp 61), 0, "l12_cache.go:54", #[⟨7, .data⟩, ⟨8, .data⟩], none⟩,
   ⟨some 63, .fieldAddr 64 (.tmp 62) 1, 0, "l12_cache.go:54", #[⟨9, .data⟩], none⟩,
   ⟨some 64, .load 3 (.tmp 63), 3, "l12_cache.go:54", #[⟨10, .data⟩], none⟩,
   ⟨some 65, .binOp BinOp.lss 3 (.tmp 58) (.tmp 64) 3, 4, "l12_cache.go:54", #[⟨5, .data⟩, ⟨11, .data⟩], none⟩] true).wp Tryz.prog Q ⟨#[v0, v1, v2, v3, v4, v5, v6, .pointer (some ⟨gD, 0, none⟩), v8, .int .i64 j, .int .i64 k, v11, v12, v13, v14, v15, v16, v17, v18, v19, v20, v21, v22, v23, v24, v25, v26, v27, v28, v29, v30, v31, v32, v33, v34, v35, v36, v37, v38, v39, v40, v41, v42, v43, v44, v45, v46, v47, v48, v49, v50, v51, v52, v53, v54, v55, v56, v57, v58, v59, v60, v61, v62, v63, v64, v65, v66, v67, v68, v69, v70, v71, v72, v73, v74, v75, v76, v77, v78, v79, v80, v81, v82], []⟩ w := by
 have HQ := Lib.hid hQ; clear hQ
 have hdr : Below w.heap.size w w.drew := (Below.refl _ _).drew
 have BB := Lib.hid hdr
 refine wp_region_noPanic ?_
 refine wp_region_held_drew (S := (fun w' => w'.cell? ⟨gD, 1, none⟩ = some (.slice (some ⟨b, off, none⟩) n c) ∧ w'.cell? ⟨b, off + k * 6 + 5, none⟩ = some (.int .i64 u1) ∧ w'.cell? ⟨b, off + j * 6 + 5, none⟩ = some (.int .i64 u2))) (by kernel_rfl) ?_ (fun hHeld => ?_)
 ·
  exact ⟨kc K1.out BB.out, kc E5.out BB.out, kc J5.out BB.out⟩
 clear hdr
 generalize w.drew = wd at *
 refine wpAnyH_take (i := 0) (oi := ⟨some 53, .fieldAddr 26 (.tmp 7) 1, 0, "l12_cache.go:54", #[], none⟩) (v := ?_) rfl (by kernel_rfl) (by kernel_rfl) (by kernel_rfl) (fun _ _ _ h => h) (Or.inl ⟨by rfl, ?_⟩) (by assumption) ?_
 rotate_left
 ·
  intro w' hSw; (try dsimp only at hSw); first | (go_simp; done) | (go_simp; with_reducible rfl)
 (try simp only [Act.put, Row.pB0, Row.pB1, Row.pB2])
 refine wpAnyH_take (i := 1) (oi := ⟨some 54, .load 24 (.tmp 53), 24, "l12_cache.go:54", #[⟨0, .data⟩], none⟩) (v := ?_) rfl (by kernel_rfl) (by kernel_rfl) (by kernel_rfl) (fun _ _ _ h => h) (Or.inl ⟨by rfl, ?_⟩) (by assumption) ?_
 rotate_left
 ·
  intro w' hSw; (try dsimp only at hSw); first | (go_simp; done) | (go_simp; with_reducible rfl)
 (try simp only [Act.put, Row.pB0, Row.pB1, Row.pB2])
 refine wpAnyH_take (i := 2) (oi := ⟨some 55, .move (.tmp 10), 3, "l12_cache.go:54", #[], none⟩) (v := ?_) rfl (by kernel_rfl) (by kernel_rfl) (by kernel_rfl) (fun _ _ _ h => h) (Or.inl ⟨by rfl, ?_⟩) (by assumption) ?_
 rotate_left
 ·
  intro w' hSw; (try dsimp only at hSw); first | (go_simp; done) | (go_simp; with_reducible rfl)
 (try simp only [Act.put, Row.pB0, Row.pB1, Row.pB2])
 refine wpAnyH_take (i := 3) (oi := ⟨some 56, .indexAddr 24 (.tmp 54) (.tmp 55), 0, "l12_cache.go:54", #[⟨1, .data⟩, ⟨2, .data⟩], none⟩) (v := ?_) rfl (by kernel_rfl) (by kernel_rfl) (by kernel_rfl) (fun _ _ _ h => h) (Or.inl ⟨by rfl, ?_⟩) (by assumption) ?_
 rotate_left
 ·
  intro w' hSw; (try dsimp only at hSw); first | (go_simp; done) | (go_simp; with_reducible rfl)
 (try simp only [Act.put, Row.pB0, Row.pB1, Row.pB2])
 refine wpAnyH_take (i := 4) (oi := ⟨some 57, .fieldAddr 64 (.tmp 56) 1, 0, "l12_cache.go:54", #[⟨3, .data⟩], none⟩) (v := ?_) rfl (by kernel_rfl) (by kernel_rfl) (by kernel_rfl) (fun _ _ _ h => h) (Or.inl ⟨by rfl, ?_⟩) (by assumption) ?_
 rotate_left
 ·
  intro w' hSw; (try dsimp only at hSw); first | (go_simp; done) | (go_simp; with_reducible rfl)
 (try simp only [Act.put, Row.pB0, Row.pB1, Row.pB2])
 refine wpAnyH_take (i := 5) (oi := ⟨some 58, .load 3 (.tmp 57), 3, "l12_cache.go:54", #[⟨4, .data⟩], none⟩) (v := ?_) rfl (by kernel_rfl) (by kernel_rfl) (by kernel_rfl) (fun _ _ _ h => h) (Or.inl ⟨by rfl, ?_⟩) (by assumption) ?_
 rotate_left
 ·
  intro w' hSw; (try dsimp only at hSw); first | (go_simp; done) | (go_simp; with_reducible rfl)
 (try simp only [Act.put, Row.pB0, Row.pB1, Row.pB2])
 refine wpAnyH_take (i := 6) (oi := ⟨some 59, .fieldAddr 26 (.tmp 7) 1, 0, "l12_cache.go:54", #[], none⟩) (v := ?_) rfl (by kernel_rfl) (by kernel_rfl) (by kernel_rfl) (fun _ _ _ h => h) (Or.inl ⟨by rfl, ?_⟩) (by assumption) ?_
 rotate_left
 ·
  intro w' hSw; (try dsimp only at hSw); first | (go_simp; done) | (go_simp; with_reducible rfl)
 (try simp only [Act.put, Row.pB0, Row.pB1, Row.pB2])
 refine wpAnyH_take (i := 7) (oi := ⟨some 60, .load 24 (.tmp 59), 24, "l12_cache.go:54", #[⟨6, .data⟩], none⟩) (v := ?_) rfl (by kernel_rfl) (by kernel_rfl) (by kernel_rfl) (fun _ _ _ h => h) (Or.inl ⟨by rfl, ?_⟩) (by assumption) ?_
 rotate_left
 ·
  intro w' hSw; (try dsimp only at hSw); first | (go_simp; done) | (go_simp; with_reducible rfl)
 (try simp only [Act.put, Row.pB0, Row.pB1, Row.pB2])
 refine wpAnyH_take (i := 8) (oi := ⟨some 61, .move (.tmp 9), 3, "l12_cache.go:54", #[], none⟩) (v := ?_) rfl (by kernel_rfl) (by kernel_rfl) (by kernel_rfl) (fun _ _ _ h => h) (Or.inl ⟨by rfl, ?_⟩) (by assumption) ?_
 rotate_left
 ·
  intro w' hSw; (try dsimp only at hSw); first | (go_simp; done) | (go_simp; with_reducible rfl)
 (try simp only [Act.put, Row.pB0, Row.pB1, Row.pB2])
 refine wpAnyH_take (i := 9) (oi := ⟨some 62, .indexAddr 24 (.tmp 60) (.tmp 61), 0, "l12_cache.go:54", #[⟨7, .data⟩, ⟨8, .data⟩], none⟩) (v := ?_) rfl (by kernel_rfl) (by kernel_rfl) (by kernel_rfl) (fun _ _ _ h => h) (Or.inl ⟨by rfl, ?_⟩) (by assumption) ?_
 rotate_left
 ·
  intro w' hSw; (try dsimp only at hSw); first | (go_simp; done) | (go_simp; with_reducible rfl)
 (try simp only [Act.put, Row.pB0, Row.pB1, Row.pB2])
 refine wpAnyH_take (i := 10) (oi := ⟨some 63, .fieldAddr 64 (.tmp 62) 1, 0, "l12_cache.go:54", #[⟨9, .data⟩], none⟩) (v := ?_) rfl (by kernel_rfl) (by kernel_rfl) (by kernel_rfl) (fun _ _ _ h => h) (Or.inl ⟨by rfl, ?_⟩) (by assumption) ?_
 rotate_left
 ·
  intro w' hSw; (try dsimp only at hSw); first | (go_simp; done) | (go_simp; with_reducible rfl)
 (try simp only [Act.put, Row.pB0, Row.pB1, Row.pB2])
 refine wpAnyH_take (i := 11) (oi := ⟨some 64, .load 3 (.tmp 63), 3, "l12_cache.go:54", #[⟨10, .data⟩], none⟩) (v := ?_) rfl (by kernel_rfl) (by kernel_rfl) (by kernel_rfl) (fun _ _ _ h => h) (Or.inl ⟨by rfl, ?_⟩) (by assumption) ?_
 rotate_left
 ·
  intro w' hSw; (try dsimp only at hSw); first | (go_simp; done) | (go_simp; with_reducible rfl)
 (try simp only [Act.put, Row.pB0, Row.pB1, Row.pB2])
 refine wpAnyH_take (i := 12) (oi := ⟨some 65, .binOp BinOp.lss 3 (.tmp 58) (.tmp 64) 3, 4, "l12_cache.go:54", #[⟨5, .data⟩, ⟨11, .data⟩], none⟩) (v := ?_) rfl (by kernel_rfl) (by kernel_rfl) (by kernel_rfl) (fun _ _ _ h => h) (Or.inl ⟨by rfl, ?_⟩) (by assumption) ?_
 rotate_left
 ·
  intro w' hSw; (try dsimp only at hSw); first | (go_simp; done) | (go_simp; with_reducible rfl)
 (try simp only [Act.put, Row.pB0, Row.pB1, Row.pB2])
 refine wpAnyH_done (by kernel_rfl) ?_ _
 exact NoPanic.normal (HQ.out _ _ _ _ _ _ _ _ _ _ _ _  _  BB.out)
theorem noRow_Cs : kLCe.NoRow 26 := noRow_kLCe _ (by decide) (by decide) (by decide)
def lenAt (w : World) (a : Addr) : Nat := match w.cell? a with | some (.slice _ n _) => n | _ => 0
theorem lenAt_eq {w : World} {a : Addr} {x : Option Addr} {n c : Nat} (h : w.cell? a = some (.slice x n c)) : lenAt w a = n := by unfold lenAt; rw [h]
set_option maxHeartbeats 16000000 in
theorem specCacheData (V U : Value) (x : Cnt) (d : Dzt) (now : Int) (w : World) (h : kCn.At w V x) (g : kDz.At w U d) (hp : FitC x) (hd : wtDz d ≤ 1200000) :
    Calls Tryz.prog 14 #[V, U, .int .i64 now] w fun e w' => ∃ U, e = .returned U ∧ kCn.In w.heap.size w'.heap.size w' U (cacheC x d now) ∧ Below w.heap.size w w' := by
  obtain ⟨ya, ma, da, yb, mb, db, yc, mc, dc_, rfl, g⟩ := kDz_shapeA g
  have hgn : kN.At w (.agg #[.slice ya ma da]) d.1 := by
    obtain ⟨a0, a1, a2, b0, b1, b2, d0, d1, d2, e, g0, -, -⟩ := kDz_at g
    simp only [Value.agg.injEq, Array.mk.injEq, List.cons.injEq, Value.slice.injEq, and_true] at e
    obtain ⟨⟨rfl, rfl, rfl⟩, -⟩ := e
    exact g0
  obtain ⟨x1_0, n1_0, c1_0, rfl, g1⟩ := kCn_at h
  clear h
  obtain ⟨cc, l⟩ := x
  have hfit := hp
  obtain ⟨hl, hp7⟩ := hp.fields
  clear hp
  have hp := hp7
  clear hp7
  dsimp only at g1 hl hp ⊢
  have b0 := (Below.refl w.heap.size w).alloc (Nat.le_refl _) (.cells #[.int .i64 cc, .slice x1_0 n1_0 c1_0] 26)
  have b1 := (Below.refl (w.alloc (.cells #[.int .i64 cc, .slice x1_0 n1_0 c1_0] 26)).heap.size (w.alloc (.cells #[.int .i64 cc, .slice x1_0 n1_0 c1_0] 26))).alloc (Nat.le_refl _) (.cells #[.slice ya ma da, .slice yb mb db, .slice yc mc dc_, .int .i64 d.2.2.2.1, .int .i64 d.2.2.2.2] 31)
  have b2 := (Below.refl ((w.alloc (.cells #[.int .i64 cc, .slice x1_0 n1_0 c1_0] 26)).alloc (.cells #[.slice ya ma da, .slice yb mb db, .slice yc mc dc_, .int .i64 d.2.2.2.1, .int .i64 d.2.2.2.2] 31)).heap.size ((w.alloc (.cells #[.int .i64 cc, .slice x1_0 n1_0 c1_0] 26)).alloc (.cells #[.slice ya ma da, .slice yb mb db, .slice yc mc dc_, .int .i64 d.2.2.2.1, .int .i64 d.2.2.2.2] 31))).alloc (Nat.le_refl _) (.cells #[.int .i64 0, .slice none 0 0] 26)
  have b012 := (b0.trans (b1.mono b0.size)).trans (b2.mono (Nat.le_trans b0.size b1.size))
  have hX0 := ((Ret.Blk.new w #[.int .i64 cc, .slice x1_0 n1_0 c1_0] 26).on b1).on b2
  have hX1 := (Ret.Blk.new' (w := (w.alloc (.cells #[.int .i64 cc, .slice x1_0 n1_0 c1_0] 26))) (n := w.heap.size + 1) #[.slice ya ma da, .slice yb mb db, .slice yc mc dc_, .int .i64 d.2.2.2.1, .int .i64 d.2.2.2.2] 31 (by simp)).on b2
  have hX2 := Ret.Blk.new' (w := ((w.alloc (.cells #[.int .i64 cc, .slice x1_0 n1_0 c1_0] 26)).alloc (.cells #[.slice ya ma da, .slice yb mb db, .slice yc mc dc_, .int .i64 d.2.2.2.1, .int .i64 d.2.2.2.2] 31))) (n := w.heap.size + 1 + 1) #[.int .i64 0, .slice none 0 0] 26 (by simp)
  have hS3 : (((w.alloc (.cells #[.int .i64 cc, .slice x1_0 n1_0 c1_0] 26)).alloc (.cells #[.slice ya ma da, .slice yb mb db, .slice yc mc dc_, .int .i64 d.2.2.2.1, .int .i64 d.2.2.2.2] 31)).alloc (.cells #[.int .i64 0, .slice none 0 0] 26)).heap.size = w.heap.size + 3 := by simp
  have HA := Lib.hid (cn_of (cc := cc) (g1.on b012)); have HG := Lib.hid g; have HGN := Lib.hid hgn; have HDB := Lib.hid hd
  have q0 : (((w.alloc (.cells #[.int .i64 cc, .slice x1_0 n1_0 c1_0] 26)).alloc (.cells #[.slice ya ma da, .slice yb mb db, .slice yc mc dc_, .int .i64 d.2.2.2.1, .int .i64 d.2.2.2.2] 31)).alloc (.cells #[.int .i64 0, .slice none 0 0] 26)).cell? ⟨w.heap.size, 0, none⟩ = some (.int .i64 cc) := hX0.cell 0
  have q1 : (((w.alloc (.cells #[.int .i64 cc, .slice x1_0 n1_0 c1_0] 26)).alloc (.cells #[.slice ya ma da, .slice yb mb db, .slice yc mc dc_, .int .i64 d.2.2.2.1, .int .i64 d.2.2.2.2] 31)).alloc (.cells #[.int .i64 0, .slice none 0 0] 26)).cell? ⟨w.heap.size, 1, none⟩ = some (.slice x1_0 n1_0 c1_0) := hX0.cell 1
  obtain ⟨T, hT⟩ : ∃ T, cacheC (cc, l) d now = T := ⟨_, rfl⟩
  rw [hT]
  have HTT := Lib.hid hT; clear hT
  go_enter Tryz.func14, Tryz.ntmps14
  go_wp2_with fail
  refine (l12Copy _ (cc, l) _ HA.out hfit).mono ?_
  rintro e w1 ⟨U, rfl, hi, hb1⟩
  obtain ⟨m, rfl, hs, hi⟩ := hi.split
  obtain ⟨ce, r⟩ := m
  obtain ⟨xu, nu, cu, Lu⟩ := r
  obtain ⟨rfl, hsl⟩ : ce = cc ∧ Lu.map kCe.strip = l := by
    have e1 : (ce, Lu.map kCe.strip) = (cc, l) := hs
    injection e1 with e1 e2
    exact ⟨e1, e2⟩
  obtain ⟨-, hi2, -⟩ := Kd.Own.parts hi
  rw [hS3] at hi2
  rw [show kCn.val ((ce, (⟨xu, nu, cu, Lu⟩ : Rw Cem)) : Cnm) = .agg #[.int .i64 ce, .slice xu nu cu] from rfl]
  have hal := (Below.refl w1.heap.size w1).alloc (Nat.le_refl _) (.cells #[.int .i64 ce, .slice xu nu cu] 26)
  have HG1 := Lib.hid (show w.heap.size + 3 ≤ w1.heap.size by rw [← hS3]; exact hb1.size)
  have HX0 := Lib.hid ((hX0.on hb1).on hal); have HX1 := Lib.hid ((hX1.on hb1).on hal); have HX2 := Lib.hid ((hX2.on hb1).on hal)
  have HXD := Lib.hid (Ret.Blk.new w1 #[.int .i64 ce, .slice xu nu cu] 26)
  have HO := Lib.hid (hi2.upto hal); have HSL := Lib.hid hsl
  have HB := Lib.hid (b012.trans ((hb1.trans (hal.mono hb1.size)).mono b012.size))
  have HLU := Lib.hid (show Lu.length ≤ 1100000 by have h9 := hl; rw [← hsl, List.length_map] at h9; exact h9)
  have HPU := Lib.hid (show ∀ x ∈ Lu.map kCe.strip, wtCe x ≤ 1200000 by rw [hsl]; exact hp)
  clear hi hi2 hs hsl hb1 hal hX0 hX1 hX2 b0 b1 b2 b012 g1 g hgn hd HA hfit hl hp hS3 q0 q1
  have k0 : (w1.alloc (.cells #[.int .i64 ce, .slice xu nu cu] 26)).cell? ⟨w.heap.size, 0, none⟩ = some (.int .i64 ce) := HX0.out.cell 0
  by_cases hc1 : ce < 1
  · have HRES : Hid (T = (ce, l)) := Lib.hid (by rw [← HTT.out]; unfold cacheC; exact if_pos hc1)
    have p0 : (w1.alloc (.cells #[.int .i64 ce, .slice xu nu cu] 26)).cell? ⟨w1.heap.size, 0, none⟩ = some (.int .i64 ce) := HXD.out.cell 0
    have p1 : (w1.alloc (.cells #[.int .i64 ce, .slice xu nu cu] 26)).cell? ⟨w1.heap.size, 1, none⟩ = some (.slice xu nu cu) := HXD.out.cell 1
    have r0 := HX2.out.frozen 0; have r1 := HX2.out.frozen 1; have r2 := HX2.out.cell 0; have r3 := HX2.out.cell 1
    have Z := Lib.hid ((HX2.out.set 0 (.int .i64 ce)).set 1 (.slice xu nu cu))
    have ZO := Lib.hid (own_setS (i := 1) (u := .slice xu nu cu) (own_setS (i := 0) (u := .int .i64 ce) HO.out (g := w.heap.size + 1 + 1) (by omega)) (g := w.heap.size + 1 + 1) (by omega))
    have ZB := Lib.hid ((HB.out.setCell (p := ⟨w.heap.size + 1 + 1, 0, none⟩) (by show w.heap.size ≤ w.heap.size + 1 + 1; omega) (.int .i64 ce)).setCell (p := ⟨w.heap.size + 1 + 1, 1, none⟩) (by show w.heap.size ≤ w.heap.size + 1 + 1; omega) (.slice xu nu cu))
    go_wp2_with fail
    refine bodyPost_ret (Ret.results_c rfl _ _ (w.heap.size + 1 + 1) [.int .i64 ce, .slice xu nu cu] rfl aggCn Z.out.cells) rfl ?_
    rw [HRES.out]
    exact ⟨_, rfl, cn_in ZO.out (by omega) HSL.out ZB.out.size, ZB.out⟩
  · have hc2 : (1 : Int) ≤ ce := by omega
    obtain ⟨v, hv⟩ : ∃ v, validD d = v := ⟨_, rfl⟩
    have HV := Lib.hid hv; clear hv
    have e0 : (w1.alloc (.cells #[.int .i64 ce, .slice xu nu cu] 26)).cell? ⟨w.heap.size + 1, 0, none⟩ = some (.slice ya ma da) := HX1.out.cell 0
    have e1 : (w1.alloc (.cells #[.int .i64 ce, .slice xu nu cu] 26)).cell? ⟨w.heap.size + 1, 1, none⟩ = some (.slice yb mb db) := HX1.out.cell 1
    have e2 : (w1.alloc (.cells #[.int .i64 ce, .slice xu nu cu] 26)).cell? ⟨w.heap.size + 1, 2, none⟩ = some (.slice yc mc dc_) := HX1.out.cell 2
    have e3 : (w1.alloc (.cells #[.int .i64 ce, .slice xu nu cu] 26)).cell? ⟨w.heap.size + 1, 3, none⟩ = some (.int .i64 d.2.2.2.1) := HX1.out.cell 3
    have e4 : (w1.alloc (.cells #[.int .i64 ce, .slice xu nu cu] 26)).cell? ⟨w.heap.size + 1, 4, none⟩ = some (.int .i64 d.2.2.2.2) := HX1.out.cell 4
    go_wp2_with fail
    refine (sValZ v HV.out (HG.out.on HB.out) (Nat.le_trans HDB.out (by decide))).mono ?_
    rintro e w2 ⟨rfl, hb2⟩
    have HG2 := Lib.hid (Nat.le_trans HG1.out (Nat.le_trans (by simp) hb2.size) : w.heap.size + 3 ≤ w2.heap.size)
    replace HX0 := Lib.hid (HX0.out.on hb2); replace HX1 := Lib.hid (HX1.out.on hb2); replace HX2 := Lib.hid (HX2.out.on hb2); replace HXD := Lib.hid (HXD.out.on hb2); replace HO := Lib.hid (HO.out.upto hb2); replace HB := Lib.hid (HB.out.trans (hb2.mono HB.out.size))
    clear hb2 k0 e0 e1 e2 e3 e4
    cases v with
    | false =>
      have HRES : Hid (T = (ce, l)) := Lib.hid (by rw [← HTT.out]; unfold cacheC; dsimp only; rw [if_neg (show ¬ ce < 1 by omega), HV.out]; rfl)
      have p0 : w2.cell? ⟨w1.heap.size, 0, none⟩ = some (.int .i64 ce) := HXD.out.cell 0
      have p1 : w2.cell? ⟨w1.heap.size, 1, none⟩ = some (.slice xu nu cu) := HXD.out.cell 1
      have r0 := HX2.out.frozen 0; have r1 := HX2.out.frozen 1; have r2 := HX2.out.cell 0; have r3 := HX2.out.cell 1
      have Z := Lib.hid ((HX2.out.set 0 (.int .i64 ce)).set 1 (.slice xu nu cu))
      have ZO := Lib.hid (own_setS (i := 1) (u := .slice xu nu cu) (own_setS (i := 0) (u := .int .i64 ce) HO.out (g := w.heap.size + 1 + 1) (by omega)) (g := w.heap.size + 1 + 1) (by omega))
      have ZB := Lib.hid ((HB.out.setCell (p := ⟨w.heap.size + 1 + 1, 0, none⟩) (by show w.heap.size ≤ w.heap.size + 1 + 1; omega) (.int .i64 ce)).setCell (p := ⟨w.heap.size + 1 + 1, 1, none⟩) (by show w.heap.size ≤ w.heap.size + 1 + 1; omega) (.slice xu nu cu))
      go_wp2_with fail
      refine bodyPost_ret (Ret.results_c rfl _ _ (w.heap.size + 1 + 1) [.int .i64 ce, .slice xu nu cu] rfl aggCn Z.out.cells) rfl ?_
      rw [HRES.out]
      exact ⟨_, rfl, cn_in ZO.out (by omega) HSL.out ZB.out.size, ZB.out⟩
    | true =>
      have HRES : Hid (T = (ce, roomE ce (rmE l d.1) ++ [(d, now)])) := Lib.hid (by rw [← HTT.out]; unfold cacheC; dsimp only; rw [if_neg (show ¬ ce < 1 by omega), HV.out]; rfl)
      have HNB := Lib.hid (wtDz_lens d HDB.out).1
      have e0 : w2.cell? ⟨w.heap.size + 1, 0, none⟩ = some (.slice ya ma da) := HX1.out.cell 0
      have k1 : w2.cell? ⟨w1.heap.size, 1, none⟩ = some (.slice xu nu cu) := HXD.out.cell 1
      obtain ⟨z, hz⟩ : ∃ z, ixL (isE d.1) (Lu.map kCe.strip) = z := ⟨_, rfl⟩
      have HZ := Lib.hid hz; clear hz
      have HRM : Hid (rmE (Lu.map kCe.strip) d.1 = rmE l d.1) := Lib.hid (by rw [HSL.out])
      clear HSL HTT HV
      go_wp2_with fail
      refine (sFindE _ _ (Lu.map kCe.strip) d.1 _ z HZ.out ⟨⟨xu, nu, cu, Lu⟩, rfl, rfl, HO.out.holds⟩ (HGN.out.on HB.out) (by rw [List.length_map]; have := HLU.out; omega) HPU.out HNB.out).mono ?_
      rintro e w3 ⟨rfl, hb3⟩
      replace HX0 := Lib.hid (HX0.out.on hb3); replace HX1 := Lib.hid (HX1.out.on hb3); replace HX2 := Lib.hid (HX2.out.on hb3); replace HXD := Lib.hid (HXD.out.on hb3); replace HO := Lib.hid (HO.out.upto hb3); replace HB := Lib.hid (HB.out.trans (hb3.mono HB.out.size)); replace HG2 := Lib.hid (Nat.le_trans HG2.out hb3.size)
      clear hb3 e0 k1
      go_wp2_with fail
      go_loopw [8] (fun kv wr => ∃ (z : Int) (xu : Option Addr) (nu cu : Nat) (Lu : List Cem), kv = .int .i64 z ∧ Hid (ixL (isE d.1) (Lu.map kCe.strip) = z) ∧ Hid (rmE (Lu.map kCe.strip) d.1 = rmE l d.1) ∧ Hid (Lu.length ≤ 1100000) ∧ Hid (∀ x ∈ Lu.map kCe.strip, wtCe x ≤ 1200000) ∧ Hid (kLCe.Own (w.heap.size + 3) wr.heap.size wr ⟨xu, nu, cu, Lu⟩) ∧ Hid (Ret.Blk wr w1.heap.size #[.int .i64 ce, .slice xu nu cu] 26) ∧ Hid (Ret.Blk wr (w.heap.size + 1) #[.slice ya ma da, .slice yb mb db, .slice yc mc dc_, .int .i64 d.2.2.2.1, .int .i64 d.2.2.2.2] 31) ∧ Hid (Ret.Blk wr (w.heap.size + 1 + 1) #[.int .i64 0, .slice none 0 0] 26) ∧ Hid (Ret.Blk wr w.heap.size #[.int .i64 ce, .slice x1_0 n1_0 c1_0] 26) ∧ Hid (Below w.heap.size w wr) ∧ Hid (w.heap.size + 3 ≤ wr.heap.size)) (fun _ wr => lenAt wr ⟨w1.heap.size, 1, none⟩)
      case atStart => exact ⟨z, xu, nu, cu, Lu, rfl, HZ, HRM, HLU, HPU, HO, HXD, HX1, HX2, HX0, HB, HG2⟩
      case round =>
        clear HZ HRM HLU HPU HO HXD HX1 HX2 HX0 HB HG2
        obtain ⟨z, xu, nu, cu, Lu, rfl, HZ, HRM, HLU, HPU, HO, HXD, HX1, HX2, HX0, HB, HG2⟩ := hrel
        have k1 : wr.cell? ⟨w1.heap.size, 1, none⟩ = some (.slice xu nu cu) := HXD.out.cell 1
        have hnl : nu = Lu.length := HO.out.1.1.holds.lenEq
        rcases ixL_cases (isE d.1) (Lu.map kCe.strip) with ⟨e1, hno⟩ | ⟨k, hk, e1, hyes, -⟩
        · obtain rfl : z = -1 := by rw [← HZ.out]; exact e1
          have HEX : Hid (Lu.map kCe.strip = rmE l d.1) := Lib.hid (by rw [← HRM.out, rmE_none hno])
          have k0 : wr.cell? ⟨w.heap.size, 0, none⟩ = some (.int .i64 ce) := HX0.out.cell 0
          have HNL := Lib.hid hnl
          rename World => wa
          have hn11 : nu ≤ 1100000 := by rw [hnl]; exact HLU.out
          clear e1 hno hnl
          by_cases hfull : ce ≤ (nu : Int)
          · have hfull2 : (nu : Int) ≥ ce := hfull
            have hnpos : 1 ≤ nu := by omega
            go_wp2_with fail
            go_loopw [9, 10] (fun jv iv wr => ∃ i : Nat, 1 ≤ i ∧ i ≤ nu ∧ iv = .int .i64 i ∧ ∃ j : Nat, jv = .int .i64 j ∧ Hid (j = leastE (Lu.map kCe.strip) i) ∧ j < i ∧ Hid (Below wa.heap.size wa wr)) (fun _ iv _ => nu - (intOf iv).toNat)
            case atStart => exact ⟨1, Nat.le_refl _, hnpos, rfl, 0, rfl, Lib.hid (leastE_one _).symm, by decide, Lib.hid (Below.refl _ _)⟩
            case round =>
              obtain ⟨i, hi1, hin, rfl, j, rfl, hj, hji, hbw⟩ := hrel
              clear k0 k1
              have k1 : wr.cell? ⟨w1.heap.size, 1, none⟩ = some (.slice xu nu cu) := (HXD.out.on hbw.out).cell 1
              by_cases hlt : i < nu
              · have hnL := HNL.out
                obtain ⟨b, off, y0, m0, d0, y1, m1, d1, y2, m2, d2, rfl, -, hc0, hc1', hc2', hc3, hc4, hc5, -⟩ := kLCe_elem (HO.out.1.1.holds.on hbw.out) (fun y hy => kCe.holds_on (HO.out.elOf hy) hbw.out) (j := i) (by show i < Lu.length; omega)
                obtain ⟨b', off', y3, m3, d3, y4, m4, d4, y5, m5, d5, e8, -, gc0, gc1, gc2, gc3, gc4, gc5, -⟩ := kLCe_elem (HO.out.1.1.holds.on hbw.out) (fun y hy => kCe.holds_on (HO.out.elOf hy) hbw.out) (j := j) (by show j < Lu.length; omega)
                cases e8
                have hpi : kCe.strip (nth Lu i) = nth (Lu.map kCe.strip) i := (nth_map _ (by omega)).symm
                have hpj : kCe.strip (nth Lu j) = nth (Lu.map kCe.strip) j := (nth_map _ (by omega)).symm
                have hncu : nu ≤ cu := by obtain ⟨x', n', cap', hv, hn', hc', -⟩ := HO.out.1.1.holds.shapeN; cases hv; exact hc'
                obtain ⟨ui, hui⟩ : ∃ u, (nth (Lu.map kCe.strip) i).2 = u := ⟨_, rfl⟩
                obtain ⟨uj, huj⟩ : ∃ u, (nth (Lu.map kCe.strip) j).2 = u := ⟨_, rfl⟩
                replace hc5 : wr.cell? ⟨b, off + i * 6 + 5, none⟩ = some (.int .i64 ui) := by rw [← hui, ← hpi]; exact hc5
                replace gc5 : wr.cell? ⟨b, off + j * 6 + 5, none⟩ = some (.int .i64 uj) := by rw [← huj, ← hpj]; exact gc5
                have H5 := Lib.hid hc5; have G5 := Lib.hid gc5; have K1 := Lib.hid k1; have HUI := Lib.hid hui; have HUJ := Lib.hid huj
                clear hc0 hc1' hc2' hc3 hc4 hc5 gc0 gc1 gc2 gc3 gc4 gc5 hpi hpj hnL hui huj
                go_wp2_with fail
                clear k1
                refine rsc hlt (by omega) (by omega) (by omega) (by omega) K1 H5 G5 ?_
                intro u53 u54 u55 u56 u57 u58 u59 u60 u61 u62 u63 u64 wx hbx
                have hbz := Lib.hid (hbw.out.trans (hbx.mono hbw.out.size)); clear hbx
                by_cases h0 : ui < uj
                · have t0 : decide (ui < uj) = true := decide_eq_true h0
                  have HJ : Hid (i = leastE (Lu.map kCe.strip) (i + 1)) := Lib.hid (by unfold leastE; rw [← hj.out, HUI.out, HUJ.out, if_pos h0])
                  go_wp2_with fail
                  go_roundw
                  case rel => exact ⟨i + 1, by omega, by omega, by go_num, i, rfl, HJ, by omega, hbz⟩
                  case measure => simp [intOf]; omega
                · have t0 : decide (ui < uj) = false := decide_eq_false h0
                  have HJ : Hid (j = leastE (Lu.map kCe.strip) (i + 1)) := Lib.hid (by
                    conv => rhs; unfold leastE
                    rw [← hj.out, HUI.out, HUJ.out, if_neg h0])
                  go_wp2_with fail
                  go_roundw
                  case rel => exact ⟨i + 1, by omega, by omega, by go_num, j, rfl, HJ, by omega, hbz⟩
                  case measure => simp [intOf]; omega
              · obtain rfl : i = nu := by omega
                have HROOM0 : Hid (roomE ce (rmE l d.1) = (Lu.eraseIdx j).map kCe.strip) := Lib.hid (by
                  rw [← HEX.out]
                  unfold roomE
                  rw [List.length_map, ← HNL.out, ← hj.out, if_pos hfull, erase_parts, erase_parts, List.map_append, List.map_take, List.map_drop])
                have hbz9 := Lib.hid hbw.out.size
                replace HX0 := Lib.hid (HX0.out.on hbw.out); replace HX1 := Lib.hid (HX1.out.on hbw.out); replace HX2 := Lib.hid (HX2.out.on hbw.out); replace HXD := Lib.hid (HXD.out.on hbw.out); replace HO := Lib.hid (HO.out.upto hbw.out); replace HB := Lib.hid (HB.out.trans (hbw.out.mono HB.out.size))
                have hjL : j < Lu.length := by rw [← HNL.out]; exact hji
                have HJL := Lib.hid hjL
                clear hlt hbw hj hjL
                go_wp2_with fail
                refine (l12Without xu i cu Lu j _ HO.out.1.1.holds HJL.out HLU.out).mono ?_
                rintro e w4 ⟨xv, nv, cv, rfl, hov, hb4⟩
                have HG3 := Lib.hid (Nat.le_trans HG2.out hbz9.out)
                have hOn : kLCe.Own (w.heap.size + 3) w4.heap.size w4 ⟨xv, nv, cv, Lu.eraseIdx j⟩ := Kd.sub noRow_kCe HO.out (List.eraseIdx_sublist _ _) (Sl.grown_of_below hb4 none) (fun g e => by cases e) (hov.mono HG3.out)
                have hX4 := HXD.out.on hb4
                have s0 := hX4.cell 1; have s1 := hX4.frozen 1
                have HROOM : Hid ((Lu.eraseIdx j).map kCe.strip = roomE ce (rmE l d.1)) := Lib.hid HROOM0.out.symm
                have HLR : Hid ((Lu.eraseIdx j).length ≤ 1100000) := Lib.hid (by rw [List.length_eraseIdx]; have := HLU.out; split <;> omega)
                have HXD' := Lib.hid (hX4.set 1 (.slice xv nv cv))
                have HO' := Lib.hid (show kLCe.Own (w.heap.size + 3) (w4.setCell ⟨w1.heap.size, 1, none⟩ (.slice xv nv cv)).heap.size (w4.setCell ⟨w1.heap.size, 1, none⟩ (.slice xv nv cv)) ⟨xv, nv, cv, Lu.eraseIdx j⟩ by rw [World.size_setCell]; exact own_setT noRow_Cs hOn hX4)
                have HG2' : Hid (w.heap.size + 3 ≤ (w4.setCell ⟨w1.heap.size, 1, none⟩ (.slice xv nv cv)).heap.size) := Lib.hid (by rw [World.size_setCell]; exact Nat.le_trans HG3.out hb4.size)
                replace HX1 := Lib.hid ((HX1.out.on hb4).other (a := ⟨w1.heap.size, 1, none⟩) (by show w1.heap.size ≠ w.heap.size + 1; have := HG1.out; omega) (.slice xv nv cv)); replace HX2 := Lib.hid ((HX2.out.on hb4).other (a := ⟨w1.heap.size, 1, none⟩) (by show w1.heap.size ≠ w.heap.size + 1 + 1; have := HG1.out; omega) (.slice xv nv cv))
                replace HB := Lib.hid ((HB.out.trans (hb4.mono HB.out.size)).setCell (p := ⟨w1.heap.size, 1, none⟩) (by show w.heap.size ≤ w1.heap.size; have := HG1.out; omega) (.slice xv nv cv))
                clear HO HXD HG2 HG3 hov hb4 hOn hX4 HROOM0
                have HG2 := HG2'
                clear HG2'
                have e0 : (w4.setCell ⟨w1.heap.size, 1, none⟩ (.slice xv nv cv)).cell? ⟨w.heap.size + 1, 0, none⟩ = some (.slice ya ma da) := HX1.out.cell 0
                have e1 : (w4.setCell ⟨w1.heap.size, 1, none⟩ (.slice xv nv cv)).cell? ⟨w.heap.size + 1, 1, none⟩ = some (.slice yb mb db) := HX1.out.cell 1
                have e2 : (w4.setCell ⟨w1.heap.size, 1, none⟩ (.slice xv nv cv)).cell? ⟨w.heap.size + 1, 2, none⟩ = some (.slice yc mc dc_) := HX1.out.cell 2
                have e3 : (w4.setCell ⟨w1.heap.size, 1, none⟩ (.slice xv nv cv)).cell? ⟨w.heap.size + 1, 3, none⟩ = some (.int .i64 d.2.2.2.1) := HX1.out.cell 3
                have e4 : (w4.setCell ⟨w1.heap.size, 1, none⟩ (.slice xv nv cv)).cell? ⟨w.heap.size + 1, 4, none⟩ = some (.int .i64 d.2.2.2.2) := HX1.out.cell 4
                go_wp2_with fail
                refine (sCpyZ (HG.out.on HB.out) (Nat.le_trans HDB.out (by decide))).mono ?_
                rintro e w5 ⟨U, rfl, hi5, hb5⟩
                obtain ⟨m5, za, na, ea, zb, nb, eb, zc, nc, ec, rfl, hs5, hd5, ho5⟩ := kDz_split hi5
                have hal5 := (Below.refl w5.heap.size w5).alloc (Nat.le_refl _) (.cells #[.slice za na ea, .slice zb nb eb, .slice zc nc ec, .int .i64 d.2.2.2.1, .int .i64 d.2.2.2.2] 31)
                have hbl := hal5.alloc hal5.size (.cells #[.slice za na ea, .slice zb nb eb, .slice zc nc ec, .int .i64 d.2.2.2.1, .int .i64 d.2.2.2.2, .int .i64 now] 64)
                have HOA := Lib.hid (show OwnK 64 kCe.cells 6 (w.heap.size + 3) ((w5.alloc (.cells #[.slice za na ea, .slice zb nb eb, .slice zc nc ec, .int .i64 d.2.2.2.1, .int .i64 d.2.2.2.2] 31)).alloc (.cells #[.slice za na ea, .slice zb nb eb, .slice zc nc ec, .int .i64 d.2.2.2.1, .int .i64 d.2.2.2.2, .int .i64 now] 64)) (.slice xv nv cv) (Lu.eraseIdx j) from ((HO'.out.on hb5).on hbl).1.1)
                have HSO := Lib.hid (one_ce (W := (w5.alloc (.cells #[.slice za na ea, .slice zb nb eb, .slice zc nc ec, .int .i64 d.2.2.2.1, .int .i64 d.2.2.2.2] 31))) (u := now) (g := w5.heap.size + 1) hd5 (by simp))
                have HBC := Lib.hid (HB.out.trans ((hb5.trans (hbl.mono hb5.size)).mono HB.out.size))
                have HXL := Lib.hid ((HXD'.out.on hb5).on hbl); have HX2L := Lib.hid ((HX2.out.on hb5).on hbl)
                have HB5 := Lib.hid hb5; have HI5 := Lib.hid ho5; have HBL := Lib.hid hbl
                have HB3 := Lib.hid (show w.heap.size + 3 ≤ ((w5.alloc (.cells #[.slice za na ea, .slice zb nb eb, .slice zc nc ec, .int .i64 d.2.2.2.1, .int .i64 d.2.2.2.2] 31)).alloc (.cells #[.slice za na ea, .slice zb nb eb, .slice zc nc ec, .int .i64 d.2.2.2.1, .int .i64 d.2.2.2.2, .int .i64 now] 64)).heap.size from Nat.le_trans (Nat.le_trans HG2.out hb5.size) hbl.size)
                have HLM := Lib.hid (show ((Lu.eraseIdx j).length + 1) * 96 ≤ 140737488355328 by have := HLR.out; omega)
                have HLX := Lib.hid (show (Lu.eraseIdx j).length + 1 ≤ maxLen by have := HLR.out; unfold maxLen; omega)
                have HS5 := Lib.hid hs5
                have g1 : (w5.alloc (.cells #[.slice za na ea, .slice zb nb eb, .slice zc nc ec, .int .i64 d.2.2.2.1, .int .i64 d.2.2.2.2] 31)).cell? ⟨w1.heap.size, 1, none⟩ = some (.slice xv nv cv) := ((HXD'.out.on hb5).on hal5).cell 1
                clear hi5 ho5 hs5 hd5 hb5 hal5 hbl e0 e1 e2 e3 e4
                go_wp2_with (at_builtin; refine wpList_appK kindCe (B := w.heap.size + 3) (l := (Lu.eraseIdx j)) (m := [((m5, now) : Cem)]) rfl _ _ rfl Tryz.underlying24 rfl rfl HOA.out HSO.out HLM.out HLX.out HB3.out ?_)
                intro v6 w6 ho6 hg6
                obtain ⟨x6, n6, c6, rfl, -, -, ho6⟩ := ho6.shapeN
                have hlt6 : ∀ g, (Value.slice xv nv cv).ownBlock = some g → w.heap.size + 3 ≤ g := fun g hg => (HOA.out.lt g hg).1
                have hX6 := HXL.out.grown hg6 (row_ne_blk HOA.out HXL.out (by decide))
                have z0 := hX6.cell 1; have z1 := hX6.frozen 1
                have HX6 := Lib.hid hX6; have HX26 := Lib.hid (HX2L.out.grown hg6 (fun e => by have := hlt6 _ e.symm; omega))
                have HO6 := Lib.hid (ce_grow HO'.out HB5.out HI5.out HBL.out ho6 hg6 HG2.out)
                have HB6 := Lib.hid (HBC.out.grown hg6 HBC.out.size (fun g hg => by have := hlt6 g hg; omega))
                have HRS : Hid (((Lu.eraseIdx j) ++ [((m5, now) : Cem)]).map kCe.strip = roomE ce (rmE l d.1) ++ [(d, now)]) := Lib.hid (by rw [List.map_append, HROOM.out]; show _ ++ [(kDz.strip m5, now)] = _; rw [HS5.out])
                clear ho6 hg6 hX6 hlt6 g1
                have HXD7 := Lib.hid (HX6.out.set 1 (.slice x6 n6 c6))
                have HX27 := Lib.hid (HX26.out.other (a := ⟨w1.heap.size, 1, none⟩) (by show w1.heap.size ≠ w.heap.size + 1 + 1; have := HG1.out; omega) (.slice x6 n6 c6))
                have HO7 : Hid (kLCe.Own (w.heap.size + 3) (w6.setCell ⟨w1.heap.size, 1, none⟩ (.slice x6 n6 c6)).heap.size (w6.setCell ⟨w1.heap.size, 1, none⟩ (.slice x6 n6 c6)) ⟨x6, n6, c6, (Lu.eraseIdx j) ++ [((m5, now) : Cem)]⟩) := Lib.hid (by rw [World.size_setCell]; exact own_setT noRow_Cs HO6.out HX6.out)
                have HB7 := Lib.hid (HB6.out.setCell (p := ⟨w1.heap.size, 1, none⟩) (by show w.heap.size ≤ w1.heap.size; have := HG1.out; omega) (.slice x6 n6 c6))
                have p0 : (w6.setCell ⟨w1.heap.size, 1, none⟩ (.slice x6 n6 c6)).cell? ⟨w1.heap.size, 0, none⟩ = some (.int .i64 ce) := HXD7.out.cell 0
                have p1 : (w6.setCell ⟨w1.heap.size, 1, none⟩ (.slice x6 n6 c6)).cell? ⟨w1.heap.size, 1, none⟩ = some (.slice x6 n6 c6) := HXD7.out.cell 1
                have r0 := HX27.out.frozen 0; have r1 := HX27.out.frozen 1; have r2 := HX27.out.cell 0; have r3 := HX27.out.cell 1
                have Z := Lib.hid ((HX27.out.set 0 (.int .i64 ce)).set 1 (.slice x6 n6 c6))
                have ZO := Lib.hid (own_setS (i := 1) (u := .slice x6 n6 c6) (own_setS (i := 0) (u := .int .i64 ce) HO7.out (g := w.heap.size + 1 + 1) (by omega)) (g := w.heap.size + 1 + 1) (by omega))
                have ZB := Lib.hid ((HB7.out.setCell (p := ⟨w.heap.size + 1 + 1, 0, none⟩) (by show w.heap.size ≤ w.heap.size + 1 + 1; omega) (.int .i64 ce)).setCell (p := ⟨w.heap.size + 1 + 1, 1, none⟩) (by show w.heap.size ≤ w.heap.size + 1 + 1; omega) (.slice x6 n6 c6))
                go_wp2_with fail
                refine bodyPost_ret (Ret.results_c rfl _ _ (w.heap.size + 1 + 1) [.int .i64 ce, .slice x6 n6 c6] rfl aggCn Z.out.cells) rfl ?_
                rw [HRES.out]
                exact ⟨_, rfl, cn_in ZO.out (by omega) HRS.out ZB.out.size, ZB.out⟩
          · have HROOM : Hid (Lu.map kCe.strip = roomE ce (rmE l d.1)) := Lib.hid (by rw [← HEX.out]; unfold roomE; rw [if_neg (by rw [List.length_map, ← HNL.out]; exact hfull)])
            have HLR := HLU
            have e0 : wa.cell? ⟨w.heap.size + 1, 0, none⟩ = some (.slice ya ma da) := HX1.out.cell 0
            have e1 : wa.cell? ⟨w.heap.size + 1, 1, none⟩ = some (.slice yb mb db) := HX1.out.cell 1
            have e2 : wa.cell? ⟨w.heap.size + 1, 2, none⟩ = some (.slice yc mc dc_) := HX1.out.cell 2
            have e3 : wa.cell? ⟨w.heap.size + 1, 3, none⟩ = some (.int .i64 d.2.2.2.1) := HX1.out.cell 3
            have e4 : wa.cell? ⟨w.heap.size + 1, 4, none⟩ = some (.int .i64 d.2.2.2.2) := HX1.out.cell 4
            go_wp2_with fail
            refine (sCpyZ (HG.out.on HB.out) (Nat.le_trans HDB.out (by decide))).mono ?_
            rintro e w5 ⟨U, rfl, hi5, hb5⟩
            obtain ⟨m5, za, na, ea, zb, nb, eb, zc, nc, ec, rfl, hs5, hd5, ho5⟩ := kDz_split hi5
            have hal5 := (Below.refl w5.heap.size w5).alloc (Nat.le_refl _) (.cells #[.slice za na ea, .slice zb nb eb, .slice zc nc ec, .int .i64 d.2.2.2.1, .int .i64 d.2.2.2.2] 31)
            have hbl := hal5.alloc hal5.size (.cells #[.slice za na ea, .slice zb nb eb, .slice zc nc ec, .int .i64 d.2.2.2.1, .int .i64 d.2.2.2.2, .int .i64 now] 64)
            have HOA := Lib.hid (show OwnK 64 kCe.cells 6 (w.heap.size + 3) ((w5.alloc (.cells #[.slice za na ea, .slice zb nb eb, .slice zc nc ec, .int .i64 d.2.2.2.1, .int .i64 d.2.2.2.2] 31)).alloc (.cells #[.slice za na ea, .slice zb nb eb, .slice zc nc ec, .int .i64 d.2.2.2.1, .int .i64 d.2.2.2.2, .int .i64 now] 64)) (.slice xu nu cu) Lu from ((HO.out.on hb5).on hbl).1.1)
            have HSO := Lib.hid (one_ce (W := (w5.alloc (.cells #[.slice za na ea, .slice zb nb eb, .slice zc nc ec, .int .i64 d.2.2.2.1, .int .i64 d.2.2.2.2] 31))) (u := now) (g := w5.heap.size + 1) hd5 (by simp))
            have HBC := Lib.hid (HB.out.trans ((hb5.trans (hbl.mono hb5.size)).mono HB.out.size))
            have HXL := Lib.hid ((HXD.out.on hb5).on hbl); have HX2L := Lib.hid ((HX2.out.on hb5).on hbl)
            have HB5 := Lib.hid hb5; have HI5 := Lib.hid ho5; have HBL := Lib.hid hbl
            have HB3 := Lib.hid (show w.heap.size + 3 ≤ ((w5.alloc (.cells #[.slice za na ea, .slice zb nb eb, .slice zc nc ec, .int .i64 d.2.2.2.1, .int .i64 d.2.2.2.2] 31)).alloc (.cells #[.slice za na ea, .slice zb nb eb, .slice zc nc ec, .int .i64 d.2.2.2.1, .int .i64 d.2.2.2.2, .int .i64 now] 64)).heap.size from Nat.le_trans (Nat.le_trans HG2.out hb5.size) hbl.size)
            have HLM := Lib.hid (show (Lu.length + 1) * 96 ≤ 140737488355328 by have := HLR.out; omega)
            have HLX := Lib.hid (show Lu.length + 1 ≤ maxLen by have := HLR.out; unfold maxLen; omega)
            have HS5 := Lib.hid hs5
            have g1 : (w5.alloc (.cells #[.slice za na ea, .slice zb nb eb, .slice zc nc ec, .int .i64 d.2.2.2.1, .int .i64 d.2.2.2.2] 31)).cell? ⟨w1.heap.size, 1, none⟩ = some (.slice xu nu cu) := ((HXD.out.on hb5).on hal5).cell 1
            clear hi5 ho5 hs5 hd5 hb5 hal5 hbl e0 e1 e2 e3 e4
            go_wp2_with (at_builtin; refine wpList_appK kindCe (B := w.heap.size + 3) (l := Lu) (m := [((m5, now) : Cem)]) rfl _ _ rfl Tryz.underlying24 rfl rfl HOA.out HSO.out HLM.out HLX.out HB3.out ?_)
            intro v6 w6 ho6 hg6
            obtain ⟨x6, n6, c6, rfl, -, -, ho6⟩ := ho6.shapeN
            have hlt6 : ∀ g, (Value.slice xu nu cu).ownBlock = some g → w.heap.size + 3 ≤ g := fun g hg => (HOA.out.lt g hg).1
            have hX6 := HXL.out.grown hg6 (row_ne_blk HOA.out HXL.out (by decide))
            have z0 := hX6.cell 1; have z1 := hX6.frozen 1
            have HX6 := Lib.hid hX6; have HX26 := Lib.hid (HX2L.out.grown hg6 (fun e => by have := hlt6 _ e.symm; omega))
            have HO6 := Lib.hid (ce_grow HO.out HB5.out HI5.out HBL.out ho6 hg6 HG2.out)
            have HB6 := Lib.hid (HBC.out.grown hg6 HBC.out.size (fun g hg => by have := hlt6 g hg; omega))
            have HRS : Hid ((Lu ++ [((m5, now) : Cem)]).map kCe.strip = roomE ce (rmE l d.1) ++ [(d, now)]) := Lib.hid (by rw [List.map_append, HROOM.out]; show _ ++ [(kDz.strip m5, now)] = _; rw [HS5.out])
            clear ho6 hg6 hX6 hlt6 g1
            have HXD7 := Lib.hid (HX6.out.set 1 (.slice x6 n6 c6))
            have HX27 := Lib.hid (HX26.out.other (a := ⟨w1.heap.size, 1, none⟩) (by show w1.heap.size ≠ w.heap.size + 1 + 1; have := HG1.out; omega) (.slice x6 n6 c6))
            have HO7 : Hid (kLCe.Own (w.heap.size + 3) (w6.setCell ⟨w1.heap.size, 1, none⟩ (.slice x6 n6 c6)).heap.size (w6.setCell ⟨w1.heap.size, 1, none⟩ (.slice x6 n6 c6)) ⟨x6, n6, c6, Lu ++ [((m5, now) : Cem)]⟩) := Lib.hid (by rw [World.size_setCell]; exact own_setT noRow_Cs HO6.out HX6.out)
            have HB7 := Lib.hid (HB6.out.setCell (p := ⟨w1.heap.size, 1, none⟩) (by show w.heap.size ≤ w1.heap.size; have := HG1.out; omega) (.slice x6 n6 c6))
            have p0 : (w6.setCell ⟨w1.heap.size, 1, none⟩ (.slice x6 n6 c6)).cell? ⟨w1.heap.size, 0, none⟩ = some (.int .i64 ce) := HXD7.out.cell 0
            have p1 : (w6.setCell ⟨w1.heap.size, 1, none⟩ (.slice x6 n6 c6)).cell? ⟨w1.heap.size, 1, none⟩ = some (.slice x6 n6 c6) := HXD7.out.cell 1
            have r0 := HX27.out.frozen 0; have r1 := HX27.out.frozen 1; have r2 := HX27.out.cell 0; have r3 := HX27.out.cell 1
            have Z := Lib.hid ((HX27.out.set 0 (.int .i64 ce)).set 1 (.slice x6 n6 c6))
            have ZO := Lib.hid (own_setS (i := 1) (u := .slice x6 n6 c6) (own_setS (i := 0) (u := .int .i64 ce) HO7.out (g := w.heap.size + 1 + 1) (by omega)) (g := w.heap.size + 1 + 1) (by omega))
            have ZB := Lib.hid ((HB7.out.setCell (p := ⟨w.heap.size + 1 + 1, 0, none⟩) (by show w.heap.size ≤ w.heap.size + 1 + 1; omega) (.int .i64 ce)).setCell (p := ⟨w.heap.size + 1 + 1, 1, none⟩) (by show w.heap.size ≤ w.heap.size + 1 + 1; omega) (.slice x6 n6 c6))
            go_wp2_with fail
            refine bodyPost_ret (Ret.results_c rfl _ _ (w.heap.size + 1 + 1) [.int .i64 ce, .slice x6 n6 c6] rfl aggCn Z.out.cells) rfl ?_
            rw [HRES.out]
            exact ⟨_, rfl, cn_in ZO.out (by omega) HRS.out ZB.out.size, ZB.out⟩
        · obtain rfl : z = (k : Int) := by rw [← HZ.out]; exact e1
          have hkL : k < Lu.length := by rw [List.length_map] at hk; exact hk
          have HKL := Lib.hid hkL; have HNL := Lib.hid hnl; have HK1 := Lib.hid k1
          have hyes2 : isE d.1 (nth (Lu.map kCe.strip) k) = true := hyes
          have HRM2 : Hid (rmE ((Lu.eraseIdx k).map kCe.strip) d.1 = rmE l d.1) := Lib.hid (by
            rw [← HRM.out, ← rmE_erase (k := k) hk hyes2, erase_parts, erase_parts, List.map_append, List.map_take, List.map_drop])
          clear e1 hk hyes hyes2 hnl hkL
          go_wp2_with fail
          refine (l12Without xu nu cu Lu k _ HO.out.1.1.holds HKL.out HLU.out).mono ?_
          rintro e w4 ⟨xv, nv, cv, rfl, hov, hb4⟩
          have hOn : kLCe.Own (w.heap.size + 3) w4.heap.size w4 ⟨xv, nv, cv, Lu.eraseIdx k⟩ := Kd.sub noRow_kCe HO.out (List.eraseIdx_sublist _ _) (Sl.grown_of_below hb4 none) (fun g e => by cases e) (hov.mono HG2.out)
          have hX4 := HXD.out.on hb4
          have s0 := hX4.cell 1; have s1 := hX4.frozen 1
          have HLR : Hid ((Lu.eraseIdx k).length + 1 = Lu.length) := Lib.hid (by rw [List.length_eraseIdx, if_pos HKL.out]; have := HKL.out; omega)
          have HPR : Hid (∀ x ∈ (Lu.eraseIdx k).map kCe.strip, wtCe x ≤ 1200000) := Lib.hid (fun x hx => by
            obtain ⟨y, hy, rfl⟩ := List.mem_map.1 hx
            exact HPU.out _ (List.mem_map.2 ⟨y, List.mem_of_mem_eraseIdx hy, rfl⟩))
          replace HXD := Lib.hid (hX4.set 1 (.slice xv nv cv))
          replace HO := Lib.hid (show kLCe.Own (w.heap.size + 3) (w4.setCell ⟨w1.heap.size, 1, none⟩ (.slice xv nv cv)).heap.size (w4.setCell ⟨w1.heap.size, 1, none⟩ (.slice xv nv cv)) ⟨xv, nv, cv, Lu.eraseIdx k⟩ by rw [World.size_setCell]; exact own_setT noRow_Cs hOn hX4)
          replace HG2 := Lib.hid (show w.heap.size + 3 ≤ (w4.setCell ⟨w1.heap.size, 1, none⟩ (.slice xv nv cv)).heap.size by rw [World.size_setCell]; exact Nat.le_trans HG2.out hb4.size)
          replace HX0 := Lib.hid ((HX0.out.on hb4).other (a := ⟨w1.heap.size, 1, none⟩) (by show w1.heap.size ≠ w.heap.size; have := HG1.out; omega) (.slice xv nv cv))
          replace HX1 := Lib.hid ((HX1.out.on hb4).other (a := ⟨w1.heap.size, 1, none⟩) (by show w1.heap.size ≠ w.heap.size + 1; have := HG1.out; omega) (.slice xv nv cv)); replace HX2 := Lib.hid ((HX2.out.on hb4).other (a := ⟨w1.heap.size, 1, none⟩) (by show w1.heap.size ≠ w.heap.size + 1 + 1; have := HG1.out; omega) (.slice xv nv cv))
          replace HB := Lib.hid ((HB.out.trans (hb4.mono HB.out.size)).setCell (p := ⟨w1.heap.size, 1, none⟩) (by show w.heap.size ≤ w1.heap.size; have := HG1.out; omega) (.slice xv nv cv))
          obtain ⟨z2, hz2⟩ : ∃ z, ixL (isE d.1) ((Lu.eraseIdx k).map kCe.strip) = z := ⟨_, rfl⟩
          have HZ2 := Lib.hid hz2
          have p1 : (w4.setCell ⟨w1.heap.size, 1, none⟩ (.slice xv nv cv)).cell? ⟨w1.heap.size, 1, none⟩ = some (.slice xv nv cv) := HXD.out.cell 1
          have p2 : (w4.setCell ⟨w1.heap.size, 1, none⟩ (.slice xv nv cv)).cell? ⟨w.heap.size + 1, 0, none⟩ = some (.slice ya ma da) := HX1.out.cell 0
          clear hov hb4 hOn hX4 hz2 k1
          go_wp2_with fail
          refine (sFindE _ _ ((Lu.eraseIdx k).map kCe.strip) d.1 _ z2 HZ2.out ⟨⟨xv, nv, cv, Lu.eraseIdx k⟩, rfl, rfl, HO.out.holds⟩ (HGN.out.on HB.out) (by rw [List.length_map]; have := HLU.out; have := HLR.out; omega) HPR.out HNB.out).mono ?_
          rintro e w7 ⟨rfl, hb7⟩
          replace HX0 := Lib.hid (HX0.out.on hb7); replace HX1 := Lib.hid (HX1.out.on hb7); replace HX2 := Lib.hid (HX2.out.on hb7); replace HXD := Lib.hid (HXD.out.on hb7); replace HO := Lib.hid (HO.out.upto hb7); replace HB := Lib.hid (HB.out.trans (hb7.mono HB.out.size)); replace HG2 := Lib.hid (Nat.le_trans HG2.out hb7.size)
          clear hb7 s0 s1 p1 p2
          go_wp2_with fail
          go_roundw
          case rel => exact ⟨z2, xv, nv, cv, Lu.eraseIdx k, rfl, HZ2, HRM2, Lib.hid (by have := HLU.out; have := HLR.out; omega), HPR, HO, HXD, HX1, HX2, HX0, HB, HG2⟩
          case measure =>
            show lenAt _ _ < lenAt _ _
            rw [lenAt_eq (HXD.out.cell 1), lenAt_eq HK1.out, show nv = (Lu.eraseIdx k).length from HO.out.1.1.holds.lenEq, HNL.out]
            have := HLR.out
            omega
end Go.Proofs.YtfglcmanmfenpaaGreat.Row
