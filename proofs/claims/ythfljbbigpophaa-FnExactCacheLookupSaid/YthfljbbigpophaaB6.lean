/- Contracts and mathematics, joined: CacheR2, CacheR3. No conditions but those that each states. -/
import Derived.Test.YthfljbbigpophaaB5
import Derived.Test.YthfljbbigpophaaB4
/- Regions of the exact law on CacheLookup: arguments copied, the call, the result laid in a variable, whatever order is drawn. No conditions. -/
namespace Go.Proofs.Ythfljbbigpophaa.Row
open Go.ChangeShapes Go.WideShapes Go.ChangeAt Go.RowKit Go.Instr
set_option linter.unusedVariables false
set_option maxRecDepth 100000
set_option maxRecDepth 100000 in
set_option maxHeartbeats 4000000 in
theorem specR20 {Q : Exit → Act → World → Prop} {v0 v1 v5 v6 v7 v8 v9 v10 v11 v12 v13 v14 v15 v16 v17 v18 v19 v20 v21 v22 v23 v24 v25 v26 v27 v28 v29 v30 v31 v32 v33 v34 v35 v36 v37 v38 v39 v40 v41 v42 v43 v44 v45 v46 v47 v48 v49 v50 v51 v52 v53 v54 v55 v56 v57 v58 v59 v60 v61 v62 v63 v64 v65 v66 v67 v68 v69 v70 v71 v72 v73 v74 v75 v76 v77 v78 v79 v80 v81 v82 v83 v84 v85 v86 v87 v88 v89 v90 v91 v92 v93 v94 v95 v96 v97 v98 v99 v100 v101 v102 v103 v104 v105 v106 v107 v108 v109 v110 v111 v112 v113 v114 v115 v116 v117 v118 v119 v120 v121 v122 v123 : Value} {w : World} {p q nl cl nn cn : Nat} {xl xn : Option Addr} {l0 : Cnt} {l1 : List ByteArray} {a2 : Int} (H0 : Hid (kCn.At w (.agg #[.int .i64 l0.1, .slice xl nl cl]) l0)) (H1 : Hid (kN.At w (.agg #[.slice xn nn cn]) l1)) (Z0 : wtCn l0 ≤ 1048576) (Z1 : bulk l1 ≤ 1048576) (KC0 : Hid (w.cell? ⟨p, 0, none⟩ = some (.int .i64 l0.1))) (KC1 : Hid (w.cell? ⟨p, 1, none⟩ = some (.slice xl nl cl))) (KN0 : Hid (w.cell? ⟨q, 0, none⟩ = some (.slice xn nn cn)))
  (hQ : ∀ (u29 u30 u31 u32 u33 u34 u35 u36 u37 : Value) (gD ma da mb db mc dc_ : Nat) (ya yb yc : Option Addr)  (wx : World), w.heap.size ≤ gD → Ret.Blk wx gD #[.slice none 0 0, .slice none 0 0, .slice none 0 0, .int .i64 0, .int .i64 0] 46 → kDz.In w.heap.size wx.heap.size wx (.agg #[.slice ya ma da, .slice yb mb db, .slice yc mc dc_, .int .i64 (lookC l0 l1 a2).2.2.2.1, .int .i64 (lookC l0 l1 a2).2.2.2.2]) (lookC l0 l1 a2) → Below w.heap.size w wx → Q .normal ⟨#[v0, v1, .int .i64 a2, .pointer (some ⟨p, 0, none⟩), .pointer (some ⟨q, 0, none⟩), v5, v6, v7, .pointer (some ⟨gD, 0, none⟩), .bool (lookOk l0 l1 a2), v10, v11, v12, v13, v14, v15, v16, v17, v18, v19, v20, v21, v22, v23, v24, v25, v26, v27, v28, u29, u30, u31, u32, u33, u34, u35, u36, u37, v38, v39, v40, v41, v42, v43, v44, v45, v46, v47, v48, v49, v50, v51, v52, v53, v54, v55, v56, v57, v58, v59, v60, v61, v62, v63, v64, v65, v66, v67, v68, v69, v70, v71, v72, v73, v74, v75, v76, v77, v78, v79, v80, v81, v82, v83, v84, v85, v86, v87, v88, v89, v90, v91, v92, v93, v94, v95, v96, v97, v98, v99, v100, v101, v102, v103, v104, v105, v106, v107, v108, v109, v110, v111, v112, v113, v114, v115, v116, v117, v118, v119, v120, v121, v122, v123], []⟩ ((((((wx).setCell ⟨gD, 0, none⟩ (.slice ya ma da)).setCell ⟨gD, 1, none⟩ (.slice yb mb db)).setCell ⟨gD, 2, none⟩ (.slice yc mc dc_)).setCell ⟨gD, 3, none⟩ (.int .i64 (lookC l0 l1 a2).2.2.2.1)).setCell ⟨gD, 4, none⟩ (.int .i64 (lookC l0 l1 a2).2.2.2.2))) :
  (Code.region 8 #[⟨some 30, .load 31 (.tmp 3), 31, "exact.go:7038", #[], none⟩,
   ⟨some 31, .call ⟨.value (.func 18), #[.tmp 30], #[31]⟩, 24, "exact.go:7038", #[⟨0, .data⟩], none⟩,
   ⟨some 32, .load 38 (.tmp 4), 38, "exact.go:7038", #[], none⟩,
   ⟨some 33, .call ⟨.value (.func 28), #[.tmp 32], #[38]⟩, 44, "exact.go:7038", #[⟨2, .data⟩, ⟨1, .chain⟩], none⟩,
   ⟨some 34, .move (.tmp 2), 3, "exact.go:7038", #[], none⟩,
   ⟨some 35, .call ⟨.value (.func 27), #[.tmp 31, .tmp 33, .tmp 34], #[24, 44, 3]⟩, 52, "exact.go:7038", #[⟨1, .data⟩, ⟨3, .data⟩, ⟨4, .data⟩, ⟨3, .chain⟩], none⟩,
   ⟨some 29, .move (.tmp 35), 52, "exact.go:7038", #[⟨5, .data⟩], none⟩,
   ⟨some 36, .extract (.tmp 29) 0, 46, "exact.go:7038", #[⟨6, .data⟩], none⟩,
   ⟨some 37, .extract (.tmp 29) 1, 4, "exact.go:7038", #[⟨6, .data⟩, { on := 10, ground := Ground.gcOnly Departure.lateStores }], none⟩,
   ⟨some 8, .alloc 46, 0, "exact.go:7038", #[], none⟩,
   ⟨none, .store 46 (.tmp 8) (.tmp 36), 0, "exact.go:7038", #[⟨9, .data⟩, ⟨7, .data⟩, ⟨5, .chain⟩, ⟨0, .phase⟩, ⟨1, .phase⟩, ⟨2, .phase⟩, ⟨3, .phase⟩, ⟨4, .phase⟩, ⟨5, .phase⟩, ⟨6, .phase⟩, ⟨7, .phase⟩, { on := 8, ground := Ground.textOnly Departure.lateStores }, ⟨9, .phase⟩], none⟩,
   ⟨some 9, .assign (.tmp 37), 4, "exact.go:7038", #[⟨8, .data⟩, ⟨10, .chain⟩, ⟨0, .phase⟩, ⟨1, .phase⟩, ⟨2, .phase⟩, ⟨3, .phase⟩, ⟨4, .phase⟩, ⟨5, .phase⟩, ⟨6, .phase⟩, ⟨7, .phase⟩, ⟨8, .phase⟩, ⟨9, .phase⟩, ⟨10, .phase⟩], none⟩] true).wp Try.prog Q ⟨#[v0, v1, .int .i64 a2, .pointer (some ⟨p, 0, none⟩), .pointer (some ⟨q, 0, none⟩), v5, v6, v7, v8, v9, v10, v11, v12, v13, v14, v15, v16, v17, v18, v19, v20, v21, v22, v23, v24, v25, v26, v27, v28, v29, v30, v31, v32, v33, v34, v35, v36, v37, v38, v39, v40, v41, v42, v43, v44, v45, v46, v47, v48, v49, v50, v51, v52, v53, v54, v55, v56, v57, v58, v59, v60, v61, v62, v63, v64, v65, v66, v67, v68, v69, v70, v71, v72, v73, v74, v75, v76, v77, v78, v79, v80, v81, v82, v83, v84, v85, v86, v87, v88, v89, v90, v91, v92, v93, v94, v95, v96, v97, v98, v99, v100, v101, v102, v103, v104, v105, v106, v107, v108, v109, v110, v111, v112, v113, v114, v115, v116, v117, v118, v119, v120, v121, v122, v123], []⟩ w := by
 have HQ := Lib.hid hQ; clear hQ
 have hdr : Below w.heap.size w w.drew := (Below.refl _ _).drew
 have BB := Lib.hid hdr
 refine wp_region_noPanic ?_
 refine wp_region_held_drew (S := (fun w' => w'.cell? ⟨p, 0, none⟩ = some (.int .i64 l0.1) ∧ w'.cell? ⟨p, 1, none⟩ = some (.slice xl nl cl) ∧ w'.cell? ⟨q, 0, none⟩ = some (.slice xn nn cn))) (by kernel_rfl) ?_ (fun hHeld => ?_)
 ·
  exact ⟨kc KC0.out BB.out, kc KC1.out BB.out, kc KN0.out BB.out⟩
 clear hdr
 generalize w.drew = wd at *
 refine wpAnyH_take (i := 0) (oi := ⟨some 30, .load 31 (.tmp 3), 31, "exact.go:7038", #[], none⟩) (v := ?_) rfl (by kernel_rfl) (by kernel_rfl) (by kernel_rfl) (fun _ _ _ h => h) (Or.inl ⟨by rfl, ?_⟩) (by assumption) ?_
 rotate_left
 ·
  intro w' hSw; (try dsimp only at hSw); first | (go_simp; done) | (go_simp; with_reducible rfl)
 (try simp only [Act.put, Row.pB0, Row.pB1, Row.pB2])
 refine wpAnyH_take (i := 2) (oi := ⟨some 32, .load 38 (.tmp 4), 38, "exact.go:7038", #[], none⟩) (v := ?_) rfl (by kernel_rfl) (by kernel_rfl) (by kernel_rfl) (fun _ _ _ h => h) (Or.inl ⟨by rfl, ?_⟩) (by assumption) ?_
 rotate_left
 ·
  intro w' hSw; (try dsimp only at hSw); first | (go_simp; done) | (go_simp; with_reducible rfl)
 (try simp only [Act.put, Row.pB0, Row.pB1, Row.pB2])
 refine wpAnyH_take (i := 4) (oi := ⟨some 34, .move (.tmp 2), 3, "exact.go:7038", #[], none⟩) (v := ?_) rfl (by kernel_rfl) (by kernel_rfl) (by kernel_rfl) (fun _ _ _ h => h) (Or.inl ⟨by rfl, ?_⟩) (by assumption) ?_
 rotate_left
 ·
  intro w' hSw; (try dsimp only at hSw); first | (go_simp; done) | (go_simp; with_reducible rfl)
 (try simp only [Act.put, Row.pB0, Row.pB1, Row.pB2])
 refine wpAnyH_ready (rs := [1, 9]) (by kernel_rfl) (by simp) ?_
 refine AllReadyH.cons (o := ⟨some 31, .call ⟨.value (.func 18), #[.tmp 30], #[31]⟩, 24, "exact.go:7038", #[⟨0, .data⟩], none⟩) rfl (fun K hK => ?_) ?_
 ·
  go_simp
  refine (toContentStoreK _ l0 _ (H0.out.on BB.out) (Nat.le_trans (adCn_big Z0) (by decide))).mono ?_
  rintro e wn1 ⟨v, rfl, ho, hb⟩
  obtain ⟨xA, nA, cA, rfl, ho⟩ := kCn_shape ho
  have HA := Lib.hid ho.at; clear ho
  replace BB := Lib.hid (BB.out.trans (hb.mono BB.out.size))
  clear hb
  (try go_wp2_with fail)
  clear hHeld
  refine hK.out _ _ ?_ (fun hHeld => ?_)
  ·
   (try dsimp only); exact ⟨kc KC0.out BB.out, kc KC1.out BB.out, kc KN0.out BB.out⟩
  clear hK K
  (try simp only [Act.put, Row.pB0, Row.pB1, Row.pB2])
  refine wpAnyH_ready (rs := [3, 9]) (by kernel_rfl) (by simp) ?_
  refine AllReadyH.cons (o := ⟨some 33, .call ⟨.value (.func 28), #[.tmp 32], #[38]⟩, 44, "exact.go:7038", #[⟨2, .data⟩, ⟨1, .chain⟩], none⟩) rfl (fun K hK => ?_) ?_
  ·
   go_simp
   refine (toNK _ l1 _ (H1.out.on BB.out) (by have := Row.bulk_len l1; omega)).mono ?_
   rintro e wn2 ⟨v, rfl, ho, hb⟩
   obtain ⟨xB, nB, cB, rfl, ho⟩ := kN_shape ho
   have HBk := Lib.hid ho.at; clear ho
   replace HA := Lib.hid (HA.out.on hb)
   replace BB := Lib.hid (BB.out.trans (hb.mono BB.out.size))
   clear hb
   (try go_wp2_with fail)
   clear hHeld
   refine hK.out _ _ ?_ (fun hHeld => ?_)
   ·
    (try dsimp only); exact ⟨kc KC0.out BB.out, kc KC1.out BB.out, kc KN0.out BB.out⟩
   clear hK K
   (try simp only [Act.put, Row.pB0, Row.pB1, Row.pB2])
   refine wpAnyH_ready (rs := [5, 9]) (by kernel_rfl) (by simp) ?_
   refine AllReadyH.cons (o := ⟨some 35, .call ⟨.value (.func 27), #[.tmp 31, .tmp 33, .tmp 34], #[24, 44, 3]⟩, 52, "exact.go:7038", #[⟨1, .data⟩, ⟨3, .data⟩, ⟨4, .data⟩, ⟨3, .chain⟩], none⟩) rfl (fun K hK => ?_) ?_
   ·
    go_simp
    refine (specCacheLookup _ _ l0 l1 a2 _ _ _ rfl rfl HA.out HBk.out (show wtCn l0 ≤ 1100000 by omega) (show bulk l1 ≤ 1200000 by omega)).mono ?_
    rintro e wn3 ⟨v, rfl, ho, hb⟩
    obtain ⟨ya, ma, da, yb, mb, db, yc, mc, dc_, rfl, ho⟩ := kD_shape ho
    have HX := Lib.hid (show kDz.In w.heap.size wn3.heap.size wn3 (.agg #[.slice ya ma da, .slice yb mb db, .slice yc mc dc_, .int .i64 (lookC l0 l1 a2).2.2.2.1, .int .i64 (lookC l0 l1 a2).2.2.2.2]) (lookC l0 l1 a2) from Kd.In.mono ho BB.out.size (Nat.le_refl _)); clear ho
    replace HA := Lib.hid (HA.out.on hb)
    replace HBk := Lib.hid (HBk.out.on hb)
    replace BB := Lib.hid (BB.out.trans (hb.mono BB.out.size))
    clear hb
    (try go_wp2_with fail)
    clear hHeld
    refine hK.out _ _ ?_ (fun hHeld => ?_)
    ·
     (try dsimp only); exact ⟨kc KC0.out BB.out, kc KC1.out BB.out, kc KN0.out BB.out⟩
    clear hK K
    (try simp only [Act.put, Row.pB0, Row.pB1, Row.pB2])
    refine wpAnyH_take (i := 6) (oi := ⟨some 29, .move (.tmp 35), 52, "exact.go:7038", #[⟨5, .data⟩], none⟩) (v := ?_) rfl (by kernel_rfl) (by kernel_rfl) (by kernel_rfl) (fun _ _ _ h => h) (Or.inl ⟨by rfl, ?_⟩) (by assumption) ?_
    rotate_left
    ·
     intro w' hSw; (try dsimp only at hSw); first | (go_simp; done) | (go_simp; with_reducible rfl)
    (try simp only [Act.put, Row.pB0, Row.pB1, Row.pB2])
    refine wpAnyH_take (i := 7) (oi := ⟨some 36, .extract (.tmp 29) 0, 46, "exact.go:7038", #[⟨6, .data⟩], none⟩) (v := ?_) rfl (by kernel_rfl) (by kernel_rfl) (by kernel_rfl) (fun _ _ _ h => h) (Or.inl ⟨by rfl, ?_⟩) (by assumption) ?_
    rotate_left
    ·
     intro w' hSw; (try dsimp only at hSw); first | (go_simp; done) | (go_simp; with_reducible rfl)
    (try simp only [Act.put, Row.pB0, Row.pB1, Row.pB2])
    refine wpAnyH_take (i := 8) (oi := ⟨some 37, .extract (.tmp 29) 1, 4, "exact.go:7038", #[⟨6, .data⟩, { on := 10, ground := Ground.gcOnly Departure.lateStores }], none⟩) (v := ?_) rfl (by kernel_rfl) (by kernel_rfl) (by kernel_rfl) (fun _ _ _ h => h) (Or.inl ⟨by rfl, ?_⟩) (by assumption) ?_
    rotate_left
    ·
     intro w' hSw; (try dsimp only at hSw); first | (go_simp; done) | (go_simp; with_reducible rfl)
    (try simp only [Act.put, Row.pB0, Row.pB1, Row.pB2])
    refine wpAnyH_ready (rs := [9]) (by kernel_rfl) (by simp) ?_
    refine AllReadyH.cons (o := ⟨some 8, .alloc 46, 0, "exact.go:7038", #[], none⟩) rfl (fun K hK => ?_) AllReadyH.nil
    go_simp
    have hb : Below wn3.heap.size wn3 (wn3.alloc (.cells #[.slice none 0 0, .slice none 0 0, .slice none 0 0, .int .i64 0, .int .i64 0] 46)) := (Below.refl _ _).alloc (Nat.le_refl _) _
    obtain ⟨gD, hgD⟩ : ∃ g, g = wn3.heap.size := ⟨_, rfl⟩
    have XD := Lib.hid (show Ret.Blk (wn3.alloc (.cells #[.slice none 0 0, .slice none 0 0, .slice none 0 0, .int .i64 0, .int .i64 0] 46)) gD #[.slice none 0 0, .slice none 0 0, .slice none 0 0, .int .i64 0, .int .i64 0] 46 from by rw [hgD]; exact Ret.Blk.new wn3 _ _)
    have HDW := Lib.hid (show w.heap.size ≤ gD from by rw [hgD]; exact BB.out.size)
    (first | replace HX := Lib.hid (show kDz.In w.heap.size (wn3.alloc (.cells #[.slice none 0 0, .slice none 0 0, .slice none 0 0, .int .i64 0, .int .i64 0] 46)).heap.size (wn3.alloc (.cells #[.slice none 0 0, .slice none 0 0, .slice none 0 0, .int .i64 0, .int .i64 0] 46)) (.agg #[.slice ya ma da, .slice yb mb db, .slice yc mc dc_, .int .i64 (lookC l0 l1 a2).2.2.2.1, .int .i64 (lookC l0 l1 a2).2.2.2.2]) (lookC l0 l1 a2) from Kd.In.mono (Kd.In.on HX.out hb) (Nat.le_refl _) hb.size) | skip)
    rw [← hgD]
    clear hgD
    replace HA := Lib.hid (HA.out.on hb)
    replace HBk := Lib.hid (HBk.out.on hb)
    replace BB := Lib.hid (BB.out.trans (hb.mono BB.out.size))
    clear hb
    generalize wn3.alloc (.cells #[.slice none 0 0, .slice none 0 0, .slice none 0 0, .int .i64 0, .int .i64 0] 46) = wn4 at *
    clear hHeld
    refine hK.out _ _ ?_ (fun hHeld => ?_)
    ·
     (try dsimp only); exact ⟨kc KC0.out BB.out, kc KC1.out BB.out, kc KN0.out BB.out⟩
    clear hK K
    (try simp only [Act.put, Row.pB0, Row.pB1, Row.pB2])
    refine wpAnyH_ready (rs := [10]) (by kernel_rfl) (by simp) ?_
    refine AllReadyH.cons (o := ⟨none, .store 46 (.tmp 8) (.tmp 36), 0, "exact.go:7038", #[⟨9, .data⟩, ⟨7, .data⟩, ⟨5, .chain⟩, ⟨0, .phase⟩, ⟨1, .phase⟩, ⟨2, .phase⟩, ⟨3, .phase⟩, ⟨4, .phase⟩, ⟨5, .phase⟩, ⟨6, .phase⟩, ⟨7, .phase⟩, { on := 8, ground := Ground.textOnly Departure.lateStores }, ⟨9, .phase⟩], none⟩) rfl (fun K hK => ?_) AllReadyH.nil
    have r0 := XD.out.cell 0; have r1 := XD.out.cell 1; have r2 := XD.out.cell 2; have r3 := XD.out.cell 3; have r4 := XD.out.cell 4
    have t0 := XD.out.frozen 0; have t1 := XD.out.frozen 1; have t2 := XD.out.frozen 2; have t3 := XD.out.frozen 3; have t4 := XD.out.frozen 4
    go_simp
    clear hHeld
    refine hK.out _ _ ?_ (fun hHeld => ?_)
    ·
     (try dsimp only); exact ⟨cell_five12 (kc KC0.out BB.out) (by have h1 : p < w.heap.size := Ret.cell_lt KC0.out; have h2 := HDW.out; omega), cell_five12 (kc KC1.out BB.out) (by have h1 : p < w.heap.size := Ret.cell_lt KC1.out; have h2 := HDW.out; omega), cell_five12 (kc KN0.out BB.out) (by have h1 : q < w.heap.size := Ret.cell_lt KN0.out; have h2 := HDW.out; omega)⟩
    clear hK K
    (try simp only [Act.put, Row.pB0, Row.pB1, Row.pB2])
    refine wpAnyH_take (i := 11) (oi := ⟨some 9, .assign (.tmp 37), 4, "exact.go:7038", #[⟨8, .data⟩, ⟨10, .chain⟩, ⟨0, .phase⟩, ⟨1, .phase⟩, ⟨2, .phase⟩, ⟨3, .phase⟩, ⟨4, .phase⟩, ⟨5, .phase⟩, ⟨6, .phase⟩, ⟨7, .phase⟩, ⟨8, .phase⟩, ⟨9, .phase⟩, ⟨10, .phase⟩], none⟩) (v := ?_) rfl (by kernel_rfl) (by kernel_rfl) (by kernel_rfl) (fun _ _ _ h => h) (Or.inl ⟨by rfl, ?_⟩) (by assumption) ?_
    rotate_left
    ·
     intro w' hSw; (try dsimp only at hSw); first | (go_simp; done) | (go_simp; with_reducible rfl)
    (try simp only [Act.put, Row.pB0, Row.pB1, Row.pB2])
    refine wpAnyH_done (by kernel_rfl) ?_ _
    exact NoPanic.normal (HQ.out _ _ _ _ _ _ _ _ _ gD ma da mb db mc dc_ ya yb yc _ HDW.out XD.out HX.out BB.out)
   refine AllReadyH.cons (o := ⟨some 8, .alloc 46, 0, "exact.go:7038", #[], none⟩) rfl (fun K hK => ?_) AllReadyH.nil
   go_simp
   have hb : Below wn2.heap.size wn2 (wn2.alloc (.cells #[.slice none 0 0, .slice none 0 0, .slice none 0 0, .int .i64 0, .int .i64 0] 46)) := (Below.refl _ _).alloc (Nat.le_refl _) _
   obtain ⟨gD, hgD⟩ : ∃ g, g = wn2.heap.size := ⟨_, rfl⟩
   have XD := Lib.hid (show Ret.Blk (wn2.alloc (.cells #[.slice none 0 0, .slice none 0 0, .slice none 0 0, .int .i64 0, .int .i64 0] 46)) gD #[.slice none 0 0, .slice none 0 0, .slice none 0 0, .int .i64 0, .int .i64 0] 46 from by rw [hgD]; exact Ret.Blk.new wn2 _ _)
   have HDW := Lib.hid (show w.heap.size ≤ gD from by rw [hgD]; exact BB.out.size)
   (first | replace HX := Lib.hid (show kDz.In w.heap.size (wn2.alloc (.cells #[.slice none 0 0, .slice none 0 0, .slice none 0 0, .int .i64 0, .int .i64 0] 46)).heap.size (wn2.alloc (.cells #[.slice none 0 0, .slice none 0 0, .slice none 0 0, .int .i64 0, .int .i64 0] 46)) (.agg #[.slice ya ma da, .slice yb mb db, .slice yc mc dc_, .int .i64 (lookC l0 l1 a2).2.2.2.1, .int .i64 (lookC l0 l1 a2).2.2.2.2]) (lookC l0 l1 a2) from Kd.In.mono (Kd.In.on HX.out hb) (Nat.le_refl _) hb.size) | skip)
   rw [← hgD]
   clear hgD
   replace HA := Lib.hid (HA.out.on hb)
   replace HBk := Lib.hid (HBk.out.on hb)
   replace BB := Lib.hid (BB.out.trans (hb.mono BB.out.size))
   clear hb
   generalize wn2.alloc (.cells #[.slice none 0 0, .slice none 0 0, .slice none 0 0, .int .i64 0, .int .i64 0] 46) = wn6 at *
   clear hHeld
   refine hK.out _ _ ?_ (fun hHeld => ?_)
   ·
    (try dsimp only); exact ⟨kc KC0.out BB.out, kc KC1.out BB.out, kc KN0.out BB.out⟩
   clear hK K
   (try simp only [Act.put, Row.pB0, Row.pB1, Row.pB2])
   refine wpAnyH_ready (rs := [5]) (by kernel_rfl) (by simp) ?_
   refine AllReadyH.cons (o := ⟨some 35, .call ⟨.value (.func 27), #[.tmp 31, .tmp 33, .tmp 34], #[24, 44, 3]⟩, 52, "exact.go:7038", #[⟨1, .data⟩, ⟨3, .data⟩, ⟨4, .data⟩, ⟨3, .chain⟩], none⟩) rfl (fun K hK => ?_) AllReadyH.nil
   go_simp
   refine (specCacheLookup _ _ l0 l1 a2 _ _ _ rfl rfl HA.out HBk.out (show wtCn l0 ≤ 1100000 by omega) (show bulk l1 ≤ 1200000 by omega)).mono ?_
   rintro e wn7 ⟨v, rfl, ho, hb⟩
   obtain ⟨ya, ma, da, yb, mb, db, yc, mc, dc_, rfl, ho⟩ := kD_shape ho
   have HX := Lib.hid (show kDz.In w.heap.size wn7.heap.size wn7 (.agg #[.slice ya ma da, .slice yb mb db, .slice yc mc dc_, .int .i64 (lookC l0 l1 a2).2.2.2.1, .int .i64 (lookC l0 l1 a2).2.2.2.2]) (lookC l0 l1 a2) from Kd.In.mono ho BB.out.size (Nat.le_refl _)); clear ho
   replace HA := Lib.hid (HA.out.on hb)
   replace HBk := Lib.hid (HBk.out.on hb)
   replace XD := Lib.hid (XD.out.on hb)
   replace BB := Lib.hid (BB.out.trans (hb.mono BB.out.size))
   clear hb
   (try go_wp2_with fail)
   clear hHeld
   refine hK.out _ _ ?_ (fun hHeld => ?_)
   ·
    (try dsimp only); exact ⟨kc KC0.out BB.out, kc KC1.out BB.out, kc KN0.out BB.out⟩
   clear hK K
   (try simp only [Act.put, Row.pB0, Row.pB1, Row.pB2])
   refine wpAnyH_take (i := 6) (oi := ⟨some 29, .move (.tmp 35), 52, "exact.go:7038", #[⟨5, .data⟩], none⟩) (v := ?_) rfl (by kernel_rfl) (by kernel_rfl) (by kernel_rfl) (fun _ _ _ h => h) (Or.inl ⟨by rfl, ?_⟩) (by assumption) ?_
   rotate_left
   ·
    intro w' hSw; (try dsimp only at hSw); first | (go_simp; done) | (go_simp; with_reducible rfl)
   (try simp only [Act.put, Row.pB0, Row.pB1, Row.pB2])
   refine wpAnyH_take (i := 7) (oi := ⟨some 36, .extract (.tmp 29) 0, 46, "exact.go:7038", #[⟨6, .data⟩], none⟩) (v := ?_) rfl (by kernel_rfl) (by kernel_rfl) (by kernel_rfl) (fun _ _ _ h => h) (Or.inl ⟨by rfl, ?_⟩) (by assumption) ?_
   rotate_left
   ·
    intro w' hSw; (try dsimp only at hSw); first | (go_simp; done) | (go_simp; with_reducible rfl)
   (try simp only [Act.put, Row.pB0, Row.pB1, Row.pB2])
   refine wpAnyH_take (i := 8) (oi := ⟨some 37, .extract (.tmp 29) 1, 4, "exact.go:7038", #[⟨6, .data⟩, { on := 10, ground := Ground.gcOnly Departure.lateStores }], none⟩) (v := ?_) rfl (by kernel_rfl) (by kernel_rfl) (by kernel_rfl) (fun _ _ _ h => h) (Or.inl ⟨by rfl, ?_⟩) (by assumption) ?_
   rotate_left
   ·
    intro w' hSw; (try dsimp only at hSw); first | (go_simp; done) | (go_simp; with_reducible rfl)
   (try simp only [Act.put, Row.pB0, Row.pB1, Row.pB2])
   refine wpAnyH_ready (rs := [10]) (by kernel_rfl) (by simp) ?_
   refine AllReadyH.cons (o := ⟨none, .store 46 (.tmp 8) (.tmp 36), 0, "exact.go:7038", #[⟨9, .data⟩, ⟨7, .data⟩, ⟨5, .chain⟩, ⟨0, .phase⟩, ⟨1, .phase⟩, ⟨2, .phase⟩, ⟨3, .phase⟩, ⟨4, .phase⟩, ⟨5, .phase⟩, ⟨6, .phase⟩, ⟨7, .phase⟩, { on := 8, ground := Ground.textOnly Departure.lateStores }, ⟨9, .phase⟩], none⟩) rfl (fun K hK => ?_) AllReadyH.nil
   have r0 := XD.out.cell 0; have r1 := XD.out.cell 1; have r2 := XD.out.cell 2; have r3 := XD.out.cell 3; have r4 := XD.out.cell 4
   have t0 := XD.out.frozen 0; have t1 := XD.out.frozen 1; have t2 := XD.out.frozen 2; have t3 := XD.out.frozen 3; have t4 := XD.out.frozen 4
   go_simp
   clear hHeld
   refine hK.out _ _ ?_ (fun hHeld => ?_)
   ·
    (try dsimp only); exact ⟨cell_five12 (kc KC0.out BB.out) (by have h1 : p < w.heap.size := Ret.cell_lt KC0.out; have h2 := HDW.out; omega), cell_five12 (kc KC1.out BB.out) (by have h1 : p < w.heap.size := Ret.cell_lt KC1.out; have h2 := HDW.out; omega), cell_five12 (kc KN0.out BB.out) (by have h1 : q < w.heap.size := Ret.cell_lt KN0.out; have h2 := HDW.out; omega)⟩
   clear hK K
   (try simp only [Act.put, Row.pB0, Row.pB1, Row.pB2])
   refine wpAnyH_take (i := 11) (oi := ⟨some 9, .assign (.tmp 37), 4, "exact.go:7038", #[⟨8, .data⟩, ⟨10, .chain⟩, ⟨0, .phase⟩, ⟨1, .phase⟩, ⟨2, .phase⟩, ⟨3, .phase⟩, ⟨4, .phase⟩, ⟨5, .phase⟩, ⟨6, .phase⟩, ⟨7, .phase⟩, ⟨8, .phase⟩, ⟨9, .phase⟩, ⟨10, .phase⟩], none⟩) (v := ?_) rfl (by kernel_rfl) (by kernel_rfl) (by kernel_rfl) (fun _ _ _ h => h) (Or.inl ⟨by rfl, ?_⟩) (by assumption) ?_
   rotate_left
   ·
    intro w' hSw; (try dsimp only at hSw); first | (go_simp; done) | (go_simp; with_reducible rfl)
   (try simp only [Act.put, Row.pB0, Row.pB1, Row.pB2])
   refine wpAnyH_done (by kernel_rfl) ?_ _
   exact NoPanic.normal (HQ.out _ _ _ _ _ _ _ _ _ gD ma da mb db mc dc_ ya yb yc _ HDW.out XD.out HX.out BB.out)
  refine AllReadyH.cons (o := ⟨some 8, .alloc 46, 0, "exact.go:7038", #[], none⟩) rfl (fun K hK => ?_) AllReadyH.nil
  go_simp
  have hb : Below wn1.heap.size wn1 (wn1.alloc (.cells #[.slice none 0 0, .slice none 0 0, .slice none 0 0, .int .i64 0, .int .i64 0] 46)) := (Below.refl _ _).alloc (Nat.le_refl _) _
  obtain ⟨gD, hgD⟩ : ∃ g, g = wn1.heap.size := ⟨_, rfl⟩
  have XD := Lib.hid (show Ret.Blk (wn1.alloc (.cells #[.slice none 0 0, .slice none 0 0, .slice none 0 0, .int .i64 0, .int .i64 0] 46)) gD #[.slice none 0 0, .slice none 0 0, .slice none 0 0, .int .i64 0, .int .i64 0] 46 from by rw [hgD]; exact Ret.Blk.new wn1 _ _)
  have HDW := Lib.hid (show w.heap.size ≤ gD from by rw [hgD]; exact BB.out.size)
  (first | replace HX := Lib.hid (show kDz.In w.heap.size (wn1.alloc (.cells #[.slice none 0 0, .slice none 0 0, .slice none 0 0, .int .i64 0, .int .i64 0] 46)).heap.size (wn1.alloc (.cells #[.slice none 0 0, .slice none 0 0, .slice none 0 0, .int .i64 0, .int .i64 0] 46)) (.agg #[.slice ya ma da, .slice yb mb db, .slice yc mc dc_, .int .i64 (lookC l0 l1 a2).2.2.2.1, .int .i64 (lookC l0 l1 a2).2.2.2.2]) (lookC l0 l1 a2) from Kd.In.mono (Kd.In.on HX.out hb) (Nat.le_refl _) hb.size) | skip)
  rw [← hgD]
  clear hgD
  replace HA := Lib.hid (HA.out.on hb)
  replace BB := Lib.hid (BB.out.trans (hb.mono BB.out.size))
  clear hb
  generalize wn1.alloc (.cells #[.slice none 0 0, .slice none 0 0, .slice none 0 0, .int .i64 0, .int .i64 0] 46) = wn9 at *
  clear hHeld
  refine hK.out _ _ ?_ (fun hHeld => ?_)
  ·
   (try dsimp only); exact ⟨kc KC0.out BB.out, kc KC1.out BB.out, kc KN0.out BB.out⟩
  clear hK K
  (try simp only [Act.put, Row.pB0, Row.pB1, Row.pB2])
  refine wpAnyH_ready (rs := [3]) (by kernel_rfl) (by simp) ?_
  refine AllReadyH.cons (o := ⟨some 33, .call ⟨.value (.func 28), #[.tmp 32], #[38]⟩, 44, "exact.go:7038", #[⟨2, .data⟩, ⟨1, .chain⟩], none⟩) rfl (fun K hK => ?_) AllReadyH.nil
  go_simp
  refine (toNK _ l1 _ (H1.out.on BB.out) (by have := Row.bulk_len l1; omega)).mono ?_
  rintro e wn10 ⟨v, rfl, ho, hb⟩
  obtain ⟨xB, nB, cB, rfl, ho⟩ := kN_shape ho
  have HBk := Lib.hid ho.at; clear ho
  replace HA := Lib.hid (HA.out.on hb)
  replace XD := Lib.hid (XD.out.on hb)
  replace BB := Lib.hid (BB.out.trans (hb.mono BB.out.size))
  clear hb
  (try go_wp2_with fail)
  clear hHeld
  refine hK.out _ _ ?_ (fun hHeld => ?_)
  ·
   (try dsimp only); exact ⟨kc KC0.out BB.out, kc KC1.out BB.out, kc KN0.out BB.out⟩
  clear hK K
  (try simp only [Act.put, Row.pB0, Row.pB1, Row.pB2])
  refine wpAnyH_ready (rs := [5]) (by kernel_rfl) (by simp) ?_
  refine AllReadyH.cons (o := ⟨some 35, .call ⟨.value (.func 27), #[.tmp 31, .tmp 33, .tmp 34], #[24, 44, 3]⟩, 52, "exact.go:7038", #[⟨1, .data⟩, ⟨3, .data⟩, ⟨4, .data⟩, ⟨3, .chain⟩], none⟩) rfl (fun K hK => ?_) AllReadyH.nil
  go_simp
  refine (specCacheLookup _ _ l0 l1 a2 _ _ _ rfl rfl HA.out HBk.out (show wtCn l0 ≤ 1100000 by omega) (show bulk l1 ≤ 1200000 by omega)).mono ?_
  rintro e wn11 ⟨v, rfl, ho, hb⟩
  obtain ⟨ya, ma, da, yb, mb, db, yc, mc, dc_, rfl, ho⟩ := kD_shape ho
  have HX := Lib.hid (show kDz.In w.heap.size wn11.heap.size wn11 (.agg #[.slice ya ma da, .slice yb mb db, .slice yc mc dc_, .int .i64 (lookC l0 l1 a2).2.2.2.1, .int .i64 (lookC l0 l1 a2).2.2.2.2]) (lookC l0 l1 a2) from Kd.In.mono ho BB.out.size (Nat.le_refl _)); clear ho
  replace HA := Lib.hid (HA.out.on hb)
  replace XD := Lib.hid (XD.out.on hb)
  replace HBk := Lib.hid (HBk.out.on hb)
  replace BB := Lib.hid (BB.out.trans (hb.mono BB.out.size))
  clear hb
  (try go_wp2_with fail)
  clear hHeld
  refine hK.out _ _ ?_ (fun hHeld => ?_)
  ·
   (try dsimp only); exact ⟨kc KC0.out BB.out, kc KC1.out BB.out, kc KN0.out BB.out⟩
  clear hK K
  (try simp only [Act.put, Row.pB0, Row.pB1, Row.pB2])
  refine wpAnyH_take (i := 6) (oi := ⟨some 29, .move (.tmp 35), 52, "exact.go:7038", #[⟨5, .data⟩], none⟩) (v := ?_) rfl (by kernel_rfl) (by kernel_rfl) (by kernel_rfl) (fun _ _ _ h => h) (Or.inl ⟨by rfl, ?_⟩) (by assumption) ?_
  rotate_left
  ·
   intro w' hSw; (try dsimp only at hSw); first | (go_simp; done) | (go_simp; with_reducible rfl)
  (try simp only [Act.put, Row.pB0, Row.pB1, Row.pB2])
  refine wpAnyH_take (i := 7) (oi := ⟨some 36, .extract (.tmp 29) 0, 46, "exact.go:7038", #[⟨6, .data⟩], none⟩) (v := ?_) rfl (by kernel_rfl) (by kernel_rfl) (by kernel_rfl) (fun _ _ _ h => h) (Or.inl ⟨by rfl, ?_⟩) (by assumption) ?_
  rotate_left
  ·
   intro w' hSw; (try dsimp only at hSw); first | (go_simp; done) | (go_simp; with_reducible rfl)
  (try simp only [Act.put, Row.pB0, Row.pB1, Row.pB2])
  refine wpAnyH_take (i := 8) (oi := ⟨some 37, .extract (.tmp 29) 1, 4, "exact.go:7038", #[⟨6, .data⟩, { on := 10, ground := Ground.gcOnly Departure.lateStores }], none⟩) (v := ?_) rfl (by kernel_rfl) (by kernel_rfl) (by kernel_rfl) (fun _ _ _ h => h) (Or.inl ⟨by rfl, ?_⟩) (by assumption) ?_
  rotate_left
  ·
   intro w' hSw; (try dsimp only at hSw); first | (go_simp; done) | (go_simp; with_reducible rfl)
  (try simp only [Act.put, Row.pB0, Row.pB1, Row.pB2])
  refine wpAnyH_ready (rs := [10]) (by kernel_rfl) (by simp) ?_
  refine AllReadyH.cons (o := ⟨none, .store 46 (.tmp 8) (.tmp 36), 0, "exact.go:7038", #[⟨9, .data⟩, ⟨7, .data⟩, ⟨5, .chain⟩, ⟨0, .phase⟩, ⟨1, .phase⟩, ⟨2, .phase⟩, ⟨3, .phase⟩, ⟨4, .phase⟩, ⟨5, .phase⟩, ⟨6, .phase⟩, ⟨7, .phase⟩, { on := 8, ground := Ground.textOnly Departure.lateStores }, ⟨9, .phase⟩], none⟩) rfl (fun K hK => ?_) AllReadyH.nil
  have r0 := XD.out.cell 0; have r1 := XD.out.cell 1; have r2 := XD.out.cell 2; have r3 := XD.out.cell 3; have r4 := XD.out.cell 4
  have t0 := XD.out.frozen 0; have t1 := XD.out.frozen 1; have t2 := XD.out.frozen 2; have t3 := XD.out.frozen 3; have t4 := XD.out.frozen 4
  go_simp
  clear hHeld
  refine hK.out _ _ ?_ (fun hHeld => ?_)
  ·
   (try dsimp only); exact ⟨cell_five12 (kc KC0.out BB.out) (by have h1 : p < w.heap.size := Ret.cell_lt KC0.out; have h2 := HDW.out; omega), cell_five12 (kc KC1.out BB.out) (by have h1 : p < w.heap.size := Ret.cell_lt KC1.out; have h2 := HDW.out; omega), cell_five12 (kc KN0.out BB.out) (by have h1 : q < w.heap.size := Ret.cell_lt KN0.out; have h2 := HDW.out; omega)⟩
  clear hK K
  (try simp only [Act.put, Row.pB0, Row.pB1, Row.pB2])
  refine wpAnyH_take (i := 11) (oi := ⟨some 9, .assign (.tmp 37), 4, "exact.go:7038", #[⟨8, .data⟩, ⟨10, .chain⟩, ⟨0, .phase⟩, ⟨1, .phase⟩, ⟨2, .phase⟩, ⟨3, .phase⟩, ⟨4, .phase⟩, ⟨5, .phase⟩, ⟨6, .phase⟩, ⟨7, .phase⟩, ⟨8, .phase⟩, ⟨9, .phase⟩, ⟨10, .phase⟩], none⟩) (v := ?_) rfl (by kernel_rfl) (by kernel_rfl) (by kernel_rfl) (fun _ _ _ h => h) (Or.inl ⟨by rfl, ?_⟩) (by assumption) ?_
  rotate_left
  ·
   intro w' hSw; (try dsimp only at hSw); first | (go_simp; done) | (go_simp; with_reducible rfl)
  (try simp only [Act.put, Row.pB0, Row.pB1, Row.pB2])
  refine wpAnyH_done (by kernel_rfl) ?_ _
  exact NoPanic.normal (HQ.out _ _ _ _ _ _ _ _ _ gD ma da mb db mc dc_ ya yb yc _ HDW.out XD.out HX.out BB.out)
 refine AllReadyH.cons (o := ⟨some 8, .alloc 46, 0, "exact.go:7038", #[], none⟩) rfl (fun K hK => ?_) AllReadyH.nil
 go_simp
 have hb : Below wd.heap.size wd (wd.alloc (.cells #[.slice none 0 0, .slice none 0 0, .slice none 0 0, .int .i64 0, .int .i64 0] 46)) := (Below.refl _ _).alloc (Nat.le_refl _) _
 obtain ⟨gD, hgD⟩ : ∃ g, g = wd.heap.size := ⟨_, rfl⟩
 have XD := Lib.hid (show Ret.Blk (wd.alloc (.cells #[.slice none 0 0, .slice none 0 0, .slice none 0 0, .int .i64 0, .int .i64 0] 46)) gD #[.slice none 0 0, .slice none 0 0, .slice none 0 0, .int .i64 0, .int .i64 0] 46 from by rw [hgD]; exact Ret.Blk.new wd _ _)
 have HDW := Lib.hid (show w.heap.size ≤ gD from by rw [hgD]; exact BB.out.size)
 (first | replace HX := Lib.hid (show kDz.In w.heap.size (wd.alloc (.cells #[.slice none 0 0, .slice none 0 0, .slice none 0 0, .int .i64 0, .int .i64 0] 46)).heap.size (wd.alloc (.cells #[.slice none 0 0, .slice none 0 0, .slice none 0 0, .int .i64 0, .int .i64 0] 46)) (.agg #[.slice ya ma da, .slice yb mb db, .slice yc mc dc_, .int .i64 (lookC l0 l1 a2).2.2.2.1, .int .i64 (lookC l0 l1 a2).2.2.2.2]) (lookC l0 l1 a2) from Kd.In.mono (Kd.In.on HX.out hb) (Nat.le_refl _) hb.size) | skip)
 rw [← hgD]
 clear hgD
 replace BB := Lib.hid (BB.out.trans (hb.mono BB.out.size))
 clear hb
 generalize wd.alloc (.cells #[.slice none 0 0, .slice none 0 0, .slice none 0 0, .int .i64 0, .int .i64 0] 46) = wn13 at *
 clear hHeld
 refine hK.out _ _ ?_ (fun hHeld => ?_)
 ·
  (try dsimp only); exact ⟨kc KC0.out BB.out, kc KC1.out BB.out, kc KN0.out BB.out⟩
 clear hK K
 (try simp only [Act.put, Row.pB0, Row.pB1, Row.pB2])
 refine wpAnyH_ready (rs := [1]) (by kernel_rfl) (by simp) ?_
 refine AllReadyH.cons (o := ⟨some 31, .call ⟨.value (.func 18), #[.tmp 30], #[31]⟩, 24, "exact.go:7038", #[⟨0, .data⟩], none⟩) rfl (fun K hK => ?_) AllReadyH.nil
 go_simp
 refine (toContentStoreK _ l0 _ (H0.out.on BB.out) (Nat.le_trans (adCn_big Z0) (by decide))).mono ?_
 rintro e wn14 ⟨v, rfl, ho, hb⟩
 obtain ⟨xA, nA, cA, rfl, ho⟩ := kCn_shape ho
 have HA := Lib.hid ho.at; clear ho
 replace XD := Lib.hid (XD.out.on hb)
 replace BB := Lib.hid (BB.out.trans (hb.mono BB.out.size))
 clear hb
 (try go_wp2_with fail)
 clear hHeld
 refine hK.out _ _ ?_ (fun hHeld => ?_)
 ·
  (try dsimp only); exact ⟨kc KC0.out BB.out, kc KC1.out BB.out, kc KN0.out BB.out⟩
 clear hK K
 (try simp only [Act.put, Row.pB0, Row.pB1, Row.pB2])
 refine wpAnyH_ready (rs := [3]) (by kernel_rfl) (by simp) ?_
 refine AllReadyH.cons (o := ⟨some 33, .call ⟨.value (.func 28), #[.tmp 32], #[38]⟩, 44, "exact.go:7038", #[⟨2, .data⟩, ⟨1, .chain⟩], none⟩) rfl (fun K hK => ?_) AllReadyH.nil
 go_simp
 refine (toNK _ l1 _ (H1.out.on BB.out) (by have := Row.bulk_len l1; omega)).mono ?_
 rintro e wn15 ⟨v, rfl, ho, hb⟩
 obtain ⟨xB, nB, cB, rfl, ho⟩ := kN_shape ho
 have HBk := Lib.hid ho.at; clear ho
 replace XD := Lib.hid (XD.out.on hb)
 replace HA := Lib.hid (HA.out.on hb)
 replace BB := Lib.hid (BB.out.trans (hb.mono BB.out.size))
 clear hb
 (try go_wp2_with fail)
 clear hHeld
 refine hK.out _ _ ?_ (fun hHeld => ?_)
 ·
  (try dsimp only); exact ⟨kc KC0.out BB.out, kc KC1.out BB.out, kc KN0.out BB.out⟩
 clear hK K
 (try simp only [Act.put, Row.pB0, Row.pB1, Row.pB2])
 refine wpAnyH_ready (rs := [5]) (by kernel_rfl) (by simp) ?_
 refine AllReadyH.cons (o := ⟨some 35, .call ⟨.value (.func 27), #[.tmp 31, .tmp 33, .tmp 34], #[24, 44, 3]⟩, 52, "exact.go:7038", #[⟨1, .data⟩, ⟨3, .data⟩, ⟨4, .data⟩, ⟨3, .chain⟩], none⟩) rfl (fun K hK => ?_) AllReadyH.nil
 go_simp
 refine (specCacheLookup _ _ l0 l1 a2 _ _ _ rfl rfl HA.out HBk.out (show wtCn l0 ≤ 1100000 by omega) (show bulk l1 ≤ 1200000 by omega)).mono ?_
 rintro e wn16 ⟨v, rfl, ho, hb⟩
 obtain ⟨ya, ma, da, yb, mb, db, yc, mc, dc_, rfl, ho⟩ := kD_shape ho
 have HX := Lib.hid (show kDz.In w.heap.size wn16.heap.size wn16 (.agg #[.slice ya ma da, .slice yb mb db, .slice yc mc dc_, .int .i64 (lookC l0 l1 a2).2.2.2.1, .int .i64 (lookC l0 l1 a2).2.2.2.2]) (lookC l0 l1 a2) from Kd.In.mono ho BB.out.size (Nat.le_refl _)); clear ho
 replace XD := Lib.hid (XD.out.on hb)
 replace HA := Lib.hid (HA.out.on hb)
 replace HBk := Lib.hid (HBk.out.on hb)
 replace BB := Lib.hid (BB.out.trans (hb.mono BB.out.size))
 clear hb
 (try go_wp2_with fail)
 clear hHeld
 refine hK.out _ _ ?_ (fun hHeld => ?_)
 ·
  (try dsimp only); exact ⟨kc KC0.out BB.out, kc KC1.out BB.out, kc KN0.out BB.out⟩
 clear hK K
 (try simp only [Act.put, Row.pB0, Row.pB1, Row.pB2])
 refine wpAnyH_take (i := 6) (oi := ⟨some 29, .move (.tmp 35), 52, "exact.go:7038", #[⟨5, .data⟩], none⟩) (v := ?_) rfl (by kernel_rfl) (by kernel_rfl) (by kernel_rfl) (fun _ _ _ h => h) (Or.inl ⟨by rfl, ?_⟩) (by assumption) ?_
 rotate_left
 ·
  intro w' hSw; (try dsimp only at hSw); first | (go_simp; done) | (go_simp; with_reducible rfl)
 (try simp only [Act.put, Row.pB0, Row.pB1, Row.pB2])
 refine wpAnyH_take (i := 7) (oi := ⟨some 36, .extract (.tmp 29) 0, 46, "exact.go:7038", #[⟨6, .data⟩], none⟩) (v := ?_) rfl (by kernel_rfl) (by kernel_rfl) (by kernel_rfl) (fun _ _ _ h => h) (Or.inl ⟨by rfl, ?_⟩) (by assumption) ?_
 rotate_left
 ·
  intro w' hSw; (try dsimp only at hSw); first | (go_simp; done) | (go_simp; with_reducible rfl)
 (try simp only [Act.put, Row.pB0, Row.pB1, Row.pB2])
 refine wpAnyH_take (i := 8) (oi := ⟨some 37, .extract (.tmp 29) 1, 4, "exact.go:7038", #[⟨6, .data⟩, { on := 10, ground := Ground.gcOnly Departure.lateStores }], none⟩) (v := ?_) rfl (by kernel_rfl) (by kernel_rfl) (by kernel_rfl) (fun _ _ _ h => h) (Or.inl ⟨by rfl, ?_⟩) (by assumption) ?_
 rotate_left
 ·
  intro w' hSw; (try dsimp only at hSw); first | (go_simp; done) | (go_simp; with_reducible rfl)
 (try simp only [Act.put, Row.pB0, Row.pB1, Row.pB2])
 refine wpAnyH_ready (rs := [10]) (by kernel_rfl) (by simp) ?_
 refine AllReadyH.cons (o := ⟨none, .store 46 (.tmp 8) (.tmp 36), 0, "exact.go:7038", #[⟨9, .data⟩, ⟨7, .data⟩, ⟨5, .chain⟩, ⟨0, .phase⟩, ⟨1, .phase⟩, ⟨2, .phase⟩, ⟨3, .phase⟩, ⟨4, .phase⟩, ⟨5, .phase⟩, ⟨6, .phase⟩, ⟨7, .phase⟩, { on := 8, ground := Ground.textOnly Departure.lateStores }, ⟨9, .phase⟩], none⟩) rfl (fun K hK => ?_) AllReadyH.nil
 have r0 := XD.out.cell 0; have r1 := XD.out.cell 1; have r2 := XD.out.cell 2; have r3 := XD.out.cell 3; have r4 := XD.out.cell 4
 have t0 := XD.out.frozen 0; have t1 := XD.out.frozen 1; have t2 := XD.out.frozen 2; have t3 := XD.out.frozen 3; have t4 := XD.out.frozen 4
 go_simp
 clear hHeld
 refine hK.out _ _ ?_ (fun hHeld => ?_)
 ·
  (try dsimp only); exact ⟨cell_five12 (kc KC0.out BB.out) (by have h1 : p < w.heap.size := Ret.cell_lt KC0.out; have h2 := HDW.out; omega), cell_five12 (kc KC1.out BB.out) (by have h1 : p < w.heap.size := Ret.cell_lt KC1.out; have h2 := HDW.out; omega), cell_five12 (kc KN0.out BB.out) (by have h1 : q < w.heap.size := Ret.cell_lt KN0.out; have h2 := HDW.out; omega)⟩
 clear hK K
 (try simp only [Act.put, Row.pB0, Row.pB1, Row.pB2])
 refine wpAnyH_take (i := 11) (oi := ⟨some 9, .assign (.tmp 37), 4, "exact.go:7038", #[⟨8, .data⟩, ⟨10, .chain⟩, ⟨0, .phase⟩, ⟨1, .phase⟩, ⟨2, .phase⟩, ⟨3, .phase⟩, ⟨4, .phase⟩, ⟨5, .phase⟩, ⟨6, .phase⟩, ⟨7, .phase⟩, ⟨8, .phase⟩, ⟨9, .phase⟩, ⟨10, .phase⟩], none⟩) (v := ?_) rfl (by kernel_rfl) (by kernel_rfl) (by kernel_rfl) (fun _ _ _ h => h) (Or.inl ⟨by rfl, ?_⟩) (by assumption) ?_
 rotate_left
 ·
  intro w' hSw; (try dsimp only at hSw); first | (go_simp; done) | (go_simp; with_reducible rfl)
 (try simp only [Act.put, Row.pB0, Row.pB1, Row.pB2])
 refine wpAnyH_done (by kernel_rfl) ?_ _
 exact NoPanic.normal (HQ.out _ _ _ _ _ _ _ _ _ gD ma da mb db mc dc_ ya yb yc _ HDW.out XD.out HX.out BB.out)
set_option maxRecDepth 100000 in
set_option maxHeartbeats 4000000 in
theorem specregR2 {Q : Exit → Act → World → Prop} {v0 v1 v5 v6 v7 v8 v9 v10 v11 v12 v13 v14 v15 v16 v17 v18 v19 v20 v21 v22 v23 v24 v25 v26 v27 v28 v29 v30 v31 v32 v33 v34 v35 v36 v37 v38 v39 v40 v41 v42 v43 v44 v45 v46 v47 v48 v49 v50 v51 v52 v53 v54 v55 v56 v57 v58 v59 v60 v61 v62 v63 v64 v65 v66 v67 v68 v69 v70 v71 v72 v73 v74 v75 v76 v77 v78 v79 v80 v81 v82 v83 v84 v85 v86 v87 v88 v89 v90 v91 v92 v93 v94 v95 v96 v97 v98 v99 v100 v101 v102 v103 v104 v105 v106 v107 v108 v109 v110 v111 v112 v113 v114 v115 v116 v117 v118 v119 v120 v121 v122 v123 : Value} {w : World} {p q nl cl nn cn : Nat} {xl xn : Option Addr} {l0 : Cnt} {l1 : List ByteArray} {a2 : Int} (H0 : Hid (kCn.At w (.agg #[.int .i64 l0.1, .slice xl nl cl]) l0)) (H1 : Hid (kN.At w (.agg #[.slice xn nn cn]) l1)) (Z0 : wtCn l0 ≤ 1048576) (Z1 : bulk l1 ≤ 1048576) (KC0 : Hid (w.cell? ⟨p, 0, none⟩ = some (.int .i64 l0.1))) (KC1 : Hid (w.cell? ⟨p, 1, none⟩ = some (.slice xl nl cl))) (KN0 : Hid (w.cell? ⟨q, 0, none⟩ = some (.slice xn nn cn)))
    (hQ : ∀ (u29 u30 u31 u32 u33 u34 u35 u36 u37 : Value) (gD ma da mb db mc dc_ : Nat) (ya yb yc : Option Addr) (w2 : World), Below w.heap.size w w2 → kDz.In w.heap.size w2.heap.size w2 (.agg #[.slice ya ma da, .slice yb mb db, .slice yc mc dc_, .int .i64 (lookC l0 l1 a2).2.2.2.1, .int .i64 (lookC l0 l1 a2).2.2.2.2]) (lookC l0 l1 a2) → Ret.Blk w2 gD #[.slice ya ma da, .slice yb mb db, .slice yc mc dc_, .int .i64 (lookC l0 l1 a2).2.2.2.1, .int .i64 (lookC l0 l1 a2).2.2.2.2] 46 → w.heap.size ≤ gD → gD < w2.heap.size → Q .normal ⟨#[v0, v1, .int .i64 a2, .pointer (some ⟨p, 0, none⟩), .pointer (some ⟨q, 0, none⟩), v5, v6, v7, .pointer (some ⟨gD, 0, none⟩), .bool (lookOk l0 l1 a2), v10, v11, v12, v13, v14, v15, v16, v17, v18, v19, v20, v21, v22, v23, v24, v25, v26, v27, v28, u29, u30, u31, u32, u33, u34, u35, u36, u37, v38, v39, v40, v41, v42, v43, v44, v45, v46, v47, v48, v49, v50, v51, v52, v53, v54, v55, v56, v57, v58, v59, v60, v61, v62, v63, v64, v65, v66, v67, v68, v69, v70, v71, v72, v73, v74, v75, v76, v77, v78, v79, v80, v81, v82, v83, v84, v85, v86, v87, v88, v89, v90, v91, v92, v93, v94, v95, v96, v97, v98, v99, v100, v101, v102, v103, v104, v105, v106, v107, v108, v109, v110, v111, v112, v113, v114, v115, v116, v117, v118, v119, v120, v121, v122, v123], []⟩ w2) :
    (Code.region 8 #[{ dst := some 30, op := Op.load 31 (Operand.tmp 3), type := 31, pos := "exact.go:7038", after := #[], guard := none },
      { dst := some 31, op := Op.call { callee := Callee.value (Operand.func 18), args := #[Operand.tmp 30], argTypes := #[31] }, type := 24, pos := "exact.go:7038", after := #[{ on := 0, ground := Ground.data }], guard := none },
      { dst := some 32, op := Op.load 38 (Operand.tmp 4), type := 38, pos := "exact.go:7038", after := #[], guard := none },
      { dst := some 33, op := Op.call { callee := Callee.value (Operand.func 28), args := #[Operand.tmp 32], argTypes := #[38] }, type := 44, pos := "exact.go:7038", after := #[{ on := 2, ground := Ground.data }, { on := 1, ground := Ground.chain }], guard := none },
      { dst := some 34, op := Op.move (Operand.tmp 2), type := 3, pos := "exact.go:7038", after := #[], guard := none },
      { dst := some 35, op := Op.call { callee := Callee.value (Operand.func 27), args := #[Operand.tmp 31, Operand.tmp 33, Operand.tmp 34], argTypes := #[24, 44, 3] }, type := 52, pos := "exact.go:7038", after := #[{ on := 1, ground := Ground.data }, { on := 3, ground := Ground.data }, { on := 4, ground := Ground.data }, { on := 3, ground := Ground.chain }], guard := none },
      { dst := some 29, op := Op.move (Operand.tmp 35), type := 52, pos := "exact.go:7038", after := #[{ on := 5, ground := Ground.data }], guard := none },
      { dst := some 36, op := Op.extract (Operand.tmp 29) 0, type := 46, pos := "exact.go:7038", after := #[{ on := 6, ground := Ground.data }], guard := none },
      { dst := some 37, op := Op.extract (Operand.tmp 29) 1, type := 4, pos := "exact.go:7038", after := #[{ on := 6, ground := Ground.data }, { on := 10, ground := Ground.gcOnly Departure.lateStores }], guard := none },
      { dst := some 8, op := Op.alloc 46, type := 0, pos := "exact.go:7038", after := #[], guard := none },
      { dst := none, op := Op.store 46 (Operand.tmp 8) (Operand.tmp 36), type := 0, pos := "exact.go:7038", after := #[{ on := 9, ground := Ground.data }, { on := 7, ground := Ground.data }, { on := 5, ground := Ground.chain }, { on := 0, ground := Ground.phase }, { on := 1, ground := Ground.phase }, { on := 2, ground := Ground.phase }, { on := 3, ground := Ground.phase }, { on := 4, ground := Ground.phase }, { on := 5, ground := Ground.phase }, { on := 6, ground := Ground.phase }, { on := 7, ground := Ground.phase }, { on := 8, ground := Ground.textOnly Departure.lateStores }, { on := 9, ground := Ground.phase }], guard := none },
      { dst := some 9, op := Op.assign (Operand.tmp 37), type := 4, pos := "exact.go:7038", after := #[{ on := 8, ground := Ground.data }, { on := 10, ground := Ground.chain }, { on := 0, ground := Ground.phase }, { on := 1, ground := Ground.phase }, { on := 2, ground := Ground.phase }, { on := 3, ground := Ground.phase }, { on := 4, ground := Ground.phase }, { on := 5, ground := Ground.phase }, { on := 6, ground := Ground.phase }, { on := 7, ground := Ground.phase }, { on := 8, ground := Ground.phase }, { on := 9, ground := Ground.phase }, { on := 10, ground := Ground.phase }], guard := none }] true).wp Try.prog Q ⟨#[v0, v1, .int .i64 a2, .pointer (some ⟨p, 0, none⟩), .pointer (some ⟨q, 0, none⟩), v5, v6, v7, v8, v9, v10, v11, v12, v13, v14, v15, v16, v17, v18, v19, v20, v21, v22, v23, v24, v25, v26, v27, v28, v29, v30, v31, v32, v33, v34, v35, v36, v37, v38, v39, v40, v41, v42, v43, v44, v45, v46, v47, v48, v49, v50, v51, v52, v53, v54, v55, v56, v57, v58, v59, v60, v61, v62, v63, v64, v65, v66, v67, v68, v69, v70, v71, v72, v73, v74, v75, v76, v77, v78, v79, v80, v81, v82, v83, v84, v85, v86, v87, v88, v89, v90, v91, v92, v93, v94, v95, v96, v97, v98, v99, v100, v101, v102, v103, v104, v105, v106, v107, v108, v109, v110, v111, v112, v113, v114, v115, v116, v117, v118, v119, v120, v121, v122, v123], []⟩ w := by
  refine specR20 H0 H1 Z0 Z1 KC0 KC1 KN0 ?_
  intro u29 u30 u31 u32 u33 u34 u35 u36 u37 gD ma da mb db mc dc_ ya yb yc wx hgd hxd hin hb
  obtain ⟨h1, h2, h3⟩ := five_facts12 (a := .slice ya ma da) (b := .slice yb mb db) (c := .slice yc mc dc_) (d := .int .i64 (lookC l0 l1 a2).2.2.2.1) (e := .int .i64 (lookC l0 l1 a2).2.2.2.2) hgd (Nat.le_refl _) hxd hin hb
  exact hQ _ _ _ _ _ _ _ _ _ gD ma da mb db mc dc_ ya yb yc _ h1 h2 h3 hgd (by rw [size_five12]; exact hxd.lt)
set_option maxRecDepth 100000 in
set_option maxHeartbeats 4000000 in
theorem implR20 {Q : Exit → Act → World → Prop} {v0 v1 v5 v6 v7 v8 v9 v10 v11 v12 v13 v14 v15 v16 v17 v18 v19 v20 v21 v22 v23 v24 v25 v26 v27 v28 v29 v30 v31 v32 v33 v34 v35 v36 v37 v38 v39 v40 v41 v42 v43 v44 v45 v46 v47 v48 v49 v50 v51 v52 v53 v54 v55 v56 v57 v58 v59 v60 v61 v62 v63 v64 v65 v66 v67 v68 v69 v70 v71 v72 v73 v74 v75 v76 v77 v78 v79 v80 v81 v82 v83 v84 v85 v86 v87 v88 v89 v90 v91 v92 v93 v94 v95 v96 v97 v98 v99 v100 v101 v102 v103 v104 v105 v106 v107 v108 v109 v110 v111 v112 v113 v114 v115 v116 v117 v118 v119 v120 v121 v122 v123 : Value} {w : World} {p q nl cl nn cn : Nat} {xl xn : Option Addr} {l0 : Cnt} {l1 : List ByteArray} {a2 : Int} (H0 : Hid (kCn.At w (.agg #[.int .i64 l0.1, .slice xl nl cl]) l0)) (H1 : Hid (kN.At w (.agg #[.slice xn nn cn]) l1)) (Z0 : wtCn l0 ≤ 1048576) (Z1 : bulk l1 ≤ 1048576) (KC0 : Hid (w.cell? ⟨p, 0, none⟩ = some (.int .i64 l0.1))) (KC1 : Hid (w.cell? ⟨p, 1, none⟩ = some (.slice xl nl cl))) (KN0 : Hid (w.cell? ⟨q, 0, none⟩ = some (.slice xn nn cn)))
  (hQ : ∀ (u98 u99 u100 u101 u102 u103 u104 u105 u106 : Value) (gD ma da mb db mc dc_ : Nat) (ya yb yc : Option Addr)  (wx : World), w.heap.size ≤ gD → Ret.Blk wx gD #[.slice none 0 0, .slice none 0 0, .slice none 0 0, .int .i64 0, .int .i64 0] 46 → kDz.In w.heap.size wx.heap.size wx (.agg #[.slice ya ma da, .slice yb mb db, .slice yc mc dc_, .int .i64 (lookC l0 l1 a2).2.2.2.1, .int .i64 (lookC l0 l1 a2).2.2.2.2]) (lookC l0 l1 a2) → Below w.heap.size w wx → Q .normal ⟨#[v0, v1, .int .i64 a2, .pointer (some ⟨p, 0, none⟩), .pointer (some ⟨q, 0, none⟩), v5, v6, v7, v8, v9, v10, v11, v12, v13, v14, v15, v16, .pointer (some ⟨gD, 0, none⟩), .bool (lookOk l0 l1 a2), v19, v20, v21, v22, v23, v24, v25, v26, v27, v28, v29, v30, v31, v32, v33, v34, v35, v36, v37, v38, v39, v40, v41, v42, v43, v44, v45, v46, v47, v48, v49, v50, v51, v52, v53, v54, v55, v56, v57, v58, v59, v60, v61, v62, v63, v64, v65, v66, v67, v68, v69, v70, v71, v72, v73, v74, v75, v76, v77, v78, v79, v80, v81, v82, v83, v84, v85, v86, v87, v88, v89, v90, v91, v92, v93, v94, v95, v96, v97, u98, u99, u100, u101, u102, u103, u104, u105, u106, v107, v108, v109, v110, v111, v112, v113, v114, v115, v116, v117, v118, v119, v120, v121, v122, v123], []⟩ ((((((wx).setCell ⟨gD, 0, none⟩ (.slice ya ma da)).setCell ⟨gD, 1, none⟩ (.slice yb mb db)).setCell ⟨gD, 2, none⟩ (.slice yc mc dc_)).setCell ⟨gD, 3, none⟩ (.int .i64 (lookC l0 l1 a2).2.2.2.1)).setCell ⟨gD, 4, none⟩ (.int .i64 (lookC l0 l1 a2).2.2.2.2))) :
  (Code.region 31 #[⟨some 99, .load 31 (.tmp 3), 31, "exact.go:7067", #[], none⟩,
   ⟨some 100, .call ⟨.value (.func 18), #[.tmp 99], #[31]⟩, 24, "exact.go:7067", #[⟨0, .data⟩], none⟩,
   ⟨some 101, .load 38 (.tmp 4), 38, "exact.go:7067", #[], none⟩,
   ⟨some 102, .call ⟨.value (.func 28), #[.tmp 101], #[38]⟩, 44, "exact.go:7067", #[⟨2, .data⟩, ⟨1, .chain⟩], none⟩,
   ⟨some 103, .move (.tmp 2), 3, "exact.go:7067", #[], none⟩,
   ⟨some 104, .call ⟨.value (.func 29), #[.tmp 100, .tmp 102, .tmp 103], #[24, 44, 3]⟩, 52, "exact.go:7067", #[⟨1, .data⟩, ⟨3, .data⟩, ⟨4, .data⟩, ⟨3, .chain⟩], none⟩,
   ⟨some 98, .move (.tmp 104), 52, "exact.go:7067", #[⟨5, .data⟩], none⟩,
   ⟨some 105, .extract (.tmp 98) 0, 46, "exact.go:7067", #[⟨6, .data⟩], none⟩,
   ⟨some 106, .extract (.tmp 98) 1, 4, "exact.go:7067", #[⟨6, .data⟩, { on := 10, ground := Ground.gcOnly Departure.lateStores }], none⟩,
   ⟨some 17, .alloc 46, 0, "exact.go:7067", #[], none⟩,
   ⟨none, .store 46 (.tmp 17) (.tmp 105), 0, "exact.go:7067", #[⟨9, .data⟩, ⟨7, .data⟩, ⟨5, .chain⟩, ⟨0, .phase⟩, ⟨1, .phase⟩, ⟨2, .phase⟩, ⟨3, .phase⟩, ⟨4, .phase⟩, ⟨5, .phase⟩, ⟨6, .phase⟩, ⟨7, .phase⟩, { on := 8, ground := Ground.textOnly Departure.lateStores }, ⟨9, .phase⟩], none⟩,
   ⟨some 18, .assign (.tmp 106), 4, "exact.go:7067", #[⟨8, .data⟩, ⟨10, .chain⟩, ⟨0, .phase⟩, ⟨1, .phase⟩, ⟨2, .phase⟩, ⟨3, .phase⟩, ⟨4, .phase⟩, ⟨5, .phase⟩, ⟨6, .phase⟩, ⟨7, .phase⟩, ⟨8, .phase⟩, ⟨9, .phase⟩, ⟨10, .phase⟩], none⟩] true).wp Try.prog Q ⟨#[v0, v1, .int .i64 a2, .pointer (some ⟨p, 0, none⟩), .pointer (some ⟨q, 0, none⟩), v5, v6, v7, v8, v9, v10, v11, v12, v13, v14, v15, v16, v17, v18, v19, v20, v21, v22, v23, v24, v25, v26, v27, v28, v29, v30, v31, v32, v33, v34, v35, v36, v37, v38, v39, v40, v41, v42, v43, v44, v45, v46, v47, v48, v49, v50, v51, v52, v53, v54, v55, v56, v57, v58, v59, v60, v61, v62, v63, v64, v65, v66, v67, v68, v69, v70, v71, v72, v73, v74, v75, v76, v77, v78, v79, v80, v81, v82, v83, v84, v85, v86, v87, v88, v89, v90, v91, v92, v93, v94, v95, v96, v97, v98, v99, v100, v101, v102, v103, v104, v105, v106, v107, v108, v109, v110, v111, v112, v113, v114, v115, v116, v117, v118, v119, v120, v121, v122, v123], []⟩ w := by
 have HQ := Lib.hid hQ; clear hQ
 have hdr : Below w.heap.size w w.drew := (Below.refl _ _).drew
 have BB := Lib.hid hdr
 refine wp_region_noPanic ?_
 refine wp_region_held_drew (S := (fun w' => w'.cell? ⟨p, 0, none⟩ = some (.int .i64 l0.1) ∧ w'.cell? ⟨p, 1, none⟩ = some (.slice xl nl cl) ∧ w'.cell? ⟨q, 0, none⟩ = some (.slice xn nn cn))) (by kernel_rfl) ?_ (fun hHeld => ?_)
 ·
  exact ⟨kc KC0.out BB.out, kc KC1.out BB.out, kc KN0.out BB.out⟩
 clear hdr
 generalize w.drew = wd at *
 refine wpAnyH_take (i := 0) (oi := ⟨some 99, .load 31 (.tmp 3), 31, "exact.go:7067", #[], none⟩) (v := ?_) rfl (by kernel_rfl) (by kernel_rfl) (by kernel_rfl) (fun _ _ _ h => h) (Or.inl ⟨by rfl, ?_⟩) (by assumption) ?_
 rotate_left
 ·
  intro w' hSw; (try dsimp only at hSw); first | (go_simp; done) | (go_simp; with_reducible rfl)
 (try simp only [Act.put, Row.pB0, Row.pB1, Row.pB2])
 refine wpAnyH_take (i := 2) (oi := ⟨some 101, .load 38 (.tmp 4), 38, "exact.go:7067", #[], none⟩) (v := ?_) rfl (by kernel_rfl) (by kernel_rfl) (by kernel_rfl) (fun _ _ _ h => h) (Or.inl ⟨by rfl, ?_⟩) (by assumption) ?_
 rotate_left
 ·
  intro w' hSw; (try dsimp only at hSw); first | (go_simp; done) | (go_simp; with_reducible rfl)
 (try simp only [Act.put, Row.pB0, Row.pB1, Row.pB2])
 refine wpAnyH_take (i := 4) (oi := ⟨some 103, .move (.tmp 2), 3, "exact.go:7067", #[], none⟩) (v := ?_) rfl (by kernel_rfl) (by kernel_rfl) (by kernel_rfl) (fun _ _ _ h => h) (Or.inl ⟨by rfl, ?_⟩) (by assumption) ?_
 rotate_left
 ·
  intro w' hSw; (try dsimp only at hSw); first | (go_simp; done) | (go_simp; with_reducible rfl)
 (try simp only [Act.put, Row.pB0, Row.pB1, Row.pB2])
 refine wpAnyH_ready (rs := [1, 9]) (by kernel_rfl) (by simp) ?_
 refine AllReadyH.cons (o := ⟨some 100, .call ⟨.value (.func 18), #[.tmp 99], #[31]⟩, 24, "exact.go:7067", #[⟨0, .data⟩], none⟩) rfl (fun K hK => ?_) ?_
 ·
  go_simp
  refine (toContentStoreK _ l0 _ (H0.out.on BB.out) (Nat.le_trans (adCn_big Z0) (by decide))).mono ?_
  rintro e wn1 ⟨v, rfl, ho, hb⟩
  obtain ⟨xA, nA, cA, rfl, ho⟩ := kCn_shape ho
  have HA := Lib.hid ho.at; clear ho
  replace BB := Lib.hid (BB.out.trans (hb.mono BB.out.size))
  clear hb
  (try go_wp2_with fail)
  clear hHeld
  refine hK.out _ _ ?_ (fun hHeld => ?_)
  ·
   (try dsimp only); exact ⟨kc KC0.out BB.out, kc KC1.out BB.out, kc KN0.out BB.out⟩
  clear hK K
  (try simp only [Act.put, Row.pB0, Row.pB1, Row.pB2])
  refine wpAnyH_ready (rs := [3, 9]) (by kernel_rfl) (by simp) ?_
  refine AllReadyH.cons (o := ⟨some 102, .call ⟨.value (.func 28), #[.tmp 101], #[38]⟩, 44, "exact.go:7067", #[⟨2, .data⟩, ⟨1, .chain⟩], none⟩) rfl (fun K hK => ?_) ?_
  ·
   go_simp
   refine (toNK _ l1 _ (H1.out.on BB.out) (by have := Row.bulk_len l1; omega)).mono ?_
   rintro e wn2 ⟨v, rfl, ho, hb⟩
   obtain ⟨xB, nB, cB, rfl, ho⟩ := kN_shape ho
   have HBk := Lib.hid ho.at; clear ho
   replace HA := Lib.hid (HA.out.on hb)
   replace BB := Lib.hid (BB.out.trans (hb.mono BB.out.size))
   clear hb
   (try go_wp2_with fail)
   clear hHeld
   refine hK.out _ _ ?_ (fun hHeld => ?_)
   ·
    (try dsimp only); exact ⟨kc KC0.out BB.out, kc KC1.out BB.out, kc KN0.out BB.out⟩
   clear hK K
   (try simp only [Act.put, Row.pB0, Row.pB1, Row.pB2])
   refine wpAnyH_ready (rs := [5, 9]) (by kernel_rfl) (by simp) ?_
   refine AllReadyH.cons (o := ⟨some 104, .call ⟨.value (.func 29), #[.tmp 100, .tmp 102, .tmp 103], #[24, 44, 3]⟩, 52, "exact.go:7067", #[⟨1, .data⟩, ⟨3, .data⟩, ⟨4, .data⟩, ⟨3, .chain⟩], none⟩) rfl (fun K hK => ?_) ?_
   ·
    go_simp
    refine (implCacheLookup _ _ l0 l1 a2 _ _ _ rfl rfl HA.out HBk.out (show wtCn l0 ≤ 1100000 by omega) (show bulk l1 ≤ 1200000 by omega)).mono ?_
    rintro e wn3 ⟨v, rfl, ho, hb⟩
    obtain ⟨ya, ma, da, yb, mb, db, yc, mc, dc_, rfl, ho⟩ := kD_shape ho
    have HX := Lib.hid (show kDz.In w.heap.size wn3.heap.size wn3 (.agg #[.slice ya ma da, .slice yb mb db, .slice yc mc dc_, .int .i64 (lookC l0 l1 a2).2.2.2.1, .int .i64 (lookC l0 l1 a2).2.2.2.2]) (lookC l0 l1 a2) from Kd.In.mono ho BB.out.size (Nat.le_refl _)); clear ho
    replace HA := Lib.hid (HA.out.on hb)
    replace HBk := Lib.hid (HBk.out.on hb)
    replace BB := Lib.hid (BB.out.trans (hb.mono BB.out.size))
    clear hb
    (try go_wp2_with fail)
    clear hHeld
    refine hK.out _ _ ?_ (fun hHeld => ?_)
    ·
     (try dsimp only); exact ⟨kc KC0.out BB.out, kc KC1.out BB.out, kc KN0.out BB.out⟩
    clear hK K
    (try simp only [Act.put, Row.pB0, Row.pB1, Row.pB2])
    refine wpAnyH_take (i := 6) (oi := ⟨some 98, .move (.tmp 104), 52, "exact.go:7067", #[⟨5, .data⟩], none⟩) (v := ?_) rfl (by kernel_rfl) (by kernel_rfl) (by kernel_rfl) (fun _ _ _ h => h) (Or.inl ⟨by rfl, ?_⟩) (by assumption) ?_
    rotate_left
    ·
     intro w' hSw; (try dsimp only at hSw); first | (go_simp; done) | (go_simp; with_reducible rfl)
    (try simp only [Act.put, Row.pB0, Row.pB1, Row.pB2])
    refine wpAnyH_take (i := 7) (oi := ⟨some 105, .extract (.tmp 98) 0, 46, "exact.go:7067", #[⟨6, .data⟩], none⟩) (v := ?_) rfl (by kernel_rfl) (by kernel_rfl) (by kernel_rfl) (fun _ _ _ h => h) (Or.inl ⟨by rfl, ?_⟩) (by assumption) ?_
    rotate_left
    ·
     intro w' hSw; (try dsimp only at hSw); first | (go_simp; done) | (go_simp; with_reducible rfl)
    (try simp only [Act.put, Row.pB0, Row.pB1, Row.pB2])
    refine wpAnyH_take (i := 8) (oi := ⟨some 106, .extract (.tmp 98) 1, 4, "exact.go:7067", #[⟨6, .data⟩, { on := 10, ground := Ground.gcOnly Departure.lateStores }], none⟩) (v := ?_) rfl (by kernel_rfl) (by kernel_rfl) (by kernel_rfl) (fun _ _ _ h => h) (Or.inl ⟨by rfl, ?_⟩) (by assumption) ?_
    rotate_left
    ·
     intro w' hSw; (try dsimp only at hSw); first | (go_simp; done) | (go_simp; with_reducible rfl)
    (try simp only [Act.put, Row.pB0, Row.pB1, Row.pB2])
    refine wpAnyH_ready (rs := [9]) (by kernel_rfl) (by simp) ?_
    refine AllReadyH.cons (o := ⟨some 17, .alloc 46, 0, "exact.go:7067", #[], none⟩) rfl (fun K hK => ?_) AllReadyH.nil
    go_simp
    have hb : Below wn3.heap.size wn3 (wn3.alloc (.cells #[.slice none 0 0, .slice none 0 0, .slice none 0 0, .int .i64 0, .int .i64 0] 46)) := (Below.refl _ _).alloc (Nat.le_refl _) _
    obtain ⟨gD, hgD⟩ : ∃ g, g = wn3.heap.size := ⟨_, rfl⟩
    have XD := Lib.hid (show Ret.Blk (wn3.alloc (.cells #[.slice none 0 0, .slice none 0 0, .slice none 0 0, .int .i64 0, .int .i64 0] 46)) gD #[.slice none 0 0, .slice none 0 0, .slice none 0 0, .int .i64 0, .int .i64 0] 46 from by rw [hgD]; exact Ret.Blk.new wn3 _ _)
    have HDW := Lib.hid (show w.heap.size ≤ gD from by rw [hgD]; exact BB.out.size)
    (first | replace HX := Lib.hid (show kDz.In w.heap.size (wn3.alloc (.cells #[.slice none 0 0, .slice none 0 0, .slice none 0 0, .int .i64 0, .int .i64 0] 46)).heap.size (wn3.alloc (.cells #[.slice none 0 0, .slice none 0 0, .slice none 0 0, .int .i64 0, .int .i64 0] 46)) (.agg #[.slice ya ma da, .slice yb mb db, .slice yc mc dc_, .int .i64 (lookC l0 l1 a2).2.2.2.1, .int .i64 (lookC l0 l1 a2).2.2.2.2]) (lookC l0 l1 a2) from Kd.In.mono (Kd.In.on HX.out hb) (Nat.le_refl _) hb.size) | skip)
    rw [← hgD]
    clear hgD
    replace HA := Lib.hid (HA.out.on hb)
    replace HBk := Lib.hid (HBk.out.on hb)
    replace BB := Lib.hid (BB.out.trans (hb.mono BB.out.size))
    clear hb
    generalize wn3.alloc (.cells #[.slice none 0 0, .slice none 0 0, .slice none 0 0, .int .i64 0, .int .i64 0] 46) = wn4 at *
    clear hHeld
    refine hK.out _ _ ?_ (fun hHeld => ?_)
    ·
     (try dsimp only); exact ⟨kc KC0.out BB.out, kc KC1.out BB.out, kc KN0.out BB.out⟩
    clear hK K
    (try simp only [Act.put, Row.pB0, Row.pB1, Row.pB2])
    refine wpAnyH_ready (rs := [10]) (by kernel_rfl) (by simp) ?_
    refine AllReadyH.cons (o := ⟨none, .store 46 (.tmp 17) (.tmp 105), 0, "exact.go:7067", #[⟨9, .data⟩, ⟨7, .data⟩, ⟨5, .chain⟩, ⟨0, .phase⟩, ⟨1, .phase⟩, ⟨2, .phase⟩, ⟨3, .phase⟩, ⟨4, .phase⟩, ⟨5, .phase⟩, ⟨6, .phase⟩, ⟨7, .phase⟩, { on := 8, ground := Ground.textOnly Departure.lateStores }, ⟨9, .phase⟩], none⟩) rfl (fun K hK => ?_) AllReadyH.nil
    have r0 := XD.out.cell 0; have r1 := XD.out.cell 1; have r2 := XD.out.cell 2; have r3 := XD.out.cell 3; have r4 := XD.out.cell 4
    have t0 := XD.out.frozen 0; have t1 := XD.out.frozen 1; have t2 := XD.out.frozen 2; have t3 := XD.out.frozen 3; have t4 := XD.out.frozen 4
    go_simp
    clear hHeld
    refine hK.out _ _ ?_ (fun hHeld => ?_)
    ·
     (try dsimp only); exact ⟨cell_five12 (kc KC0.out BB.out) (by have h1 : p < w.heap.size := Ret.cell_lt KC0.out; have h2 := HDW.out; omega), cell_five12 (kc KC1.out BB.out) (by have h1 : p < w.heap.size := Ret.cell_lt KC1.out; have h2 := HDW.out; omega), cell_five12 (kc KN0.out BB.out) (by have h1 : q < w.heap.size := Ret.cell_lt KN0.out; have h2 := HDW.out; omega)⟩
    clear hK K
    (try simp only [Act.put, Row.pB0, Row.pB1, Row.pB2])
    refine wpAnyH_take (i := 11) (oi := ⟨some 18, .assign (.tmp 106), 4, "exact.go:7067", #[⟨8, .data⟩, ⟨10, .chain⟩, ⟨0, .phase⟩, ⟨1, .phase⟩, ⟨2, .phase⟩, ⟨3, .phase⟩, ⟨4, .phase⟩, ⟨5, .phase⟩, ⟨6, .phase⟩, ⟨7, .phase⟩, ⟨8, .phase⟩, ⟨9, .phase⟩, ⟨10, .phase⟩], none⟩) (v := ?_) rfl (by kernel_rfl) (by kernel_rfl) (by kernel_rfl) (fun _ _ _ h => h) (Or.inl ⟨by rfl, ?_⟩) (by assumption) ?_
    rotate_left
    ·
     intro w' hSw; (try dsimp only at hSw); first | (go_simp; done) | (go_simp; with_reducible rfl)
    (try simp only [Act.put, Row.pB0, Row.pB1, Row.pB2])
    refine wpAnyH_done (by kernel_rfl) ?_ _
    exact NoPanic.normal (HQ.out _ _ _ _ _ _ _ _ _ gD ma da mb db mc dc_ ya yb yc _ HDW.out XD.out HX.out BB.out)
   refine AllReadyH.cons (o := ⟨some 17, .alloc 46, 0, "exact.go:7067", #[], none⟩) rfl (fun K hK => ?_) AllReadyH.nil
   go_simp
   have hb : Below wn2.heap.size wn2 (wn2.alloc (.cells #[.slice none 0 0, .slice none 0 0, .slice none 0 0, .int .i64 0, .int .i64 0] 46)) := (Below.refl _ _).alloc (Nat.le_refl _) _
   obtain ⟨gD, hgD⟩ : ∃ g, g = wn2.heap.size := ⟨_, rfl⟩
   have XD := Lib.hid (show Ret.Blk (wn2.alloc (.cells #[.slice none 0 0, .slice none 0 0, .slice none 0 0, .int .i64 0, .int .i64 0] 46)) gD #[.slice none 0 0, .slice none 0 0, .slice none 0 0, .int .i64 0, .int .i64 0] 46 from by rw [hgD]; exact Ret.Blk.new wn2 _ _)
   have HDW := Lib.hid (show w.heap.size ≤ gD from by rw [hgD]; exact BB.out.size)
   (first | replace HX := Lib.hid (show kDz.In w.heap.size (wn2.alloc (.cells #[.slice none 0 0, .slice none 0 0, .slice none 0 0, .int .i64 0, .int .i64 0] 46)).heap.size (wn2.alloc (.cells #[.slice none 0 0, .slice none 0 0, .slice none 0 0, .int .i64 0, .int .i64 0] 46)) (.agg #[.slice ya ma da, .slice yb mb db, .slice yc mc dc_, .int .i64 (lookC l0 l1 a2).2.2.2.1, .int .i64 (lookC l0 l1 a2).2.2.2.2]) (lookC l0 l1 a2) from Kd.In.mono (Kd.In.on HX.out hb) (Nat.le_refl _) hb.size) | skip)
   rw [← hgD]
   clear hgD
   replace HA := Lib.hid (HA.out.on hb)
   replace HBk := Lib.hid (HBk.out.on hb)
   replace BB := Lib.hid (BB.out.trans (hb.mono BB.out.size))
   clear hb
   generalize wn2.alloc (.cells #[.slice none 0 0, .slice none 0 0, .slice none 0 0, .int .i64 0, .int .i64 0] 46) = wn6 at *
   clear hHeld
   refine hK.out _ _ ?_ (fun hHeld => ?_)
   ·
    (try dsimp only); exact ⟨kc KC0.out BB.out, kc KC1.out BB.out, kc KN0.out BB.out⟩
   clear hK K
   (try simp only [Act.put, Row.pB0, Row.pB1, Row.pB2])
   refine wpAnyH_ready (rs := [5]) (by kernel_rfl) (by simp) ?_
   refine AllReadyH.cons (o := ⟨some 104, .call ⟨.value (.func 29), #[.tmp 100, .tmp 102, .tmp 103], #[24, 44, 3]⟩, 52, "exact.go:7067", #[⟨1, .data⟩, ⟨3, .data⟩, ⟨4, .data⟩, ⟨3, .chain⟩], none⟩) rfl (fun K hK => ?_) AllReadyH.nil
   go_simp
   refine (implCacheLookup _ _ l0 l1 a2 _ _ _ rfl rfl HA.out HBk.out (show wtCn l0 ≤ 1100000 by omega) (show bulk l1 ≤ 1200000 by omega)).mono ?_
   rintro e wn7 ⟨v, rfl, ho, hb⟩
   obtain ⟨ya, ma, da, yb, mb, db, yc, mc, dc_, rfl, ho⟩ := kD_shape ho
   have HX := Lib.hid (show kDz.In w.heap.size wn7.heap.size wn7 (.agg #[.slice ya ma da, .slice yb mb db, .slice yc mc dc_, .int .i64 (lookC l0 l1 a2).2.2.2.1, .int .i64 (lookC l0 l1 a2).2.2.2.2]) (lookC l0 l1 a2) from Kd.In.mono ho BB.out.size (Nat.le_refl _)); clear ho
   replace HA := Lib.hid (HA.out.on hb)
   replace HBk := Lib.hid (HBk.out.on hb)
   replace XD := Lib.hid (XD.out.on hb)
   replace BB := Lib.hid (BB.out.trans (hb.mono BB.out.size))
   clear hb
   (try go_wp2_with fail)
   clear hHeld
   refine hK.out _ _ ?_ (fun hHeld => ?_)
   ·
    (try dsimp only); exact ⟨kc KC0.out BB.out, kc KC1.out BB.out, kc KN0.out BB.out⟩
   clear hK K
   (try simp only [Act.put, Row.pB0, Row.pB1, Row.pB2])
   refine wpAnyH_take (i := 6) (oi := ⟨some 98, .move (.tmp 104), 52, "exact.go:7067", #[⟨5, .data⟩], none⟩) (v := ?_) rfl (by kernel_rfl) (by kernel_rfl) (by kernel_rfl) (fun _ _ _ h => h) (Or.inl ⟨by rfl, ?_⟩) (by assumption) ?_
   rotate_left
   ·
    intro w' hSw; (try dsimp only at hSw); first | (go_simp; done) | (go_simp; with_reducible rfl)
   (try simp only [Act.put, Row.pB0, Row.pB1, Row.pB2])
   refine wpAnyH_take (i := 7) (oi := ⟨some 105, .extract (.tmp 98) 0, 46, "exact.go:7067", #[⟨6, .data⟩], none⟩) (v := ?_) rfl (by kernel_rfl) (by kernel_rfl) (by kernel_rfl) (fun _ _ _ h => h) (Or.inl ⟨by rfl, ?_⟩) (by assumption) ?_
   rotate_left
   ·
    intro w' hSw; (try dsimp only at hSw); first | (go_simp; done) | (go_simp; with_reducible rfl)
   (try simp only [Act.put, Row.pB0, Row.pB1, Row.pB2])
   refine wpAnyH_take (i := 8) (oi := ⟨some 106, .extract (.tmp 98) 1, 4, "exact.go:7067", #[⟨6, .data⟩, { on := 10, ground := Ground.gcOnly Departure.lateStores }], none⟩) (v := ?_) rfl (by kernel_rfl) (by kernel_rfl) (by kernel_rfl) (fun _ _ _ h => h) (Or.inl ⟨by rfl, ?_⟩) (by assumption) ?_
   rotate_left
   ·
    intro w' hSw; (try dsimp only at hSw); first | (go_simp; done) | (go_simp; with_reducible rfl)
   (try simp only [Act.put, Row.pB0, Row.pB1, Row.pB2])
   refine wpAnyH_ready (rs := [10]) (by kernel_rfl) (by simp) ?_
   refine AllReadyH.cons (o := ⟨none, .store 46 (.tmp 17) (.tmp 105), 0, "exact.go:7067", #[⟨9, .data⟩, ⟨7, .data⟩, ⟨5, .chain⟩, ⟨0, .phase⟩, ⟨1, .phase⟩, ⟨2, .phase⟩, ⟨3, .phase⟩, ⟨4, .phase⟩, ⟨5, .phase⟩, ⟨6, .phase⟩, ⟨7, .phase⟩, { on := 8, ground := Ground.textOnly Departure.lateStores }, ⟨9, .phase⟩], none⟩) rfl (fun K hK => ?_) AllReadyH.nil
   have r0 := XD.out.cell 0; have r1 := XD.out.cell 1; have r2 := XD.out.cell 2; have r3 := XD.out.cell 3; have r4 := XD.out.cell 4
   have t0 := XD.out.frozen 0; have t1 := XD.out.frozen 1; have t2 := XD.out.frozen 2; have t3 := XD.out.frozen 3; have t4 := XD.out.frozen 4
   go_simp
   clear hHeld
   refine hK.out _ _ ?_ (fun hHeld => ?_)
   ·
    (try dsimp only); exact ⟨cell_five12 (kc KC0.out BB.out) (by have h1 : p < w.heap.size := Ret.cell_lt KC0.out; have h2 := HDW.out; omega), cell_five12 (kc KC1.out BB.out) (by have h1 : p < w.heap.size := Ret.cell_lt KC1.out; have h2 := HDW.out; omega), cell_five12 (kc KN0.out BB.out) (by have h1 : q < w.heap.size := Ret.cell_lt KN0.out; have h2 := HDW.out; omega)⟩
   clear hK K
   (try simp only [Act.put, Row.pB0, Row.pB1, Row.pB2])
   refine wpAnyH_take (i := 11) (oi := ⟨some 18, .assign (.tmp 106), 4, "exact.go:7067", #[⟨8, .data⟩, ⟨10, .chain⟩, ⟨0, .phase⟩, ⟨1, .phase⟩, ⟨2, .phase⟩, ⟨3, .phase⟩, ⟨4, .phase⟩, ⟨5, .phase⟩, ⟨6, .phase⟩, ⟨7, .phase⟩, ⟨8, .phase⟩, ⟨9, .phase⟩, ⟨10, .phase⟩], none⟩) (v := ?_) rfl (by kernel_rfl) (by kernel_rfl) (by kernel_rfl) (fun _ _ _ h => h) (Or.inl ⟨by rfl, ?_⟩) (by assumption) ?_
   rotate_left
   ·
    intro w' hSw; (try dsimp only at hSw); first | (go_simp; done) | (go_simp; with_reducible rfl)
   (try simp only [Act.put, Row.pB0, Row.pB1, Row.pB2])
   refine wpAnyH_done (by kernel_rfl) ?_ _
   exact NoPanic.normal (HQ.out _ _ _ _ _ _ _ _ _ gD ma da mb db mc dc_ ya yb yc _ HDW.out XD.out HX.out BB.out)
  refine AllReadyH.cons (o := ⟨some 17, .alloc 46, 0, "exact.go:7067", #[], none⟩) rfl (fun K hK => ?_) AllReadyH.nil
  go_simp
  have hb : Below wn1.heap.size wn1 (wn1.alloc (.cells #[.slice none 0 0, .slice none 0 0, .slice none 0 0, .int .i64 0, .int .i64 0] 46)) := (Below.refl _ _).alloc (Nat.le_refl _) _
  obtain ⟨gD, hgD⟩ : ∃ g, g = wn1.heap.size := ⟨_, rfl⟩
  have XD := Lib.hid (show Ret.Blk (wn1.alloc (.cells #[.slice none 0 0, .slice none 0 0, .slice none 0 0, .int .i64 0, .int .i64 0] 46)) gD #[.slice none 0 0, .slice none 0 0, .slice none 0 0, .int .i64 0, .int .i64 0] 46 from by rw [hgD]; exact Ret.Blk.new wn1 _ _)
  have HDW := Lib.hid (show w.heap.size ≤ gD from by rw [hgD]; exact BB.out.size)
  (first | replace HX := Lib.hid (show kDz.In w.heap.size (wn1.alloc (.cells #[.slice none 0 0, .slice none 0 0, .slice none 0 0, .int .i64 0, .int .i64 0] 46)).heap.size (wn1.alloc (.cells #[.slice none 0 0, .slice none 0 0, .slice none 0 0, .int .i64 0, .int .i64 0] 46)) (.agg #[.slice ya ma da, .slice yb mb db, .slice yc mc dc_, .int .i64 (lookC l0 l1 a2).2.2.2.1, .int .i64 (lookC l0 l1 a2).2.2.2.2]) (lookC l0 l1 a2) from Kd.In.mono (Kd.In.on HX.out hb) (Nat.le_refl _) hb.size) | skip)
  rw [← hgD]
  clear hgD
  replace HA := Lib.hid (HA.out.on hb)
  replace BB := Lib.hid (BB.out.trans (hb.mono BB.out.size))
  clear hb
  generalize wn1.alloc (.cells #[.slice none 0 0, .slice none 0 0, .slice none 0 0, .int .i64 0, .int .i64 0] 46) = wn9 at *
  clear hHeld
  refine hK.out _ _ ?_ (fun hHeld => ?_)
  ·
   (try dsimp only); exact ⟨kc KC0.out BB.out, kc KC1.out BB.out, kc KN0.out BB.out⟩
  clear hK K
  (try simp only [Act.put, Row.pB0, Row.pB1, Row.pB2])
  refine wpAnyH_ready (rs := [3]) (by kernel_rfl) (by simp) ?_
  refine AllReadyH.cons (o := ⟨some 102, .call ⟨.value (.func 28), #[.tmp 101], #[38]⟩, 44, "exact.go:7067", #[⟨2, .data⟩, ⟨1, .chain⟩], none⟩) rfl (fun K hK => ?_) AllReadyH.nil
  go_simp
  refine (toNK _ l1 _ (H1.out.on BB.out) (by have := Row.bulk_len l1; omega)).mono ?_
  rintro e wn10 ⟨v, rfl, ho, hb⟩
  obtain ⟨xB, nB, cB, rfl, ho⟩ := kN_shape ho
  have HBk := Lib.hid ho.at; clear ho
  replace HA := Lib.hid (HA.out.on hb)
  replace XD := Lib.hid (XD.out.on hb)
  replace BB := Lib.hid (BB.out.trans (hb.mono BB.out.size))
  clear hb
  (try go_wp2_with fail)
  clear hHeld
  refine hK.out _ _ ?_ (fun hHeld => ?_)
  ·
   (try dsimp only); exact ⟨kc KC0.out BB.out, kc KC1.out BB.out, kc KN0.out BB.out⟩
  clear hK K
  (try simp only [Act.put, Row.pB0, Row.pB1, Row.pB2])
  refine wpAnyH_ready (rs := [5]) (by kernel_rfl) (by simp) ?_
  refine AllReadyH.cons (o := ⟨some 104, .call ⟨.value (.func 29), #[.tmp 100, .tmp 102, .tmp 103], #[24, 44, 3]⟩, 52, "exact.go:7067", #[⟨1, .data⟩, ⟨3, .data⟩, ⟨4, .data⟩, ⟨3, .chain⟩], none⟩) rfl (fun K hK => ?_) AllReadyH.nil
  go_simp
  refine (implCacheLookup _ _ l0 l1 a2 _ _ _ rfl rfl HA.out HBk.out (show wtCn l0 ≤ 1100000 by omega) (show bulk l1 ≤ 1200000 by omega)).mono ?_
  rintro e wn11 ⟨v, rfl, ho, hb⟩
  obtain ⟨ya, ma, da, yb, mb, db, yc, mc, dc_, rfl, ho⟩ := kD_shape ho
  have HX := Lib.hid (show kDz.In w.heap.size wn11.heap.size wn11 (.agg #[.slice ya ma da, .slice yb mb db, .slice yc mc dc_, .int .i64 (lookC l0 l1 a2).2.2.2.1, .int .i64 (lookC l0 l1 a2).2.2.2.2]) (lookC l0 l1 a2) from Kd.In.mono ho BB.out.size (Nat.le_refl _)); clear ho
  replace HA := Lib.hid (HA.out.on hb)
  replace XD := Lib.hid (XD.out.on hb)
  replace HBk := Lib.hid (HBk.out.on hb)
  replace BB := Lib.hid (BB.out.trans (hb.mono BB.out.size))
  clear hb
  (try go_wp2_with fail)
  clear hHeld
  refine hK.out _ _ ?_ (fun hHeld => ?_)
  ·
   (try dsimp only); exact ⟨kc KC0.out BB.out, kc KC1.out BB.out, kc KN0.out BB.out⟩
  clear hK K
  (try simp only [Act.put, Row.pB0, Row.pB1, Row.pB2])
  refine wpAnyH_take (i := 6) (oi := ⟨some 98, .move (.tmp 104), 52, "exact.go:7067", #[⟨5, .data⟩], none⟩) (v := ?_) rfl (by kernel_rfl) (by kernel_rfl) (by kernel_rfl) (fun _ _ _ h => h) (Or.inl ⟨by rfl, ?_⟩) (by assumption) ?_
  rotate_left
  ·
   intro w' hSw; (try dsimp only at hSw); first | (go_simp; done) | (go_simp; with_reducible rfl)
  (try simp only [Act.put, Row.pB0, Row.pB1, Row.pB2])
  refine wpAnyH_take (i := 7) (oi := ⟨some 105, .extract (.tmp 98) 0, 46, "exact.go:7067", #[⟨6, .data⟩], none⟩) (v := ?_) rfl (by kernel_rfl) (by kernel_rfl) (by kernel_rfl) (fun _ _ _ h => h) (Or.inl ⟨by rfl, ?_⟩) (by assumption) ?_
  rotate_left
  ·
   intro w' hSw; (try dsimp only at hSw); first | (go_simp; done) | (go_simp; with_reducible rfl)
  (try simp only [Act.put, Row.pB0, Row.pB1, Row.pB2])
  refine wpAnyH_take (i := 8) (oi := ⟨some 106, .extract (.tmp 98) 1, 4, "exact.go:7067", #[⟨6, .data⟩, { on := 10, ground := Ground.gcOnly Departure.lateStores }], none⟩) (v := ?_) rfl (by kernel_rfl) (by kernel_rfl) (by kernel_rfl) (fun _ _ _ h => h) (Or.inl ⟨by rfl, ?_⟩) (by assumption) ?_
  rotate_left
  ·
   intro w' hSw; (try dsimp only at hSw); first | (go_simp; done) | (go_simp; with_reducible rfl)
  (try simp only [Act.put, Row.pB0, Row.pB1, Row.pB2])
  refine wpAnyH_ready (rs := [10]) (by kernel_rfl) (by simp) ?_
  refine AllReadyH.cons (o := ⟨none, .store 46 (.tmp 17) (.tmp 105), 0, "exact.go:7067", #[⟨9, .data⟩, ⟨7, .data⟩, ⟨5, .chain⟩, ⟨0, .phase⟩, ⟨1, .phase⟩, ⟨2, .phase⟩, ⟨3, .phase⟩, ⟨4, .phase⟩, ⟨5, .phase⟩, ⟨6, .phase⟩, ⟨7, .phase⟩, { on := 8, ground := Ground.textOnly Departure.lateStores }, ⟨9, .phase⟩], none⟩) rfl (fun K hK => ?_) AllReadyH.nil
  have r0 := XD.out.cell 0; have r1 := XD.out.cell 1; have r2 := XD.out.cell 2; have r3 := XD.out.cell 3; have r4 := XD.out.cell 4
  have t0 := XD.out.frozen 0; have t1 := XD.out.frozen 1; have t2 := XD.out.frozen 2; have t3 := XD.out.frozen 3; have t4 := XD.out.frozen 4
  go_simp
  clear hHeld
  refine hK.out _ _ ?_ (fun hHeld => ?_)
  ·
   (try dsimp only); exact ⟨cell_five12 (kc KC0.out BB.out) (by have h1 : p < w.heap.size := Ret.cell_lt KC0.out; have h2 := HDW.out; omega), cell_five12 (kc KC1.out BB.out) (by have h1 : p < w.heap.size := Ret.cell_lt KC1.out; have h2 := HDW.out; omega), cell_five12 (kc KN0.out BB.out) (by have h1 : q < w.heap.size := Ret.cell_lt KN0.out; have h2 := HDW.out; omega)⟩
  clear hK K
  (try simp only [Act.put, Row.pB0, Row.pB1, Row.pB2])
  refine wpAnyH_take (i := 11) (oi := ⟨some 18, .assign (.tmp 106), 4, "exact.go:7067", #[⟨8, .data⟩, ⟨10, .chain⟩, ⟨0, .phase⟩, ⟨1, .phase⟩, ⟨2, .phase⟩, ⟨3, .phase⟩, ⟨4, .phase⟩, ⟨5, .phase⟩, ⟨6, .phase⟩, ⟨7, .phase⟩, ⟨8, .phase⟩, ⟨9, .phase⟩, ⟨10, .phase⟩], none⟩) (v := ?_) rfl (by kernel_rfl) (by kernel_rfl) (by kernel_rfl) (fun _ _ _ h => h) (Or.inl ⟨by rfl, ?_⟩) (by assumption) ?_
  rotate_left
  ·
   intro w' hSw; (try dsimp only at hSw); first | (go_simp; done) | (go_simp; with_reducible rfl)
  (try simp only [Act.put, Row.pB0, Row.pB1, Row.pB2])
  refine wpAnyH_done (by kernel_rfl) ?_ _
  exact NoPanic.normal (HQ.out _ _ _ _ _ _ _ _ _ gD ma da mb db mc dc_ ya yb yc _ HDW.out XD.out HX.out BB.out)
 refine AllReadyH.cons (o := ⟨some 17, .alloc 46, 0, "exact.go:7067", #[], none⟩) rfl (fun K hK => ?_) AllReadyH.nil
 go_simp
 have hb : Below wd.heap.size wd (wd.alloc (.cells #[.slice none 0 0, .slice none 0 0, .slice none 0 0, .int .i64 0, .int .i64 0] 46)) := (Below.refl _ _).alloc (Nat.le_refl _) _
 obtain ⟨gD, hgD⟩ : ∃ g, g = wd.heap.size := ⟨_, rfl⟩
 have XD := Lib.hid (show Ret.Blk (wd.alloc (.cells #[.slice none 0 0, .slice none 0 0, .slice none 0 0, .int .i64 0, .int .i64 0] 46)) gD #[.slice none 0 0, .slice none 0 0, .slice none 0 0, .int .i64 0, .int .i64 0] 46 from by rw [hgD]; exact Ret.Blk.new wd _ _)
 have HDW := Lib.hid (show w.heap.size ≤ gD from by rw [hgD]; exact BB.out.size)
 (first | replace HX := Lib.hid (show kDz.In w.heap.size (wd.alloc (.cells #[.slice none 0 0, .slice none 0 0, .slice none 0 0, .int .i64 0, .int .i64 0] 46)).heap.size (wd.alloc (.cells #[.slice none 0 0, .slice none 0 0, .slice none 0 0, .int .i64 0, .int .i64 0] 46)) (.agg #[.slice ya ma da, .slice yb mb db, .slice yc mc dc_, .int .i64 (lookC l0 l1 a2).2.2.2.1, .int .i64 (lookC l0 l1 a2).2.2.2.2]) (lookC l0 l1 a2) from Kd.In.mono (Kd.In.on HX.out hb) (Nat.le_refl _) hb.size) | skip)
 rw [← hgD]
 clear hgD
 replace BB := Lib.hid (BB.out.trans (hb.mono BB.out.size))
 clear hb
 generalize wd.alloc (.cells #[.slice none 0 0, .slice none 0 0, .slice none 0 0, .int .i64 0, .int .i64 0] 46) = wn13 at *
 clear hHeld
 refine hK.out _ _ ?_ (fun hHeld => ?_)
 ·
  (try dsimp only); exact ⟨kc KC0.out BB.out, kc KC1.out BB.out, kc KN0.out BB.out⟩
 clear hK K
 (try simp only [Act.put, Row.pB0, Row.pB1, Row.pB2])
 refine wpAnyH_ready (rs := [1]) (by kernel_rfl) (by simp) ?_
 refine AllReadyH.cons (o := ⟨some 100, .call ⟨.value (.func 18), #[.tmp 99], #[31]⟩, 24, "exact.go:7067", #[⟨0, .data⟩], none⟩) rfl (fun K hK => ?_) AllReadyH.nil
 go_simp
 refine (toContentStoreK _ l0 _ (H0.out.on BB.out) (Nat.le_trans (adCn_big Z0) (by decide))).mono ?_
 rintro e wn14 ⟨v, rfl, ho, hb⟩
 obtain ⟨xA, nA, cA, rfl, ho⟩ := kCn_shape ho
 have HA := Lib.hid ho.at; clear ho
 replace XD := Lib.hid (XD.out.on hb)
 replace BB := Lib.hid (BB.out.trans (hb.mono BB.out.size))
 clear hb
 (try go_wp2_with fail)
 clear hHeld
 refine hK.out _ _ ?_ (fun hHeld => ?_)
 ·
  (try dsimp only); exact ⟨kc KC0.out BB.out, kc KC1.out BB.out, kc KN0.out BB.out⟩
 clear hK K
 (try simp only [Act.put, Row.pB0, Row.pB1, Row.pB2])
 refine wpAnyH_ready (rs := [3]) (by kernel_rfl) (by simp) ?_
 refine AllReadyH.cons (o := ⟨some 102, .call ⟨.value (.func 28), #[.tmp 101], #[38]⟩, 44, "exact.go:7067", #[⟨2, .data⟩, ⟨1, .chain⟩], none⟩) rfl (fun K hK => ?_) AllReadyH.nil
 go_simp
 refine (toNK _ l1 _ (H1.out.on BB.out) (by have := Row.bulk_len l1; omega)).mono ?_
 rintro e wn15 ⟨v, rfl, ho, hb⟩
 obtain ⟨xB, nB, cB, rfl, ho⟩ := kN_shape ho
 have HBk := Lib.hid ho.at; clear ho
 replace XD := Lib.hid (XD.out.on hb)
 replace HA := Lib.hid (HA.out.on hb)
 replace BB := Lib.hid (BB.out.trans (hb.mono BB.out.size))
 clear hb
 (try go_wp2_with fail)
 clear hHeld
 refine hK.out _ _ ?_ (fun hHeld => ?_)
 ·
  (try dsimp only); exact ⟨kc KC0.out BB.out, kc KC1.out BB.out, kc KN0.out BB.out⟩
 clear hK K
 (try simp only [Act.put, Row.pB0, Row.pB1, Row.pB2])
 refine wpAnyH_ready (rs := [5]) (by kernel_rfl) (by simp) ?_
 refine AllReadyH.cons (o := ⟨some 104, .call ⟨.value (.func 29), #[.tmp 100, .tmp 102, .tmp 103], #[24, 44, 3]⟩, 52, "exact.go:7067", #[⟨1, .data⟩, ⟨3, .data⟩, ⟨4, .data⟩, ⟨3, .chain⟩], none⟩) rfl (fun K hK => ?_) AllReadyH.nil
 go_simp
 refine (implCacheLookup _ _ l0 l1 a2 _ _ _ rfl rfl HA.out HBk.out (show wtCn l0 ≤ 1100000 by omega) (show bulk l1 ≤ 1200000 by omega)).mono ?_
 rintro e wn16 ⟨v, rfl, ho, hb⟩
 obtain ⟨ya, ma, da, yb, mb, db, yc, mc, dc_, rfl, ho⟩ := kD_shape ho
 have HX := Lib.hid (show kDz.In w.heap.size wn16.heap.size wn16 (.agg #[.slice ya ma da, .slice yb mb db, .slice yc mc dc_, .int .i64 (lookC l0 l1 a2).2.2.2.1, .int .i64 (lookC l0 l1 a2).2.2.2.2]) (lookC l0 l1 a2) from Kd.In.mono ho BB.out.size (Nat.le_refl _)); clear ho
 replace XD := Lib.hid (XD.out.on hb)
 replace HA := Lib.hid (HA.out.on hb)
 replace HBk := Lib.hid (HBk.out.on hb)
 replace BB := Lib.hid (BB.out.trans (hb.mono BB.out.size))
 clear hb
 (try go_wp2_with fail)
 clear hHeld
 refine hK.out _ _ ?_ (fun hHeld => ?_)
 ·
  (try dsimp only); exact ⟨kc KC0.out BB.out, kc KC1.out BB.out, kc KN0.out BB.out⟩
 clear hK K
 (try simp only [Act.put, Row.pB0, Row.pB1, Row.pB2])
 refine wpAnyH_take (i := 6) (oi := ⟨some 98, .move (.tmp 104), 52, "exact.go:7067", #[⟨5, .data⟩], none⟩) (v := ?_) rfl (by kernel_rfl) (by kernel_rfl) (by kernel_rfl) (fun _ _ _ h => h) (Or.inl ⟨by rfl, ?_⟩) (by assumption) ?_
 rotate_left
 ·
  intro w' hSw; (try dsimp only at hSw); first | (go_simp; done) | (go_simp; with_reducible rfl)
 (try simp only [Act.put, Row.pB0, Row.pB1, Row.pB2])
 refine wpAnyH_take (i := 7) (oi := ⟨some 105, .extract (.tmp 98) 0, 46, "exact.go:7067", #[⟨6, .data⟩], none⟩) (v := ?_) rfl (by kernel_rfl) (by kernel_rfl) (by kernel_rfl) (fun _ _ _ h => h) (Or.inl ⟨by rfl, ?_⟩) (by assumption) ?_
 rotate_left
 ·
  intro w' hSw; (try dsimp only at hSw); first | (go_simp; done) | (go_simp; with_reducible rfl)
 (try simp only [Act.put, Row.pB0, Row.pB1, Row.pB2])
 refine wpAnyH_take (i := 8) (oi := ⟨some 106, .extract (.tmp 98) 1, 4, "exact.go:7067", #[⟨6, .data⟩, { on := 10, ground := Ground.gcOnly Departure.lateStores }], none⟩) (v := ?_) rfl (by kernel_rfl) (by kernel_rfl) (by kernel_rfl) (fun _ _ _ h => h) (Or.inl ⟨by rfl, ?_⟩) (by assumption) ?_
 rotate_left
 ·
  intro w' hSw; (try dsimp only at hSw); first | (go_simp; done) | (go_simp; with_reducible rfl)
 (try simp only [Act.put, Row.pB0, Row.pB1, Row.pB2])
 refine wpAnyH_ready (rs := [10]) (by kernel_rfl) (by simp) ?_
 refine AllReadyH.cons (o := ⟨none, .store 46 (.tmp 17) (.tmp 105), 0, "exact.go:7067", #[⟨9, .data⟩, ⟨7, .data⟩, ⟨5, .chain⟩, ⟨0, .phase⟩, ⟨1, .phase⟩, ⟨2, .phase⟩, ⟨3, .phase⟩, ⟨4, .phase⟩, ⟨5, .phase⟩, ⟨6, .phase⟩, ⟨7, .phase⟩, { on := 8, ground := Ground.textOnly Departure.lateStores }, ⟨9, .phase⟩], none⟩) rfl (fun K hK => ?_) AllReadyH.nil
 have r0 := XD.out.cell 0; have r1 := XD.out.cell 1; have r2 := XD.out.cell 2; have r3 := XD.out.cell 3; have r4 := XD.out.cell 4
 have t0 := XD.out.frozen 0; have t1 := XD.out.frozen 1; have t2 := XD.out.frozen 2; have t3 := XD.out.frozen 3; have t4 := XD.out.frozen 4
 go_simp
 clear hHeld
 refine hK.out _ _ ?_ (fun hHeld => ?_)
 ·
  (try dsimp only); exact ⟨cell_five12 (kc KC0.out BB.out) (by have h1 : p < w.heap.size := Ret.cell_lt KC0.out; have h2 := HDW.out; omega), cell_five12 (kc KC1.out BB.out) (by have h1 : p < w.heap.size := Ret.cell_lt KC1.out; have h2 := HDW.out; omega), cell_five12 (kc KN0.out BB.out) (by have h1 : q < w.heap.size := Ret.cell_lt KN0.out; have h2 := HDW.out; omega)⟩
 clear hK K
 (try simp only [Act.put, Row.pB0, Row.pB1, Row.pB2])
 refine wpAnyH_take (i := 11) (oi := ⟨some 18, .assign (.tmp 106), 4, "exact.go:7067", #[⟨8, .data⟩, ⟨10, .chain⟩, ⟨0, .phase⟩, ⟨1, .phase⟩, ⟨2, .phase⟩, ⟨3, .phase⟩, ⟨4, .phase⟩, ⟨5, .phase⟩, ⟨6, .phase⟩, ⟨7, .phase⟩, ⟨8, .phase⟩, ⟨9, .phase⟩, ⟨10, .phase⟩], none⟩) (v := ?_) rfl (by kernel_rfl) (by kernel_rfl) (by kernel_rfl) (fun _ _ _ h => h) (Or.inl ⟨by rfl, ?_⟩) (by assumption) ?_
 rotate_left
 ·
  intro w' hSw; (try dsimp only at hSw); first | (go_simp; done) | (go_simp; with_reducible rfl)
 (try simp only [Act.put, Row.pB0, Row.pB1, Row.pB2])
 refine wpAnyH_done (by kernel_rfl) ?_ _
 exact NoPanic.normal (HQ.out _ _ _ _ _ _ _ _ _ gD ma da mb db mc dc_ ya yb yc _ HDW.out XD.out HX.out BB.out)
set_option maxRecDepth 100000 in
set_option maxHeartbeats 4000000 in
theorem implregR2 {Q : Exit → Act → World → Prop} {v0 v1 v5 v6 v7 v8 v9 v10 v11 v12 v13 v14 v15 v16 v17 v18 v19 v20 v21 v22 v23 v24 v25 v26 v27 v28 v29 v30 v31 v32 v33 v34 v35 v36 v37 v38 v39 v40 v41 v42 v43 v44 v45 v46 v47 v48 v49 v50 v51 v52 v53 v54 v55 v56 v57 v58 v59 v60 v61 v62 v63 v64 v65 v66 v67 v68 v69 v70 v71 v72 v73 v74 v75 v76 v77 v78 v79 v80 v81 v82 v83 v84 v85 v86 v87 v88 v89 v90 v91 v92 v93 v94 v95 v96 v97 v98 v99 v100 v101 v102 v103 v104 v105 v106 v107 v108 v109 v110 v111 v112 v113 v114 v115 v116 v117 v118 v119 v120 v121 v122 v123 : Value} {w : World} {p q nl cl nn cn : Nat} {xl xn : Option Addr} {l0 : Cnt} {l1 : List ByteArray} {a2 : Int} (H0 : Hid (kCn.At w (.agg #[.int .i64 l0.1, .slice xl nl cl]) l0)) (H1 : Hid (kN.At w (.agg #[.slice xn nn cn]) l1)) (Z0 : wtCn l0 ≤ 1048576) (Z1 : bulk l1 ≤ 1048576) (KC0 : Hid (w.cell? ⟨p, 0, none⟩ = some (.int .i64 l0.1))) (KC1 : Hid (w.cell? ⟨p, 1, none⟩ = some (.slice xl nl cl))) (KN0 : Hid (w.cell? ⟨q, 0, none⟩ = some (.slice xn nn cn)))
    (hQ : ∀ (u98 u99 u100 u101 u102 u103 u104 u105 u106 : Value) (gD ma da mb db mc dc_ : Nat) (ya yb yc : Option Addr) (w2 : World), Below w.heap.size w w2 → kDz.In w.heap.size w2.heap.size w2 (.agg #[.slice ya ma da, .slice yb mb db, .slice yc mc dc_, .int .i64 (lookC l0 l1 a2).2.2.2.1, .int .i64 (lookC l0 l1 a2).2.2.2.2]) (lookC l0 l1 a2) → Ret.Blk w2 gD #[.slice ya ma da, .slice yb mb db, .slice yc mc dc_, .int .i64 (lookC l0 l1 a2).2.2.2.1, .int .i64 (lookC l0 l1 a2).2.2.2.2] 46 → w.heap.size ≤ gD → gD < w2.heap.size → Q .normal ⟨#[v0, v1, .int .i64 a2, .pointer (some ⟨p, 0, none⟩), .pointer (some ⟨q, 0, none⟩), v5, v6, v7, v8, v9, v10, v11, v12, v13, v14, v15, v16, .pointer (some ⟨gD, 0, none⟩), .bool (lookOk l0 l1 a2), v19, v20, v21, v22, v23, v24, v25, v26, v27, v28, v29, v30, v31, v32, v33, v34, v35, v36, v37, v38, v39, v40, v41, v42, v43, v44, v45, v46, v47, v48, v49, v50, v51, v52, v53, v54, v55, v56, v57, v58, v59, v60, v61, v62, v63, v64, v65, v66, v67, v68, v69, v70, v71, v72, v73, v74, v75, v76, v77, v78, v79, v80, v81, v82, v83, v84, v85, v86, v87, v88, v89, v90, v91, v92, v93, v94, v95, v96, v97, u98, u99, u100, u101, u102, u103, u104, u105, u106, v107, v108, v109, v110, v111, v112, v113, v114, v115, v116, v117, v118, v119, v120, v121, v122, v123], []⟩ w2) :
    (Code.region 31 #[{ dst := some 99, op := Op.load 31 (Operand.tmp 3), type := 31, pos := "exact.go:7067", after := #[], guard := none },
      { dst := some 100, op := Op.call { callee := Callee.value (Operand.func 18), args := #[Operand.tmp 99], argTypes := #[31] }, type := 24, pos := "exact.go:7067", after := #[{ on := 0, ground := Ground.data }], guard := none },
      { dst := some 101, op := Op.load 38 (Operand.tmp 4), type := 38, pos := "exact.go:7067", after := #[], guard := none },
      { dst := some 102, op := Op.call { callee := Callee.value (Operand.func 28), args := #[Operand.tmp 101], argTypes := #[38] }, type := 44, pos := "exact.go:7067", after := #[{ on := 2, ground := Ground.data }, { on := 1, ground := Ground.chain }], guard := none },
      { dst := some 103, op := Op.move (Operand.tmp 2), type := 3, pos := "exact.go:7067", after := #[], guard := none },
      { dst := some 104, op := Op.call { callee := Callee.value (Operand.func 29), args := #[Operand.tmp 100, Operand.tmp 102, Operand.tmp 103], argTypes := #[24, 44, 3] }, type := 52, pos := "exact.go:7067", after := #[{ on := 1, ground := Ground.data }, { on := 3, ground := Ground.data }, { on := 4, ground := Ground.data }, { on := 3, ground := Ground.chain }], guard := none },
      { dst := some 98, op := Op.move (Operand.tmp 104), type := 52, pos := "exact.go:7067", after := #[{ on := 5, ground := Ground.data }], guard := none },
      { dst := some 105, op := Op.extract (Operand.tmp 98) 0, type := 46, pos := "exact.go:7067", after := #[{ on := 6, ground := Ground.data }], guard := none },
      { dst := some 106, op := Op.extract (Operand.tmp 98) 1, type := 4, pos := "exact.go:7067", after := #[{ on := 6, ground := Ground.data }, { on := 10, ground := Ground.gcOnly Departure.lateStores }], guard := none },
      { dst := some 17, op := Op.alloc 46, type := 0, pos := "exact.go:7067", after := #[], guard := none },
      { dst := none, op := Op.store 46 (Operand.tmp 17) (Operand.tmp 105), type := 0, pos := "exact.go:7067", after := #[{ on := 9, ground := Ground.data }, { on := 7, ground := Ground.data }, { on := 5, ground := Ground.chain }, { on := 0, ground := Ground.phase }, { on := 1, ground := Ground.phase }, { on := 2, ground := Ground.phase }, { on := 3, ground := Ground.phase }, { on := 4, ground := Ground.phase }, { on := 5, ground := Ground.phase }, { on := 6, ground := Ground.phase }, { on := 7, ground := Ground.phase }, { on := 8, ground := Ground.textOnly Departure.lateStores }, { on := 9, ground := Ground.phase }], guard := none },
      { dst := some 18, op := Op.assign (Operand.tmp 106), type := 4, pos := "exact.go:7067", after := #[{ on := 8, ground := Ground.data }, { on := 10, ground := Ground.chain }, { on := 0, ground := Ground.phase }, { on := 1, ground := Ground.phase }, { on := 2, ground := Ground.phase }, { on := 3, ground := Ground.phase }, { on := 4, ground := Ground.phase }, { on := 5, ground := Ground.phase }, { on := 6, ground := Ground.phase }, { on := 7, ground := Ground.phase }, { on := 8, ground := Ground.phase }, { on := 9, ground := Ground.phase }, { on := 10, ground := Ground.phase }], guard := none }] true).wp Try.prog Q ⟨#[v0, v1, .int .i64 a2, .pointer (some ⟨p, 0, none⟩), .pointer (some ⟨q, 0, none⟩), v5, v6, v7, v8, v9, v10, v11, v12, v13, v14, v15, v16, v17, v18, v19, v20, v21, v22, v23, v24, v25, v26, v27, v28, v29, v30, v31, v32, v33, v34, v35, v36, v37, v38, v39, v40, v41, v42, v43, v44, v45, v46, v47, v48, v49, v50, v51, v52, v53, v54, v55, v56, v57, v58, v59, v60, v61, v62, v63, v64, v65, v66, v67, v68, v69, v70, v71, v72, v73, v74, v75, v76, v77, v78, v79, v80, v81, v82, v83, v84, v85, v86, v87, v88, v89, v90, v91, v92, v93, v94, v95, v96, v97, v98, v99, v100, v101, v102, v103, v104, v105, v106, v107, v108, v109, v110, v111, v112, v113, v114, v115, v116, v117, v118, v119, v120, v121, v122, v123], []⟩ w := by
  refine implR20 H0 H1 Z0 Z1 KC0 KC1 KN0 ?_
  intro u98 u99 u100 u101 u102 u103 u104 u105 u106 gD ma da mb db mc dc_ ya yb yc wx hgd hxd hin hb
  obtain ⟨h1, h2, h3⟩ := five_facts12 (a := .slice ya ma da) (b := .slice yb mb db) (c := .slice yc mc dc_) (d := .int .i64 (lookC l0 l1 a2).2.2.2.1) (e := .int .i64 (lookC l0 l1 a2).2.2.2.2) hgd (Nat.le_refl _) hxd hin hb
  exact hQ _ _ _ _ _ _ _ _ _ gD ma da mb db mc dc_ ya yb yc _ h1 h2 h3 hgd (by rw [size_five12]; exact hxd.lt)
end Go.Proofs.Ythfljbbigpophaa.Row
/- Regions of the exact law on Touch: arguments copied, the call, the result laid in a variable, whatever order is drawn. No conditions. -/
namespace Go.Proofs.Ythfljbbigpophaa.Row
open Go.ChangeShapes Go.WideShapes Go.ChangeAt Go.RowKit Go.Instr
set_option linter.unusedVariables false
set_option maxRecDepth 100000
set_option maxRecDepth 100000 in
set_option maxHeartbeats 4000000 in
theorem specR30 {Q : Exit → Act → World → Prop} {v0 v1 v5 v6 v7 v8 v9 v10 v11 v12 v13 v14 v15 v16 v17 v18 v19 v20 v21 v22 v23 v24 v25 v26 v27 v28 v29 v30 v31 v32 v33 v34 v35 v36 v37 v38 v39 v40 v41 v42 v43 v44 v45 v46 v47 v48 v49 v50 v51 v52 v53 v54 v55 v56 v57 v58 v59 v60 v61 v62 v63 v64 v65 v66 v67 v68 v69 v70 v71 v72 v73 v74 v75 v76 v77 v78 v79 v80 v81 v82 v83 v84 v85 v86 v87 v88 v89 v90 v91 v92 v93 v94 v95 v96 : Value} {w : World} {p q nl cl nn cn : Nat} {xl xn : Option Addr} {l0 : Cnt} {l1 : List ByteArray} {a2 : Int} (H0 : Hid (kCn.At w (.agg #[.int .i64 l0.1, .slice xl nl cl]) l0)) (H1 : Hid (kN.At w (.agg #[.slice xn nn cn]) l1)) (Z0 : wtCn l0 ≤ 1048576) (Z1 : bulk l1 ≤ 1048576) (KC0 : Hid (w.cell? ⟨p, 0, none⟩ = some (.int .i64 l0.1))) (KC1 : Hid (w.cell? ⟨p, 1, none⟩ = some (.slice xl nl cl))) (KN0 : Hid (w.cell? ⟨q, 0, none⟩ = some (.slice xn nn cn)))
  (hQ : ∀ (u26 u27 u28 u29 u30 u31 : Value) (gD mb db : Nat) (yb : Option Addr)  (wx : World), w.heap.size ≤ gD → Ret.Blk wx gD #[.int .i64 0, .slice none 0 0] 24 → kCn.In w.heap.size wx.heap.size wx (.agg #[.int .i64 (touchC l0 l1 a2).1, .slice yb mb db]) (touchC l0 l1 a2) → Below w.heap.size w wx → Q .normal ⟨#[v0, v1, .int .i64 a2, .pointer (some ⟨p, 0, none⟩), .pointer (some ⟨q, 0, none⟩), v5, v6, v7, .pointer (some ⟨gD, 0, none⟩), v9, v10, v11, v12, v13, v14, v15, v16, v17, v18, v19, v20, v21, v22, v23, v24, v25, u26, u27, u28, u29, u30, u31, v32, v33, v34, v35, v36, v37, v38, v39, v40, v41, v42, v43, v44, v45, v46, v47, v48, v49, v50, v51, v52, v53, v54, v55, v56, v57, v58, v59, v60, v61, v62, v63, v64, v65, v66, v67, v68, v69, v70, v71, v72, v73, v74, v75, v76, v77, v78, v79, v80, v81, v82, v83, v84, v85, v86, v87, v88, v89, v90, v91, v92, v93, v94, v95, v96], []⟩ (((wx).setCell ⟨gD, 0, none⟩ (.int .i64 (touchC l0 l1 a2).1)).setCell ⟨gD, 1, none⟩ (.slice yb mb db))) :
  (Code.region 8 #[⟨some 26, .load 31 (.tmp 3), 31, "exact.go:7093", #[], none⟩,
   ⟨some 27, .call ⟨.value (.func 18), #[.tmp 26], #[31]⟩, 24, "exact.go:7093", #[⟨0, .data⟩], none⟩,
   ⟨some 28, .load 38 (.tmp 4), 38, "exact.go:7093", #[], none⟩,
   ⟨some 29, .call ⟨.value (.func 28), #[.tmp 28], #[38]⟩, 44, "exact.go:7093", #[⟨2, .data⟩, ⟨1, .chain⟩], none⟩,
   ⟨some 30, .move (.tmp 2), 3, "exact.go:7093", #[], none⟩,
   ⟨some 31, .call ⟨.value (.func 33), #[.tmp 27, .tmp 29, .tmp 30], #[24, 44, 3]⟩, 24, "exact.go:7093", #[⟨1, .data⟩, ⟨3, .data⟩, ⟨4, .data⟩, ⟨3, .chain⟩], none⟩,
   ⟨some 8, .alloc 24, 0, "exact.go:7093", #[], none⟩,
   ⟨none, .store 24 (.tmp 8) (.tmp 31), 0, "exact.go:7093", #[⟨6, .data⟩, ⟨5, .data⟩, ⟨5, .chain⟩, ⟨0, .phase⟩, ⟨1, .phase⟩, ⟨2, .phase⟩, ⟨3, .phase⟩, ⟨4, .phase⟩, ⟨5, .phase⟩, ⟨6, .phase⟩], none⟩] true).wp Try.prog Q ⟨#[v0, v1, .int .i64 a2, .pointer (some ⟨p, 0, none⟩), .pointer (some ⟨q, 0, none⟩), v5, v6, v7, v8, v9, v10, v11, v12, v13, v14, v15, v16, v17, v18, v19, v20, v21, v22, v23, v24, v25, v26, v27, v28, v29, v30, v31, v32, v33, v34, v35, v36, v37, v38, v39, v40, v41, v42, v43, v44, v45, v46, v47, v48, v49, v50, v51, v52, v53, v54, v55, v56, v57, v58, v59, v60, v61, v62, v63, v64, v65, v66, v67, v68, v69, v70, v71, v72, v73, v74, v75, v76, v77, v78, v79, v80, v81, v82, v83, v84, v85, v86, v87, v88, v89, v90, v91, v92, v93, v94, v95, v96], []⟩ w := by
 have HQ := Lib.hid hQ; clear hQ
 have hdr : Below w.heap.size w w.drew := (Below.refl _ _).drew
 have BB := Lib.hid hdr
 refine wp_region_noPanic ?_
 refine wp_region_held_drew (S := (fun w' => w'.cell? ⟨p, 0, none⟩ = some (.int .i64 l0.1) ∧ w'.cell? ⟨p, 1, none⟩ = some (.slice xl nl cl) ∧ w'.cell? ⟨q, 0, none⟩ = some (.slice xn nn cn))) (by kernel_rfl) ?_ (fun hHeld => ?_)
 ·
  exact ⟨kc KC0.out BB.out, kc KC1.out BB.out, kc KN0.out BB.out⟩
 clear hdr
 generalize w.drew = wd at *
 refine wpAnyH_take (i := 0) (oi := ⟨some 26, .load 31 (.tmp 3), 31, "exact.go:7093", #[], none⟩) (v := ?_) rfl (by kernel_rfl) (by kernel_rfl) (by kernel_rfl) (fun _ _ _ h => h) (Or.inl ⟨by rfl, ?_⟩) (by assumption) ?_
 rotate_left
 ·
  intro w' hSw; (try dsimp only at hSw); first | (go_simp; done) | (go_simp; with_reducible rfl)
 (try simp only [Act.put, Row.pB0, Row.pB1, Row.pB2])
 refine wpAnyH_take (i := 2) (oi := ⟨some 28, .load 38 (.tmp 4), 38, "exact.go:7093", #[], none⟩) (v := ?_) rfl (by kernel_rfl) (by kernel_rfl) (by kernel_rfl) (fun _ _ _ h => h) (Or.inl ⟨by rfl, ?_⟩) (by assumption) ?_
 rotate_left
 ·
  intro w' hSw; (try dsimp only at hSw); first | (go_simp; done) | (go_simp; with_reducible rfl)
 (try simp only [Act.put, Row.pB0, Row.pB1, Row.pB2])
 refine wpAnyH_take (i := 4) (oi := ⟨some 30, .move (.tmp 2), 3, "exact.go:7093", #[], none⟩) (v := ?_) rfl (by kernel_rfl) (by kernel_rfl) (by kernel_rfl) (fun _ _ _ h => h) (Or.inl ⟨by rfl, ?_⟩) (by assumption) ?_
 rotate_left
 ·
  intro w' hSw; (try dsimp only at hSw); first | (go_simp; done) | (go_simp; with_reducible rfl)
 (try simp only [Act.put, Row.pB0, Row.pB1, Row.pB2])
 refine wpAnyH_ready (rs := [1, 6]) (by kernel_rfl) (by simp) ?_
 refine AllReadyH.cons (o := ⟨some 27, .call ⟨.value (.func 18), #[.tmp 26], #[31]⟩, 24, "exact.go:7093", #[⟨0, .data⟩], none⟩) rfl (fun K hK => ?_) ?_
 ·
  go_simp
  refine (toContentStoreK _ l0 _ (H0.out.on BB.out) (Nat.le_trans (adCn_big Z0) (by decide))).mono ?_
  rintro e wn1 ⟨v, rfl, ho, hb⟩
  obtain ⟨xA, nA, cA, rfl, ho⟩ := kCn_shape ho
  have HA := Lib.hid ho.at; clear ho
  replace BB := Lib.hid (BB.out.trans (hb.mono BB.out.size))
  clear hb
  (try go_wp2_with fail)
  clear hHeld
  refine hK.out _ _ ?_ (fun hHeld => ?_)
  ·
   (try dsimp only); exact ⟨kc KC0.out BB.out, kc KC1.out BB.out, kc KN0.out BB.out⟩
  clear hK K
  (try simp only [Act.put, Row.pB0, Row.pB1, Row.pB2])
  refine wpAnyH_ready (rs := [3, 6]) (by kernel_rfl) (by simp) ?_
  refine AllReadyH.cons (o := ⟨some 29, .call ⟨.value (.func 28), #[.tmp 28], #[38]⟩, 44, "exact.go:7093", #[⟨2, .data⟩, ⟨1, .chain⟩], none⟩) rfl (fun K hK => ?_) ?_
  ·
   go_simp
   refine (toNK _ l1 _ (H1.out.on BB.out) (by have := Row.bulk_len l1; omega)).mono ?_
   rintro e wn2 ⟨v, rfl, ho, hb⟩
   obtain ⟨xB, nB, cB, rfl, ho⟩ := kN_shape ho
   have HBk := Lib.hid ho.at; clear ho
   replace HA := Lib.hid (HA.out.on hb)
   replace BB := Lib.hid (BB.out.trans (hb.mono BB.out.size))
   clear hb
   (try go_wp2_with fail)
   clear hHeld
   refine hK.out _ _ ?_ (fun hHeld => ?_)
   ·
    (try dsimp only); exact ⟨kc KC0.out BB.out, kc KC1.out BB.out, kc KN0.out BB.out⟩
   clear hK K
   (try simp only [Act.put, Row.pB0, Row.pB1, Row.pB2])
   refine wpAnyH_ready (rs := [5, 6]) (by kernel_rfl) (by simp) ?_
   refine AllReadyH.cons (o := ⟨some 31, .call ⟨.value (.func 33), #[.tmp 27, .tmp 29, .tmp 30], #[24, 44, 3]⟩, 24, "exact.go:7093", #[⟨1, .data⟩, ⟨3, .data⟩, ⟨4, .data⟩, ⟨3, .chain⟩], none⟩) rfl (fun K hK => ?_) ?_
   ·
    go_simp
    refine (specTouch _ _ l0 l1 a2 _ HA.out HBk.out (show wtCn l0 ≤ 1100000 by omega) (show bulk l1 ≤ 1200000 by omega)).mono ?_
    rintro e wn3 ⟨v, rfl, ho, hb⟩
    obtain ⟨yb, mb, db, rfl, ho⟩ := kCn_shape ho
    have HX := Lib.hid (show kCn.In w.heap.size wn3.heap.size wn3 (.agg #[.int .i64 (touchC l0 l1 a2).1, .slice yb mb db]) (touchC l0 l1 a2) from Kd.In.mono ho BB.out.size (Nat.le_refl _)); clear ho
    replace HA := Lib.hid (HA.out.on hb)
    replace HBk := Lib.hid (HBk.out.on hb)
    replace BB := Lib.hid (BB.out.trans (hb.mono BB.out.size))
    clear hb
    (try go_wp2_with fail)
    clear hHeld
    refine hK.out _ _ ?_ (fun hHeld => ?_)
    ·
     (try dsimp only); exact ⟨kc KC0.out BB.out, kc KC1.out BB.out, kc KN0.out BB.out⟩
    clear hK K
    (try simp only [Act.put, Row.pB0, Row.pB1, Row.pB2])
    refine wpAnyH_ready (rs := [6]) (by kernel_rfl) (by simp) ?_
    refine AllReadyH.cons (o := ⟨some 8, .alloc 24, 0, "exact.go:7093", #[], none⟩) rfl (fun K hK => ?_) AllReadyH.nil
    go_simp
    have hb : Below wn3.heap.size wn3 (wn3.alloc (.cells #[.int .i64 0, .slice none 0 0] 24)) := (Below.refl _ _).alloc (Nat.le_refl _) _
    obtain ⟨gD, hgD⟩ : ∃ g, g = wn3.heap.size := ⟨_, rfl⟩
    have XD := Lib.hid (show Ret.Blk (wn3.alloc (.cells #[.int .i64 0, .slice none 0 0] 24)) gD #[.int .i64 0, .slice none 0 0] 24 from by rw [hgD]; exact Ret.Blk.new wn3 _ _)
    have HDW := Lib.hid (show w.heap.size ≤ gD from by rw [hgD]; exact BB.out.size)
    (first | replace HX := Lib.hid (show kCn.In w.heap.size (wn3.alloc (.cells #[.int .i64 0, .slice none 0 0] 24)).heap.size (wn3.alloc (.cells #[.int .i64 0, .slice none 0 0] 24)) (.agg #[.int .i64 (touchC l0 l1 a2).1, .slice yb mb db]) (touchC l0 l1 a2) from Kd.In.mono (Kd.In.on HX.out hb) (Nat.le_refl _) hb.size) | skip)
    rw [← hgD]
    clear hgD
    replace HA := Lib.hid (HA.out.on hb)
    replace HBk := Lib.hid (HBk.out.on hb)
    replace BB := Lib.hid (BB.out.trans (hb.mono BB.out.size))
    clear hb
    generalize wn3.alloc (.cells #[.int .i64 0, .slice none 0 0] 24) = wn4 at *
    clear hHeld
    refine hK.out _ _ ?_ (fun hHeld => ?_)
    ·
     (try dsimp only); exact ⟨kc KC0.out BB.out, kc KC1.out BB.out, kc KN0.out BB.out⟩
    clear hK K
    (try simp only [Act.put, Row.pB0, Row.pB1, Row.pB2])
    refine wpAnyH_ready (rs := [7]) (by kernel_rfl) (by simp) ?_
    refine AllReadyH.cons (o := ⟨none, .store 24 (.tmp 8) (.tmp 31), 0, "exact.go:7093", #[⟨6, .data⟩, ⟨5, .data⟩, ⟨5, .chain⟩, ⟨0, .phase⟩, ⟨1, .phase⟩, ⟨2, .phase⟩, ⟨3, .phase⟩, ⟨4, .phase⟩, ⟨5, .phase⟩, ⟨6, .phase⟩], none⟩) rfl (fun K hK => ?_) AllReadyH.nil
    have r0 := XD.out.cell 0; have r1 := XD.out.cell 1
    have t0 := XD.out.frozen 0; have t1 := XD.out.frozen 1
    go_simp
    clear hHeld
    refine hK.out _ _ ?_ (fun hHeld => ?_)
    ·
     (try dsimp only); exact ⟨cell_two (kc KC0.out BB.out) (by have h1 : p < w.heap.size := Ret.cell_lt KC0.out; have h2 := HDW.out; omega), cell_two (kc KC1.out BB.out) (by have h1 : p < w.heap.size := Ret.cell_lt KC1.out; have h2 := HDW.out; omega), cell_two (kc KN0.out BB.out) (by have h1 : q < w.heap.size := Ret.cell_lt KN0.out; have h2 := HDW.out; omega)⟩
    clear hK K
    (try simp only [Act.put, Row.pB0, Row.pB1, Row.pB2])
    refine wpAnyH_done (by kernel_rfl) ?_ _
    exact NoPanic.normal (HQ.out _ _ _ _ _ _ gD mb db yb _ HDW.out XD.out HX.out BB.out)
   refine AllReadyH.cons (o := ⟨some 8, .alloc 24, 0, "exact.go:7093", #[], none⟩) rfl (fun K hK => ?_) AllReadyH.nil
   go_simp
   have hb : Below wn2.heap.size wn2 (wn2.alloc (.cells #[.int .i64 0, .slice none 0 0] 24)) := (Below.refl _ _).alloc (Nat.le_refl _) _
   obtain ⟨gD, hgD⟩ : ∃ g, g = wn2.heap.size := ⟨_, rfl⟩
   have XD := Lib.hid (show Ret.Blk (wn2.alloc (.cells #[.int .i64 0, .slice none 0 0] 24)) gD #[.int .i64 0, .slice none 0 0] 24 from by rw [hgD]; exact Ret.Blk.new wn2 _ _)
   have HDW := Lib.hid (show w.heap.size ≤ gD from by rw [hgD]; exact BB.out.size)
   (first | replace HX := Lib.hid (show kCn.In w.heap.size (wn2.alloc (.cells #[.int .i64 0, .slice none 0 0] 24)).heap.size (wn2.alloc (.cells #[.int .i64 0, .slice none 0 0] 24)) (.agg #[.int .i64 (touchC l0 l1 a2).1, .slice yb mb db]) (touchC l0 l1 a2) from Kd.In.mono (Kd.In.on HX.out hb) (Nat.le_refl _) hb.size) | skip)
   rw [← hgD]
   clear hgD
   replace HA := Lib.hid (HA.out.on hb)
   replace HBk := Lib.hid (HBk.out.on hb)
   replace BB := Lib.hid (BB.out.trans (hb.mono BB.out.size))
   clear hb
   generalize wn2.alloc (.cells #[.int .i64 0, .slice none 0 0] 24) = wn6 at *
   clear hHeld
   refine hK.out _ _ ?_ (fun hHeld => ?_)
   ·
    (try dsimp only); exact ⟨kc KC0.out BB.out, kc KC1.out BB.out, kc KN0.out BB.out⟩
   clear hK K
   (try simp only [Act.put, Row.pB0, Row.pB1, Row.pB2])
   refine wpAnyH_ready (rs := [5]) (by kernel_rfl) (by simp) ?_
   refine AllReadyH.cons (o := ⟨some 31, .call ⟨.value (.func 33), #[.tmp 27, .tmp 29, .tmp 30], #[24, 44, 3]⟩, 24, "exact.go:7093", #[⟨1, .data⟩, ⟨3, .data⟩, ⟨4, .data⟩, ⟨3, .chain⟩], none⟩) rfl (fun K hK => ?_) AllReadyH.nil
   go_simp
   refine (specTouch _ _ l0 l1 a2 _ HA.out HBk.out (show wtCn l0 ≤ 1100000 by omega) (show bulk l1 ≤ 1200000 by omega)).mono ?_
   rintro e wn7 ⟨v, rfl, ho, hb⟩
   obtain ⟨yb, mb, db, rfl, ho⟩ := kCn_shape ho
   have HX := Lib.hid (show kCn.In w.heap.size wn7.heap.size wn7 (.agg #[.int .i64 (touchC l0 l1 a2).1, .slice yb mb db]) (touchC l0 l1 a2) from Kd.In.mono ho BB.out.size (Nat.le_refl _)); clear ho
   replace HA := Lib.hid (HA.out.on hb)
   replace HBk := Lib.hid (HBk.out.on hb)
   replace XD := Lib.hid (XD.out.on hb)
   replace BB := Lib.hid (BB.out.trans (hb.mono BB.out.size))
   clear hb
   (try go_wp2_with fail)
   clear hHeld
   refine hK.out _ _ ?_ (fun hHeld => ?_)
   ·
    (try dsimp only); exact ⟨kc KC0.out BB.out, kc KC1.out BB.out, kc KN0.out BB.out⟩
   clear hK K
   (try simp only [Act.put, Row.pB0, Row.pB1, Row.pB2])
   refine wpAnyH_ready (rs := [7]) (by kernel_rfl) (by simp) ?_
   refine AllReadyH.cons (o := ⟨none, .store 24 (.tmp 8) (.tmp 31), 0, "exact.go:7093", #[⟨6, .data⟩, ⟨5, .data⟩, ⟨5, .chain⟩, ⟨0, .phase⟩, ⟨1, .phase⟩, ⟨2, .phase⟩, ⟨3, .phase⟩, ⟨4, .phase⟩, ⟨5, .phase⟩, ⟨6, .phase⟩], none⟩) rfl (fun K hK => ?_) AllReadyH.nil
   have r0 := XD.out.cell 0; have r1 := XD.out.cell 1
   have t0 := XD.out.frozen 0; have t1 := XD.out.frozen 1
   go_simp
   clear hHeld
   refine hK.out _ _ ?_ (fun hHeld => ?_)
   ·
    (try dsimp only); exact ⟨cell_two (kc KC0.out BB.out) (by have h1 : p < w.heap.size := Ret.cell_lt KC0.out; have h2 := HDW.out; omega), cell_two (kc KC1.out BB.out) (by have h1 : p < w.heap.size := Ret.cell_lt KC1.out; have h2 := HDW.out; omega), cell_two (kc KN0.out BB.out) (by have h1 : q < w.heap.size := Ret.cell_lt KN0.out; have h2 := HDW.out; omega)⟩
   clear hK K
   (try simp only [Act.put, Row.pB0, Row.pB1, Row.pB2])
   refine wpAnyH_done (by kernel_rfl) ?_ _
   exact NoPanic.normal (HQ.out _ _ _ _ _ _ gD mb db yb _ HDW.out XD.out HX.out BB.out)
  refine AllReadyH.cons (o := ⟨some 8, .alloc 24, 0, "exact.go:7093", #[], none⟩) rfl (fun K hK => ?_) AllReadyH.nil
  go_simp
  have hb : Below wn1.heap.size wn1 (wn1.alloc (.cells #[.int .i64 0, .slice none 0 0] 24)) := (Below.refl _ _).alloc (Nat.le_refl _) _
  obtain ⟨gD, hgD⟩ : ∃ g, g = wn1.heap.size := ⟨_, rfl⟩
  have XD := Lib.hid (show Ret.Blk (wn1.alloc (.cells #[.int .i64 0, .slice none 0 0] 24)) gD #[.int .i64 0, .slice none 0 0] 24 from by rw [hgD]; exact Ret.Blk.new wn1 _ _)
  have HDW := Lib.hid (show w.heap.size ≤ gD from by rw [hgD]; exact BB.out.size)
  (first | replace HX := Lib.hid (show kCn.In w.heap.size (wn1.alloc (.cells #[.int .i64 0, .slice none 0 0] 24)).heap.size (wn1.alloc (.cells #[.int .i64 0, .slice none 0 0] 24)) (.agg #[.int .i64 (touchC l0 l1 a2).1, .slice yb mb db]) (touchC l0 l1 a2) from Kd.In.mono (Kd.In.on HX.out hb) (Nat.le_refl _) hb.size) | skip)
  rw [← hgD]
  clear hgD
  replace HA := Lib.hid (HA.out.on hb)
  replace BB := Lib.hid (BB.out.trans (hb.mono BB.out.size))
  clear hb
  generalize wn1.alloc (.cells #[.int .i64 0, .slice none 0 0] 24) = wn9 at *
  clear hHeld
  refine hK.out _ _ ?_ (fun hHeld => ?_)
  ·
   (try dsimp only); exact ⟨kc KC0.out BB.out, kc KC1.out BB.out, kc KN0.out BB.out⟩
  clear hK K
  (try simp only [Act.put, Row.pB0, Row.pB1, Row.pB2])
  refine wpAnyH_ready (rs := [3]) (by kernel_rfl) (by simp) ?_
  refine AllReadyH.cons (o := ⟨some 29, .call ⟨.value (.func 28), #[.tmp 28], #[38]⟩, 44, "exact.go:7093", #[⟨2, .data⟩, ⟨1, .chain⟩], none⟩) rfl (fun K hK => ?_) AllReadyH.nil
  go_simp
  refine (toNK _ l1 _ (H1.out.on BB.out) (by have := Row.bulk_len l1; omega)).mono ?_
  rintro e wn10 ⟨v, rfl, ho, hb⟩
  obtain ⟨xB, nB, cB, rfl, ho⟩ := kN_shape ho
  have HBk := Lib.hid ho.at; clear ho
  replace HA := Lib.hid (HA.out.on hb)
  replace XD := Lib.hid (XD.out.on hb)
  replace BB := Lib.hid (BB.out.trans (hb.mono BB.out.size))
  clear hb
  (try go_wp2_with fail)
  clear hHeld
  refine hK.out _ _ ?_ (fun hHeld => ?_)
  ·
   (try dsimp only); exact ⟨kc KC0.out BB.out, kc KC1.out BB.out, kc KN0.out BB.out⟩
  clear hK K
  (try simp only [Act.put, Row.pB0, Row.pB1, Row.pB2])
  refine wpAnyH_ready (rs := [5]) (by kernel_rfl) (by simp) ?_
  refine AllReadyH.cons (o := ⟨some 31, .call ⟨.value (.func 33), #[.tmp 27, .tmp 29, .tmp 30], #[24, 44, 3]⟩, 24, "exact.go:7093", #[⟨1, .data⟩, ⟨3, .data⟩, ⟨4, .data⟩, ⟨3, .chain⟩], none⟩) rfl (fun K hK => ?_) AllReadyH.nil
  go_simp
  refine (specTouch _ _ l0 l1 a2 _ HA.out HBk.out (show wtCn l0 ≤ 1100000 by omega) (show bulk l1 ≤ 1200000 by omega)).mono ?_
  rintro e wn11 ⟨v, rfl, ho, hb⟩
  obtain ⟨yb, mb, db, rfl, ho⟩ := kCn_shape ho
  have HX := Lib.hid (show kCn.In w.heap.size wn11.heap.size wn11 (.agg #[.int .i64 (touchC l0 l1 a2).1, .slice yb mb db]) (touchC l0 l1 a2) from Kd.In.mono ho BB.out.size (Nat.le_refl _)); clear ho
  replace HA := Lib.hid (HA.out.on hb)
  replace XD := Lib.hid (XD.out.on hb)
  replace HBk := Lib.hid (HBk.out.on hb)
  replace BB := Lib.hid (BB.out.trans (hb.mono BB.out.size))
  clear hb
  (try go_wp2_with fail)
  clear hHeld
  refine hK.out _ _ ?_ (fun hHeld => ?_)
  ·
   (try dsimp only); exact ⟨kc KC0.out BB.out, kc KC1.out BB.out, kc KN0.out BB.out⟩
  clear hK K
  (try simp only [Act.put, Row.pB0, Row.pB1, Row.pB2])
  refine wpAnyH_ready (rs := [7]) (by kernel_rfl) (by simp) ?_
  refine AllReadyH.cons (o := ⟨none, .store 24 (.tmp 8) (.tmp 31), 0, "exact.go:7093", #[⟨6, .data⟩, ⟨5, .data⟩, ⟨5, .chain⟩, ⟨0, .phase⟩, ⟨1, .phase⟩, ⟨2, .phase⟩, ⟨3, .phase⟩, ⟨4, .phase⟩, ⟨5, .phase⟩, ⟨6, .phase⟩], none⟩) rfl (fun K hK => ?_) AllReadyH.nil
  have r0 := XD.out.cell 0; have r1 := XD.out.cell 1
  have t0 := XD.out.frozen 0; have t1 := XD.out.frozen 1
  go_simp
  clear hHeld
  refine hK.out _ _ ?_ (fun hHeld => ?_)
  ·
   (try dsimp only); exact ⟨cell_two (kc KC0.out BB.out) (by have h1 : p < w.heap.size := Ret.cell_lt KC0.out; have h2 := HDW.out; omega), cell_two (kc KC1.out BB.out) (by have h1 : p < w.heap.size := Ret.cell_lt KC1.out; have h2 := HDW.out; omega), cell_two (kc KN0.out BB.out) (by have h1 : q < w.heap.size := Ret.cell_lt KN0.out; have h2 := HDW.out; omega)⟩
  clear hK K
  (try simp only [Act.put, Row.pB0, Row.pB1, Row.pB2])
  refine wpAnyH_done (by kernel_rfl) ?_ _
  exact NoPanic.normal (HQ.out _ _ _ _ _ _ gD mb db yb _ HDW.out XD.out HX.out BB.out)
 refine AllReadyH.cons (o := ⟨some 8, .alloc 24, 0, "exact.go:7093", #[], none⟩) rfl (fun K hK => ?_) AllReadyH.nil
 go_simp
 have hb : Below wd.heap.size wd (wd.alloc (.cells #[.int .i64 0, .slice none 0 0] 24)) := (Below.refl _ _).alloc (Nat.le_refl _) _
 obtain ⟨gD, hgD⟩ : ∃ g, g = wd.heap.size := ⟨_, rfl⟩
 have XD := Lib.hid (show Ret.Blk (wd.alloc (.cells #[.int .i64 0, .slice none 0 0] 24)) gD #[.int .i64 0, .slice none 0 0] 24 from by rw [hgD]; exact Ret.Blk.new wd _ _)
 have HDW := Lib.hid (show w.heap.size ≤ gD from by rw [hgD]; exact BB.out.size)
 (first | replace HX := Lib.hid (show kCn.In w.heap.size (wd.alloc (.cells #[.int .i64 0, .slice none 0 0] 24)).heap.size (wd.alloc (.cells #[.int .i64 0, .slice none 0 0] 24)) (.agg #[.int .i64 (touchC l0 l1 a2).1, .slice yb mb db]) (touchC l0 l1 a2) from Kd.In.mono (Kd.In.on HX.out hb) (Nat.le_refl _) hb.size) | skip)
 rw [← hgD]
 clear hgD
 replace BB := Lib.hid (BB.out.trans (hb.mono BB.out.size))
 clear hb
 generalize wd.alloc (.cells #[.int .i64 0, .slice none 0 0] 24) = wn13 at *
 clear hHeld
 refine hK.out _ _ ?_ (fun hHeld => ?_)
 ·
  (try dsimp only); exact ⟨kc KC0.out BB.out, kc KC1.out BB.out, kc KN0.out BB.out⟩
 clear hK K
 (try simp only [Act.put, Row.pB0, Row.pB1, Row.pB2])
 refine wpAnyH_ready (rs := [1]) (by kernel_rfl) (by simp) ?_
 refine AllReadyH.cons (o := ⟨some 27, .call ⟨.value (.func 18), #[.tmp 26], #[31]⟩, 24, "exact.go:7093", #[⟨0, .data⟩], none⟩) rfl (fun K hK => ?_) AllReadyH.nil
 go_simp
 refine (toContentStoreK _ l0 _ (H0.out.on BB.out) (Nat.le_trans (adCn_big Z0) (by decide))).mono ?_
 rintro e wn14 ⟨v, rfl, ho, hb⟩
 obtain ⟨xA, nA, cA, rfl, ho⟩ := kCn_shape ho
 have HA := Lib.hid ho.at; clear ho
 replace XD := Lib.hid (XD.out.on hb)
 replace BB := Lib.hid (BB.out.trans (hb.mono BB.out.size))
 clear hb
 (try go_wp2_with fail)
 clear hHeld
 refine hK.out _ _ ?_ (fun hHeld => ?_)
 ·
  (try dsimp only); exact ⟨kc KC0.out BB.out, kc KC1.out BB.out, kc KN0.out BB.out⟩
 clear hK K
 (try simp only [Act.put, Row.pB0, Row.pB1, Row.pB2])
 refine wpAnyH_ready (rs := [3]) (by kernel_rfl) (by simp) ?_
 refine AllReadyH.cons (o := ⟨some 29, .call ⟨.value (.func 28), #[.tmp 28], #[38]⟩, 44, "exact.go:7093", #[⟨2, .data⟩, ⟨1, .chain⟩], none⟩) rfl (fun K hK => ?_) AllReadyH.nil
 go_simp
 refine (toNK _ l1 _ (H1.out.on BB.out) (by have := Row.bulk_len l1; omega)).mono ?_
 rintro e wn15 ⟨v, rfl, ho, hb⟩
 obtain ⟨xB, nB, cB, rfl, ho⟩ := kN_shape ho
 have HBk := Lib.hid ho.at; clear ho
 replace XD := Lib.hid (XD.out.on hb)
 replace HA := Lib.hid (HA.out.on hb)
 replace BB := Lib.hid (BB.out.trans (hb.mono BB.out.size))
 clear hb
 (try go_wp2_with fail)
 clear hHeld
 refine hK.out _ _ ?_ (fun hHeld => ?_)
 ·
  (try dsimp only); exact ⟨kc KC0.out BB.out, kc KC1.out BB.out, kc KN0.out BB.out⟩
 clear hK K
 (try simp only [Act.put, Row.pB0, Row.pB1, Row.pB2])
 refine wpAnyH_ready (rs := [5]) (by kernel_rfl) (by simp) ?_
 refine AllReadyH.cons (o := ⟨some 31, .call ⟨.value (.func 33), #[.tmp 27, .tmp 29, .tmp 30], #[24, 44, 3]⟩, 24, "exact.go:7093", #[⟨1, .data⟩, ⟨3, .data⟩, ⟨4, .data⟩, ⟨3, .chain⟩], none⟩) rfl (fun K hK => ?_) AllReadyH.nil
 go_simp
 refine (specTouch _ _ l0 l1 a2 _ HA.out HBk.out (show wtCn l0 ≤ 1100000 by omega) (show bulk l1 ≤ 1200000 by omega)).mono ?_
 rintro e wn16 ⟨v, rfl, ho, hb⟩
 obtain ⟨yb, mb, db, rfl, ho⟩ := kCn_shape ho
 have HX := Lib.hid (show kCn.In w.heap.size wn16.heap.size wn16 (.agg #[.int .i64 (touchC l0 l1 a2).1, .slice yb mb db]) (touchC l0 l1 a2) from Kd.In.mono ho BB.out.size (Nat.le_refl _)); clear ho
 replace XD := Lib.hid (XD.out.on hb)
 replace HA := Lib.hid (HA.out.on hb)
 replace HBk := Lib.hid (HBk.out.on hb)
 replace BB := Lib.hid (BB.out.trans (hb.mono BB.out.size))
 clear hb
 (try go_wp2_with fail)
 clear hHeld
 refine hK.out _ _ ?_ (fun hHeld => ?_)
 ·
  (try dsimp only); exact ⟨kc KC0.out BB.out, kc KC1.out BB.out, kc KN0.out BB.out⟩
 clear hK K
 (try simp only [Act.put, Row.pB0, Row.pB1, Row.pB2])
 refine wpAnyH_ready (rs := [7]) (by kernel_rfl) (by simp) ?_
 refine AllReadyH.cons (o := ⟨none, .store 24 (.tmp 8) (.tmp 31), 0, "exact.go:7093", #[⟨6, .data⟩, ⟨5, .data⟩, ⟨5, .chain⟩, ⟨0, .phase⟩, ⟨1, .phase⟩, ⟨2, .phase⟩, ⟨3, .phase⟩, ⟨4, .phase⟩, ⟨5, .phase⟩, ⟨6, .phase⟩], none⟩) rfl (fun K hK => ?_) AllReadyH.nil
 have r0 := XD.out.cell 0; have r1 := XD.out.cell 1
 have t0 := XD.out.frozen 0; have t1 := XD.out.frozen 1
 go_simp
 clear hHeld
 refine hK.out _ _ ?_ (fun hHeld => ?_)
 ·
  (try dsimp only); exact ⟨cell_two (kc KC0.out BB.out) (by have h1 : p < w.heap.size := Ret.cell_lt KC0.out; have h2 := HDW.out; omega), cell_two (kc KC1.out BB.out) (by have h1 : p < w.heap.size := Ret.cell_lt KC1.out; have h2 := HDW.out; omega), cell_two (kc KN0.out BB.out) (by have h1 : q < w.heap.size := Ret.cell_lt KN0.out; have h2 := HDW.out; omega)⟩
 clear hK K
 (try simp only [Act.put, Row.pB0, Row.pB1, Row.pB2])
 refine wpAnyH_done (by kernel_rfl) ?_ _
 exact NoPanic.normal (HQ.out _ _ _ _ _ _ gD mb db yb _ HDW.out XD.out HX.out BB.out)
set_option maxRecDepth 100000 in
set_option maxHeartbeats 4000000 in
theorem specregR3 {Q : Exit → Act → World → Prop} {v0 v1 v5 v6 v7 v8 v9 v10 v11 v12 v13 v14 v15 v16 v17 v18 v19 v20 v21 v22 v23 v24 v25 v26 v27 v28 v29 v30 v31 v32 v33 v34 v35 v36 v37 v38 v39 v40 v41 v42 v43 v44 v45 v46 v47 v48 v49 v50 v51 v52 v53 v54 v55 v56 v57 v58 v59 v60 v61 v62 v63 v64 v65 v66 v67 v68 v69 v70 v71 v72 v73 v74 v75 v76 v77 v78 v79 v80 v81 v82 v83 v84 v85 v86 v87 v88 v89 v90 v91 v92 v93 v94 v95 v96 : Value} {w : World} {p q nl cl nn cn : Nat} {xl xn : Option Addr} {l0 : Cnt} {l1 : List ByteArray} {a2 : Int} (H0 : Hid (kCn.At w (.agg #[.int .i64 l0.1, .slice xl nl cl]) l0)) (H1 : Hid (kN.At w (.agg #[.slice xn nn cn]) l1)) (Z0 : wtCn l0 ≤ 1048576) (Z1 : bulk l1 ≤ 1048576) (KC0 : Hid (w.cell? ⟨p, 0, none⟩ = some (.int .i64 l0.1))) (KC1 : Hid (w.cell? ⟨p, 1, none⟩ = some (.slice xl nl cl))) (KN0 : Hid (w.cell? ⟨q, 0, none⟩ = some (.slice xn nn cn)))
    (hQ : ∀ (u26 u27 u28 u29 u30 u31 : Value) (gD mb db : Nat) (yb : Option Addr) (w2 : World), Below w.heap.size w w2 → kCn.In w.heap.size w2.heap.size w2 (.agg #[.int .i64 (touchC l0 l1 a2).1, .slice yb mb db]) (touchC l0 l1 a2) → Ret.Blk w2 gD #[.int .i64 (touchC l0 l1 a2).1, .slice yb mb db] 24 → w.heap.size ≤ gD → gD < w2.heap.size → Q .normal ⟨#[v0, v1, .int .i64 a2, .pointer (some ⟨p, 0, none⟩), .pointer (some ⟨q, 0, none⟩), v5, v6, v7, .pointer (some ⟨gD, 0, none⟩), v9, v10, v11, v12, v13, v14, v15, v16, v17, v18, v19, v20, v21, v22, v23, v24, v25, u26, u27, u28, u29, u30, u31, v32, v33, v34, v35, v36, v37, v38, v39, v40, v41, v42, v43, v44, v45, v46, v47, v48, v49, v50, v51, v52, v53, v54, v55, v56, v57, v58, v59, v60, v61, v62, v63, v64, v65, v66, v67, v68, v69, v70, v71, v72, v73, v74, v75, v76, v77, v78, v79, v80, v81, v82, v83, v84, v85, v86, v87, v88, v89, v90, v91, v92, v93, v94, v95, v96], []⟩ w2) :
    (Code.region 8 #[{ dst := some 26, op := Op.load 31 (Operand.tmp 3), type := 31, pos := "exact.go:7093", after := #[], guard := none },
      { dst := some 27, op := Op.call { callee := Callee.value (Operand.func 18), args := #[Operand.tmp 26], argTypes := #[31] }, type := 24, pos := "exact.go:7093", after := #[{ on := 0, ground := Ground.data }], guard := none },
      { dst := some 28, op := Op.load 38 (Operand.tmp 4), type := 38, pos := "exact.go:7093", after := #[], guard := none },
      { dst := some 29, op := Op.call { callee := Callee.value (Operand.func 28), args := #[Operand.tmp 28], argTypes := #[38] }, type := 44, pos := "exact.go:7093", after := #[{ on := 2, ground := Ground.data }, { on := 1, ground := Ground.chain }], guard := none },
      { dst := some 30, op := Op.move (Operand.tmp 2), type := 3, pos := "exact.go:7093", after := #[], guard := none },
      { dst := some 31, op := Op.call { callee := Callee.value (Operand.func 33), args := #[Operand.tmp 27, Operand.tmp 29, Operand.tmp 30], argTypes := #[24, 44, 3] }, type := 24, pos := "exact.go:7093", after := #[{ on := 1, ground := Ground.data }, { on := 3, ground := Ground.data }, { on := 4, ground := Ground.data }, { on := 3, ground := Ground.chain }], guard := none },
      { dst := some 8, op := Op.alloc 24, type := 0, pos := "exact.go:7093", after := #[], guard := none },
      { dst := none, op := Op.store 24 (Operand.tmp 8) (Operand.tmp 31), type := 0, pos := "exact.go:7093", after := #[{ on := 6, ground := Ground.data }, { on := 5, ground := Ground.data }, { on := 5, ground := Ground.chain }, { on := 0, ground := Ground.phase }, { on := 1, ground := Ground.phase }, { on := 2, ground := Ground.phase }, { on := 3, ground := Ground.phase }, { on := 4, ground := Ground.phase }, { on := 5, ground := Ground.phase }, { on := 6, ground := Ground.phase }], guard := none }] true).wp Try.prog Q ⟨#[v0, v1, .int .i64 a2, .pointer (some ⟨p, 0, none⟩), .pointer (some ⟨q, 0, none⟩), v5, v6, v7, v8, v9, v10, v11, v12, v13, v14, v15, v16, v17, v18, v19, v20, v21, v22, v23, v24, v25, v26, v27, v28, v29, v30, v31, v32, v33, v34, v35, v36, v37, v38, v39, v40, v41, v42, v43, v44, v45, v46, v47, v48, v49, v50, v51, v52, v53, v54, v55, v56, v57, v58, v59, v60, v61, v62, v63, v64, v65, v66, v67, v68, v69, v70, v71, v72, v73, v74, v75, v76, v77, v78, v79, v80, v81, v82, v83, v84, v85, v86, v87, v88, v89, v90, v91, v92, v93, v94, v95, v96], []⟩ w := by
  refine specR30 H0 H1 Z0 Z1 KC0 KC1 KN0 ?_
  intro u26 u27 u28 u29 u30 u31 gD mb db yb wx hgd hxd hin hb
  obtain ⟨h1, h2, h3⟩ := two_facts12 (a := .int .i64 (touchC l0 l1 a2).1) (b := .slice yb mb db) hgd (Nat.le_refl _) hxd hin hb
  exact hQ _ _ _ _ _ _ gD mb db yb _ h1 h2 h3 hgd (by rw [size_two12]; exact hxd.lt)
set_option maxRecDepth 100000 in
set_option maxHeartbeats 4000000 in
theorem implR30 {Q : Exit → Act → World → Prop} {v0 v1 v5 v6 v7 v8 v9 v10 v11 v12 v13 v14 v15 v16 v17 v18 v19 v20 v21 v22 v23 v24 v25 v26 v27 v28 v29 v30 v31 v32 v33 v34 v35 v36 v37 v38 v39 v40 v41 v42 v43 v44 v45 v46 v47 v48 v49 v50 v51 v52 v53 v54 v55 v56 v57 v58 v59 v60 v61 v62 v63 v64 v65 v66 v67 v68 v69 v70 v71 v72 v73 v74 v75 v76 v77 v78 v79 v80 v81 v82 v83 v84 v85 v86 v87 v88 v89 v90 v91 v92 v93 v94 v95 v96 : Value} {w : World} {p q nl cl nn cn : Nat} {xl xn : Option Addr} {l0 : Cnt} {l1 : List ByteArray} {a2 : Int} (H0 : Hid (kCn.At w (.agg #[.int .i64 l0.1, .slice xl nl cl]) l0)) (H1 : Hid (kN.At w (.agg #[.slice xn nn cn]) l1)) (Z0 : wtCn l0 ≤ 1048576) (Z1 : bulk l1 ≤ 1048576) (KC0 : Hid (w.cell? ⟨p, 0, none⟩ = some (.int .i64 l0.1))) (KC1 : Hid (w.cell? ⟨p, 1, none⟩ = some (.slice xl nl cl))) (KN0 : Hid (w.cell? ⟨q, 0, none⟩ = some (.slice xn nn cn)))
  (hQ : ∀ (u79 u80 u81 u82 u83 u84 : Value) (gD mb db : Nat) (yb : Option Addr)  (wx : World), w.heap.size ≤ gD → Ret.Blk wx gD #[.int .i64 0, .slice none 0 0] 24 → kCn.In w.heap.size wx.heap.size wx (.agg #[.int .i64 (touchC l0 l1 a2).1, .slice yb mb db]) (touchC l0 l1 a2) → Below w.heap.size w wx → Q .normal ⟨#[v0, v1, .int .i64 a2, .pointer (some ⟨p, 0, none⟩), .pointer (some ⟨q, 0, none⟩), v5, v6, v7, v8, v9, v10, v11, v12, v13, v14, .pointer (some ⟨gD, 0, none⟩), v16, v17, v18, v19, v20, v21, v22, v23, v24, v25, v26, v27, v28, v29, v30, v31, v32, v33, v34, v35, v36, v37, v38, v39, v40, v41, v42, v43, v44, v45, v46, v47, v48, v49, v50, v51, v52, v53, v54, v55, v56, v57, v58, v59, v60, v61, v62, v63, v64, v65, v66, v67, v68, v69, v70, v71, v72, v73, v74, v75, v76, v77, v78, u79, u80, u81, u82, u83, u84, v85, v86, v87, v88, v89, v90, v91, v92, v93, v94, v95, v96], []⟩ (((wx).setCell ⟨gD, 0, none⟩ (.int .i64 (touchC l0 l1 a2).1)).setCell ⟨gD, 1, none⟩ (.slice yb mb db))) :
  (Code.region 31 #[⟨some 79, .load 31 (.tmp 3), 31, "exact.go:7122", #[], none⟩,
   ⟨some 80, .call ⟨.value (.func 18), #[.tmp 79], #[31]⟩, 24, "exact.go:7122", #[⟨0, .data⟩], none⟩,
   ⟨some 81, .load 38 (.tmp 4), 38, "exact.go:7122", #[], none⟩,
   ⟨some 82, .call ⟨.value (.func 28), #[.tmp 81], #[38]⟩, 44, "exact.go:7122", #[⟨2, .data⟩, ⟨1, .chain⟩], none⟩,
   ⟨some 83, .move (.tmp 2), 3, "exact.go:7122", #[], none⟩,
   ⟨some 84, .call ⟨.value (.func 34), #[.tmp 80, .tmp 82, .tmp 83], #[24, 44, 3]⟩, 24, "exact.go:7122", #[⟨1, .data⟩, ⟨3, .data⟩, ⟨4, .data⟩, ⟨3, .chain⟩], none⟩,
   ⟨some 15, .alloc 24, 0, "exact.go:7122", #[], none⟩,
   ⟨none, .store 24 (.tmp 15) (.tmp 84), 0, "exact.go:7122", #[⟨6, .data⟩, ⟨5, .data⟩, ⟨5, .chain⟩, ⟨0, .phase⟩, ⟨1, .phase⟩, ⟨2, .phase⟩, ⟨3, .phase⟩, ⟨4, .phase⟩, ⟨5, .phase⟩, ⟨6, .phase⟩], none⟩] true).wp Try.prog Q ⟨#[v0, v1, .int .i64 a2, .pointer (some ⟨p, 0, none⟩), .pointer (some ⟨q, 0, none⟩), v5, v6, v7, v8, v9, v10, v11, v12, v13, v14, v15, v16, v17, v18, v19, v20, v21, v22, v23, v24, v25, v26, v27, v28, v29, v30, v31, v32, v33, v34, v35, v36, v37, v38, v39, v40, v41, v42, v43, v44, v45, v46, v47, v48, v49, v50, v51, v52, v53, v54, v55, v56, v57, v58, v59, v60, v61, v62, v63, v64, v65, v66, v67, v68, v69, v70, v71, v72, v73, v74, v75, v76, v77, v78, v79, v80, v81, v82, v83, v84, v85, v86, v87, v88, v89, v90, v91, v92, v93, v94, v95, v96], []⟩ w := by
 have HQ := Lib.hid hQ; clear hQ
 have hdr : Below w.heap.size w w.drew := (Below.refl _ _).drew
 have BB := Lib.hid hdr
 refine wp_region_noPanic ?_
 refine wp_region_held_drew (S := (fun w' => w'.cell? ⟨p, 0, none⟩ = some (.int .i64 l0.1) ∧ w'.cell? ⟨p, 1, none⟩ = some (.slice xl nl cl) ∧ w'.cell? ⟨q, 0, none⟩ = some (.slice xn nn cn))) (by kernel_rfl) ?_ (fun hHeld => ?_)
 ·
  exact ⟨kc KC0.out BB.out, kc KC1.out BB.out, kc KN0.out BB.out⟩
 clear hdr
 generalize w.drew = wd at *
 refine wpAnyH_take (i := 0) (oi := ⟨some 79, .load 31 (.tmp 3), 31, "exact.go:7122", #[], none⟩) (v := ?_) rfl (by kernel_rfl) (by kernel_rfl) (by kernel_rfl) (fun _ _ _ h => h) (Or.inl ⟨by rfl, ?_⟩) (by assumption) ?_
 rotate_left
 ·
  intro w' hSw; (try dsimp only at hSw); first | (go_simp; done) | (go_simp; with_reducible rfl)
 (try simp only [Act.put, Row.pB0, Row.pB1, Row.pB2])
 refine wpAnyH_take (i := 2) (oi := ⟨some 81, .load 38 (.tmp 4), 38, "exact.go:7122", #[], none⟩) (v := ?_) rfl (by kernel_rfl) (by kernel_rfl) (by kernel_rfl) (fun _ _ _ h => h) (Or.inl ⟨by rfl, ?_⟩) (by assumption) ?_
 rotate_left
 ·
  intro w' hSw; (try dsimp only at hSw); first | (go_simp; done) | (go_simp; with_reducible rfl)
 (try simp only [Act.put, Row.pB0, Row.pB1, Row.pB2])
 refine wpAnyH_take (i := 4) (oi := ⟨some 83, .move (.tmp 2), 3, "exact.go:7122", #[], none⟩) (v := ?_) rfl (by kernel_rfl) (by kernel_rfl) (by kernel_rfl) (fun _ _ _ h => h) (Or.inl ⟨by rfl, ?_⟩) (by assumption) ?_
 rotate_left
 ·
  intro w' hSw; (try dsimp only at hSw); first | (go_simp; done) | (go_simp; with_reducible rfl)
 (try simp only [Act.put, Row.pB0, Row.pB1, Row.pB2])
 refine wpAnyH_ready (rs := [1, 6]) (by kernel_rfl) (by simp) ?_
 refine AllReadyH.cons (o := ⟨some 80, .call ⟨.value (.func 18), #[.tmp 79], #[31]⟩, 24, "exact.go:7122", #[⟨0, .data⟩], none⟩) rfl (fun K hK => ?_) ?_
 ·
  go_simp
  refine (toContentStoreK _ l0 _ (H0.out.on BB.out) (Nat.le_trans (adCn_big Z0) (by decide))).mono ?_
  rintro e wn1 ⟨v, rfl, ho, hb⟩
  obtain ⟨xA, nA, cA, rfl, ho⟩ := kCn_shape ho
  have HA := Lib.hid ho.at; clear ho
  replace BB := Lib.hid (BB.out.trans (hb.mono BB.out.size))
  clear hb
  (try go_wp2_with fail)
  clear hHeld
  refine hK.out _ _ ?_ (fun hHeld => ?_)
  ·
   (try dsimp only); exact ⟨kc KC0.out BB.out, kc KC1.out BB.out, kc KN0.out BB.out⟩
  clear hK K
  (try simp only [Act.put, Row.pB0, Row.pB1, Row.pB2])
  refine wpAnyH_ready (rs := [3, 6]) (by kernel_rfl) (by simp) ?_
  refine AllReadyH.cons (o := ⟨some 82, .call ⟨.value (.func 28), #[.tmp 81], #[38]⟩, 44, "exact.go:7122", #[⟨2, .data⟩, ⟨1, .chain⟩], none⟩) rfl (fun K hK => ?_) ?_
  ·
   go_simp
   refine (toNK _ l1 _ (H1.out.on BB.out) (by have := Row.bulk_len l1; omega)).mono ?_
   rintro e wn2 ⟨v, rfl, ho, hb⟩
   obtain ⟨xB, nB, cB, rfl, ho⟩ := kN_shape ho
   have HBk := Lib.hid ho.at; clear ho
   replace HA := Lib.hid (HA.out.on hb)
   replace BB := Lib.hid (BB.out.trans (hb.mono BB.out.size))
   clear hb
   (try go_wp2_with fail)
   clear hHeld
   refine hK.out _ _ ?_ (fun hHeld => ?_)
   ·
    (try dsimp only); exact ⟨kc KC0.out BB.out, kc KC1.out BB.out, kc KN0.out BB.out⟩
   clear hK K
   (try simp only [Act.put, Row.pB0, Row.pB1, Row.pB2])
   refine wpAnyH_ready (rs := [5, 6]) (by kernel_rfl) (by simp) ?_
   refine AllReadyH.cons (o := ⟨some 84, .call ⟨.value (.func 34), #[.tmp 80, .tmp 82, .tmp 83], #[24, 44, 3]⟩, 24, "exact.go:7122", #[⟨1, .data⟩, ⟨3, .data⟩, ⟨4, .data⟩, ⟨3, .chain⟩], none⟩) rfl (fun K hK => ?_) ?_
   ·
    go_simp
    refine (implTouch _ _ l0 l1 a2 _ HA.out HBk.out (show wtCn l0 ≤ 1100000 by omega) (show bulk l1 ≤ 1200000 by omega)).mono ?_
    rintro e wn3 ⟨v, rfl, ho, hb⟩
    obtain ⟨yb, mb, db, rfl, ho⟩ := kCn_shape ho
    have HX := Lib.hid (show kCn.In w.heap.size wn3.heap.size wn3 (.agg #[.int .i64 (touchC l0 l1 a2).1, .slice yb mb db]) (touchC l0 l1 a2) from Kd.In.mono ho BB.out.size (Nat.le_refl _)); clear ho
    replace HA := Lib.hid (HA.out.on hb)
    replace HBk := Lib.hid (HBk.out.on hb)
    replace BB := Lib.hid (BB.out.trans (hb.mono BB.out.size))
    clear hb
    (try go_wp2_with fail)
    clear hHeld
    refine hK.out _ _ ?_ (fun hHeld => ?_)
    ·
     (try dsimp only); exact ⟨kc KC0.out BB.out, kc KC1.out BB.out, kc KN0.out BB.out⟩
    clear hK K
    (try simp only [Act.put, Row.pB0, Row.pB1, Row.pB2])
    refine wpAnyH_ready (rs := [6]) (by kernel_rfl) (by simp) ?_
    refine AllReadyH.cons (o := ⟨some 15, .alloc 24, 0, "exact.go:7122", #[], none⟩) rfl (fun K hK => ?_) AllReadyH.nil
    go_simp
    have hb : Below wn3.heap.size wn3 (wn3.alloc (.cells #[.int .i64 0, .slice none 0 0] 24)) := (Below.refl _ _).alloc (Nat.le_refl _) _
    obtain ⟨gD, hgD⟩ : ∃ g, g = wn3.heap.size := ⟨_, rfl⟩
    have XD := Lib.hid (show Ret.Blk (wn3.alloc (.cells #[.int .i64 0, .slice none 0 0] 24)) gD #[.int .i64 0, .slice none 0 0] 24 from by rw [hgD]; exact Ret.Blk.new wn3 _ _)
    have HDW := Lib.hid (show w.heap.size ≤ gD from by rw [hgD]; exact BB.out.size)
    (first | replace HX := Lib.hid (show kCn.In w.heap.size (wn3.alloc (.cells #[.int .i64 0, .slice none 0 0] 24)).heap.size (wn3.alloc (.cells #[.int .i64 0, .slice none 0 0] 24)) (.agg #[.int .i64 (touchC l0 l1 a2).1, .slice yb mb db]) (touchC l0 l1 a2) from Kd.In.mono (Kd.In.on HX.out hb) (Nat.le_refl _) hb.size) | skip)
    rw [← hgD]
    clear hgD
    replace HA := Lib.hid (HA.out.on hb)
    replace HBk := Lib.hid (HBk.out.on hb)
    replace BB := Lib.hid (BB.out.trans (hb.mono BB.out.size))
    clear hb
    generalize wn3.alloc (.cells #[.int .i64 0, .slice none 0 0] 24) = wn4 at *
    clear hHeld
    refine hK.out _ _ ?_ (fun hHeld => ?_)
    ·
     (try dsimp only); exact ⟨kc KC0.out BB.out, kc KC1.out BB.out, kc KN0.out BB.out⟩
    clear hK K
    (try simp only [Act.put, Row.pB0, Row.pB1, Row.pB2])
    refine wpAnyH_ready (rs := [7]) (by kernel_rfl) (by simp) ?_
    refine AllReadyH.cons (o := ⟨none, .store 24 (.tmp 15) (.tmp 84), 0, "exact.go:7122", #[⟨6, .data⟩, ⟨5, .data⟩, ⟨5, .chain⟩, ⟨0, .phase⟩, ⟨1, .phase⟩, ⟨2, .phase⟩, ⟨3, .phase⟩, ⟨4, .phase⟩, ⟨5, .phase⟩, ⟨6, .phase⟩], none⟩) rfl (fun K hK => ?_) AllReadyH.nil
    have r0 := XD.out.cell 0; have r1 := XD.out.cell 1
    have t0 := XD.out.frozen 0; have t1 := XD.out.frozen 1
    go_simp
    clear hHeld
    refine hK.out _ _ ?_ (fun hHeld => ?_)
    ·
     (try dsimp only); exact ⟨cell_two (kc KC0.out BB.out) (by have h1 : p < w.heap.size := Ret.cell_lt KC0.out; have h2 := HDW.out; omega), cell_two (kc KC1.out BB.out) (by have h1 : p < w.heap.size := Ret.cell_lt KC1.out; have h2 := HDW.out; omega), cell_two (kc KN0.out BB.out) (by have h1 : q < w.heap.size := Ret.cell_lt KN0.out; have h2 := HDW.out; omega)⟩
    clear hK K
    (try simp only [Act.put, Row.pB0, Row.pB1, Row.pB2])
    refine wpAnyH_done (by kernel_rfl) ?_ _
    exact NoPanic.normal (HQ.out _ _ _ _ _ _ gD mb db yb _ HDW.out XD.out HX.out BB.out)
   refine AllReadyH.cons (o := ⟨some 15, .alloc 24, 0, "exact.go:7122", #[], none⟩) rfl (fun K hK => ?_) AllReadyH.nil
   go_simp
   have hb : Below wn2.heap.size wn2 (wn2.alloc (.cells #[.int .i64 0, .slice none 0 0] 24)) := (Below.refl _ _).alloc (Nat.le_refl _) _
   obtain ⟨gD, hgD⟩ : ∃ g, g = wn2.heap.size := ⟨_, rfl⟩
   have XD := Lib.hid (show Ret.Blk (wn2.alloc (.cells #[.int .i64 0, .slice none 0 0] 24)) gD #[.int .i64 0, .slice none 0 0] 24 from by rw [hgD]; exact Ret.Blk.new wn2 _ _)
   have HDW := Lib.hid (show w.heap.size ≤ gD from by rw [hgD]; exact BB.out.size)
   (first | replace HX := Lib.hid (show kCn.In w.heap.size (wn2.alloc (.cells #[.int .i64 0, .slice none 0 0] 24)).heap.size (wn2.alloc (.cells #[.int .i64 0, .slice none 0 0] 24)) (.agg #[.int .i64 (touchC l0 l1 a2).1, .slice yb mb db]) (touchC l0 l1 a2) from Kd.In.mono (Kd.In.on HX.out hb) (Nat.le_refl _) hb.size) | skip)
   rw [← hgD]
   clear hgD
   replace HA := Lib.hid (HA.out.on hb)
   replace HBk := Lib.hid (HBk.out.on hb)
   replace BB := Lib.hid (BB.out.trans (hb.mono BB.out.size))
   clear hb
   generalize wn2.alloc (.cells #[.int .i64 0, .slice none 0 0] 24) = wn6 at *
   clear hHeld
   refine hK.out _ _ ?_ (fun hHeld => ?_)
   ·
    (try dsimp only); exact ⟨kc KC0.out BB.out, kc KC1.out BB.out, kc KN0.out BB.out⟩
   clear hK K
   (try simp only [Act.put, Row.pB0, Row.pB1, Row.pB2])
   refine wpAnyH_ready (rs := [5]) (by kernel_rfl) (by simp) ?_
   refine AllReadyH.cons (o := ⟨some 84, .call ⟨.value (.func 34), #[.tmp 80, .tmp 82, .tmp 83], #[24, 44, 3]⟩, 24, "exact.go:7122", #[⟨1, .data⟩, ⟨3, .data⟩, ⟨4, .data⟩, ⟨3, .chain⟩], none⟩) rfl (fun K hK => ?_) AllReadyH.nil
   go_simp
   refine (implTouch _ _ l0 l1 a2 _ HA.out HBk.out (show wtCn l0 ≤ 1100000 by omega) (show bulk l1 ≤ 1200000 by omega)).mono ?_
   rintro e wn7 ⟨v, rfl, ho, hb⟩
   obtain ⟨yb, mb, db, rfl, ho⟩ := kCn_shape ho
   have HX := Lib.hid (show kCn.In w.heap.size wn7.heap.size wn7 (.agg #[.int .i64 (touchC l0 l1 a2).1, .slice yb mb db]) (touchC l0 l1 a2) from Kd.In.mono ho BB.out.size (Nat.le_refl _)); clear ho
   replace HA := Lib.hid (HA.out.on hb)
   replace HBk := Lib.hid (HBk.out.on hb)
   replace XD := Lib.hid (XD.out.on hb)
   replace BB := Lib.hid (BB.out.trans (hb.mono BB.out.size))
   clear hb
   (try go_wp2_with fail)
   clear hHeld
   refine hK.out _ _ ?_ (fun hHeld => ?_)
   ·
    (try dsimp only); exact ⟨kc KC0.out BB.out, kc KC1.out BB.out, kc KN0.out BB.out⟩
   clear hK K
   (try simp only [Act.put, Row.pB0, Row.pB1, Row.pB2])
   refine wpAnyH_ready (rs := [7]) (by kernel_rfl) (by simp) ?_
   refine AllReadyH.cons (o := ⟨none, .store 24 (.tmp 15) (.tmp 84), 0, "exact.go:7122", #[⟨6, .data⟩, ⟨5, .data⟩, ⟨5, .chain⟩, ⟨0, .phase⟩, ⟨1, .phase⟩, ⟨2, .phase⟩, ⟨3, .phase⟩, ⟨4, .phase⟩, ⟨5, .phase⟩, ⟨6, .phase⟩], none⟩) rfl (fun K hK => ?_) AllReadyH.nil
   have r0 := XD.out.cell 0; have r1 := XD.out.cell 1
   have t0 := XD.out.frozen 0; have t1 := XD.out.frozen 1
   go_simp
   clear hHeld
   refine hK.out _ _ ?_ (fun hHeld => ?_)
   ·
    (try dsimp only); exact ⟨cell_two (kc KC0.out BB.out) (by have h1 : p < w.heap.size := Ret.cell_lt KC0.out; have h2 := HDW.out; omega), cell_two (kc KC1.out BB.out) (by have h1 : p < w.heap.size := Ret.cell_lt KC1.out; have h2 := HDW.out; omega), cell_two (kc KN0.out BB.out) (by have h1 : q < w.heap.size := Ret.cell_lt KN0.out; have h2 := HDW.out; omega)⟩
   clear hK K
   (try simp only [Act.put, Row.pB0, Row.pB1, Row.pB2])
   refine wpAnyH_done (by kernel_rfl) ?_ _
   exact NoPanic.normal (HQ.out _ _ _ _ _ _ gD mb db yb _ HDW.out XD.out HX.out BB.out)
  refine AllReadyH.cons (o := ⟨some 15, .alloc 24, 0, "exact.go:7122", #[], none⟩) rfl (fun K hK => ?_) AllReadyH.nil
  go_simp
  have hb : Below wn1.heap.size wn1 (wn1.alloc (.cells #[.int .i64 0, .slice none 0 0] 24)) := (Below.refl _ _).alloc (Nat.le_refl _) _
  obtain ⟨gD, hgD⟩ : ∃ g, g = wn1.heap.size := ⟨_, rfl⟩
  have XD := Lib.hid (show Ret.Blk (wn1.alloc (.cells #[.int .i64 0, .slice none 0 0] 24)) gD #[.int .i64 0, .slice none 0 0] 24 from by rw [hgD]; exact Ret.Blk.new wn1 _ _)
  have HDW := Lib.hid (show w.heap.size ≤ gD from by rw [hgD]; exact BB.out.size)
  (first | replace HX := Lib.hid (show kCn.In w.heap.size (wn1.alloc (.cells #[.int .i64 0, .slice none 0 0] 24)).heap.size (wn1.alloc (.cells #[.int .i64 0, .slice none 0 0] 24)) (.agg #[.int .i64 (touchC l0 l1 a2).1, .slice yb mb db]) (touchC l0 l1 a2) from Kd.In.mono (Kd.In.on HX.out hb) (Nat.le_refl _) hb.size) | skip)
  rw [← hgD]
  clear hgD
  replace HA := Lib.hid (HA.out.on hb)
  replace BB := Lib.hid (BB.out.trans (hb.mono BB.out.size))
  clear hb
  generalize wn1.alloc (.cells #[.int .i64 0, .slice none 0 0] 24) = wn9 at *
  clear hHeld
  refine hK.out _ _ ?_ (fun hHeld => ?_)
  ·
   (try dsimp only); exact ⟨kc KC0.out BB.out, kc KC1.out BB.out, kc KN0.out BB.out⟩
  clear hK K
  (try simp only [Act.put, Row.pB0, Row.pB1, Row.pB2])
  refine wpAnyH_ready (rs := [3]) (by kernel_rfl) (by simp) ?_
  refine AllReadyH.cons (o := ⟨some 82, .call ⟨.value (.func 28), #[.tmp 81], #[38]⟩, 44, "exact.go:7122", #[⟨2, .data⟩, ⟨1, .chain⟩], none⟩) rfl (fun K hK => ?_) AllReadyH.nil
  go_simp
  refine (toNK _ l1 _ (H1.out.on BB.out) (by have := Row.bulk_len l1; omega)).mono ?_
  rintro e wn10 ⟨v, rfl, ho, hb⟩
  obtain ⟨xB, nB, cB, rfl, ho⟩ := kN_shape ho
  have HBk := Lib.hid ho.at; clear ho
  replace HA := Lib.hid (HA.out.on hb)
  replace XD := Lib.hid (XD.out.on hb)
  replace BB := Lib.hid (BB.out.trans (hb.mono BB.out.size))
  clear hb
  (try go_wp2_with fail)
  clear hHeld
  refine hK.out _ _ ?_ (fun hHeld => ?_)
  ·
   (try dsimp only); exact ⟨kc KC0.out BB.out, kc KC1.out BB.out, kc KN0.out BB.out⟩
  clear hK K
  (try simp only [Act.put, Row.pB0, Row.pB1, Row.pB2])
  refine wpAnyH_ready (rs := [5]) (by kernel_rfl) (by simp) ?_
  refine AllReadyH.cons (o := ⟨some 84, .call ⟨.value (.func 34), #[.tmp 80, .tmp 82, .tmp 83], #[24, 44, 3]⟩, 24, "exact.go:7122", #[⟨1, .data⟩, ⟨3, .data⟩, ⟨4, .data⟩, ⟨3, .chain⟩], none⟩) rfl (fun K hK => ?_) AllReadyH.nil
  go_simp
  refine (implTouch _ _ l0 l1 a2 _ HA.out HBk.out (show wtCn l0 ≤ 1100000 by omega) (show bulk l1 ≤ 1200000 by omega)).mono ?_
  rintro e wn11 ⟨v, rfl, ho, hb⟩
  obtain ⟨yb, mb, db, rfl, ho⟩ := kCn_shape ho
  have HX := Lib.hid (show kCn.In w.heap.size wn11.heap.size wn11 (.agg #[.int .i64 (touchC l0 l1 a2).1, .slice yb mb db]) (touchC l0 l1 a2) from Kd.In.mono ho BB.out.size (Nat.le_refl _)); clear ho
  replace HA := Lib.hid (HA.out.on hb)
  replace XD := Lib.hid (XD.out.on hb)
  replace HBk := Lib.hid (HBk.out.on hb)
  replace BB := Lib.hid (BB.out.trans (hb.mono BB.out.size))
  clear hb
  (try go_wp2_with fail)
  clear hHeld
  refine hK.out _ _ ?_ (fun hHeld => ?_)
  ·
   (try dsimp only); exact ⟨kc KC0.out BB.out, kc KC1.out BB.out, kc KN0.out BB.out⟩
  clear hK K
  (try simp only [Act.put, Row.pB0, Row.pB1, Row.pB2])
  refine wpAnyH_ready (rs := [7]) (by kernel_rfl) (by simp) ?_
  refine AllReadyH.cons (o := ⟨none, .store 24 (.tmp 15) (.tmp 84), 0, "exact.go:7122", #[⟨6, .data⟩, ⟨5, .data⟩, ⟨5, .chain⟩, ⟨0, .phase⟩, ⟨1, .phase⟩, ⟨2, .phase⟩, ⟨3, .phase⟩, ⟨4, .phase⟩, ⟨5, .phase⟩, ⟨6, .phase⟩], none⟩) rfl (fun K hK => ?_) AllReadyH.nil
  have r0 := XD.out.cell 0; have r1 := XD.out.cell 1
  have t0 := XD.out.frozen 0; have t1 := XD.out.frozen 1
  go_simp
  clear hHeld
  refine hK.out _ _ ?_ (fun hHeld => ?_)
  ·
   (try dsimp only); exact ⟨cell_two (kc KC0.out BB.out) (by have h1 : p < w.heap.size := Ret.cell_lt KC0.out; have h2 := HDW.out; omega), cell_two (kc KC1.out BB.out) (by have h1 : p < w.heap.size := Ret.cell_lt KC1.out; have h2 := HDW.out; omega), cell_two (kc KN0.out BB.out) (by have h1 : q < w.heap.size := Ret.cell_lt KN0.out; have h2 := HDW.out; omega)⟩
  clear hK K
  (try simp only [Act.put, Row.pB0, Row.pB1, Row.pB2])
  refine wpAnyH_done (by kernel_rfl) ?_ _
  exact NoPanic.normal (HQ.out _ _ _ _ _ _ gD mb db yb _ HDW.out XD.out HX.out BB.out)
 refine AllReadyH.cons (o := ⟨some 15, .alloc 24, 0, "exact.go:7122", #[], none⟩) rfl (fun K hK => ?_) AllReadyH.nil
 go_simp
 have hb : Below wd.heap.size wd (wd.alloc (.cells #[.int .i64 0, .slice none 0 0] 24)) := (Below.refl _ _).alloc (Nat.le_refl _) _
 obtain ⟨gD, hgD⟩ : ∃ g, g = wd.heap.size := ⟨_, rfl⟩
 have XD := Lib.hid (show Ret.Blk (wd.alloc (.cells #[.int .i64 0, .slice none 0 0] 24)) gD #[.int .i64 0, .slice none 0 0] 24 from by rw [hgD]; exact Ret.Blk.new wd _ _)
 have HDW := Lib.hid (show w.heap.size ≤ gD from by rw [hgD]; exact BB.out.size)
 (first | replace HX := Lib.hid (show kCn.In w.heap.size (wd.alloc (.cells #[.int .i64 0, .slice none 0 0] 24)).heap.size (wd.alloc (.cells #[.int .i64 0, .slice none 0 0] 24)) (.agg #[.int .i64 (touchC l0 l1 a2).1, .slice yb mb db]) (touchC l0 l1 a2) from Kd.In.mono (Kd.In.on HX.out hb) (Nat.le_refl _) hb.size) | skip)
 rw [← hgD]
 clear hgD
 replace BB := Lib.hid (BB.out.trans (hb.mono BB.out.size))
 clear hb
 generalize wd.alloc (.cells #[.int .i64 0, .slice none 0 0] 24) = wn13 at *
 clear hHeld
 refine hK.out _ _ ?_ (fun hHeld => ?_)
 ·
  (try dsimp only); exact ⟨kc KC0.out BB.out, kc KC1.out BB.out, kc KN0.out BB.out⟩
 clear hK K
 (try simp only [Act.put, Row.pB0, Row.pB1, Row.pB2])
 refine wpAnyH_ready (rs := [1]) (by kernel_rfl) (by simp) ?_
 refine AllReadyH.cons (o := ⟨some 80, .call ⟨.value (.func 18), #[.tmp 79], #[31]⟩, 24, "exact.go:7122", #[⟨0, .data⟩], none⟩) rfl (fun K hK => ?_) AllReadyH.nil
 go_simp
 refine (toContentStoreK _ l0 _ (H0.out.on BB.out) (Nat.le_trans (adCn_big Z0) (by decide))).mono ?_
 rintro e wn14 ⟨v, rfl, ho, hb⟩
 obtain ⟨xA, nA, cA, rfl, ho⟩ := kCn_shape ho
 have HA := Lib.hid ho.at; clear ho
 replace XD := Lib.hid (XD.out.on hb)
 replace BB := Lib.hid (BB.out.trans (hb.mono BB.out.size))
 clear hb
 (try go_wp2_with fail)
 clear hHeld
 refine hK.out _ _ ?_ (fun hHeld => ?_)
 ·
  (try dsimp only); exact ⟨kc KC0.out BB.out, kc KC1.out BB.out, kc KN0.out BB.out⟩
 clear hK K
 (try simp only [Act.put, Row.pB0, Row.pB1, Row.pB2])
 refine wpAnyH_ready (rs := [3]) (by kernel_rfl) (by simp) ?_
 refine AllReadyH.cons (o := ⟨some 82, .call ⟨.value (.func 28), #[.tmp 81], #[38]⟩, 44, "exact.go:7122", #[⟨2, .data⟩, ⟨1, .chain⟩], none⟩) rfl (fun K hK => ?_) AllReadyH.nil
 go_simp
 refine (toNK _ l1 _ (H1.out.on BB.out) (by have := Row.bulk_len l1; omega)).mono ?_
 rintro e wn15 ⟨v, rfl, ho, hb⟩
 obtain ⟨xB, nB, cB, rfl, ho⟩ := kN_shape ho
 have HBk := Lib.hid ho.at; clear ho
 replace XD := Lib.hid (XD.out.on hb)
 replace HA := Lib.hid (HA.out.on hb)
 replace BB := Lib.hid (BB.out.trans (hb.mono BB.out.size))
 clear hb
 (try go_wp2_with fail)
 clear hHeld
 refine hK.out _ _ ?_ (fun hHeld => ?_)
 ·
  (try dsimp only); exact ⟨kc KC0.out BB.out, kc KC1.out BB.out, kc KN0.out BB.out⟩
 clear hK K
 (try simp only [Act.put, Row.pB0, Row.pB1, Row.pB2])
 refine wpAnyH_ready (rs := [5]) (by kernel_rfl) (by simp) ?_
 refine AllReadyH.cons (o := ⟨some 84, .call ⟨.value (.func 34), #[.tmp 80, .tmp 82, .tmp 83], #[24, 44, 3]⟩, 24, "exact.go:7122", #[⟨1, .data⟩, ⟨3, .data⟩, ⟨4, .data⟩, ⟨3, .chain⟩], none⟩) rfl (fun K hK => ?_) AllReadyH.nil
 go_simp
 refine (implTouch _ _ l0 l1 a2 _ HA.out HBk.out (show wtCn l0 ≤ 1100000 by omega) (show bulk l1 ≤ 1200000 by omega)).mono ?_
 rintro e wn16 ⟨v, rfl, ho, hb⟩
 obtain ⟨yb, mb, db, rfl, ho⟩ := kCn_shape ho
 have HX := Lib.hid (show kCn.In w.heap.size wn16.heap.size wn16 (.agg #[.int .i64 (touchC l0 l1 a2).1, .slice yb mb db]) (touchC l0 l1 a2) from Kd.In.mono ho BB.out.size (Nat.le_refl _)); clear ho
 replace XD := Lib.hid (XD.out.on hb)
 replace HA := Lib.hid (HA.out.on hb)
 replace HBk := Lib.hid (HBk.out.on hb)
 replace BB := Lib.hid (BB.out.trans (hb.mono BB.out.size))
 clear hb
 (try go_wp2_with fail)
 clear hHeld
 refine hK.out _ _ ?_ (fun hHeld => ?_)
 ·
  (try dsimp only); exact ⟨kc KC0.out BB.out, kc KC1.out BB.out, kc KN0.out BB.out⟩
 clear hK K
 (try simp only [Act.put, Row.pB0, Row.pB1, Row.pB2])
 refine wpAnyH_ready (rs := [7]) (by kernel_rfl) (by simp) ?_
 refine AllReadyH.cons (o := ⟨none, .store 24 (.tmp 15) (.tmp 84), 0, "exact.go:7122", #[⟨6, .data⟩, ⟨5, .data⟩, ⟨5, .chain⟩, ⟨0, .phase⟩, ⟨1, .phase⟩, ⟨2, .phase⟩, ⟨3, .phase⟩, ⟨4, .phase⟩, ⟨5, .phase⟩, ⟨6, .phase⟩], none⟩) rfl (fun K hK => ?_) AllReadyH.nil
 have r0 := XD.out.cell 0; have r1 := XD.out.cell 1
 have t0 := XD.out.frozen 0; have t1 := XD.out.frozen 1
 go_simp
 clear hHeld
 refine hK.out _ _ ?_ (fun hHeld => ?_)
 ·
  (try dsimp only); exact ⟨cell_two (kc KC0.out BB.out) (by have h1 : p < w.heap.size := Ret.cell_lt KC0.out; have h2 := HDW.out; omega), cell_two (kc KC1.out BB.out) (by have h1 : p < w.heap.size := Ret.cell_lt KC1.out; have h2 := HDW.out; omega), cell_two (kc KN0.out BB.out) (by have h1 : q < w.heap.size := Ret.cell_lt KN0.out; have h2 := HDW.out; omega)⟩
 clear hK K
 (try simp only [Act.put, Row.pB0, Row.pB1, Row.pB2])
 refine wpAnyH_done (by kernel_rfl) ?_ _
 exact NoPanic.normal (HQ.out _ _ _ _ _ _ gD mb db yb _ HDW.out XD.out HX.out BB.out)
set_option maxRecDepth 100000 in
set_option maxHeartbeats 4000000 in
theorem implregR3 {Q : Exit → Act → World → Prop} {v0 v1 v5 v6 v7 v8 v9 v10 v11 v12 v13 v14 v15 v16 v17 v18 v19 v20 v21 v22 v23 v24 v25 v26 v27 v28 v29 v30 v31 v32 v33 v34 v35 v36 v37 v38 v39 v40 v41 v42 v43 v44 v45 v46 v47 v48 v49 v50 v51 v52 v53 v54 v55 v56 v57 v58 v59 v60 v61 v62 v63 v64 v65 v66 v67 v68 v69 v70 v71 v72 v73 v74 v75 v76 v77 v78 v79 v80 v81 v82 v83 v84 v85 v86 v87 v88 v89 v90 v91 v92 v93 v94 v95 v96 : Value} {w : World} {p q nl cl nn cn : Nat} {xl xn : Option Addr} {l0 : Cnt} {l1 : List ByteArray} {a2 : Int} (H0 : Hid (kCn.At w (.agg #[.int .i64 l0.1, .slice xl nl cl]) l0)) (H1 : Hid (kN.At w (.agg #[.slice xn nn cn]) l1)) (Z0 : wtCn l0 ≤ 1048576) (Z1 : bulk l1 ≤ 1048576) (KC0 : Hid (w.cell? ⟨p, 0, none⟩ = some (.int .i64 l0.1))) (KC1 : Hid (w.cell? ⟨p, 1, none⟩ = some (.slice xl nl cl))) (KN0 : Hid (w.cell? ⟨q, 0, none⟩ = some (.slice xn nn cn)))
    (hQ : ∀ (u79 u80 u81 u82 u83 u84 : Value) (gD mb db : Nat) (yb : Option Addr) (w2 : World), Below w.heap.size w w2 → kCn.In w.heap.size w2.heap.size w2 (.agg #[.int .i64 (touchC l0 l1 a2).1, .slice yb mb db]) (touchC l0 l1 a2) → Ret.Blk w2 gD #[.int .i64 (touchC l0 l1 a2).1, .slice yb mb db] 24 → w.heap.size ≤ gD → gD < w2.heap.size → Q .normal ⟨#[v0, v1, .int .i64 a2, .pointer (some ⟨p, 0, none⟩), .pointer (some ⟨q, 0, none⟩), v5, v6, v7, v8, v9, v10, v11, v12, v13, v14, .pointer (some ⟨gD, 0, none⟩), v16, v17, v18, v19, v20, v21, v22, v23, v24, v25, v26, v27, v28, v29, v30, v31, v32, v33, v34, v35, v36, v37, v38, v39, v40, v41, v42, v43, v44, v45, v46, v47, v48, v49, v50, v51, v52, v53, v54, v55, v56, v57, v58, v59, v60, v61, v62, v63, v64, v65, v66, v67, v68, v69, v70, v71, v72, v73, v74, v75, v76, v77, v78, u79, u80, u81, u82, u83, u84, v85, v86, v87, v88, v89, v90, v91, v92, v93, v94, v95, v96], []⟩ w2) :
    (Code.region 31 #[{ dst := some 79, op := Op.load 31 (Operand.tmp 3), type := 31, pos := "exact.go:7122", after := #[], guard := none },
      { dst := some 80, op := Op.call { callee := Callee.value (Operand.func 18), args := #[Operand.tmp 79], argTypes := #[31] }, type := 24, pos := "exact.go:7122", after := #[{ on := 0, ground := Ground.data }], guard := none },
      { dst := some 81, op := Op.load 38 (Operand.tmp 4), type := 38, pos := "exact.go:7122", after := #[], guard := none },
      { dst := some 82, op := Op.call { callee := Callee.value (Operand.func 28), args := #[Operand.tmp 81], argTypes := #[38] }, type := 44, pos := "exact.go:7122", after := #[{ on := 2, ground := Ground.data }, { on := 1, ground := Ground.chain }], guard := none },
      { dst := some 83, op := Op.move (Operand.tmp 2), type := 3, pos := "exact.go:7122", after := #[], guard := none },
      { dst := some 84, op := Op.call { callee := Callee.value (Operand.func 34), args := #[Operand.tmp 80, Operand.tmp 82, Operand.tmp 83], argTypes := #[24, 44, 3] }, type := 24, pos := "exact.go:7122", after := #[{ on := 1, ground := Ground.data }, { on := 3, ground := Ground.data }, { on := 4, ground := Ground.data }, { on := 3, ground := Ground.chain }], guard := none },
      { dst := some 15, op := Op.alloc 24, type := 0, pos := "exact.go:7122", after := #[], guard := none },
      { dst := none, op := Op.store 24 (Operand.tmp 15) (Operand.tmp 84), type := 0, pos := "exact.go:7122", after := #[{ on := 6, ground := Ground.data }, { on := 5, ground := Ground.data }, { on := 5, ground := Ground.chain }, { on := 0, ground := Ground.phase }, { on := 1, ground := Ground.phase }, { on := 2, ground := Ground.phase }, { on := 3, ground := Ground.phase }, { on := 4, ground := Ground.phase }, { on := 5, ground := Ground.phase }, { on := 6, ground := Ground.phase }], guard := none }] true).wp Try.prog Q ⟨#[v0, v1, .int .i64 a2, .pointer (some ⟨p, 0, none⟩), .pointer (some ⟨q, 0, none⟩), v5, v6, v7, v8, v9, v10, v11, v12, v13, v14, v15, v16, v17, v18, v19, v20, v21, v22, v23, v24, v25, v26, v27, v28, v29, v30, v31, v32, v33, v34, v35, v36, v37, v38, v39, v40, v41, v42, v43, v44, v45, v46, v47, v48, v49, v50, v51, v52, v53, v54, v55, v56, v57, v58, v59, v60, v61, v62, v63, v64, v65, v66, v67, v68, v69, v70, v71, v72, v73, v74, v75, v76, v77, v78, v79, v80, v81, v82, v83, v84, v85, v86, v87, v88, v89, v90, v91, v92, v93, v94, v95, v96], []⟩ w := by
  refine implR30 H0 H1 Z0 Z1 KC0 KC1 KN0 ?_
  intro u79 u80 u81 u82 u83 u84 gD mb db yb wx hgd hxd hin hb
  obtain ⟨h1, h2, h3⟩ := two_facts12 (a := .int .i64 (touchC l0 l1 a2).1) (b := .slice yb mb db) hgd (Nat.le_refl _) hxd hin hb
  exact hQ _ _ _ _ _ _ gD mb db yb _ h1 h2 h3 hgd (by rw [size_two12]; exact hxd.lt)
end Go.Proofs.Ythfljbbigpophaa.Row
