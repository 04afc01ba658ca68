/- Contracts and mathematics, joined: RouteR1, NameK, NameSK, NameSM. No conditions but those that each states. -/
import Derived.Test.YtdaahcaafdleaaaB3
import Derived.Test.YtdaahcaafdleaaaB1
/- Regions of the exact law on MatchingPrefix: arguments copied, the call, the result laid in a variable, whatever order is drawn. No conditions. -/
namespace Go.Proofs.Ytdaahcaafdleaaa.Row
open Go.ChangeShapes Go.WideShapes Go.ChangeAt Go.RowKit Go.Instr
set_option linter.unusedVariables false
set_option maxRecDepth 100000
set_option maxRecDepth 100000 in
set_option maxHeartbeats 4000000 in
theorem specR140 {Q : Exit → Act → World → Prop} {v1 v2 v4 v5 v6 v7 v8 v9 v10 v11 v12 v13 v14 v15 v16 v17 v18 v19 v20 v21 v22 v23 v24 v25 v26 v27 v28 v29 v30 v31 v32 v33 v34 v35 v36 v37 v38 v39 v40 v41 v42 v43 v44 v45 v46 v47 v48 v49 v50 v51 v52 v53 v54 v55 v56 v57 v58 v59 v60 v61 v62 v63 v64 v65 v66 v67 v68 v69 v70 v71 v72 v73 v74 v75 v76 v77 v78 v79 v80 v81 v82 v83 v84 v85 v86 v87 v88 v89 v90 v91 v92 v93 v94 v95 v96 v97 v98 v99 v100 v101 v102 v103 v104 v105 v106 v107 v108 v109 v110 v111 v112 v113 v114 v115 v116 v117 v118 : Value} {w : World} {q nl cl nn cn : Nat} {xl xn : Option Addr} {l0 : List Rtt} {l1 : List ByteArray} (H0 : Hid (kLRt.At w (.slice xl nl cl) l0)) (H1 : Hid (kN.At w (.agg #[.slice xn nn cn]) l1)) (Z0 : bulkK wtRt l0 ≤ 1048576) (Z1 : bulk l1 ≤ 1048576) (KN0 : Hid (w.cell? ⟨q, 0, none⟩ = some (.slice xn nn cn)))
  (hQ : ∀ (u27 u28 u29 u30 u31 u32 u33 u34 : Value) (gD ma da : Nat) (ya : Option Addr) (z0 : Value)  (wx : World), w.heap.size ≤ gD → Ret.Blk wx gD #[z0] 27 → kN.In w.heap.size wx.heap.size wx (.agg #[.slice ya ma da]) (mpN l0 l1) → Below w.heap.size w wx → Q .normal ⟨#[.slice xl nl cl, v1, v2, .pointer (some ⟨q, 0, none⟩), v4, v5, .pointer (some ⟨gD, 0, none⟩), .bool (mpB l0 l1), v8, v9, v10, v11, v12, v13, v14, v15, v16, v17, v18, v19, v20, v21, v22, v23, v24, v25, v26, u27, u28, u29, u30, u31, u32, u33, u34, v35, v36, v37, v38, v39, v40, v41, v42, v43, v44, v45, v46, v47, v48, v49, v50, v51, v52, v53, v54, v55, v56, v57, v58, v59, v60, v61, v62, v63, v64, v65, v66, v67, v68, v69, v70, v71, v72, v73, v74, v75, v76, v77, v78, v79, v80, v81, v82, v83, v84, v85, v86, v87, v88, v89, v90, v91, v92, v93, v94, v95, v96, v97, v98, v99, v100, v101, v102, v103, v104, v105, v106, v107, v108, v109, v110, v111, v112, v113, v114, v115, v116, v117, v118], []⟩ (wx.setCell ⟨gD, 0, none⟩ (.slice ya ma da))) :
  (Code.region 8 #[⟨some 28, .move (.tmp 0), 39, "exact.go:7797", #[], none⟩,
   ⟨some 29, .call ⟨.value (.func 17), #[.tmp 28], #[39]⟩, 42, "exact.go:7797", #[⟨0, .data⟩], none⟩,
   ⟨some 30, .load 46 (.tmp 3), 46, "exact.go:7797", #[], none⟩,
   ⟨some 31, .call ⟨.value (.func 32), #[.tmp 30], #[46]⟩, 27, "exact.go:7797", #[⟨2, .data⟩, ⟨1, .chain⟩], none⟩,
   ⟨some 32, .call ⟨.value (.func 31), #[.tmp 29, .tmp 31], #[42, 27]⟩, 62, "exact.go:7797", #[⟨1, .data⟩, ⟨3, .data⟩, ⟨3, .chain⟩], none⟩,
   ⟨some 27, .move (.tmp 32), 62, "exact.go:7797", #[⟨4, .data⟩], none⟩,
   ⟨some 33, .extract (.tmp 27) 0, 27, "exact.go:7797", #[⟨5, .data⟩], none⟩,
   ⟨some 34, .extract (.tmp 27) 1, 4, "exact.go:7797", #[⟨5, .data⟩, { on := 9, ground := Ground.gcOnly Departure.lateStores }], none⟩,
   ⟨some 6, .alloc 27, 0, "exact.go:7797", #[], none⟩,
   ⟨none, .store 27 (.tmp 6) (.tmp 33), 0, "exact.go:7797", #[⟨8, .data⟩, ⟨6, .data⟩, ⟨4, .chain⟩, ⟨0, .phase⟩, ⟨1, .phase⟩, ⟨2, .phase⟩, ⟨3, .phase⟩, ⟨4, .phase⟩, ⟨5, .phase⟩, ⟨6, .phase⟩, { on := 7, ground := Ground.textOnly Departure.lateStores }, ⟨8, .phase⟩], none⟩,
   ⟨some 7, .assign (.tmp 34), 4, "exact.go:7797", #[⟨7, .data⟩, ⟨9, .chain⟩, ⟨0, .phase⟩, ⟨1, .phase⟩, ⟨2, .phase⟩, ⟨3, .phase⟩, ⟨4, .phase⟩, ⟨5, .phase⟩, ⟨6, .phase⟩, ⟨7, .phase⟩, ⟨8, .phase⟩, ⟨9, .phase⟩], none⟩] true).wp Try.prog Q ⟨#[.slice xl nl cl, v1, v2, .pointer (some ⟨q, 0, none⟩), v4, v5, v6, v7, v8, v9, v10, v11, v12, v13, v14, v15, v16, v17, v18, v19, v20, v21, v22, v23, v24, v25, v26, v27, v28, v29, v30, v31, v32, v33, v34, v35, v36, v37, v38, v39, v40, v41, v42, v43, v44, v45, v46, v47, v48, v49, v50, v51, v52, v53, v54, v55, v56, v57, v58, v59, v60, v61, v62, v63, v64, v65, v66, v67, v68, v69, v70, v71, v72, v73, v74, v75, v76, v77, v78, v79, v80, v81, v82, v83, v84, v85, v86, v87, v88, v89, v90, v91, v92, v93, v94, v95, v96, v97, v98, v99, v100, v101, v102, v103, v104, v105, v106, v107, v108, v109, v110, v111, v112, v113, v114, v115, v116, v117, v118], []⟩ w := by
 have HQ := Lib.hid hQ; clear hQ
 have hdr : Below w.heap.size w w.drew := (Below.refl _ _).drew
 have BB := Lib.hid hdr
 refine wp_region_noPanic ?_
 refine wp_region_held_drew (S := (fun w' => w'.cell? ⟨q, 0, none⟩ = some (.slice xn nn cn))) (by kernel_rfl) ?_ (fun hHeld => ?_)
 ·
  exact kc KN0.out BB.out
 clear hdr
 generalize w.drew = wd at *
 refine wpAnyH_take (i := 0) (oi := ⟨some 28, .move (.tmp 0), 39, "exact.go:7797", #[], none⟩) (v := ?_) rfl (by kernel_rfl) (by kernel_rfl) (by kernel_rfl) (fun _ _ _ h => h) (Or.inl ⟨by rfl, ?_⟩) (by assumption) ?_
 rotate_left
 ·
  intro w' hSw; (try dsimp only at hSw); first | (go_simp; done) | (go_simp; with_reducible rfl)
 (try simp only [Act.put, Row.pB0, Row.pB1, Row.pB2])
 refine wpAnyH_take (i := 2) (oi := ⟨some 30, .load 46 (.tmp 3), 46, "exact.go:7797", #[], none⟩) (v := ?_) rfl (by kernel_rfl) (by kernel_rfl) (by kernel_rfl) (fun _ _ _ h => h) (Or.inl ⟨by rfl, ?_⟩) (by assumption) ?_
 rotate_left
 ·
  intro w' hSw; (try dsimp only at hSw); first | (go_simp; done) | (go_simp; with_reducible rfl)
 (try simp only [Act.put, Row.pB0, Row.pB1, Row.pB2])
 refine wpAnyH_ready (rs := [1, 8]) (by kernel_rfl) (by simp) ?_
 refine AllReadyH.cons (o := ⟨some 29, .call ⟨.value (.func 17), #[.tmp 28], #[39]⟩, 42, "exact.go:7797", #[⟨0, .data⟩], none⟩) rfl (fun K hK => ?_) ?_
 ·
  go_simp
  refine (toLRtK _ l0 _ (H0.out.on BB.out) (Nat.le_trans (adLRt_big Z0) (by decide))).mono ?_
  rintro e wn1 ⟨v, rfl, ho, hb⟩
  obtain ⟨xA, nA, cA, rfl, ho⟩ := kLRt_shape ho
  have HA := Lib.hid ho.at; clear ho
  replace BB := Lib.hid (BB.out.trans (hb.mono BB.out.size))
  clear hb
  (try go_wp2_with fail)
  clear hHeld
  refine hK.out _ _ ?_ (fun hHeld => ?_)
  ·
   (try dsimp only); exact kc KN0.out BB.out
  clear hK K
  (try simp only [Act.put, Row.pB0, Row.pB1, Row.pB2])
  refine wpAnyH_ready (rs := [3, 8]) (by kernel_rfl) (by simp) ?_
  refine AllReadyH.cons (o := ⟨some 31, .call ⟨.value (.func 32), #[.tmp 30], #[46]⟩, 27, "exact.go:7797", #[⟨2, .data⟩, ⟨1, .chain⟩], none⟩) rfl (fun K hK => ?_) ?_
  ·
   go_simp
   refine (toNK _ l1 _ (H1.out.on BB.out) (by have := Row.bulk_len l1; omega)).mono ?_
   rintro e wn2 ⟨v, rfl, ho, hb⟩
   obtain ⟨xB, nB, cB, rfl, ho⟩ := kN_shape ho
   have HBk := Lib.hid ho.at; clear ho
   replace HA := Lib.hid (HA.out.on hb)
   replace BB := Lib.hid (BB.out.trans (hb.mono BB.out.size))
   clear hb
   (try go_wp2_with fail)
   clear hHeld
   refine hK.out _ _ ?_ (fun hHeld => ?_)
   ·
    (try dsimp only); exact kc KN0.out BB.out
   clear hK K
   (try simp only [Act.put, Row.pB0, Row.pB1, Row.pB2])
   refine wpAnyH_ready (rs := [4, 8]) (by kernel_rfl) (by simp) ?_
   refine AllReadyH.cons (o := ⟨some 32, .call ⟨.value (.func 31), #[.tmp 29, .tmp 31], #[42, 27]⟩, 62, "exact.go:7797", #[⟨1, .data⟩, ⟨3, .data⟩, ⟨3, .chain⟩], none⟩) rfl (fun K hK => ?_) ?_
   ·
    go_simp
    refine (specMatchingPrefix _ _ l0 l1 _ HA.out HBk.out (show bulkK wtRt l0 ≤ 1100000 by omega) (show bulk l1 ≤ 1200000 by omega)).mono ?_
    rintro e wn3 ⟨v, rfl, ho, hb⟩
    obtain ⟨ya, ma, da, rfl, ho⟩ := kN_shape ho
    have HX := Lib.hid (show kN.In w.heap.size wn3.heap.size wn3 (.agg #[.slice ya ma da]) (mpN l0 l1) from Kd.In.mono ho BB.out.size (Nat.le_refl _)); clear ho
    replace HA := Lib.hid (HA.out.on hb)
    replace HBk := Lib.hid (HBk.out.on hb)
    replace BB := Lib.hid (BB.out.trans (hb.mono BB.out.size))
    clear hb
    (try go_wp2_with fail)
    clear hHeld
    refine hK.out _ _ ?_ (fun hHeld => ?_)
    ·
     (try dsimp only); exact kc KN0.out BB.out
    clear hK K
    (try simp only [Act.put, Row.pB0, Row.pB1, Row.pB2])
    refine wpAnyH_take (i := 5) (oi := ⟨some 27, .move (.tmp 32), 62, "exact.go:7797", #[⟨4, .data⟩], none⟩) (v := ?_) rfl (by kernel_rfl) (by kernel_rfl) (by kernel_rfl) (fun _ _ _ h => h) (Or.inl ⟨by rfl, ?_⟩) (by assumption) ?_
    rotate_left
    ·
     intro w' hSw; (try dsimp only at hSw); first | (go_simp; done) | (go_simp; with_reducible rfl)
    (try simp only [Act.put, Row.pB0, Row.pB1, Row.pB2])
    refine wpAnyH_take (i := 6) (oi := ⟨some 33, .extract (.tmp 27) 0, 27, "exact.go:7797", #[⟨5, .data⟩], none⟩) (v := ?_) rfl (by kernel_rfl) (by kernel_rfl) (by kernel_rfl) (fun _ _ _ h => h) (Or.inl ⟨by rfl, ?_⟩) (by assumption) ?_
    rotate_left
    ·
     intro w' hSw; (try dsimp only at hSw); first | (go_simp; done) | (go_simp; with_reducible rfl)
    (try simp only [Act.put, Row.pB0, Row.pB1, Row.pB2])
    refine wpAnyH_take (i := 7) (oi := ⟨some 34, .extract (.tmp 27) 1, 4, "exact.go:7797", #[⟨5, .data⟩, { on := 9, ground := Ground.gcOnly Departure.lateStores }], none⟩) (v := ?_) rfl (by kernel_rfl) (by kernel_rfl) (by kernel_rfl) (fun _ _ _ h => h) (Or.inl ⟨by rfl, ?_⟩) (by assumption) ?_
    rotate_left
    ·
     intro w' hSw; (try dsimp only at hSw); first | (go_simp; done) | (go_simp; with_reducible rfl)
    (try simp only [Act.put, Row.pB0, Row.pB1, Row.pB2])
    refine wpAnyH_ready (rs := [8]) (by kernel_rfl) (by simp) ?_
    refine AllReadyH.cons (o := ⟨some 6, .alloc 27, 0, "exact.go:7797", #[], none⟩) rfl (fun K hK => ?_) AllReadyH.nil
    go_simp
    have hb : Below wn3.heap.size wn3 (wn3.alloc (.cells #[.slice none 0 0] 27)) := (Below.refl _ _).alloc (Nat.le_refl _) _
    obtain ⟨gD, hgD⟩ : ∃ g, g = wn3.heap.size := ⟨_, rfl⟩
    have XD := Lib.hid (show Ret.Blk (wn3.alloc (.cells #[.slice none 0 0] 27)) gD #[.slice none 0 0] 27 from by rw [hgD]; exact Ret.Blk.new wn3 _ _)
    have HDW := Lib.hid (show w.heap.size ≤ gD from by rw [hgD]; exact BB.out.size)
    (first | replace HX := Lib.hid (show kN.In w.heap.size (wn3.alloc (.cells #[.slice none 0 0] 27)).heap.size (wn3.alloc (.cells #[.slice none 0 0] 27)) (.agg #[.slice ya ma da]) (mpN l0 l1) from Kd.In.mono (Kd.In.on HX.out hb) (Nat.le_refl _) hb.size) | skip)
    rw [← hgD]
    clear hgD
    replace HA := Lib.hid (HA.out.on hb)
    replace HBk := Lib.hid (HBk.out.on hb)
    replace BB := Lib.hid (BB.out.trans (hb.mono BB.out.size))
    clear hb
    generalize wn3.alloc (.cells #[.slice none 0 0] 27) = wn4 at *
    clear hHeld
    refine hK.out _ _ ?_ (fun hHeld => ?_)
    ·
     (try dsimp only); exact kc KN0.out BB.out
    clear hK K
    (try simp only [Act.put, Row.pB0, Row.pB1, Row.pB2])
    refine wpAnyH_ready (rs := [9]) (by kernel_rfl) (by simp) ?_
    refine AllReadyH.cons (o := ⟨none, .store 27 (.tmp 6) (.tmp 33), 0, "exact.go:7797", #[⟨8, .data⟩, ⟨6, .data⟩, ⟨4, .chain⟩, ⟨0, .phase⟩, ⟨1, .phase⟩, ⟨2, .phase⟩, ⟨3, .phase⟩, ⟨4, .phase⟩, ⟨5, .phase⟩, ⟨6, .phase⟩, { on := 7, ground := Ground.textOnly Departure.lateStores }, ⟨8, .phase⟩], none⟩) rfl (fun K hK => ?_) AllReadyH.nil
    have r0 := XD.out.cell 0; have t0 := XD.out.frozen 0
    go_simp
    clear hHeld
    refine hK.out _ _ ?_ (fun hHeld => ?_)
    ·
     (try dsimp only); exact (Ret.grownBy_set _ ⟨gD, 0, none⟩ _).cell (kc KN0.out BB.out) (fun e => by have h1 : q < w.heap.size := Ret.cell_lt KN0.out; have h2 := HDW.out; cases e; omega)
    clear hK K
    (try simp only [Act.put, Row.pB0, Row.pB1, Row.pB2])
    refine wpAnyH_take (i := 10) (oi := ⟨some 7, .assign (.tmp 34), 4, "exact.go:7797", #[⟨7, .data⟩, ⟨9, .chain⟩, ⟨0, .phase⟩, ⟨1, .phase⟩, ⟨2, .phase⟩, ⟨3, .phase⟩, ⟨4, .phase⟩, ⟨5, .phase⟩, ⟨6, .phase⟩, ⟨7, .phase⟩, ⟨8, .phase⟩, ⟨9, .phase⟩], none⟩) (v := ?_) rfl (by kernel_rfl) (by kernel_rfl) (by kernel_rfl) (fun _ _ _ h => h) (Or.inl ⟨by rfl, ?_⟩) (by assumption) ?_
    rotate_left
    ·
     intro w' hSw; (try dsimp only at hSw); first | (go_simp; done) | (go_simp; with_reducible rfl)
    (try simp only [Act.put, Row.pB0, Row.pB1, Row.pB2])
    refine wpAnyH_done (by kernel_rfl) ?_ _
    exact NoPanic.normal (HQ.out _ _ _ _ _ _ _ _ gD ma da ya _ _ HDW.out XD.out HX.out BB.out)
   refine AllReadyH.cons (o := ⟨some 6, .alloc 27, 0, "exact.go:7797", #[], none⟩) rfl (fun K hK => ?_) AllReadyH.nil
   go_simp
   have hb : Below wn2.heap.size wn2 (wn2.alloc (.cells #[.slice none 0 0] 27)) := (Below.refl _ _).alloc (Nat.le_refl _) _
   obtain ⟨gD, hgD⟩ : ∃ g, g = wn2.heap.size := ⟨_, rfl⟩
   have XD := Lib.hid (show Ret.Blk (wn2.alloc (.cells #[.slice none 0 0] 27)) gD #[.slice none 0 0] 27 from by rw [hgD]; exact Ret.Blk.new wn2 _ _)
   have HDW := Lib.hid (show w.heap.size ≤ gD from by rw [hgD]; exact BB.out.size)
   (first | replace HX := Lib.hid (show kN.In w.heap.size (wn2.alloc (.cells #[.slice none 0 0] 27)).heap.size (wn2.alloc (.cells #[.slice none 0 0] 27)) (.agg #[.slice ya ma da]) (mpN l0 l1) from Kd.In.mono (Kd.In.on HX.out hb) (Nat.le_refl _) hb.size) | skip)
   rw [← hgD]
   clear hgD
   replace HA := Lib.hid (HA.out.on hb)
   replace HBk := Lib.hid (HBk.out.on hb)
   replace BB := Lib.hid (BB.out.trans (hb.mono BB.out.size))
   clear hb
   generalize wn2.alloc (.cells #[.slice none 0 0] 27) = wn6 at *
   clear hHeld
   refine hK.out _ _ ?_ (fun hHeld => ?_)
   ·
    (try dsimp only); exact kc KN0.out BB.out
   clear hK K
   (try simp only [Act.put, Row.pB0, Row.pB1, Row.pB2])
   refine wpAnyH_ready (rs := [4]) (by kernel_rfl) (by simp) ?_
   refine AllReadyH.cons (o := ⟨some 32, .call ⟨.value (.func 31), #[.tmp 29, .tmp 31], #[42, 27]⟩, 62, "exact.go:7797", #[⟨1, .data⟩, ⟨3, .data⟩, ⟨3, .chain⟩], none⟩) rfl (fun K hK => ?_) AllReadyH.nil
   go_simp
   refine (specMatchingPrefix _ _ l0 l1 _ HA.out HBk.out (show bulkK wtRt l0 ≤ 1100000 by omega) (show bulk l1 ≤ 1200000 by omega)).mono ?_
   rintro e wn7 ⟨v, rfl, ho, hb⟩
   obtain ⟨ya, ma, da, rfl, ho⟩ := kN_shape ho
   have HX := Lib.hid (show kN.In w.heap.size wn7.heap.size wn7 (.agg #[.slice ya ma da]) (mpN l0 l1) from Kd.In.mono ho BB.out.size (Nat.le_refl _)); clear ho
   replace HA := Lib.hid (HA.out.on hb)
   replace HBk := Lib.hid (HBk.out.on hb)
   replace XD := Lib.hid (XD.out.on hb)
   replace BB := Lib.hid (BB.out.trans (hb.mono BB.out.size))
   clear hb
   (try go_wp2_with fail)
   clear hHeld
   refine hK.out _ _ ?_ (fun hHeld => ?_)
   ·
    (try dsimp only); exact kc KN0.out BB.out
   clear hK K
   (try simp only [Act.put, Row.pB0, Row.pB1, Row.pB2])
   refine wpAnyH_take (i := 5) (oi := ⟨some 27, .move (.tmp 32), 62, "exact.go:7797", #[⟨4, .data⟩], none⟩) (v := ?_) rfl (by kernel_rfl) (by kernel_rfl) (by kernel_rfl) (fun _ _ _ h => h) (Or.inl ⟨by rfl, ?_⟩) (by assumption) ?_
   rotate_left
   ·
    intro w' hSw; (try dsimp only at hSw); first | (go_simp; done) | (go_simp; with_reducible rfl)
   (try simp only [Act.put, Row.pB0, Row.pB1, Row.pB2])
   refine wpAnyH_take (i := 6) (oi := ⟨some 33, .extract (.tmp 27) 0, 27, "exact.go:7797", #[⟨5, .data⟩], none⟩) (v := ?_) rfl (by kernel_rfl) (by kernel_rfl) (by kernel_rfl) (fun _ _ _ h => h) (Or.inl ⟨by rfl, ?_⟩) (by assumption) ?_
   rotate_left
   ·
    intro w' hSw; (try dsimp only at hSw); first | (go_simp; done) | (go_simp; with_reducible rfl)
   (try simp only [Act.put, Row.pB0, Row.pB1, Row.pB2])
   refine wpAnyH_take (i := 7) (oi := ⟨some 34, .extract (.tmp 27) 1, 4, "exact.go:7797", #[⟨5, .data⟩, { on := 9, ground := Ground.gcOnly Departure.lateStores }], none⟩) (v := ?_) rfl (by kernel_rfl) (by kernel_rfl) (by kernel_rfl) (fun _ _ _ h => h) (Or.inl ⟨by rfl, ?_⟩) (by assumption) ?_
   rotate_left
   ·
    intro w' hSw; (try dsimp only at hSw); first | (go_simp; done) | (go_simp; with_reducible rfl)
   (try simp only [Act.put, Row.pB0, Row.pB1, Row.pB2])
   refine wpAnyH_ready (rs := [9]) (by kernel_rfl) (by simp) ?_
   refine AllReadyH.cons (o := ⟨none, .store 27 (.tmp 6) (.tmp 33), 0, "exact.go:7797", #[⟨8, .data⟩, ⟨6, .data⟩, ⟨4, .chain⟩, ⟨0, .phase⟩, ⟨1, .phase⟩, ⟨2, .phase⟩, ⟨3, .phase⟩, ⟨4, .phase⟩, ⟨5, .phase⟩, ⟨6, .phase⟩, { on := 7, ground := Ground.textOnly Departure.lateStores }, ⟨8, .phase⟩], none⟩) rfl (fun K hK => ?_) AllReadyH.nil
   have r0 := XD.out.cell 0; have t0 := XD.out.frozen 0
   go_simp
   clear hHeld
   refine hK.out _ _ ?_ (fun hHeld => ?_)
   ·
    (try dsimp only); exact (Ret.grownBy_set _ ⟨gD, 0, none⟩ _).cell (kc KN0.out BB.out) (fun e => by have h1 : q < w.heap.size := Ret.cell_lt KN0.out; have h2 := HDW.out; cases e; omega)
   clear hK K
   (try simp only [Act.put, Row.pB0, Row.pB1, Row.pB2])
   refine wpAnyH_take (i := 10) (oi := ⟨some 7, .assign (.tmp 34), 4, "exact.go:7797", #[⟨7, .data⟩, ⟨9, .chain⟩, ⟨0, .phase⟩, ⟨1, .phase⟩, ⟨2, .phase⟩, ⟨3, .phase⟩, ⟨4, .phase⟩, ⟨5, .phase⟩, ⟨6, .phase⟩, ⟨7, .phase⟩, ⟨8, .phase⟩, ⟨9, .phase⟩], none⟩) (v := ?_) rfl (by kernel_rfl) (by kernel_rfl) (by kernel_rfl) (fun _ _ _ h => h) (Or.inl ⟨by rfl, ?_⟩) (by assumption) ?_
   rotate_left
   ·
    intro w' hSw; (try dsimp only at hSw); first | (go_simp; done) | (go_simp; with_reducible rfl)
   (try simp only [Act.put, Row.pB0, Row.pB1, Row.pB2])
   refine wpAnyH_done (by kernel_rfl) ?_ _
   exact NoPanic.normal (HQ.out _ _ _ _ _ _ _ _ gD ma da ya _ _ HDW.out XD.out HX.out BB.out)
  refine AllReadyH.cons (o := ⟨some 6, .alloc 27, 0, "exact.go:7797", #[], none⟩) rfl (fun K hK => ?_) AllReadyH.nil
  go_simp
  have hb : Below wn1.heap.size wn1 (wn1.alloc (.cells #[.slice none 0 0] 27)) := (Below.refl _ _).alloc (Nat.le_refl _) _
  obtain ⟨gD, hgD⟩ : ∃ g, g = wn1.heap.size := ⟨_, rfl⟩
  have XD := Lib.hid (show Ret.Blk (wn1.alloc (.cells #[.slice none 0 0] 27)) gD #[.slice none 0 0] 27 from by rw [hgD]; exact Ret.Blk.new wn1 _ _)
  have HDW := Lib.hid (show w.heap.size ≤ gD from by rw [hgD]; exact BB.out.size)
  (first | replace HX := Lib.hid (show kN.In w.heap.size (wn1.alloc (.cells #[.slice none 0 0] 27)).heap.size (wn1.alloc (.cells #[.slice none 0 0] 27)) (.agg #[.slice ya ma da]) (mpN l0 l1) from Kd.In.mono (Kd.In.on HX.out hb) (Nat.le_refl _) hb.size) | skip)
  rw [← hgD]
  clear hgD
  replace HA := Lib.hid (HA.out.on hb)
  replace BB := Lib.hid (BB.out.trans (hb.mono BB.out.size))
  clear hb
  generalize wn1.alloc (.cells #[.slice none 0 0] 27) = wn9 at *
  clear hHeld
  refine hK.out _ _ ?_ (fun hHeld => ?_)
  ·
   (try dsimp only); exact kc KN0.out BB.out
  clear hK K
  (try simp only [Act.put, Row.pB0, Row.pB1, Row.pB2])
  refine wpAnyH_ready (rs := [3]) (by kernel_rfl) (by simp) ?_
  refine AllReadyH.cons (o := ⟨some 31, .call ⟨.value (.func 32), #[.tmp 30], #[46]⟩, 27, "exact.go:7797", #[⟨2, .data⟩, ⟨1, .chain⟩], none⟩) rfl (fun K hK => ?_) AllReadyH.nil
  go_simp
  refine (toNK _ l1 _ (H1.out.on BB.out) (by have := Row.bulk_len l1; omega)).mono ?_
  rintro e wn10 ⟨v, rfl, ho, hb⟩
  obtain ⟨xB, nB, cB, rfl, ho⟩ := kN_shape ho
  have HBk := Lib.hid ho.at; clear ho
  replace HA := Lib.hid (HA.out.on hb)
  replace XD := Lib.hid (XD.out.on hb)
  replace BB := Lib.hid (BB.out.trans (hb.mono BB.out.size))
  clear hb
  (try go_wp2_with fail)
  clear hHeld
  refine hK.out _ _ ?_ (fun hHeld => ?_)
  ·
   (try dsimp only); exact kc KN0.out BB.out
  clear hK K
  (try simp only [Act.put, Row.pB0, Row.pB1, Row.pB2])
  refine wpAnyH_ready (rs := [4]) (by kernel_rfl) (by simp) ?_
  refine AllReadyH.cons (o := ⟨some 32, .call ⟨.value (.func 31), #[.tmp 29, .tmp 31], #[42, 27]⟩, 62, "exact.go:7797", #[⟨1, .data⟩, ⟨3, .data⟩, ⟨3, .chain⟩], none⟩) rfl (fun K hK => ?_) AllReadyH.nil
  go_simp
  refine (specMatchingPrefix _ _ l0 l1 _ HA.out HBk.out (show bulkK wtRt l0 ≤ 1100000 by omega) (show bulk l1 ≤ 1200000 by omega)).mono ?_
  rintro e wn11 ⟨v, rfl, ho, hb⟩
  obtain ⟨ya, ma, da, rfl, ho⟩ := kN_shape ho
  have HX := Lib.hid (show kN.In w.heap.size wn11.heap.size wn11 (.agg #[.slice ya ma da]) (mpN l0 l1) from Kd.In.mono ho BB.out.size (Nat.le_refl _)); clear ho
  replace HA := Lib.hid (HA.out.on hb)
  replace XD := Lib.hid (XD.out.on hb)
  replace HBk := Lib.hid (HBk.out.on hb)
  replace BB := Lib.hid (BB.out.trans (hb.mono BB.out.size))
  clear hb
  (try go_wp2_with fail)
  clear hHeld
  refine hK.out _ _ ?_ (fun hHeld => ?_)
  ·
   (try dsimp only); exact kc KN0.out BB.out
  clear hK K
  (try simp only [Act.put, Row.pB0, Row.pB1, Row.pB2])
  refine wpAnyH_take (i := 5) (oi := ⟨some 27, .move (.tmp 32), 62, "exact.go:7797", #[⟨4, .data⟩], none⟩) (v := ?_) rfl (by kernel_rfl) (by kernel_rfl) (by kernel_rfl) (fun _ _ _ h => h) (Or.inl ⟨by rfl, ?_⟩) (by assumption) ?_
  rotate_left
  ·
   intro w' hSw; (try dsimp only at hSw); first | (go_simp; done) | (go_simp; with_reducible rfl)
  (try simp only [Act.put, Row.pB0, Row.pB1, Row.pB2])
  refine wpAnyH_take (i := 6) (oi := ⟨some 33, .extract (.tmp 27) 0, 27, "exact.go:7797", #[⟨5, .data⟩], none⟩) (v := ?_) rfl (by kernel_rfl) (by kernel_rfl) (by kernel_rfl) (fun _ _ _ h => h) (Or.inl ⟨by rfl, ?_⟩) (by assumption) ?_
  rotate_left
  ·
   intro w' hSw; (try dsimp only at hSw); first | (go_simp; done) | (go_simp; with_reducible rfl)
  (try simp only [Act.put, Row.pB0, Row.pB1, Row.pB2])
  refine wpAnyH_take (i := 7) (oi := ⟨some 34, .extract (.tmp 27) 1, 4, "exact.go:7797", #[⟨5, .data⟩, { on := 9, ground := Ground.gcOnly Departure.lateStores }], none⟩) (v := ?_) rfl (by kernel_rfl) (by kernel_rfl) (by kernel_rfl) (fun _ _ _ h => h) (Or.inl ⟨by rfl, ?_⟩) (by assumption) ?_
  rotate_left
  ·
   intro w' hSw; (try dsimp only at hSw); first | (go_simp; done) | (go_simp; with_reducible rfl)
  (try simp only [Act.put, Row.pB0, Row.pB1, Row.pB2])
  refine wpAnyH_ready (rs := [9]) (by kernel_rfl) (by simp) ?_
  refine AllReadyH.cons (o := ⟨none, .store 27 (.tmp 6) (.tmp 33), 0, "exact.go:7797", #[⟨8, .data⟩, ⟨6, .data⟩, ⟨4, .chain⟩, ⟨0, .phase⟩, ⟨1, .phase⟩, ⟨2, .phase⟩, ⟨3, .phase⟩, ⟨4, .phase⟩, ⟨5, .phase⟩, ⟨6, .phase⟩, { on := 7, ground := Ground.textOnly Departure.lateStores }, ⟨8, .phase⟩], none⟩) rfl (fun K hK => ?_) AllReadyH.nil
  have r0 := XD.out.cell 0; have t0 := XD.out.frozen 0
  go_simp
  clear hHeld
  refine hK.out _ _ ?_ (fun hHeld => ?_)
  ·
   (try dsimp only); exact (Ret.grownBy_set _ ⟨gD, 0, none⟩ _).cell (kc KN0.out BB.out) (fun e => by have h1 : q < w.heap.size := Ret.cell_lt KN0.out; have h2 := HDW.out; cases e; omega)
  clear hK K
  (try simp only [Act.put, Row.pB0, Row.pB1, Row.pB2])
  refine wpAnyH_take (i := 10) (oi := ⟨some 7, .assign (.tmp 34), 4, "exact.go:7797", #[⟨7, .data⟩, ⟨9, .chain⟩, ⟨0, .phase⟩, ⟨1, .phase⟩, ⟨2, .phase⟩, ⟨3, .phase⟩, ⟨4, .phase⟩, ⟨5, .phase⟩, ⟨6, .phase⟩, ⟨7, .phase⟩, ⟨8, .phase⟩, ⟨9, .phase⟩], none⟩) (v := ?_) rfl (by kernel_rfl) (by kernel_rfl) (by kernel_rfl) (fun _ _ _ h => h) (Or.inl ⟨by rfl, ?_⟩) (by assumption) ?_
  rotate_left
  ·
   intro w' hSw; (try dsimp only at hSw); first | (go_simp; done) | (go_simp; with_reducible rfl)
  (try simp only [Act.put, Row.pB0, Row.pB1, Row.pB2])
  refine wpAnyH_done (by kernel_rfl) ?_ _
  exact NoPanic.normal (HQ.out _ _ _ _ _ _ _ _ gD ma da ya _ _ HDW.out XD.out HX.out BB.out)
 refine AllReadyH.cons (o := ⟨some 6, .alloc 27, 0, "exact.go:7797", #[], none⟩) rfl (fun K hK => ?_) AllReadyH.nil
 go_simp
 have hb : Below wd.heap.size wd (wd.alloc (.cells #[.slice none 0 0] 27)) := (Below.refl _ _).alloc (Nat.le_refl _) _
 obtain ⟨gD, hgD⟩ : ∃ g, g = wd.heap.size := ⟨_, rfl⟩
 have XD := Lib.hid (show Ret.Blk (wd.alloc (.cells #[.slice none 0 0] 27)) gD #[.slice none 0 0] 27 from by rw [hgD]; exact Ret.Blk.new wd _ _)
 have HDW := Lib.hid (show w.heap.size ≤ gD from by rw [hgD]; exact BB.out.size)
 (first | replace HX := Lib.hid (show kN.In w.heap.size (wd.alloc (.cells #[.slice none 0 0] 27)).heap.size (wd.alloc (.cells #[.slice none 0 0] 27)) (.agg #[.slice ya ma da]) (mpN l0 l1) from Kd.In.mono (Kd.In.on HX.out hb) (Nat.le_refl _) hb.size) | skip)
 rw [← hgD]
 clear hgD
 replace BB := Lib.hid (BB.out.trans (hb.mono BB.out.size))
 clear hb
 generalize wd.alloc (.cells #[.slice none 0 0] 27) = wn13 at *
 clear hHeld
 refine hK.out _ _ ?_ (fun hHeld => ?_)
 ·
  (try dsimp only); exact kc KN0.out BB.out
 clear hK K
 (try simp only [Act.put, Row.pB0, Row.pB1, Row.pB2])
 refine wpAnyH_ready (rs := [1]) (by kernel_rfl) (by simp) ?_
 refine AllReadyH.cons (o := ⟨some 29, .call ⟨.value (.func 17), #[.tmp 28], #[39]⟩, 42, "exact.go:7797", #[⟨0, .data⟩], none⟩) rfl (fun K hK => ?_) AllReadyH.nil
 go_simp
 refine (toLRtK _ l0 _ (H0.out.on BB.out) (Nat.le_trans (adLRt_big Z0) (by decide))).mono ?_
 rintro e wn14 ⟨v, rfl, ho, hb⟩
 obtain ⟨xA, nA, cA, rfl, ho⟩ := kLRt_shape ho
 have HA := Lib.hid ho.at; clear ho
 replace XD := Lib.hid (XD.out.on hb)
 replace BB := Lib.hid (BB.out.trans (hb.mono BB.out.size))
 clear hb
 (try go_wp2_with fail)
 clear hHeld
 refine hK.out _ _ ?_ (fun hHeld => ?_)
 ·
  (try dsimp only); exact kc KN0.out BB.out
 clear hK K
 (try simp only [Act.put, Row.pB0, Row.pB1, Row.pB2])
 refine wpAnyH_ready (rs := [3]) (by kernel_rfl) (by simp) ?_
 refine AllReadyH.cons (o := ⟨some 31, .call ⟨.value (.func 32), #[.tmp 30], #[46]⟩, 27, "exact.go:7797", #[⟨2, .data⟩, ⟨1, .chain⟩], none⟩) rfl (fun K hK => ?_) AllReadyH.nil
 go_simp
 refine (toNK _ l1 _ (H1.out.on BB.out) (by have := Row.bulk_len l1; omega)).mono ?_
 rintro e wn15 ⟨v, rfl, ho, hb⟩
 obtain ⟨xB, nB, cB, rfl, ho⟩ := kN_shape ho
 have HBk := Lib.hid ho.at; clear ho
 replace XD := Lib.hid (XD.out.on hb)
 replace HA := Lib.hid (HA.out.on hb)
 replace BB := Lib.hid (BB.out.trans (hb.mono BB.out.size))
 clear hb
 (try go_wp2_with fail)
 clear hHeld
 refine hK.out _ _ ?_ (fun hHeld => ?_)
 ·
  (try dsimp only); exact kc KN0.out BB.out
 clear hK K
 (try simp only [Act.put, Row.pB0, Row.pB1, Row.pB2])
 refine wpAnyH_ready (rs := [4]) (by kernel_rfl) (by simp) ?_
 refine AllReadyH.cons (o := ⟨some 32, .call ⟨.value (.func 31), #[.tmp 29, .tmp 31], #[42, 27]⟩, 62, "exact.go:7797", #[⟨1, .data⟩, ⟨3, .data⟩, ⟨3, .chain⟩], none⟩) rfl (fun K hK => ?_) AllReadyH.nil
 go_simp
 refine (specMatchingPrefix _ _ l0 l1 _ HA.out HBk.out (show bulkK wtRt l0 ≤ 1100000 by omega) (show bulk l1 ≤ 1200000 by omega)).mono ?_
 rintro e wn16 ⟨v, rfl, ho, hb⟩
 obtain ⟨ya, ma, da, rfl, ho⟩ := kN_shape ho
 have HX := Lib.hid (show kN.In w.heap.size wn16.heap.size wn16 (.agg #[.slice ya ma da]) (mpN l0 l1) from Kd.In.mono ho BB.out.size (Nat.le_refl _)); clear ho
 replace XD := Lib.hid (XD.out.on hb)
 replace HA := Lib.hid (HA.out.on hb)
 replace HBk := Lib.hid (HBk.out.on hb)
 replace BB := Lib.hid (BB.out.trans (hb.mono BB.out.size))
 clear hb
 (try go_wp2_with fail)
 clear hHeld
 refine hK.out _ _ ?_ (fun hHeld => ?_)
 ·
  (try dsimp only); exact kc KN0.out BB.out
 clear hK K
 (try simp only [Act.put, Row.pB0, Row.pB1, Row.pB2])
 refine wpAnyH_take (i := 5) (oi := ⟨some 27, .move (.tmp 32), 62, "exact.go:7797", #[⟨4, .data⟩], none⟩) (v := ?_) rfl (by kernel_rfl) (by kernel_rfl) (by kernel_rfl) (fun _ _ _ h => h) (Or.inl ⟨by rfl, ?_⟩) (by assumption) ?_
 rotate_left
 ·
  intro w' hSw; (try dsimp only at hSw); first | (go_simp; done) | (go_simp; with_reducible rfl)
 (try simp only [Act.put, Row.pB0, Row.pB1, Row.pB2])
 refine wpAnyH_take (i := 6) (oi := ⟨some 33, .extract (.tmp 27) 0, 27, "exact.go:7797", #[⟨5, .data⟩], none⟩) (v := ?_) rfl (by kernel_rfl) (by kernel_rfl) (by kernel_rfl) (fun _ _ _ h => h) (Or.inl ⟨by rfl, ?_⟩) (by assumption) ?_
 rotate_left
 ·
  intro w' hSw; (try dsimp only at hSw); first | (go_simp; done) | (go_simp; with_reducible rfl)
 (try simp only [Act.put, Row.pB0, Row.pB1, Row.pB2])
 refine wpAnyH_take (i := 7) (oi := ⟨some 34, .extract (.tmp 27) 1, 4, "exact.go:7797", #[⟨5, .data⟩, { on := 9, ground := Ground.gcOnly Departure.lateStores }], none⟩) (v := ?_) rfl (by kernel_rfl) (by kernel_rfl) (by kernel_rfl) (fun _ _ _ h => h) (Or.inl ⟨by rfl, ?_⟩) (by assumption) ?_
 rotate_left
 ·
  intro w' hSw; (try dsimp only at hSw); first | (go_simp; done) | (go_simp; with_reducible rfl)
 (try simp only [Act.put, Row.pB0, Row.pB1, Row.pB2])
 refine wpAnyH_ready (rs := [9]) (by kernel_rfl) (by simp) ?_
 refine AllReadyH.cons (o := ⟨none, .store 27 (.tmp 6) (.tmp 33), 0, "exact.go:7797", #[⟨8, .data⟩, ⟨6, .data⟩, ⟨4, .chain⟩, ⟨0, .phase⟩, ⟨1, .phase⟩, ⟨2, .phase⟩, ⟨3, .phase⟩, ⟨4, .phase⟩, ⟨5, .phase⟩, ⟨6, .phase⟩, { on := 7, ground := Ground.textOnly Departure.lateStores }, ⟨8, .phase⟩], none⟩) rfl (fun K hK => ?_) AllReadyH.nil
 have r0 := XD.out.cell 0; have t0 := XD.out.frozen 0
 go_simp
 clear hHeld
 refine hK.out _ _ ?_ (fun hHeld => ?_)
 ·
  (try dsimp only); exact (Ret.grownBy_set _ ⟨gD, 0, none⟩ _).cell (kc KN0.out BB.out) (fun e => by have h1 : q < w.heap.size := Ret.cell_lt KN0.out; have h2 := HDW.out; cases e; omega)
 clear hK K
 (try simp only [Act.put, Row.pB0, Row.pB1, Row.pB2])
 refine wpAnyH_take (i := 10) (oi := ⟨some 7, .assign (.tmp 34), 4, "exact.go:7797", #[⟨7, .data⟩, ⟨9, .chain⟩, ⟨0, .phase⟩, ⟨1, .phase⟩, ⟨2, .phase⟩, ⟨3, .phase⟩, ⟨4, .phase⟩, ⟨5, .phase⟩, ⟨6, .phase⟩, ⟨7, .phase⟩, ⟨8, .phase⟩, ⟨9, .phase⟩], none⟩) (v := ?_) rfl (by kernel_rfl) (by kernel_rfl) (by kernel_rfl) (fun _ _ _ h => h) (Or.inl ⟨by rfl, ?_⟩) (by assumption) ?_
 rotate_left
 ·
  intro w' hSw; (try dsimp only at hSw); first | (go_simp; done) | (go_simp; with_reducible rfl)
 (try simp only [Act.put, Row.pB0, Row.pB1, Row.pB2])
 refine wpAnyH_done (by kernel_rfl) ?_ _
 exact NoPanic.normal (HQ.out _ _ _ _ _ _ _ _ gD ma da ya _ _ HDW.out XD.out HX.out BB.out)
set_option maxRecDepth 100000 in
set_option maxHeartbeats 4000000 in
theorem specregR14 {Q : Exit → Act → World → Prop} {v1 v2 v4 v5 v6 v7 v8 v9 v10 v11 v12 v13 v14 v15 v16 v17 v18 v19 v20 v21 v22 v23 v24 v25 v26 v27 v28 v29 v30 v31 v32 v33 v34 v35 v36 v37 v38 v39 v40 v41 v42 v43 v44 v45 v46 v47 v48 v49 v50 v51 v52 v53 v54 v55 v56 v57 v58 v59 v60 v61 v62 v63 v64 v65 v66 v67 v68 v69 v70 v71 v72 v73 v74 v75 v76 v77 v78 v79 v80 v81 v82 v83 v84 v85 v86 v87 v88 v89 v90 v91 v92 v93 v94 v95 v96 v97 v98 v99 v100 v101 v102 v103 v104 v105 v106 v107 v108 v109 v110 v111 v112 v113 v114 v115 v116 v117 v118 : Value} {w : World} {q nl cl nn cn : Nat} {xl xn : Option Addr} {l0 : List Rtt} {l1 : List ByteArray} (H0 : Hid (kLRt.At w (.slice xl nl cl) l0)) (H1 : Hid (kN.At w (.agg #[.slice xn nn cn]) l1)) (Z0 : bulkK wtRt l0 ≤ 1048576) (Z1 : bulk l1 ≤ 1048576) (KN0 : Hid (w.cell? ⟨q, 0, none⟩ = some (.slice xn nn cn)))
    (hQ : ∀ (u27 u28 u29 u30 u31 u32 u33 u34 : Value) (gD ma da : Nat) (ya : Option Addr) (w2 : World), Below w.heap.size w w2 → kN.In w.heap.size w2.heap.size w2 (.agg #[.slice ya ma da]) (mpN l0 l1) → Ret.Blk w2 gD #[.slice ya ma da] 27 → w.heap.size ≤ gD → gD < w2.heap.size → Q .normal ⟨#[.slice xl nl cl, v1, v2, .pointer (some ⟨q, 0, none⟩), v4, v5, .pointer (some ⟨gD, 0, none⟩), .bool (mpB l0 l1), v8, v9, v10, v11, v12, v13, v14, v15, v16, v17, v18, v19, v20, v21, v22, v23, v24, v25, v26, u27, u28, u29, u30, u31, u32, u33, u34, v35, v36, v37, v38, v39, v40, v41, v42, v43, v44, v45, v46, v47, v48, v49, v50, v51, v52, v53, v54, v55, v56, v57, v58, v59, v60, v61, v62, v63, v64, v65, v66, v67, v68, v69, v70, v71, v72, v73, v74, v75, v76, v77, v78, v79, v80, v81, v82, v83, v84, v85, v86, v87, v88, v89, v90, v91, v92, v93, v94, v95, v96, v97, v98, v99, v100, v101, v102, v103, v104, v105, v106, v107, v108, v109, v110, v111, v112, v113, v114, v115, v116, v117, v118], []⟩ w2) :
    (Code.region 8 #[{ dst := some 28, op := Op.move (Operand.tmp 0), type := 39, pos := "exact.go:7797", after := #[], guard := none },
      { dst := some 29, op := Op.call { callee := Callee.value (Operand.func 17), args := #[Operand.tmp 28], argTypes := #[39] }, type := 42, pos := "exact.go:7797", after := #[{ on := 0, ground := Ground.data }], guard := none },
      { dst := some 30, op := Op.load 46 (Operand.tmp 3), type := 46, pos := "exact.go:7797", after := #[], guard := none },
      { dst := some 31, op := Op.call { callee := Callee.value (Operand.func 32), args := #[Operand.tmp 30], argTypes := #[46] }, type := 27, pos := "exact.go:7797", after := #[{ on := 2, ground := Ground.data }, { on := 1, ground := Ground.chain }], guard := none },
      { dst := some 32, op := Op.call { callee := Callee.value (Operand.func 31), args := #[Operand.tmp 29, Operand.tmp 31], argTypes := #[42, 27] }, type := 62, pos := "exact.go:7797", after := #[{ on := 1, ground := Ground.data }, { on := 3, ground := Ground.data }, { on := 3, ground := Ground.chain }], guard := none },
      { dst := some 27, op := Op.move (Operand.tmp 32), type := 62, pos := "exact.go:7797", after := #[{ on := 4, ground := Ground.data }], guard := none },
      { dst := some 33, op := Op.extract (Operand.tmp 27) 0, type := 27, pos := "exact.go:7797", after := #[{ on := 5, ground := Ground.data }], guard := none },
      { dst := some 34, op := Op.extract (Operand.tmp 27) 1, type := 4, pos := "exact.go:7797", after := #[{ on := 5, ground := Ground.data }, { on := 9, ground := Ground.gcOnly Departure.lateStores }], guard := none },
      { dst := some 6, op := Op.alloc 27, type := 0, pos := "exact.go:7797", after := #[], guard := none },
      { dst := none, op := Op.store 27 (Operand.tmp 6) (Operand.tmp 33), type := 0, pos := "exact.go:7797", after := #[{ on := 8, ground := Ground.data }, { on := 6, ground := Ground.data }, { on := 4, ground := Ground.chain }, { on := 0, ground := Ground.phase }, { on := 1, ground := Ground.phase }, { on := 2, ground := Ground.phase }, { on := 3, ground := Ground.phase }, { on := 4, ground := Ground.phase }, { on := 5, ground := Ground.phase }, { on := 6, ground := Ground.phase }, { on := 7, ground := Ground.textOnly Departure.lateStores }, { on := 8, ground := Ground.phase }], guard := none },
      { dst := some 7, op := Op.assign (Operand.tmp 34), type := 4, pos := "exact.go:7797", after := #[{ on := 7, ground := Ground.data }, { on := 9, ground := Ground.chain }, { on := 0, ground := Ground.phase }, { on := 1, ground := Ground.phase }, { on := 2, ground := Ground.phase }, { on := 3, ground := Ground.phase }, { on := 4, ground := Ground.phase }, { on := 5, ground := Ground.phase }, { on := 6, ground := Ground.phase }, { on := 7, ground := Ground.phase }, { on := 8, ground := Ground.phase }, { on := 9, ground := Ground.phase }], guard := none }] true).wp Try.prog Q ⟨#[.slice xl nl cl, v1, v2, .pointer (some ⟨q, 0, none⟩), v4, v5, v6, v7, v8, v9, v10, v11, v12, v13, v14, v15, v16, v17, v18, v19, v20, v21, v22, v23, v24, v25, v26, v27, v28, v29, v30, v31, v32, v33, v34, v35, v36, v37, v38, v39, v40, v41, v42, v43, v44, v45, v46, v47, v48, v49, v50, v51, v52, v53, v54, v55, v56, v57, v58, v59, v60, v61, v62, v63, v64, v65, v66, v67, v68, v69, v70, v71, v72, v73, v74, v75, v76, v77, v78, v79, v80, v81, v82, v83, v84, v85, v86, v87, v88, v89, v90, v91, v92, v93, v94, v95, v96, v97, v98, v99, v100, v101, v102, v103, v104, v105, v106, v107, v108, v109, v110, v111, v112, v113, v114, v115, v116, v117, v118], []⟩ w := by
  refine specR140 H0 H1 Z0 Z1 KN0 ?_
  intro u27 u28 u29 u30 u31 u32 u33 u34 gD ma da ya z0 wx hgd hxd hin hb
  obtain ⟨h1, h2, h3⟩ := one_facts14 (a := .slice ya ma da) hgd (Nat.le_refl _) hxd hin hb
  exact hQ _ _ _ _ _ _ _ _ gD ma da ya _ h1 h2 h3 hgd (by rw [World.size_setCell]; exact hxd.lt)
set_option maxRecDepth 100000 in
set_option maxHeartbeats 4000000 in
theorem implR140 {Q : Exit → Act → World → Prop} {v1 v2 v4 v5 v6 v7 v8 v9 v10 v11 v12 v13 v14 v15 v16 v17 v18 v19 v20 v21 v22 v23 v24 v25 v26 v27 v28 v29 v30 v31 v32 v33 v34 v35 v36 v37 v38 v39 v40 v41 v42 v43 v44 v45 v46 v47 v48 v49 v50 v51 v52 v53 v54 v55 v56 v57 v58 v59 v60 v61 v62 v63 v64 v65 v66 v67 v68 v69 v70 v71 v72 v73 v74 v75 v76 v77 v78 v79 v80 v81 v82 v83 v84 v85 v86 v87 v88 v89 v90 v91 v92 v93 v94 v95 v96 v97 v98 v99 v100 v101 v102 v103 v104 v105 v106 v107 v108 v109 v110 v111 v112 v113 v114 v115 v116 v117 v118 : Value} {w : World} {q nl cl nn cn : Nat} {xl xn : Option Addr} {l0 : List Rtt} {l1 : List ByteArray} (H0 : Hid (kLRt.At w (.slice xl nl cl) l0)) (H1 : Hid (kN.At w (.agg #[.slice xn nn cn]) l1)) (Z0 : bulkK wtRt l0 ≤ 1048576) (Z1 : bulk l1 ≤ 1048576) (KN0 : Hid (w.cell? ⟨q, 0, none⟩ = some (.slice xn nn cn)))
  (hQ : ∀ (u94 u95 u96 u97 u98 u99 u100 u101 : Value) (gD ma da : Nat) (ya : Option Addr) (z0 : Value)  (wx : World), w.heap.size ≤ gD → Ret.Blk wx gD #[z0] 27 → kN.In w.heap.size wx.heap.size wx (.agg #[.slice ya ma da]) (mpN l0 l1) → Below w.heap.size w wx → Q .normal ⟨#[.slice xl nl cl, v1, v2, .pointer (some ⟨q, 0, none⟩), v4, v5, v6, v7, v8, v9, v10, v11, v12, v13, v14, .pointer (some ⟨gD, 0, none⟩), .bool (mpB l0 l1), v17, v18, v19, v20, v21, v22, v23, v24, v25, v26, v27, v28, v29, v30, v31, v32, v33, v34, v35, v36, v37, v38, v39, v40, v41, v42, v43, v44, v45, v46, v47, v48, v49, v50, v51, v52, v53, v54, v55, v56, v57, v58, v59, v60, v61, v62, v63, v64, v65, v66, v67, v68, v69, v70, v71, v72, v73, v74, v75, v76, v77, v78, v79, v80, v81, v82, v83, v84, v85, v86, v87, v88, v89, v90, v91, v92, v93, u94, u95, u96, u97, u98, u99, u100, u101, v102, v103, v104, v105, v106, v107, v108, v109, v110, v111, v112, v113, v114, v115, v116, v117, v118], []⟩ (wx.setCell ⟨gD, 0, none⟩ (.slice ya ma da))) :
  (Code.region 31 #[⟨some 95, .move (.tmp 0), 39, "exact.go:7826", #[], none⟩,
   ⟨some 96, .call ⟨.value (.func 17), #[.tmp 95], #[39]⟩, 42, "exact.go:7826", #[⟨0, .data⟩], none⟩,
   ⟨some 97, .load 46 (.tmp 3), 46, "exact.go:7826", #[], none⟩,
   ⟨some 98, .call ⟨.value (.func 32), #[.tmp 97], #[46]⟩, 27, "exact.go:7826", #[⟨2, .data⟩, ⟨1, .chain⟩], none⟩,
   ⟨some 99, .call ⟨.value (.func 33), #[.tmp 96, .tmp 98], #[42, 27]⟩, 62, "exact.go:7826", #[⟨1, .data⟩, ⟨3, .data⟩, ⟨3, .chain⟩], none⟩,
   ⟨some 94, .move (.tmp 99), 62, "exact.go:7826", #[⟨4, .data⟩], none⟩,
   ⟨some 100, .extract (.tmp 94) 0, 27, "exact.go:7826", #[⟨5, .data⟩], none⟩,
   ⟨some 101, .extract (.tmp 94) 1, 4, "exact.go:7826", #[⟨5, .data⟩, { on := 9, ground := Ground.gcOnly Departure.lateStores }], none⟩,
   ⟨some 15, .alloc 27, 0, "exact.go:7826", #[], none⟩,
   ⟨none, .store 27 (.tmp 15) (.tmp 100), 0, "exact.go:7826", #[⟨8, .data⟩, ⟨6, .data⟩, ⟨4, .chain⟩, ⟨0, .phase⟩, ⟨1, .phase⟩, ⟨2, .phase⟩, ⟨3, .phase⟩, ⟨4, .phase⟩, ⟨5, .phase⟩, ⟨6, .phase⟩, { on := 7, ground := Ground.textOnly Departure.lateStores }, ⟨8, .phase⟩], none⟩,
   ⟨some 16, .assign (.tmp 101), 4, "exact.go:7826", #[⟨7, .data⟩, ⟨9, .chain⟩, ⟨0, .phase⟩, ⟨1, .phase⟩, ⟨2, .phase⟩, ⟨3, .phase⟩, ⟨4, .phase⟩, ⟨5, .phase⟩, ⟨6, .phase⟩, ⟨7, .phase⟩, ⟨8, .phase⟩, ⟨9, .phase⟩], none⟩] true).wp Try.prog Q ⟨#[.slice xl nl cl, v1, v2, .pointer (some ⟨q, 0, none⟩), v4, v5, v6, v7, v8, v9, v10, v11, v12, v13, v14, v15, v16, v17, v18, v19, v20, v21, v22, v23, v24, v25, v26, v27, v28, v29, v30, v31, v32, v33, v34, v35, v36, v37, v38, v39, v40, v41, v42, v43, v44, v45, v46, v47, v48, v49, v50, v51, v52, v53, v54, v55, v56, v57, v58, v59, v60, v61, v62, v63, v64, v65, v66, v67, v68, v69, v70, v71, v72, v73, v74, v75, v76, v77, v78, v79, v80, v81, v82, v83, v84, v85, v86, v87, v88, v89, v90, v91, v92, v93, v94, v95, v96, v97, v98, v99, v100, v101, v102, v103, v104, v105, v106, v107, v108, v109, v110, v111, v112, v113, v114, v115, v116, v117, v118], []⟩ w := by
 have HQ := Lib.hid hQ; clear hQ
 have hdr : Below w.heap.size w w.drew := (Below.refl _ _).drew
 have BB := Lib.hid hdr
 refine wp_region_noPanic ?_
 refine wp_region_held_drew (S := (fun w' => w'.cell? ⟨q, 0, none⟩ = some (.slice xn nn cn))) (by kernel_rfl) ?_ (fun hHeld => ?_)
 ·
  exact kc KN0.out BB.out
 clear hdr
 generalize w.drew = wd at *
 refine wpAnyH_take (i := 0) (oi := ⟨some 95, .move (.tmp 0), 39, "exact.go:7826", #[], none⟩) (v := ?_) rfl (by kernel_rfl) (by kernel_rfl) (by kernel_rfl) (fun _ _ _ h => h) (Or.inl ⟨by rfl, ?_⟩) (by assumption) ?_
 rotate_left
 ·
  intro w' hSw; (try dsimp only at hSw); first | (go_simp; done) | (go_simp; with_reducible rfl)
 (try simp only [Act.put, Row.pB0, Row.pB1, Row.pB2])
 refine wpAnyH_take (i := 2) (oi := ⟨some 97, .load 46 (.tmp 3), 46, "exact.go:7826", #[], none⟩) (v := ?_) rfl (by kernel_rfl) (by kernel_rfl) (by kernel_rfl) (fun _ _ _ h => h) (Or.inl ⟨by rfl, ?_⟩) (by assumption) ?_
 rotate_left
 ·
  intro w' hSw; (try dsimp only at hSw); first | (go_simp; done) | (go_simp; with_reducible rfl)
 (try simp only [Act.put, Row.pB0, Row.pB1, Row.pB2])
 refine wpAnyH_ready (rs := [1, 8]) (by kernel_rfl) (by simp) ?_
 refine AllReadyH.cons (o := ⟨some 96, .call ⟨.value (.func 17), #[.tmp 95], #[39]⟩, 42, "exact.go:7826", #[⟨0, .data⟩], none⟩) rfl (fun K hK => ?_) ?_
 ·
  go_simp
  refine (toLRtK _ l0 _ (H0.out.on BB.out) (Nat.le_trans (adLRt_big Z0) (by decide))).mono ?_
  rintro e wn1 ⟨v, rfl, ho, hb⟩
  obtain ⟨xA, nA, cA, rfl, ho⟩ := kLRt_shape ho
  have HA := Lib.hid ho.at; clear ho
  replace BB := Lib.hid (BB.out.trans (hb.mono BB.out.size))
  clear hb
  (try go_wp2_with fail)
  clear hHeld
  refine hK.out _ _ ?_ (fun hHeld => ?_)
  ·
   (try dsimp only); exact kc KN0.out BB.out
  clear hK K
  (try simp only [Act.put, Row.pB0, Row.pB1, Row.pB2])
  refine wpAnyH_ready (rs := [3, 8]) (by kernel_rfl) (by simp) ?_
  refine AllReadyH.cons (o := ⟨some 98, .call ⟨.value (.func 32), #[.tmp 97], #[46]⟩, 27, "exact.go:7826", #[⟨2, .data⟩, ⟨1, .chain⟩], none⟩) rfl (fun K hK => ?_) ?_
  ·
   go_simp
   refine (toNK _ l1 _ (H1.out.on BB.out) (by have := Row.bulk_len l1; omega)).mono ?_
   rintro e wn2 ⟨v, rfl, ho, hb⟩
   obtain ⟨xB, nB, cB, rfl, ho⟩ := kN_shape ho
   have HBk := Lib.hid ho.at; clear ho
   replace HA := Lib.hid (HA.out.on hb)
   replace BB := Lib.hid (BB.out.trans (hb.mono BB.out.size))
   clear hb
   (try go_wp2_with fail)
   clear hHeld
   refine hK.out _ _ ?_ (fun hHeld => ?_)
   ·
    (try dsimp only); exact kc KN0.out BB.out
   clear hK K
   (try simp only [Act.put, Row.pB0, Row.pB1, Row.pB2])
   refine wpAnyH_ready (rs := [4, 8]) (by kernel_rfl) (by simp) ?_
   refine AllReadyH.cons (o := ⟨some 99, .call ⟨.value (.func 33), #[.tmp 96, .tmp 98], #[42, 27]⟩, 62, "exact.go:7826", #[⟨1, .data⟩, ⟨3, .data⟩, ⟨3, .chain⟩], none⟩) rfl (fun K hK => ?_) ?_
   ·
    go_simp
    refine (implMatchingPrefix _ _ l0 l1 _ HA.out HBk.out (show bulkK wtRt l0 ≤ 1100000 by omega) (show bulk l1 ≤ 1200000 by omega)).mono ?_
    rintro e wn3 ⟨v, rfl, ho, hb⟩
    obtain ⟨ya, ma, da, rfl, ho⟩ := kN_shape ho
    have HX := Lib.hid (show kN.In w.heap.size wn3.heap.size wn3 (.agg #[.slice ya ma da]) (mpN l0 l1) from Kd.In.mono ho BB.out.size (Nat.le_refl _)); clear ho
    replace HA := Lib.hid (HA.out.on hb)
    replace HBk := Lib.hid (HBk.out.on hb)
    replace BB := Lib.hid (BB.out.trans (hb.mono BB.out.size))
    clear hb
    (try go_wp2_with fail)
    clear hHeld
    refine hK.out _ _ ?_ (fun hHeld => ?_)
    ·
     (try dsimp only); exact kc KN0.out BB.out
    clear hK K
    (try simp only [Act.put, Row.pB0, Row.pB1, Row.pB2])
    refine wpAnyH_take (i := 5) (oi := ⟨some 94, .move (.tmp 99), 62, "exact.go:7826", #[⟨4, .data⟩], none⟩) (v := ?_) rfl (by kernel_rfl) (by kernel_rfl) (by kernel_rfl) (fun _ _ _ h => h) (Or.inl ⟨by rfl, ?_⟩) (by assumption) ?_
    rotate_left
    ·
     intro w' hSw; (try dsimp only at hSw); first | (go_simp; done) | (go_simp; with_reducible rfl)
    (try simp only [Act.put, Row.pB0, Row.pB1, Row.pB2])
    refine wpAnyH_take (i := 6) (oi := ⟨some 100, .extract (.tmp 94) 0, 27, "exact.go:7826", #[⟨5, .data⟩], none⟩) (v := ?_) rfl (by kernel_rfl) (by kernel_rfl) (by kernel_rfl) (fun _ _ _ h => h) (Or.inl ⟨by rfl, ?_⟩) (by assumption) ?_
    rotate_left
    ·
     intro w' hSw; (try dsimp only at hSw); first | (go_simp; done) | (go_simp; with_reducible rfl)
    (try simp only [Act.put, Row.pB0, Row.pB1, Row.pB2])
    refine wpAnyH_take (i := 7) (oi := ⟨some 101, .extract (.tmp 94) 1, 4, "exact.go:7826", #[⟨5, .data⟩, { on := 9, ground := Ground.gcOnly Departure.lateStores }], none⟩) (v := ?_) rfl (by kernel_rfl) (by kernel_rfl) (by kernel_rfl) (fun _ _ _ h => h) (Or.inl ⟨by rfl, ?_⟩) (by assumption) ?_
    rotate_left
    ·
     intro w' hSw; (try dsimp only at hSw); first | (go_simp; done) | (go_simp; with_reducible rfl)
    (try simp only [Act.put, Row.pB0, Row.pB1, Row.pB2])
    refine wpAnyH_ready (rs := [8]) (by kernel_rfl) (by simp) ?_
    refine AllReadyH.cons (o := ⟨some 15, .alloc 27, 0, "exact.go:7826", #[], none⟩) rfl (fun K hK => ?_) AllReadyH.nil
    go_simp
    have hb : Below wn3.heap.size wn3 (wn3.alloc (.cells #[.slice none 0 0] 27)) := (Below.refl _ _).alloc (Nat.le_refl _) _
    obtain ⟨gD, hgD⟩ : ∃ g, g = wn3.heap.size := ⟨_, rfl⟩
    have XD := Lib.hid (show Ret.Blk (wn3.alloc (.cells #[.slice none 0 0] 27)) gD #[.slice none 0 0] 27 from by rw [hgD]; exact Ret.Blk.new wn3 _ _)
    have HDW := Lib.hid (show w.heap.size ≤ gD from by rw [hgD]; exact BB.out.size)
    (first | replace HX := Lib.hid (show kN.In w.heap.size (wn3.alloc (.cells #[.slice none 0 0] 27)).heap.size (wn3.alloc (.cells #[.slice none 0 0] 27)) (.agg #[.slice ya ma da]) (mpN l0 l1) from Kd.In.mono (Kd.In.on HX.out hb) (Nat.le_refl _) hb.size) | skip)
    rw [← hgD]
    clear hgD
    replace HA := Lib.hid (HA.out.on hb)
    replace HBk := Lib.hid (HBk.out.on hb)
    replace BB := Lib.hid (BB.out.trans (hb.mono BB.out.size))
    clear hb
    generalize wn3.alloc (.cells #[.slice none 0 0] 27) = wn4 at *
    clear hHeld
    refine hK.out _ _ ?_ (fun hHeld => ?_)
    ·
     (try dsimp only); exact kc KN0.out BB.out
    clear hK K
    (try simp only [Act.put, Row.pB0, Row.pB1, Row.pB2])
    refine wpAnyH_ready (rs := [9]) (by kernel_rfl) (by simp) ?_
    refine AllReadyH.cons (o := ⟨none, .store 27 (.tmp 15) (.tmp 100), 0, "exact.go:7826", #[⟨8, .data⟩, ⟨6, .data⟩, ⟨4, .chain⟩, ⟨0, .phase⟩, ⟨1, .phase⟩, ⟨2, .phase⟩, ⟨3, .phase⟩, ⟨4, .phase⟩, ⟨5, .phase⟩, ⟨6, .phase⟩, { on := 7, ground := Ground.textOnly Departure.lateStores }, ⟨8, .phase⟩], none⟩) rfl (fun K hK => ?_) AllReadyH.nil
    have r0 := XD.out.cell 0; have t0 := XD.out.frozen 0
    go_simp
    clear hHeld
    refine hK.out _ _ ?_ (fun hHeld => ?_)
    ·
     (try dsimp only); exact (Ret.grownBy_set _ ⟨gD, 0, none⟩ _).cell (kc KN0.out BB.out) (fun e => by have h1 : q < w.heap.size := Ret.cell_lt KN0.out; have h2 := HDW.out; cases e; omega)
    clear hK K
    (try simp only [Act.put, Row.pB0, Row.pB1, Row.pB2])
    refine wpAnyH_take (i := 10) (oi := ⟨some 16, .assign (.tmp 101), 4, "exact.go:7826", #[⟨7, .data⟩, ⟨9, .chain⟩, ⟨0, .phase⟩, ⟨1, .phase⟩, ⟨2, .phase⟩, ⟨3, .phase⟩, ⟨4, .phase⟩, ⟨5, .phase⟩, ⟨6, .phase⟩, ⟨7, .phase⟩, ⟨8, .phase⟩, ⟨9, .phase⟩], none⟩) (v := ?_) rfl (by kernel_rfl) (by kernel_rfl) (by kernel_rfl) (fun _ _ _ h => h) (Or.inl ⟨by rfl, ?_⟩) (by assumption) ?_
    rotate_left
    ·
     intro w' hSw; (try dsimp only at hSw); first | (go_simp; done) | (go_simp; with_reducible rfl)
    (try simp only [Act.put, Row.pB0, Row.pB1, Row.pB2])
    refine wpAnyH_done (by kernel_rfl) ?_ _
    exact NoPanic.normal (HQ.out _ _ _ _ _ _ _ _ gD ma da ya _ _ HDW.out XD.out HX.out BB.out)
   refine AllReadyH.cons (o := ⟨some 15, .alloc 27, 0, "exact.go:7826", #[], none⟩) rfl (fun K hK => ?_) AllReadyH.nil
   go_simp
   have hb : Below wn2.heap.size wn2 (wn2.alloc (.cells #[.slice none 0 0] 27)) := (Below.refl _ _).alloc (Nat.le_refl _) _
   obtain ⟨gD, hgD⟩ : ∃ g, g = wn2.heap.size := ⟨_, rfl⟩
   have XD := Lib.hid (show Ret.Blk (wn2.alloc (.cells #[.slice none 0 0] 27)) gD #[.slice none 0 0] 27 from by rw [hgD]; exact Ret.Blk.new wn2 _ _)
   have HDW := Lib.hid (show w.heap.size ≤ gD from by rw [hgD]; exact BB.out.size)
   (first | replace HX := Lib.hid (show kN.In w.heap.size (wn2.alloc (.cells #[.slice none 0 0] 27)).heap.size (wn2.alloc (.cells #[.slice none 0 0] 27)) (.agg #[.slice ya ma da]) (mpN l0 l1) from Kd.In.mono (Kd.In.on HX.out hb) (Nat.le_refl _) hb.size) | skip)
   rw [← hgD]
   clear hgD
   replace HA := Lib.hid (HA.out.on hb)
   replace HBk := Lib.hid (HBk.out.on hb)
   replace BB := Lib.hid (BB.out.trans (hb.mono BB.out.size))
   clear hb
   generalize wn2.alloc (.cells #[.slice none 0 0] 27) = wn6 at *
   clear hHeld
   refine hK.out _ _ ?_ (fun hHeld => ?_)
   ·
    (try dsimp only); exact kc KN0.out BB.out
   clear hK K
   (try simp only [Act.put, Row.pB0, Row.pB1, Row.pB2])
   refine wpAnyH_ready (rs := [4]) (by kernel_rfl) (by simp) ?_
   refine AllReadyH.cons (o := ⟨some 99, .call ⟨.value (.func 33), #[.tmp 96, .tmp 98], #[42, 27]⟩, 62, "exact.go:7826", #[⟨1, .data⟩, ⟨3, .data⟩, ⟨3, .chain⟩], none⟩) rfl (fun K hK => ?_) AllReadyH.nil
   go_simp
   refine (implMatchingPrefix _ _ l0 l1 _ HA.out HBk.out (show bulkK wtRt l0 ≤ 1100000 by omega) (show bulk l1 ≤ 1200000 by omega)).mono ?_
   rintro e wn7 ⟨v, rfl, ho, hb⟩
   obtain ⟨ya, ma, da, rfl, ho⟩ := kN_shape ho
   have HX := Lib.hid (show kN.In w.heap.size wn7.heap.size wn7 (.agg #[.slice ya ma da]) (mpN l0 l1) from Kd.In.mono ho BB.out.size (Nat.le_refl _)); clear ho
   replace HA := Lib.hid (HA.out.on hb)
   replace HBk := Lib.hid (HBk.out.on hb)
   replace XD := Lib.hid (XD.out.on hb)
   replace BB := Lib.hid (BB.out.trans (hb.mono BB.out.size))
   clear hb
   (try go_wp2_with fail)
   clear hHeld
   refine hK.out _ _ ?_ (fun hHeld => ?_)
   ·
    (try dsimp only); exact kc KN0.out BB.out
   clear hK K
   (try simp only [Act.put, Row.pB0, Row.pB1, Row.pB2])
   refine wpAnyH_take (i := 5) (oi := ⟨some 94, .move (.tmp 99), 62, "exact.go:7826", #[⟨4, .data⟩], none⟩) (v := ?_) rfl (by kernel_rfl) (by kernel_rfl) (by kernel_rfl) (fun _ _ _ h => h) (Or.inl ⟨by rfl, ?_⟩) (by assumption) ?_
   rotate_left
   ·
    intro w' hSw; (try dsimp only at hSw); first | (go_simp; done) | (go_simp; with_reducible rfl)
   (try simp only [Act.put, Row.pB0, Row.pB1, Row.pB2])
   refine wpAnyH_take (i := 6) (oi := ⟨some 100, .extract (.tmp 94) 0, 27, "exact.go:7826", #[⟨5, .data⟩], none⟩) (v := ?_) rfl (by kernel_rfl) (by kernel_rfl) (by kernel_rfl) (fun _ _ _ h => h) (Or.inl ⟨by rfl, ?_⟩) (by assumption) ?_
   rotate_left
   ·
    intro w' hSw; (try dsimp only at hSw); first | (go_simp; done) | (go_simp; with_reducible rfl)
   (try simp only [Act.put, Row.pB0, Row.pB1, Row.pB2])
   refine wpAnyH_take (i := 7) (oi := ⟨some 101, .extract (.tmp 94) 1, 4, "exact.go:7826", #[⟨5, .data⟩, { on := 9, ground := Ground.gcOnly Departure.lateStores }], none⟩) (v := ?_) rfl (by kernel_rfl) (by kernel_rfl) (by kernel_rfl) (fun _ _ _ h => h) (Or.inl ⟨by rfl, ?_⟩) (by assumption) ?_
   rotate_left
   ·
    intro w' hSw; (try dsimp only at hSw); first | (go_simp; done) | (go_simp; with_reducible rfl)
   (try simp only [Act.put, Row.pB0, Row.pB1, Row.pB2])
   refine wpAnyH_ready (rs := [9]) (by kernel_rfl) (by simp) ?_
   refine AllReadyH.cons (o := ⟨none, .store 27 (.tmp 15) (.tmp 100), 0, "exact.go:7826", #[⟨8, .data⟩, ⟨6, .data⟩, ⟨4, .chain⟩, ⟨0, .phase⟩, ⟨1, .phase⟩, ⟨2, .phase⟩, ⟨3, .phase⟩, ⟨4, .phase⟩, ⟨5, .phase⟩, ⟨6, .phase⟩, { on := 7, ground := Ground.textOnly Departure.lateStores }, ⟨8, .phase⟩], none⟩) rfl (fun K hK => ?_) AllReadyH.nil
   have r0 := XD.out.cell 0; have t0 := XD.out.frozen 0
   go_simp
   clear hHeld
   refine hK.out _ _ ?_ (fun hHeld => ?_)
   ·
    (try dsimp only); exact (Ret.grownBy_set _ ⟨gD, 0, none⟩ _).cell (kc KN0.out BB.out) (fun e => by have h1 : q < w.heap.size := Ret.cell_lt KN0.out; have h2 := HDW.out; cases e; omega)
   clear hK K
   (try simp only [Act.put, Row.pB0, Row.pB1, Row.pB2])
   refine wpAnyH_take (i := 10) (oi := ⟨some 16, .assign (.tmp 101), 4, "exact.go:7826", #[⟨7, .data⟩, ⟨9, .chain⟩, ⟨0, .phase⟩, ⟨1, .phase⟩, ⟨2, .phase⟩, ⟨3, .phase⟩, ⟨4, .phase⟩, ⟨5, .phase⟩, ⟨6, .phase⟩, ⟨7, .phase⟩, ⟨8, .phase⟩, ⟨9, .phase⟩], none⟩) (v := ?_) rfl (by kernel_rfl) (by kernel_rfl) (by kernel_rfl) (fun _ _ _ h => h) (Or.inl ⟨by rfl, ?_⟩) (by assumption) ?_
   rotate_left
   ·
    intro w' hSw; (try dsimp only at hSw); first | (go_simp; done) | (go_simp; with_reducible rfl)
   (try simp only [Act.put, Row.pB0, Row.pB1, Row.pB2])
   refine wpAnyH_done (by kernel_rfl) ?_ _
   exact NoPanic.normal (HQ.out _ _ _ _ _ _ _ _ gD ma da ya _ _ HDW.out XD.out HX.out BB.out)
  refine AllReadyH.cons (o := ⟨some 15, .alloc 27, 0, "exact.go:7826", #[], none⟩) rfl (fun K hK => ?_) AllReadyH.nil
  go_simp
  have hb : Below wn1.heap.size wn1 (wn1.alloc (.cells #[.slice none 0 0] 27)) := (Below.refl _ _).alloc (Nat.le_refl _) _
  obtain ⟨gD, hgD⟩ : ∃ g, g = wn1.heap.size := ⟨_, rfl⟩
  have XD := Lib.hid (show Ret.Blk (wn1.alloc (.cells #[.slice none 0 0] 27)) gD #[.slice none 0 0] 27 from by rw [hgD]; exact Ret.Blk.new wn1 _ _)
  have HDW := Lib.hid (show w.heap.size ≤ gD from by rw [hgD]; exact BB.out.size)
  (first | replace HX := Lib.hid (show kN.In w.heap.size (wn1.alloc (.cells #[.slice none 0 0] 27)).heap.size (wn1.alloc (.cells #[.slice none 0 0] 27)) (.agg #[.slice ya ma da]) (mpN l0 l1) from Kd.In.mono (Kd.In.on HX.out hb) (Nat.le_refl _) hb.size) | skip)
  rw [← hgD]
  clear hgD
  replace HA := Lib.hid (HA.out.on hb)
  replace BB := Lib.hid (BB.out.trans (hb.mono BB.out.size))
  clear hb
  generalize wn1.alloc (.cells #[.slice none 0 0] 27) = wn9 at *
  clear hHeld
  refine hK.out _ _ ?_ (fun hHeld => ?_)
  ·
   (try dsimp only); exact kc KN0.out BB.out
  clear hK K
  (try simp only [Act.put, Row.pB0, Row.pB1, Row.pB2])
  refine wpAnyH_ready (rs := [3]) (by kernel_rfl) (by simp) ?_
  refine AllReadyH.cons (o := ⟨some 98, .call ⟨.value (.func 32), #[.tmp 97], #[46]⟩, 27, "exact.go:7826", #[⟨2, .data⟩, ⟨1, .chain⟩], none⟩) rfl (fun K hK => ?_) AllReadyH.nil
  go_simp
  refine (toNK _ l1 _ (H1.out.on BB.out) (by have := Row.bulk_len l1; omega)).mono ?_
  rintro e wn10 ⟨v, rfl, ho, hb⟩
  obtain ⟨xB, nB, cB, rfl, ho⟩ := kN_shape ho
  have HBk := Lib.hid ho.at; clear ho
  replace HA := Lib.hid (HA.out.on hb)
  replace XD := Lib.hid (XD.out.on hb)
  replace BB := Lib.hid (BB.out.trans (hb.mono BB.out.size))
  clear hb
  (try go_wp2_with fail)
  clear hHeld
  refine hK.out _ _ ?_ (fun hHeld => ?_)
  ·
   (try dsimp only); exact kc KN0.out BB.out
  clear hK K
  (try simp only [Act.put, Row.pB0, Row.pB1, Row.pB2])
  refine wpAnyH_ready (rs := [4]) (by kernel_rfl) (by simp) ?_
  refine AllReadyH.cons (o := ⟨some 99, .call ⟨.value (.func 33), #[.tmp 96, .tmp 98], #[42, 27]⟩, 62, "exact.go:7826", #[⟨1, .data⟩, ⟨3, .data⟩, ⟨3, .chain⟩], none⟩) rfl (fun K hK => ?_) AllReadyH.nil
  go_simp
  refine (implMatchingPrefix _ _ l0 l1 _ HA.out HBk.out (show bulkK wtRt l0 ≤ 1100000 by omega) (show bulk l1 ≤ 1200000 by omega)).mono ?_
  rintro e wn11 ⟨v, rfl, ho, hb⟩
  obtain ⟨ya, ma, da, rfl, ho⟩ := kN_shape ho
  have HX := Lib.hid (show kN.In w.heap.size wn11.heap.size wn11 (.agg #[.slice ya ma da]) (mpN l0 l1) from Kd.In.mono ho BB.out.size (Nat.le_refl _)); clear ho
  replace HA := Lib.hid (HA.out.on hb)
  replace XD := Lib.hid (XD.out.on hb)
  replace HBk := Lib.hid (HBk.out.on hb)
  replace BB := Lib.hid (BB.out.trans (hb.mono BB.out.size))
  clear hb
  (try go_wp2_with fail)
  clear hHeld
  refine hK.out _ _ ?_ (fun hHeld => ?_)
  ·
   (try dsimp only); exact kc KN0.out BB.out
  clear hK K
  (try simp only [Act.put, Row.pB0, Row.pB1, Row.pB2])
  refine wpAnyH_take (i := 5) (oi := ⟨some 94, .move (.tmp 99), 62, "exact.go:7826", #[⟨4, .data⟩], none⟩) (v := ?_) rfl (by kernel_rfl) (by kernel_rfl) (by kernel_rfl) (fun _ _ _ h => h) (Or.inl ⟨by rfl, ?_⟩) (by assumption) ?_
  rotate_left
  ·
   intro w' hSw; (try dsimp only at hSw); first | (go_simp; done) | (go_simp; with_reducible rfl)
  (try simp only [Act.put, Row.pB0, Row.pB1, Row.pB2])
  refine wpAnyH_take (i := 6) (oi := ⟨some 100, .extract (.tmp 94) 0, 27, "exact.go:7826", #[⟨5, .data⟩], none⟩) (v := ?_) rfl (by kernel_rfl) (by kernel_rfl) (by kernel_rfl) (fun _ _ _ h => h) (Or.inl ⟨by rfl, ?_⟩) (by assumption) ?_
  rotate_left
  ·
   intro w' hSw; (try dsimp only at hSw); first | (go_simp; done) | (go_simp; with_reducible rfl)
  (try simp only [Act.put, Row.pB0, Row.pB1, Row.pB2])
  refine wpAnyH_take (i := 7) (oi := ⟨some 101, .extract (.tmp 94) 1, 4, "exact.go:7826", #[⟨5, .data⟩, { on := 9, ground := Ground.gcOnly Departure.lateStores }], none⟩) (v := ?_) rfl (by kernel_rfl) (by kernel_rfl) (by kernel_rfl) (fun _ _ _ h => h) (Or.inl ⟨by rfl, ?_⟩) (by assumption) ?_
  rotate_left
  ·
   intro w' hSw; (try dsimp only at hSw); first | (go_simp; done) | (go_simp; with_reducible rfl)
  (try simp only [Act.put, Row.pB0, Row.pB1, Row.pB2])
  refine wpAnyH_ready (rs := [9]) (by kernel_rfl) (by simp) ?_
  refine AllReadyH.cons (o := ⟨none, .store 27 (.tmp 15) (.tmp 100), 0, "exact.go:7826", #[⟨8, .data⟩, ⟨6, .data⟩, ⟨4, .chain⟩, ⟨0, .phase⟩, ⟨1, .phase⟩, ⟨2, .phase⟩, ⟨3, .phase⟩, ⟨4, .phase⟩, ⟨5, .phase⟩, ⟨6, .phase⟩, { on := 7, ground := Ground.textOnly Departure.lateStores }, ⟨8, .phase⟩], none⟩) rfl (fun K hK => ?_) AllReadyH.nil
  have r0 := XD.out.cell 0; have t0 := XD.out.frozen 0
  go_simp
  clear hHeld
  refine hK.out _ _ ?_ (fun hHeld => ?_)
  ·
   (try dsimp only); exact (Ret.grownBy_set _ ⟨gD, 0, none⟩ _).cell (kc KN0.out BB.out) (fun e => by have h1 : q < w.heap.size := Ret.cell_lt KN0.out; have h2 := HDW.out; cases e; omega)
  clear hK K
  (try simp only [Act.put, Row.pB0, Row.pB1, Row.pB2])
  refine wpAnyH_take (i := 10) (oi := ⟨some 16, .assign (.tmp 101), 4, "exact.go:7826", #[⟨7, .data⟩, ⟨9, .chain⟩, ⟨0, .phase⟩, ⟨1, .phase⟩, ⟨2, .phase⟩, ⟨3, .phase⟩, ⟨4, .phase⟩, ⟨5, .phase⟩, ⟨6, .phase⟩, ⟨7, .phase⟩, ⟨8, .phase⟩, ⟨9, .phase⟩], none⟩) (v := ?_) rfl (by kernel_rfl) (by kernel_rfl) (by kernel_rfl) (fun _ _ _ h => h) (Or.inl ⟨by rfl, ?_⟩) (by assumption) ?_
  rotate_left
  ·
   intro w' hSw; (try dsimp only at hSw); first | (go_simp; done) | (go_simp; with_reducible rfl)
  (try simp only [Act.put, Row.pB0, Row.pB1, Row.pB2])
  refine wpAnyH_done (by kernel_rfl) ?_ _
  exact NoPanic.normal (HQ.out _ _ _ _ _ _ _ _ gD ma da ya _ _ HDW.out XD.out HX.out BB.out)
 refine AllReadyH.cons (o := ⟨some 15, .alloc 27, 0, "exact.go:7826", #[], none⟩) rfl (fun K hK => ?_) AllReadyH.nil
 go_simp
 have hb : Below wd.heap.size wd (wd.alloc (.cells #[.slice none 0 0] 27)) := (Below.refl _ _).alloc (Nat.le_refl _) _
 obtain ⟨gD, hgD⟩ : ∃ g, g = wd.heap.size := ⟨_, rfl⟩
 have XD := Lib.hid (show Ret.Blk (wd.alloc (.cells #[.slice none 0 0] 27)) gD #[.slice none 0 0] 27 from by rw [hgD]; exact Ret.Blk.new wd _ _)
 have HDW := Lib.hid (show w.heap.size ≤ gD from by rw [hgD]; exact BB.out.size)
 (first | replace HX := Lib.hid (show kN.In w.heap.size (wd.alloc (.cells #[.slice none 0 0] 27)).heap.size (wd.alloc (.cells #[.slice none 0 0] 27)) (.agg #[.slice ya ma da]) (mpN l0 l1) from Kd.In.mono (Kd.In.on HX.out hb) (Nat.le_refl _) hb.size) | skip)
 rw [← hgD]
 clear hgD
 replace BB := Lib.hid (BB.out.trans (hb.mono BB.out.size))
 clear hb
 generalize wd.alloc (.cells #[.slice none 0 0] 27) = wn13 at *
 clear hHeld
 refine hK.out _ _ ?_ (fun hHeld => ?_)
 ·
  (try dsimp only); exact kc KN0.out BB.out
 clear hK K
 (try simp only [Act.put, Row.pB0, Row.pB1, Row.pB2])
 refine wpAnyH_ready (rs := [1]) (by kernel_rfl) (by simp) ?_
 refine AllReadyH.cons (o := ⟨some 96, .call ⟨.value (.func 17), #[.tmp 95], #[39]⟩, 42, "exact.go:7826", #[⟨0, .data⟩], none⟩) rfl (fun K hK => ?_) AllReadyH.nil
 go_simp
 refine (toLRtK _ l0 _ (H0.out.on BB.out) (Nat.le_trans (adLRt_big Z0) (by decide))).mono ?_
 rintro e wn14 ⟨v, rfl, ho, hb⟩
 obtain ⟨xA, nA, cA, rfl, ho⟩ := kLRt_shape ho
 have HA := Lib.hid ho.at; clear ho
 replace XD := Lib.hid (XD.out.on hb)
 replace BB := Lib.hid (BB.out.trans (hb.mono BB.out.size))
 clear hb
 (try go_wp2_with fail)
 clear hHeld
 refine hK.out _ _ ?_ (fun hHeld => ?_)
 ·
  (try dsimp only); exact kc KN0.out BB.out
 clear hK K
 (try simp only [Act.put, Row.pB0, Row.pB1, Row.pB2])
 refine wpAnyH_ready (rs := [3]) (by kernel_rfl) (by simp) ?_
 refine AllReadyH.cons (o := ⟨some 98, .call ⟨.value (.func 32), #[.tmp 97], #[46]⟩, 27, "exact.go:7826", #[⟨2, .data⟩, ⟨1, .chain⟩], none⟩) rfl (fun K hK => ?_) AllReadyH.nil
 go_simp
 refine (toNK _ l1 _ (H1.out.on BB.out) (by have := Row.bulk_len l1; omega)).mono ?_
 rintro e wn15 ⟨v, rfl, ho, hb⟩
 obtain ⟨xB, nB, cB, rfl, ho⟩ := kN_shape ho
 have HBk := Lib.hid ho.at; clear ho
 replace XD := Lib.hid (XD.out.on hb)
 replace HA := Lib.hid (HA.out.on hb)
 replace BB := Lib.hid (BB.out.trans (hb.mono BB.out.size))
 clear hb
 (try go_wp2_with fail)
 clear hHeld
 refine hK.out _ _ ?_ (fun hHeld => ?_)
 ·
  (try dsimp only); exact kc KN0.out BB.out
 clear hK K
 (try simp only [Act.put, Row.pB0, Row.pB1, Row.pB2])
 refine wpAnyH_ready (rs := [4]) (by kernel_rfl) (by simp) ?_
 refine AllReadyH.cons (o := ⟨some 99, .call ⟨.value (.func 33), #[.tmp 96, .tmp 98], #[42, 27]⟩, 62, "exact.go:7826", #[⟨1, .data⟩, ⟨3, .data⟩, ⟨3, .chain⟩], none⟩) rfl (fun K hK => ?_) AllReadyH.nil
 go_simp
 refine (implMatchingPrefix _ _ l0 l1 _ HA.out HBk.out (show bulkK wtRt l0 ≤ 1100000 by omega) (show bulk l1 ≤ 1200000 by omega)).mono ?_
 rintro e wn16 ⟨v, rfl, ho, hb⟩
 obtain ⟨ya, ma, da, rfl, ho⟩ := kN_shape ho
 have HX := Lib.hid (show kN.In w.heap.size wn16.heap.size wn16 (.agg #[.slice ya ma da]) (mpN l0 l1) from Kd.In.mono ho BB.out.size (Nat.le_refl _)); clear ho
 replace XD := Lib.hid (XD.out.on hb)
 replace HA := Lib.hid (HA.out.on hb)
 replace HBk := Lib.hid (HBk.out.on hb)
 replace BB := Lib.hid (BB.out.trans (hb.mono BB.out.size))
 clear hb
 (try go_wp2_with fail)
 clear hHeld
 refine hK.out _ _ ?_ (fun hHeld => ?_)
 ·
  (try dsimp only); exact kc KN0.out BB.out
 clear hK K
 (try simp only [Act.put, Row.pB0, Row.pB1, Row.pB2])
 refine wpAnyH_take (i := 5) (oi := ⟨some 94, .move (.tmp 99), 62, "exact.go:7826", #[⟨4, .data⟩], none⟩) (v := ?_) rfl (by kernel_rfl) (by kernel_rfl) (by kernel_rfl) (fun _ _ _ h => h) (Or.inl ⟨by rfl, ?_⟩) (by assumption) ?_
 rotate_left
 ·
  intro w' hSw; (try dsimp only at hSw); first | (go_simp; done) | (go_simp; with_reducible rfl)
 (try simp only [Act.put, Row.pB0, Row.pB1, Row.pB2])
 refine wpAnyH_take (i := 6) (oi := ⟨some 100, .extract (.tmp 94) 0, 27, "exact.go:7826", #[⟨5, .data⟩], none⟩) (v := ?_) rfl (by kernel_rfl) (by kernel_rfl) (by kernel_rfl) (fun _ _ _ h => h) (Or.inl ⟨by rfl, ?_⟩) (by assumption) ?_
 rotate_left
 ·
  intro w' hSw; (try dsimp only at hSw); first | (go_simp; done) | (go_simp; with_reducible rfl)
 (try simp only [Act.put, Row.pB0, Row.pB1, Row.pB2])
 refine wpAnyH_take (i := 7) (oi := ⟨some 101, .extract (.tmp 94) 1, 4, "exact.go:7826", #[⟨5, .data⟩, { on := 9, ground := Ground.gcOnly Departure.lateStores }], none⟩) (v := ?_) rfl (by kernel_rfl) (by kernel_rfl) (by kernel_rfl) (fun _ _ _ h => h) (Or.inl ⟨by rfl, ?_⟩) (by assumption) ?_
 rotate_left
 ·
  intro w' hSw; (try dsimp only at hSw); first | (go_simp; done) | (go_simp; with_reducible rfl)
 (try simp only [Act.put, Row.pB0, Row.pB1, Row.pB2])
 refine wpAnyH_ready (rs := [9]) (by kernel_rfl) (by simp) ?_
 refine AllReadyH.cons (o := ⟨none, .store 27 (.tmp 15) (.tmp 100), 0, "exact.go:7826", #[⟨8, .data⟩, ⟨6, .data⟩, ⟨4, .chain⟩, ⟨0, .phase⟩, ⟨1, .phase⟩, ⟨2, .phase⟩, ⟨3, .phase⟩, ⟨4, .phase⟩, ⟨5, .phase⟩, ⟨6, .phase⟩, { on := 7, ground := Ground.textOnly Departure.lateStores }, ⟨8, .phase⟩], none⟩) rfl (fun K hK => ?_) AllReadyH.nil
 have r0 := XD.out.cell 0; have t0 := XD.out.frozen 0
 go_simp
 clear hHeld
 refine hK.out _ _ ?_ (fun hHeld => ?_)
 ·
  (try dsimp only); exact (Ret.grownBy_set _ ⟨gD, 0, none⟩ _).cell (kc KN0.out BB.out) (fun e => by have h1 : q < w.heap.size := Ret.cell_lt KN0.out; have h2 := HDW.out; cases e; omega)
 clear hK K
 (try simp only [Act.put, Row.pB0, Row.pB1, Row.pB2])
 refine wpAnyH_take (i := 10) (oi := ⟨some 16, .assign (.tmp 101), 4, "exact.go:7826", #[⟨7, .data⟩, ⟨9, .chain⟩, ⟨0, .phase⟩, ⟨1, .phase⟩, ⟨2, .phase⟩, ⟨3, .phase⟩, ⟨4, .phase⟩, ⟨5, .phase⟩, ⟨6, .phase⟩, ⟨7, .phase⟩, ⟨8, .phase⟩, ⟨9, .phase⟩], none⟩) (v := ?_) rfl (by kernel_rfl) (by kernel_rfl) (by kernel_rfl) (fun _ _ _ h => h) (Or.inl ⟨by rfl, ?_⟩) (by assumption) ?_
 rotate_left
 ·
  intro w' hSw; (try dsimp only at hSw); first | (go_simp; done) | (go_simp; with_reducible rfl)
 (try simp only [Act.put, Row.pB0, Row.pB1, Row.pB2])
 refine wpAnyH_done (by kernel_rfl) ?_ _
 exact NoPanic.normal (HQ.out _ _ _ _ _ _ _ _ gD ma da ya _ _ HDW.out XD.out HX.out BB.out)
set_option maxRecDepth 100000 in
set_option maxHeartbeats 4000000 in
theorem implregR14 {Q : Exit → Act → World → Prop} {v1 v2 v4 v5 v6 v7 v8 v9 v10 v11 v12 v13 v14 v15 v16 v17 v18 v19 v20 v21 v22 v23 v24 v25 v26 v27 v28 v29 v30 v31 v32 v33 v34 v35 v36 v37 v38 v39 v40 v41 v42 v43 v44 v45 v46 v47 v48 v49 v50 v51 v52 v53 v54 v55 v56 v57 v58 v59 v60 v61 v62 v63 v64 v65 v66 v67 v68 v69 v70 v71 v72 v73 v74 v75 v76 v77 v78 v79 v80 v81 v82 v83 v84 v85 v86 v87 v88 v89 v90 v91 v92 v93 v94 v95 v96 v97 v98 v99 v100 v101 v102 v103 v104 v105 v106 v107 v108 v109 v110 v111 v112 v113 v114 v115 v116 v117 v118 : Value} {w : World} {q nl cl nn cn : Nat} {xl xn : Option Addr} {l0 : List Rtt} {l1 : List ByteArray} (H0 : Hid (kLRt.At w (.slice xl nl cl) l0)) (H1 : Hid (kN.At w (.agg #[.slice xn nn cn]) l1)) (Z0 : bulkK wtRt l0 ≤ 1048576) (Z1 : bulk l1 ≤ 1048576) (KN0 : Hid (w.cell? ⟨q, 0, none⟩ = some (.slice xn nn cn)))
    (hQ : ∀ (u94 u95 u96 u97 u98 u99 u100 u101 : Value) (gD ma da : Nat) (ya : Option Addr) (w2 : World), Below w.heap.size w w2 → kN.In w.heap.size w2.heap.size w2 (.agg #[.slice ya ma da]) (mpN l0 l1) → Ret.Blk w2 gD #[.slice ya ma da] 27 → w.heap.size ≤ gD → gD < w2.heap.size → Q .normal ⟨#[.slice xl nl cl, v1, v2, .pointer (some ⟨q, 0, none⟩), v4, v5, v6, v7, v8, v9, v10, v11, v12, v13, v14, .pointer (some ⟨gD, 0, none⟩), .bool (mpB l0 l1), v17, v18, v19, v20, v21, v22, v23, v24, v25, v26, v27, v28, v29, v30, v31, v32, v33, v34, v35, v36, v37, v38, v39, v40, v41, v42, v43, v44, v45, v46, v47, v48, v49, v50, v51, v52, v53, v54, v55, v56, v57, v58, v59, v60, v61, v62, v63, v64, v65, v66, v67, v68, v69, v70, v71, v72, v73, v74, v75, v76, v77, v78, v79, v80, v81, v82, v83, v84, v85, v86, v87, v88, v89, v90, v91, v92, v93, u94, u95, u96, u97, u98, u99, u100, u101, v102, v103, v104, v105, v106, v107, v108, v109, v110, v111, v112, v113, v114, v115, v116, v117, v118], []⟩ w2) :
    (Code.region 31 #[{ dst := some 95, op := Op.move (Operand.tmp 0), type := 39, pos := "exact.go:7826", after := #[], guard := none },
      { dst := some 96, op := Op.call { callee := Callee.value (Operand.func 17), args := #[Operand.tmp 95], argTypes := #[39] }, type := 42, pos := "exact.go:7826", after := #[{ on := 0, ground := Ground.data }], guard := none },
      { dst := some 97, op := Op.load 46 (Operand.tmp 3), type := 46, pos := "exact.go:7826", after := #[], guard := none },
      { dst := some 98, op := Op.call { callee := Callee.value (Operand.func 32), args := #[Operand.tmp 97], argTypes := #[46] }, type := 27, pos := "exact.go:7826", after := #[{ on := 2, ground := Ground.data }, { on := 1, ground := Ground.chain }], guard := none },
      { dst := some 99, op := Op.call { callee := Callee.value (Operand.func 33), args := #[Operand.tmp 96, Operand.tmp 98], argTypes := #[42, 27] }, type := 62, pos := "exact.go:7826", after := #[{ on := 1, ground := Ground.data }, { on := 3, ground := Ground.data }, { on := 3, ground := Ground.chain }], guard := none },
      { dst := some 94, op := Op.move (Operand.tmp 99), type := 62, pos := "exact.go:7826", after := #[{ on := 4, ground := Ground.data }], guard := none },
      { dst := some 100, op := Op.extract (Operand.tmp 94) 0, type := 27, pos := "exact.go:7826", after := #[{ on := 5, ground := Ground.data }], guard := none },
      { dst := some 101, op := Op.extract (Operand.tmp 94) 1, type := 4, pos := "exact.go:7826", after := #[{ on := 5, ground := Ground.data }, { on := 9, ground := Ground.gcOnly Departure.lateStores }], guard := none },
      { dst := some 15, op := Op.alloc 27, type := 0, pos := "exact.go:7826", after := #[], guard := none },
      { dst := none, op := Op.store 27 (Operand.tmp 15) (Operand.tmp 100), type := 0, pos := "exact.go:7826", after := #[{ on := 8, ground := Ground.data }, { on := 6, ground := Ground.data }, { on := 4, ground := Ground.chain }, { on := 0, ground := Ground.phase }, { on := 1, ground := Ground.phase }, { on := 2, ground := Ground.phase }, { on := 3, ground := Ground.phase }, { on := 4, ground := Ground.phase }, { on := 5, ground := Ground.phase }, { on := 6, ground := Ground.phase }, { on := 7, ground := Ground.textOnly Departure.lateStores }, { on := 8, ground := Ground.phase }], guard := none },
      { dst := some 16, op := Op.assign (Operand.tmp 101), type := 4, pos := "exact.go:7826", after := #[{ on := 7, ground := Ground.data }, { on := 9, ground := Ground.chain }, { on := 0, ground := Ground.phase }, { on := 1, ground := Ground.phase }, { on := 2, ground := Ground.phase }, { on := 3, ground := Ground.phase }, { on := 4, ground := Ground.phase }, { on := 5, ground := Ground.phase }, { on := 6, ground := Ground.phase }, { on := 7, ground := Ground.phase }, { on := 8, ground := Ground.phase }, { on := 9, ground := Ground.phase }], guard := none }] true).wp Try.prog Q ⟨#[.slice xl nl cl, v1, v2, .pointer (some ⟨q, 0, none⟩), v4, v5, v6, v7, v8, v9, v10, v11, v12, v13, v14, v15, v16, v17, v18, v19, v20, v21, v22, v23, v24, v25, v26, v27, v28, v29, v30, v31, v32, v33, v34, v35, v36, v37, v38, v39, v40, v41, v42, v43, v44, v45, v46, v47, v48, v49, v50, v51, v52, v53, v54, v55, v56, v57, v58, v59, v60, v61, v62, v63, v64, v65, v66, v67, v68, v69, v70, v71, v72, v73, v74, v75, v76, v77, v78, v79, v80, v81, v82, v83, v84, v85, v86, v87, v88, v89, v90, v91, v92, v93, v94, v95, v96, v97, v98, v99, v100, v101, v102, v103, v104, v105, v106, v107, v108, v109, v110, v111, v112, v113, v114, v115, v116, v117, v118], []⟩ w := by
  refine implR140 H0 H1 Z0 Z1 KN0 ?_
  intro u94 u95 u96 u97 u98 u99 u100 u101 gD ma da ya z0 wx hgd hxd hin hb
  obtain ⟨h1, h2, h3⟩ := one_facts14 (a := .slice ya ma da) hgd (Nat.le_refl _) hxd hin hb
  exact hQ _ _ _ _ _ _ _ _ gD ma da ya _ h1 h2 h3 hgd (by rw [World.size_setCell]; exact hxd.lt)
end Go.Proofs.Ytdaahcaafdleaaa.Row
/- Names in the words that kslice.py wants. No conditions but that lengths fit. -/
namespace Go.Proofs.Ytdaahcaafdleaaa.Row
open Go.ChangeShapes Go.WideShapes Go.ChangeAt Go.RowKit Go.Instr
set_option linter.unusedVariables false
set_option maxRecDepth 100000
abbrev Nnt := List ByteArray
abbrev Nnm := Rw ByteArray
abbrev kNn : Kd Nnt Nnm := kN
abbrev wtNn (x : Nnt) : Nat := bulk x
abbrev adNn (x : Nnt) : Nat := x.length
abbrev okNn (x : Nnt) : Prop := okN x
abbrev inNn (x : Nnt) : Prop := okN x
theorem okN.ok {x : List ByteArray} (h : okN x) : okNn x := h
end Go.Proofs.Ytdaahcaafdleaaa.Row
/- Lists of names in the words of kinds: sz, to, eq. No conditions but that lengths fit. -/
namespace Go.Proofs.Ytdaahcaafdleaaa.Row
open Go.ChangeShapes Go.WideShapes Go.ChangeAt Go.RowKit Go.Instr
set_option linter.unusedVariables false
set_option maxRecDepth 100000
def kLNn : Kd (List Nnt) (Rw Nnm) := kNn.slice 27
def okLNn (l : List Nnt) : Prop := l.length ≤ 9223372036854775807 ∧ ∀ x ∈ l, okNn x
section
variable {w : World} {V : Value} {l : List Nnt} {B E : Nat}
end
def inLNn (l : List Nnt) : Prop := l.length ≤ 9223372036854775807 ∧ ∀ x ∈ l, inNn x
theorem inLNn.ok {l : List Nnt} (h : inLNn l) : okLNn l := ⟨h.1, fun x hx => (h.2 x hx).ok⟩
def adLNn (l : List Nnt) : Nat := bulkK adNn l
end Go.Proofs.Ytdaahcaafdleaaa.Row
/- Lists of Name: marked and looked at. No conditions but that lengths fit. -/
namespace Go.Proofs.Ytdaahcaafdleaaa.Row
open Go.ChangeShapes Go.WideShapes Go.ChangeAt Go.RowKit Go.Instr
set_option linter.unusedVariables false
set_option maxRecDepth 100000
def mvNn (z : Nnt) : Nat := z.length
def meNn (q : Int) (z : Nnt) : Nnt := marks markT (q) z.length
end Go.Proofs.Ytdaahcaafdleaaa.Row
