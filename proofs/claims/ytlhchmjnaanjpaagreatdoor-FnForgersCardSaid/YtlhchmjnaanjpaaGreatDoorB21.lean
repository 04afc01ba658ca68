/- Contracts and mathematics, joined: DrawV1. No conditions but those that each states. -/
import Derived.WalkKit
import Derived.Deep.RegionHeld3
import Derived.Test.YtlhchmjnaanjpaaGreatDoorB20
/- The model's draw of a policy of trust (l11Trust). What was in memory stays as it was, but for the cursor. -/
namespace Go.Proofs.YtlhchmjnaanjpaaGreatDoor.Draw
open Go.ChangeShapes Go.WideShapes Go.ChangeAt Go.RowKit Go.Instr
open Go.Proofs.YtlhchmjnaanjpaaGreatDoor.Row
open Go.Proofs.YtlhchmjnaanjpaaGreatDoor.Ret (NC Blk Box)
set_option linter.unusedVariables false
set_option maxRecDepth 100000
set_option maxRecDepth 100000 in
set_option maxHeartbeats 4000000 in
theorem tru110 {Q : Exit → Act → World → Prop} {v0 v1 v2 v4 v5 v6 v7 v8 v10 v11 v12 v13 v14 v15 v16 v17 v18 v19 v20 v21 v22 v23 v24 v25 v26 v27 v28 v29 v30 v31 v32 v33 v34 v35 v36 v37 v38 v39 v40 v41 v42 v43 v44 v45 v46 v47 v48 v49 v50 v51 v52 v53 v54 v55 v56 v57 v58 v59 v60 v61 v62 v63 v64 v65 v66 v67 v68 v69 v70 : Value} {w : World} {gT nk ck : Nat} {xk : Option Addr} {T : Ring.Kt} {s : ByteArray} (HS : Hid (s.size ≤ 100)) (H_t : Hid (Ring.kK.At w (.slice xk nk ck) T)) (HT : Hid (Ring.bulkT T ≤ 1200000)) (KT : Hid (w.cell? ⟨gT, 0, none⟩ = some (.slice xk nk ck)))
  (hQ : ∀ (u48 u49 u50 u51 u52 u53 u54 u55 u56 : Value) (gD ma da mb db mc dc_ : Nat) (ya yb yc : Option Addr)  (wx : World), w.heap.size ≤ gD → Ret.Blk wx gD (dc (.slice none 0 0) (.slice none 0 0) (.slice none 0 0) 0 0) 34 → kD.In w.heap.size wx.heap.size wx (.agg #[.slice ya ma da, .slice yb mb db, .slice yc mc dc_, .int .i64 (Ring.sgK T (pN ({ data := #[47, 107, 101, 121, 47, 97] } : ByteArray)) (pN s) (digK T (pN s)) 5000).2.2.2.1, .int .i64 (Ring.sgK T (pN ({ data := #[47, 107, 101, 121, 47, 97] } : ByteArray)) (pN s) (digK T (pN s)) 5000).2.2.2.2]) (Ring.sgK T (pN ({ data := #[47, 107, 101, 121, 47, 97] } : ByteArray)) (pN s) (digK T (pN s)) 5000) → Below w.heap.size w wx → Q .normal ⟨#[v0, v1, v2, .pointer (some ⟨gT, 0, none⟩), v4, v5, v6, v7, v8, .string s, .pointer (some ⟨gD, 0, none⟩), .bool (Ring.sgOk T (pN ({ data := #[47, 107, 101, 121, 47, 97] } : ByteArray)) (pN s) (digK T (pN s)) 5000), v12, v13, v14, v15, v16, v17, v18, v19, v20, v21, v22, v23, v24, v25, v26, v27, v28, v29, v30, v31, v32, v33, v34, v35, v36, v37, v38, v39, v40, v41, v42, v43, v44, v45, v46, v47, u48, u49, u50, u51, u52, u53, u54, u55, u56, v57, v58, v59, v60, v61, v62, v63, v64, v65, v66, v67, v68, v69, v70], []⟩ ((((((wx).setCell ⟨gD, 0, none⟩ (.slice ya ma da)).setCell ⟨gD, 1, none⟩ (.slice yb mb db)).setCell ⟨gD, 2, none⟩ (.slice yc mc dc_)).setCell ⟨gD, 3, none⟩ (.int .i64 (Ring.sgK T (pN ({ data := #[47, 107, 101, 121, 47, 97] } : ByteArray)) (pN s) (digK T (pN s)) 5000).2.2.2.1)).setCell ⟨gD, 4, none⟩ (.int .i64 (Ring.sgK T (pN ({ data := #[47, 107, 101, 121, 47, 97] } : ByteArray)) (pN s) (digK T (pN s)) 5000).2.2.2.2))) :
  (Code.region 11 #[⟨some 49, .fieldAddr 29 (.tmp 3) 0, 0, "l11_trust.go:112", #[], none⟩,
   ⟨some 50, .load 24 (.tmp 49), 24, "l11_trust.go:112", #[⟨0, .data⟩], none⟩,
   ⟨some 51, .move (.tmp 9), 9, "l11_trust.go:112", #[], none⟩,
   ⟨some 52, .call ⟨.value (.func 44), #[.tmp 51], #[9]⟩, 32, "l11_trust.go:112", #[⟨2, .data⟩], none⟩,
   ⟨some 53, .call { callee := .value (.func 44), args := #[.const (Value.string { data := #[47, 107, 101, 121, 47, 97] })], argTypes := #[9] }, 32, "l11_trust.go:112", #[⟨3, .chain⟩], none⟩,
   ⟨some 54, .call ⟨.value (.func 14), #[.tmp 50, .tmp 52, .tmp 53, .const (Value.int IntKind.i64 5000)], #[24, 32, 32, 3]⟩, 46, "l11_trust.go:112", #[⟨1, .data⟩, ⟨3, .data⟩, ⟨4, .data⟩, ⟨4, .chain⟩], none⟩,
   ⟨some 48, .move (.tmp 54), 46, "l11_trust.go:112", #[⟨5, .data⟩], none⟩,
   ⟨some 55, .extract (.tmp 48) 0, 34, "l11_trust.go:112", #[⟨6, .data⟩], none⟩,
   ⟨some 56, .extract (.tmp 48) 1, 4, "l11_trust.go:112", #[⟨6, .data⟩, { on := 10, ground := Ground.gcOnly Departure.lateStores }], none⟩,
   ⟨some 10, .alloc 34, 0, "l11_trust.go:112", #[], none⟩,
   ⟨none, .store 34 (.tmp 10) (.tmp 55), 0, "l11_trust.go:112", #[⟨9, .data⟩, ⟨7, .data⟩, ⟨5, .chain⟩, ⟨0, .phase⟩, ⟨1, .phase⟩, ⟨2, .phase⟩, ⟨3, .phase⟩, ⟨4, .phase⟩, ⟨5, .phase⟩, ⟨6, .phase⟩, ⟨7, .phase⟩, { on := 8, ground := Ground.textOnly Departure.lateStores }, ⟨9, .phase⟩], none⟩,
   ⟨some 11, .assign (.tmp 56), 4, "l11_trust.go:112", #[⟨8, .data⟩, ⟨10, .chain⟩, ⟨0, .phase⟩, ⟨1, .phase⟩, ⟨2, .phase⟩, ⟨3, .phase⟩, ⟨4, .phase⟩, ⟨5, .phase⟩, ⟨6, .phase⟩, ⟨7, .phase⟩, ⟨8, .phase⟩, ⟨9, .phase⟩, ⟨10, .phase⟩], none⟩] true).wp Tryz.prog Q ⟨#[v0, v1, v2, .pointer (some ⟨gT, 0, none⟩), v4, v5, v6, v7, v8, .string s, v10, v11, v12, v13, v14, v15, v16, v17, v18, v19, v20, v21, v22, v23, v24, v25, v26, v27, v28, v29, v30, v31, v32, v33, v34, v35, v36, v37, v38, v39, v40, v41, v42, v43, v44, v45, v46, v47, v48, v49, v50, v51, v52, v53, v54, v55, v56, v57, v58, v59, v60, v61, v62, v63, v64, v65, v66, v67, v68, v69, v70], []⟩ w := by
 have HQ := Lib.hid hQ; clear hQ
 have hdr : Below w.heap.size w w.drew := (Below.refl _ _).drew
 have BB := Lib.hid hdr
 refine wp_region_noPanic ?_
 refine wp_region_held_drew (S := (fun w' => w'.cell? ⟨gT, 0, none⟩ = some (.slice xk nk ck))) (by kernel_rfl) ?_ (fun hHeld => ?_)
 ·
  exact kc KT.out BB.out
 clear hdr
 generalize w.drew = wd at *
 refine wpAnyH_take (i := 0) (oi := ⟨some 49, .fieldAddr 29 (.tmp 3) 0, 0, "l11_trust.go:112", #[], none⟩) (v := ?_) rfl (by kernel_rfl) (by kernel_rfl) (by kernel_rfl) (fun _ _ _ h => h) (Or.inl ⟨by rfl, ?_⟩) (by assumption) ?_
 rotate_left
 ·
  intro w' hSw; (try dsimp only at hSw); first | (go_simp; done) | (go_simp; with_reducible rfl)
 (try simp only [Act.put, Row.pB0, Row.pB1, Row.pB2])
 refine wpAnyH_take (i := 1) (oi := ⟨some 50, .load 24 (.tmp 49), 24, "l11_trust.go:112", #[⟨0, .data⟩], none⟩) (v := ?_) rfl (by kernel_rfl) (by kernel_rfl) (by kernel_rfl) (fun _ _ _ h => h) (Or.inl ⟨by rfl, ?_⟩) (by assumption) ?_
 rotate_left
 ·
  intro w' hSw; (try dsimp only at hSw); first | (go_simp; done) | (go_simp; with_reducible rfl)
 (try simp only [Act.put, Row.pB0, Row.pB1, Row.pB2])
 refine wpAnyH_take (i := 2) (oi := ⟨some 51, .move (.tmp 9), 9, "l11_trust.go:112", #[], none⟩) (v := ?_) rfl (by kernel_rfl) (by kernel_rfl) (by kernel_rfl) (fun _ _ _ h => h) (Or.inl ⟨by rfl, ?_⟩) (by assumption) ?_
 rotate_left
 ·
  intro w' hSw; (try dsimp only at hSw); first | (go_simp; done) | (go_simp; with_reducible rfl)
 (try simp only [Act.put, Row.pB0, Row.pB1, Row.pB2])
 refine wpAnyH_ready (rs := [3, 9]) (by kernel_rfl) (by simp) ?_
 refine AllReadyH.cons (o := ⟨some 52, .call ⟨.value (.func 44), #[.tmp 51], #[9]⟩, 32, "l11_trust.go:112", #[⟨2, .data⟩], none⟩) rfl (fun K hK => ?_) ?_
 ·
  go_simp
  refine (l4OfB s _ (by have := HS.out; omega)).mono ?_
  rintro e wn1 ⟨u, rfl, ho, hb⟩
  obtain ⟨xA, nA, cA, rfl, -, ho⟩ := ho.shapeN
  have HA := Lib.hid (kN_of ho.holds); clear ho
  replace BB := Lib.hid (BB.out.trans (hb.mono BB.out.size))
  clear hb
  (try go_wp2_with fail)
  clear hHeld
  refine hK.out _ _ ?_ (fun hHeld => ?_)
  ·
   (try dsimp only); exact kc KT.out BB.out
  clear hK K
  (try simp only [Act.put, Row.pB0, Row.pB1, Row.pB2])
  refine wpAnyH_ready (rs := [4, 9]) (by kernel_rfl) (by simp) ?_
  refine AllReadyH.cons (o := ⟨some 53, .call { callee := .value (.func 44), args := #[.const (Value.string { data := #[47, 107, 101, 121, 47, 97] })], argTypes := #[9] }, 32, "l11_trust.go:112", #[⟨3, .chain⟩], none⟩) rfl (fun K hK => ?_) ?_
  ·
   go_simp
   refine (l4OfB ({ data := #[47, 107, 101, 121, 47, 97] } : ByteArray) _ (by decide)).mono ?_
   rintro e wn2 ⟨u, rfl, ho, hb⟩
   obtain ⟨xB, nB, cB, rfl, -, ho⟩ := ho.shapeN
   have HBn := Lib.hid (kN_of ho.holds); clear ho
   replace HA := Lib.hid (HA.out.on hb)
   replace BB := Lib.hid (BB.out.trans (hb.mono BB.out.size))
   clear hb
   (try go_wp2_with fail)
   clear hHeld
   refine hK.out _ _ ?_ (fun hHeld => ?_)
   ·
    (try dsimp only); exact kc KT.out BB.out
   clear hK K
   (try simp only [Act.put, Row.pB0, Row.pB1, Row.pB2])
   refine wpAnyH_ready (rs := [5, 9]) (by kernel_rfl) (by simp) ?_
   refine AllReadyH.cons (o := ⟨some 54, .call ⟨.value (.func 14), #[.tmp 50, .tmp 52, .tmp 53, .const (Value.int IntKind.i64 5000)], #[24, 32, 32, 3]⟩, 46, "l11_trust.go:112", #[⟨1, .data⟩, ⟨3, .data⟩, ⟨4, .data⟩, ⟨4, .chain⟩], none⟩) rfl (fun K hK => ?_) ?_
   ·
    go_simp
    refine (specIssueCertificate _ _ _ T (pN s) (pN ({ data := #[47, 107, 101, 121, 47, 97] } : ByteArray)) 5000 _ (H_t.out.on BB.out) HA.out HBn.out HT.out (Nat.le_trans (bulk_pN _) (by decide)) (Nat.le_trans (bulk_pN _) (by decide))).mono ?_
    rintro e wn3 ⟨v, rfl, ho, hb⟩
    obtain ⟨ya, ma, da, yb, mb, db, yc, mc, dc_, rfl, ho⟩ := kD_shape ho
    have HX := Lib.hid (show kD.In w.heap.size wn3.heap.size wn3 (.agg #[.slice ya ma da, .slice yb mb db, .slice yc mc dc_, .int .i64 (Ring.sgK T (pN ({ data := #[47, 107, 101, 121, 47, 97] } : ByteArray)) (pN s) (digK T (pN s)) 5000).2.2.2.1, .int .i64 (Ring.sgK T (pN ({ data := #[47, 107, 101, 121, 47, 97] } : ByteArray)) (pN s) (digK T (pN s)) 5000).2.2.2.2]) (Ring.sgK T (pN ({ data := #[47, 107, 101, 121, 47, 97] } : ByteArray)) (pN s) (digK T (pN s)) 5000) from Kd.In.mono ho BB.out.size (Nat.le_refl _)); clear ho
    replace HA := Lib.hid (HA.out.on hb)
    replace HBn := Lib.hid (HBn.out.on hb)
    replace BB := Lib.hid (BB.out.trans (hb.mono BB.out.size))
    clear hb
    (try go_wp2_with fail)
    clear hHeld
    refine hK.out _ _ ?_ (fun hHeld => ?_)
    ·
     (try dsimp only); exact kc KT.out BB.out
    clear hK K
    (try simp only [Act.put, Row.pB0, Row.pB1, Row.pB2])
    refine wpAnyH_take (i := 6) (oi := ⟨some 48, .move (.tmp 54), 46, "l11_trust.go:112", #[⟨5, .data⟩], none⟩) (v := ?_) rfl (by kernel_rfl) (by kernel_rfl) (by kernel_rfl) (fun _ _ _ h => h) (Or.inl ⟨by rfl, ?_⟩) (by assumption) ?_
    rotate_left
    ·
     intro w' hSw; (try dsimp only at hSw); first | (go_simp; done) | (go_simp; with_reducible rfl)
    (try simp only [Act.put, Row.pB0, Row.pB1, Row.pB2])
    refine wpAnyH_take (i := 7) (oi := ⟨some 55, .extract (.tmp 48) 0, 34, "l11_trust.go:112", #[⟨6, .data⟩], none⟩) (v := ?_) rfl (by kernel_rfl) (by kernel_rfl) (by kernel_rfl) (fun _ _ _ h => h) (Or.inl ⟨by rfl, ?_⟩) (by assumption) ?_
    rotate_left
    ·
     intro w' hSw; (try dsimp only at hSw); first | (go_simp; done) | (go_simp; with_reducible rfl)
    (try simp only [Act.put, Row.pB0, Row.pB1, Row.pB2])
    refine wpAnyH_take (i := 8) (oi := ⟨some 56, .extract (.tmp 48) 1, 4, "l11_trust.go:112", #[⟨6, .data⟩, { on := 10, ground := Ground.gcOnly Departure.lateStores }], none⟩) (v := ?_) rfl (by kernel_rfl) (by kernel_rfl) (by kernel_rfl) (fun _ _ _ h => h) (Or.inl ⟨by rfl, ?_⟩) (by assumption) ?_
    rotate_left
    ·
     intro w' hSw; (try dsimp only at hSw); first | (go_simp; done) | (go_simp; with_reducible rfl)
    (try simp only [Act.put, Row.pB0, Row.pB1, Row.pB2])
    refine wpAnyH_ready (rs := [9]) (by kernel_rfl) (by simp) ?_
    refine AllReadyH.cons (o := ⟨some 10, .alloc 34, 0, "l11_trust.go:112", #[], none⟩) rfl (fun K hK => ?_) AllReadyH.nil
    go_simp
    have hb : Below wn3.heap.size wn3 (wn3.alloc (.cells #[.slice none 0 0, .slice none 0 0, .slice none 0 0, .int .i64 0, .int .i64 0] 34)) := (Below.refl _ _).alloc (Nat.le_refl _) _
    obtain ⟨gD, hgD⟩ : ∃ g, g = wn3.heap.size := ⟨_, rfl⟩
    have XD := Lib.hid (show Ret.Blk (wn3.alloc (.cells #[.slice none 0 0, .slice none 0 0, .slice none 0 0, .int .i64 0, .int .i64 0] 34)) gD (dc (.slice none 0 0) (.slice none 0 0) (.slice none 0 0) 0 0) 34 from by rw [hgD]; exact Ret.Blk.new wn3 _ _)
    have HDW := Lib.hid (show w.heap.size ≤ gD from by rw [hgD]; exact BB.out.size)
    (first | replace HX := Lib.hid (show kD.In w.heap.size (wn3.alloc (.cells #[.slice none 0 0, .slice none 0 0, .slice none 0 0, .int .i64 0, .int .i64 0] 34)).heap.size (wn3.alloc (.cells #[.slice none 0 0, .slice none 0 0, .slice none 0 0, .int .i64 0, .int .i64 0] 34)) (.agg #[.slice ya ma da, .slice yb mb db, .slice yc mc dc_, .int .i64 (Ring.sgK T (pN ({ data := #[47, 107, 101, 121, 47, 97] } : ByteArray)) (pN s) (digK T (pN s)) 5000).2.2.2.1, .int .i64 (Ring.sgK T (pN ({ data := #[47, 107, 101, 121, 47, 97] } : ByteArray)) (pN s) (digK T (pN s)) 5000).2.2.2.2]) (Ring.sgK T (pN ({ data := #[47, 107, 101, 121, 47, 97] } : ByteArray)) (pN s) (digK T (pN s)) 5000) from Kd.In.mono (Kd.In.on HX.out hb) (Nat.le_refl _) hb.size) | skip)
    rw [← hgD]
    clear hgD
    replace HA := Lib.hid (HA.out.on hb)
    replace HBn := Lib.hid (HBn.out.on hb)
    replace BB := Lib.hid (BB.out.trans (hb.mono BB.out.size))
    clear hb
    generalize wn3.alloc (.cells #[.slice none 0 0, .slice none 0 0, .slice none 0 0, .int .i64 0, .int .i64 0] 34) = wn4 at *
    clear hHeld
    refine hK.out _ _ ?_ (fun hHeld => ?_)
    ·
     (try dsimp only); exact kc KT.out BB.out
    clear hK K
    (try simp only [Act.put, Row.pB0, Row.pB1, Row.pB2])
    refine wpAnyH_ready (rs := [10]) (by kernel_rfl) (by simp) ?_
    refine AllReadyH.cons (o := ⟨none, .store 34 (.tmp 10) (.tmp 55), 0, "l11_trust.go:112", #[⟨9, .data⟩, ⟨7, .data⟩, ⟨5, .chain⟩, ⟨0, .phase⟩, ⟨1, .phase⟩, ⟨2, .phase⟩, ⟨3, .phase⟩, ⟨4, .phase⟩, ⟨5, .phase⟩, ⟨6, .phase⟩, ⟨7, .phase⟩, { on := 8, ground := Ground.textOnly Departure.lateStores }, ⟨9, .phase⟩], none⟩) rfl (fun K hK => ?_) AllReadyH.nil
    obtain ⟨r0, r1, r2, r3, r4⟩ := cells5_11 XD.out
    obtain ⟨t0, t1, t2, t3, t4⟩ := froz5_11 XD.out
    go_simp
    clear hHeld
    refine hK.out _ _ ?_ (fun hHeld => ?_)
    ·
     (try dsimp only); exact cell_five11 (kc KT.out BB.out) (by have h1 : gT < w.heap.size := cell_lt KT.out; have h2 := HDW.out; omega)
    clear hK K
    (try simp only [Act.put, Row.pB0, Row.pB1, Row.pB2])
    refine wpAnyH_take (i := 11) (oi := ⟨some 11, .assign (.tmp 56), 4, "l11_trust.go:112", #[⟨8, .data⟩, ⟨10, .chain⟩, ⟨0, .phase⟩, ⟨1, .phase⟩, ⟨2, .phase⟩, ⟨3, .phase⟩, ⟨4, .phase⟩, ⟨5, .phase⟩, ⟨6, .phase⟩, ⟨7, .phase⟩, ⟨8, .phase⟩, ⟨9, .phase⟩, ⟨10, .phase⟩], none⟩) (v := ?_) rfl (by kernel_rfl) (by kernel_rfl) (by kernel_rfl) (fun _ _ _ h => h) (Or.inl ⟨by rfl, ?_⟩) (by assumption) ?_
    rotate_left
    ·
     intro w' hSw; (try dsimp only at hSw); first | (go_simp; done) | (go_simp; with_reducible rfl)
    (try simp only [Act.put, Row.pB0, Row.pB1, Row.pB2])
    refine wpAnyH_done (by kernel_rfl) ?_ _
    exact NoPanic.normal (HQ.out _ _ _ _ _ _ _ _ _ gD ma da mb db mc dc_ ya yb yc _ HDW.out XD.out HX.out BB.out)
   refine AllReadyH.cons (o := ⟨some 10, .alloc 34, 0, "l11_trust.go:112", #[], none⟩) rfl (fun K hK => ?_) AllReadyH.nil
   go_simp
   have hb : Below wn2.heap.size wn2 (wn2.alloc (.cells #[.slice none 0 0, .slice none 0 0, .slice none 0 0, .int .i64 0, .int .i64 0] 34)) := (Below.refl _ _).alloc (Nat.le_refl _) _
   obtain ⟨gD, hgD⟩ : ∃ g, g = wn2.heap.size := ⟨_, rfl⟩
   have XD := Lib.hid (show Ret.Blk (wn2.alloc (.cells #[.slice none 0 0, .slice none 0 0, .slice none 0 0, .int .i64 0, .int .i64 0] 34)) gD (dc (.slice none 0 0) (.slice none 0 0) (.slice none 0 0) 0 0) 34 from by rw [hgD]; exact Ret.Blk.new wn2 _ _)
   have HDW := Lib.hid (show w.heap.size ≤ gD from by rw [hgD]; exact BB.out.size)
   (first | replace HX := Lib.hid (show kD.In w.heap.size (wn2.alloc (.cells #[.slice none 0 0, .slice none 0 0, .slice none 0 0, .int .i64 0, .int .i64 0] 34)).heap.size (wn2.alloc (.cells #[.slice none 0 0, .slice none 0 0, .slice none 0 0, .int .i64 0, .int .i64 0] 34)) (.agg #[.slice ya ma da, .slice yb mb db, .slice yc mc dc_, .int .i64 (Ring.sgK T (pN ({ data := #[47, 107, 101, 121, 47, 97] } : ByteArray)) (pN s) (digK T (pN s)) 5000).2.2.2.1, .int .i64 (Ring.sgK T (pN ({ data := #[47, 107, 101, 121, 47, 97] } : ByteArray)) (pN s) (digK T (pN s)) 5000).2.2.2.2]) (Ring.sgK T (pN ({ data := #[47, 107, 101, 121, 47, 97] } : ByteArray)) (pN s) (digK T (pN s)) 5000) from Kd.In.mono (Kd.In.on HX.out hb) (Nat.le_refl _) hb.size) | skip)
   rw [← hgD]
   clear hgD
   replace HA := Lib.hid (HA.out.on hb)
   replace HBn := Lib.hid (HBn.out.on hb)
   replace BB := Lib.hid (BB.out.trans (hb.mono BB.out.size))
   clear hb
   generalize wn2.alloc (.cells #[.slice none 0 0, .slice none 0 0, .slice none 0 0, .int .i64 0, .int .i64 0] 34) = wn6 at *
   clear hHeld
   refine hK.out _ _ ?_ (fun hHeld => ?_)
   ·
    (try dsimp only); exact kc KT.out BB.out
   clear hK K
   (try simp only [Act.put, Row.pB0, Row.pB1, Row.pB2])
   refine wpAnyH_ready (rs := [5]) (by kernel_rfl) (by simp) ?_
   refine AllReadyH.cons (o := ⟨some 54, .call ⟨.value (.func 14), #[.tmp 50, .tmp 52, .tmp 53, .const (Value.int IntKind.i64 5000)], #[24, 32, 32, 3]⟩, 46, "l11_trust.go:112", #[⟨1, .data⟩, ⟨3, .data⟩, ⟨4, .data⟩, ⟨4, .chain⟩], none⟩) rfl (fun K hK => ?_) AllReadyH.nil
   go_simp
   refine (specIssueCertificate _ _ _ T (pN s) (pN ({ data := #[47, 107, 101, 121, 47, 97] } : ByteArray)) 5000 _ (H_t.out.on BB.out) HA.out HBn.out HT.out (Nat.le_trans (bulk_pN _) (by decide)) (Nat.le_trans (bulk_pN _) (by decide))).mono ?_
   rintro e wn7 ⟨v, rfl, ho, hb⟩
   obtain ⟨ya, ma, da, yb, mb, db, yc, mc, dc_, rfl, ho⟩ := kD_shape ho
   have HX := Lib.hid (show kD.In w.heap.size wn7.heap.size wn7 (.agg #[.slice ya ma da, .slice yb mb db, .slice yc mc dc_, .int .i64 (Ring.sgK T (pN ({ data := #[47, 107, 101, 121, 47, 97] } : ByteArray)) (pN s) (digK T (pN s)) 5000).2.2.2.1, .int .i64 (Ring.sgK T (pN ({ data := #[47, 107, 101, 121, 47, 97] } : ByteArray)) (pN s) (digK T (pN s)) 5000).2.2.2.2]) (Ring.sgK T (pN ({ data := #[47, 107, 101, 121, 47, 97] } : ByteArray)) (pN s) (digK T (pN s)) 5000) from Kd.In.mono ho BB.out.size (Nat.le_refl _)); clear ho
   replace HA := Lib.hid (HA.out.on hb)
   replace HBn := Lib.hid (HBn.out.on hb)
   replace XD := Lib.hid (XD.out.on hb)
   replace BB := Lib.hid (BB.out.trans (hb.mono BB.out.size))
   clear hb
   (try go_wp2_with fail)
   clear hHeld
   refine hK.out _ _ ?_ (fun hHeld => ?_)
   ·
    (try dsimp only); exact kc KT.out BB.out
   clear hK K
   (try simp only [Act.put, Row.pB0, Row.pB1, Row.pB2])
   refine wpAnyH_take (i := 6) (oi := ⟨some 48, .move (.tmp 54), 46, "l11_trust.go:112", #[⟨5, .data⟩], none⟩) (v := ?_) rfl (by kernel_rfl) (by kernel_rfl) (by kernel_rfl) (fun _ _ _ h => h) (Or.inl ⟨by rfl, ?_⟩) (by assumption) ?_
   rotate_left
   ·
    intro w' hSw; (try dsimp only at hSw); first | (go_simp; done) | (go_simp; with_reducible rfl)
   (try simp only [Act.put, Row.pB0, Row.pB1, Row.pB2])
   refine wpAnyH_take (i := 7) (oi := ⟨some 55, .extract (.tmp 48) 0, 34, "l11_trust.go:112", #[⟨6, .data⟩], none⟩) (v := ?_) rfl (by kernel_rfl) (by kernel_rfl) (by kernel_rfl) (fun _ _ _ h => h) (Or.inl ⟨by rfl, ?_⟩) (by assumption) ?_
   rotate_left
   ·
    intro w' hSw; (try dsimp only at hSw); first | (go_simp; done) | (go_simp; with_reducible rfl)
   (try simp only [Act.put, Row.pB0, Row.pB1, Row.pB2])
   refine wpAnyH_take (i := 8) (oi := ⟨some 56, .extract (.tmp 48) 1, 4, "l11_trust.go:112", #[⟨6, .data⟩, { on := 10, ground := Ground.gcOnly Departure.lateStores }], none⟩) (v := ?_) rfl (by kernel_rfl) (by kernel_rfl) (by kernel_rfl) (fun _ _ _ h => h) (Or.inl ⟨by rfl, ?_⟩) (by assumption) ?_
   rotate_left
   ·
    intro w' hSw; (try dsimp only at hSw); first | (go_simp; done) | (go_simp; with_reducible rfl)
   (try simp only [Act.put, Row.pB0, Row.pB1, Row.pB2])
   refine wpAnyH_ready (rs := [10]) (by kernel_rfl) (by simp) ?_
   refine AllReadyH.cons (o := ⟨none, .store 34 (.tmp 10) (.tmp 55), 0, "l11_trust.go:112", #[⟨9, .data⟩, ⟨7, .data⟩, ⟨5, .chain⟩, ⟨0, .phase⟩, ⟨1, .phase⟩, ⟨2, .phase⟩, ⟨3, .phase⟩, ⟨4, .phase⟩, ⟨5, .phase⟩, ⟨6, .phase⟩, ⟨7, .phase⟩, { on := 8, ground := Ground.textOnly Departure.lateStores }, ⟨9, .phase⟩], none⟩) rfl (fun K hK => ?_) AllReadyH.nil
   obtain ⟨r0, r1, r2, r3, r4⟩ := cells5_11 XD.out
   obtain ⟨t0, t1, t2, t3, t4⟩ := froz5_11 XD.out
   go_simp
   clear hHeld
   refine hK.out _ _ ?_ (fun hHeld => ?_)
   ·
    (try dsimp only); exact cell_five11 (kc KT.out BB.out) (by have h1 : gT < w.heap.size := cell_lt KT.out; have h2 := HDW.out; omega)
   clear hK K
   (try simp only [Act.put, Row.pB0, Row.pB1, Row.pB2])
   refine wpAnyH_take (i := 11) (oi := ⟨some 11, .assign (.tmp 56), 4, "l11_trust.go:112", #[⟨8, .data⟩, ⟨10, .chain⟩, ⟨0, .phase⟩, ⟨1, .phase⟩, ⟨2, .phase⟩, ⟨3, .phase⟩, ⟨4, .phase⟩, ⟨5, .phase⟩, ⟨6, .phase⟩, ⟨7, .phase⟩, ⟨8, .phase⟩, ⟨9, .phase⟩, ⟨10, .phase⟩], none⟩) (v := ?_) rfl (by kernel_rfl) (by kernel_rfl) (by kernel_rfl) (fun _ _ _ h => h) (Or.inl ⟨by rfl, ?_⟩) (by assumption) ?_
   rotate_left
   ·
    intro w' hSw; (try dsimp only at hSw); first | (go_simp; done) | (go_simp; with_reducible rfl)
   (try simp only [Act.put, Row.pB0, Row.pB1, Row.pB2])
   refine wpAnyH_done (by kernel_rfl) ?_ _
   exact NoPanic.normal (HQ.out _ _ _ _ _ _ _ _ _ gD ma da mb db mc dc_ ya yb yc _ HDW.out XD.out HX.out BB.out)
  refine AllReadyH.cons (o := ⟨some 10, .alloc 34, 0, "l11_trust.go:112", #[], none⟩) rfl (fun K hK => ?_) AllReadyH.nil
  go_simp
  have hb : Below wn1.heap.size wn1 (wn1.alloc (.cells #[.slice none 0 0, .slice none 0 0, .slice none 0 0, .int .i64 0, .int .i64 0] 34)) := (Below.refl _ _).alloc (Nat.le_refl _) _
  obtain ⟨gD, hgD⟩ : ∃ g, g = wn1.heap.size := ⟨_, rfl⟩
  have XD := Lib.hid (show Ret.Blk (wn1.alloc (.cells #[.slice none 0 0, .slice none 0 0, .slice none 0 0, .int .i64 0, .int .i64 0] 34)) gD (dc (.slice none 0 0) (.slice none 0 0) (.slice none 0 0) 0 0) 34 from by rw [hgD]; exact Ret.Blk.new wn1 _ _)
  have HDW := Lib.hid (show w.heap.size ≤ gD from by rw [hgD]; exact BB.out.size)
  (first | replace HX := Lib.hid (show kD.In w.heap.size (wn1.alloc (.cells #[.slice none 0 0, .slice none 0 0, .slice none 0 0, .int .i64 0, .int .i64 0] 34)).heap.size (wn1.alloc (.cells #[.slice none 0 0, .slice none 0 0, .slice none 0 0, .int .i64 0, .int .i64 0] 34)) (.agg #[.slice ya ma da, .slice yb mb db, .slice yc mc dc_, .int .i64 (Ring.sgK T (pN ({ data := #[47, 107, 101, 121, 47, 97] } : ByteArray)) (pN s) (digK T (pN s)) 5000).2.2.2.1, .int .i64 (Ring.sgK T (pN ({ data := #[47, 107, 101, 121, 47, 97] } : ByteArray)) (pN s) (digK T (pN s)) 5000).2.2.2.2]) (Ring.sgK T (pN ({ data := #[47, 107, 101, 121, 47, 97] } : ByteArray)) (pN s) (digK T (pN s)) 5000) from Kd.In.mono (Kd.In.on HX.out hb) (Nat.le_refl _) hb.size) | skip)
  rw [← hgD]
  clear hgD
  replace HA := Lib.hid (HA.out.on hb)
  replace BB := Lib.hid (BB.out.trans (hb.mono BB.out.size))
  clear hb
  generalize wn1.alloc (.cells #[.slice none 0 0, .slice none 0 0, .slice none 0 0, .int .i64 0, .int .i64 0] 34) = wn9 at *
  clear hHeld
  refine hK.out _ _ ?_ (fun hHeld => ?_)
  ·
   (try dsimp only); exact kc KT.out BB.out
  clear hK K
  (try simp only [Act.put, Row.pB0, Row.pB1, Row.pB2])
  refine wpAnyH_ready (rs := [4]) (by kernel_rfl) (by simp) ?_
  refine AllReadyH.cons (o := ⟨some 53, .call { callee := .value (.func 44), args := #[.const (Value.string { data := #[47, 107, 101, 121, 47, 97] })], argTypes := #[9] }, 32, "l11_trust.go:112", #[⟨3, .chain⟩], none⟩) rfl (fun K hK => ?_) AllReadyH.nil
  go_simp
  refine (l4OfB ({ data := #[47, 107, 101, 121, 47, 97] } : ByteArray) _ (by decide)).mono ?_
  rintro e wn10 ⟨u, rfl, ho, hb⟩
  obtain ⟨xB, nB, cB, rfl, -, ho⟩ := ho.shapeN
  have HBn := Lib.hid (kN_of ho.holds); clear ho
  replace HA := Lib.hid (HA.out.on hb)
  replace XD := Lib.hid (XD.out.on hb)
  replace BB := Lib.hid (BB.out.trans (hb.mono BB.out.size))
  clear hb
  (try go_wp2_with fail)
  clear hHeld
  refine hK.out _ _ ?_ (fun hHeld => ?_)
  ·
   (try dsimp only); exact kc KT.out BB.out
  clear hK K
  (try simp only [Act.put, Row.pB0, Row.pB1, Row.pB2])
  refine wpAnyH_ready (rs := [5]) (by kernel_rfl) (by simp) ?_
  refine AllReadyH.cons (o := ⟨some 54, .call ⟨.value (.func 14), #[.tmp 50, .tmp 52, .tmp 53, .const (Value.int IntKind.i64 5000)], #[24, 32, 32, 3]⟩, 46, "l11_trust.go:112", #[⟨1, .data⟩, ⟨3, .data⟩, ⟨4, .data⟩, ⟨4, .chain⟩], none⟩) rfl (fun K hK => ?_) AllReadyH.nil
  go_simp
  refine (specIssueCertificate _ _ _ T (pN s) (pN ({ data := #[47, 107, 101, 121, 47, 97] } : ByteArray)) 5000 _ (H_t.out.on BB.out) HA.out HBn.out HT.out (Nat.le_trans (bulk_pN _) (by decide)) (Nat.le_trans (bulk_pN _) (by decide))).mono ?_
  rintro e wn11 ⟨v, rfl, ho, hb⟩
  obtain ⟨ya, ma, da, yb, mb, db, yc, mc, dc_, rfl, ho⟩ := kD_shape ho
  have HX := Lib.hid (show kD.In w.heap.size wn11.heap.size wn11 (.agg #[.slice ya ma da, .slice yb mb db, .slice yc mc dc_, .int .i64 (Ring.sgK T (pN ({ data := #[47, 107, 101, 121, 47, 97] } : ByteArray)) (pN s) (digK T (pN s)) 5000).2.2.2.1, .int .i64 (Ring.sgK T (pN ({ data := #[47, 107, 101, 121, 47, 97] } : ByteArray)) (pN s) (digK T (pN s)) 5000).2.2.2.2]) (Ring.sgK T (pN ({ data := #[47, 107, 101, 121, 47, 97] } : ByteArray)) (pN s) (digK T (pN s)) 5000) from Kd.In.mono ho BB.out.size (Nat.le_refl _)); clear ho
  replace HA := Lib.hid (HA.out.on hb)
  replace XD := Lib.hid (XD.out.on hb)
  replace HBn := Lib.hid (HBn.out.on hb)
  replace BB := Lib.hid (BB.out.trans (hb.mono BB.out.size))
  clear hb
  (try go_wp2_with fail)
  clear hHeld
  refine hK.out _ _ ?_ (fun hHeld => ?_)
  ·
   (try dsimp only); exact kc KT.out BB.out
  clear hK K
  (try simp only [Act.put, Row.pB0, Row.pB1, Row.pB2])
  refine wpAnyH_take (i := 6) (oi := ⟨some 48, .move (.tmp 54), 46, "l11_trust.go:112", #[⟨5, .data⟩], none⟩) (v := ?_) rfl (by kernel_rfl) (by kernel_rfl) (by kernel_rfl) (fun _ _ _ h => h) (Or.inl ⟨by rfl, ?_⟩) (by assumption) ?_
  rotate_left
  ·
   intro w' hSw; (try dsimp only at hSw); first | (go_simp; done) | (go_simp; with_reducible rfl)
  (try simp only [Act.put, Row.pB0, Row.pB1, Row.pB2])
  refine wpAnyH_take (i := 7) (oi := ⟨some 55, .extract (.tmp 48) 0, 34, "l11_trust.go:112", #[⟨6, .data⟩], none⟩) (v := ?_) rfl (by kernel_rfl) (by kernel_rfl) (by kernel_rfl) (fun _ _ _ h => h) (Or.inl ⟨by rfl, ?_⟩) (by assumption) ?_
  rotate_left
  ·
   intro w' hSw; (try dsimp only at hSw); first | (go_simp; done) | (go_simp; with_reducible rfl)
  (try simp only [Act.put, Row.pB0, Row.pB1, Row.pB2])
  refine wpAnyH_take (i := 8) (oi := ⟨some 56, .extract (.tmp 48) 1, 4, "l11_trust.go:112", #[⟨6, .data⟩, { on := 10, ground := Ground.gcOnly Departure.lateStores }], none⟩) (v := ?_) rfl (by kernel_rfl) (by kernel_rfl) (by kernel_rfl) (fun _ _ _ h => h) (Or.inl ⟨by rfl, ?_⟩) (by assumption) ?_
  rotate_left
  ·
   intro w' hSw; (try dsimp only at hSw); first | (go_simp; done) | (go_simp; with_reducible rfl)
  (try simp only [Act.put, Row.pB0, Row.pB1, Row.pB2])
  refine wpAnyH_ready (rs := [10]) (by kernel_rfl) (by simp) ?_
  refine AllReadyH.cons (o := ⟨none, .store 34 (.tmp 10) (.tmp 55), 0, "l11_trust.go:112", #[⟨9, .data⟩, ⟨7, .data⟩, ⟨5, .chain⟩, ⟨0, .phase⟩, ⟨1, .phase⟩, ⟨2, .phase⟩, ⟨3, .phase⟩, ⟨4, .phase⟩, ⟨5, .phase⟩, ⟨6, .phase⟩, ⟨7, .phase⟩, { on := 8, ground := Ground.textOnly Departure.lateStores }, ⟨9, .phase⟩], none⟩) rfl (fun K hK => ?_) AllReadyH.nil
  obtain ⟨r0, r1, r2, r3, r4⟩ := cells5_11 XD.out
  obtain ⟨t0, t1, t2, t3, t4⟩ := froz5_11 XD.out
  go_simp
  clear hHeld
  refine hK.out _ _ ?_ (fun hHeld => ?_)
  ·
   (try dsimp only); exact cell_five11 (kc KT.out BB.out) (by have h1 : gT < w.heap.size := cell_lt KT.out; have h2 := HDW.out; omega)
  clear hK K
  (try simp only [Act.put, Row.pB0, Row.pB1, Row.pB2])
  refine wpAnyH_take (i := 11) (oi := ⟨some 11, .assign (.tmp 56), 4, "l11_trust.go:112", #[⟨8, .data⟩, ⟨10, .chain⟩, ⟨0, .phase⟩, ⟨1, .phase⟩, ⟨2, .phase⟩, ⟨3, .phase⟩, ⟨4, .phase⟩, ⟨5, .phase⟩, ⟨6, .phase⟩, ⟨7, .phase⟩, ⟨8, .phase⟩, ⟨9, .phase⟩, ⟨10, .phase⟩], none⟩) (v := ?_) rfl (by kernel_rfl) (by kernel_rfl) (by kernel_rfl) (fun _ _ _ h => h) (Or.inl ⟨by rfl, ?_⟩) (by assumption) ?_
  rotate_left
  ·
   intro w' hSw; (try dsimp only at hSw); first | (go_simp; done) | (go_simp; with_reducible rfl)
  (try simp only [Act.put, Row.pB0, Row.pB1, Row.pB2])
  refine wpAnyH_done (by kernel_rfl) ?_ _
  exact NoPanic.normal (HQ.out _ _ _ _ _ _ _ _ _ gD ma da mb db mc dc_ ya yb yc _ HDW.out XD.out HX.out BB.out)
 refine AllReadyH.cons (o := ⟨some 10, .alloc 34, 0, "l11_trust.go:112", #[], none⟩) rfl (fun K hK => ?_) AllReadyH.nil
 go_simp
 have hb : Below wd.heap.size wd (wd.alloc (.cells #[.slice none 0 0, .slice none 0 0, .slice none 0 0, .int .i64 0, .int .i64 0] 34)) := (Below.refl _ _).alloc (Nat.le_refl _) _
 obtain ⟨gD, hgD⟩ : ∃ g, g = wd.heap.size := ⟨_, rfl⟩
 have XD := Lib.hid (show Ret.Blk (wd.alloc (.cells #[.slice none 0 0, .slice none 0 0, .slice none 0 0, .int .i64 0, .int .i64 0] 34)) gD (dc (.slice none 0 0) (.slice none 0 0) (.slice none 0 0) 0 0) 34 from by rw [hgD]; exact Ret.Blk.new wd _ _)
 have HDW := Lib.hid (show w.heap.size ≤ gD from by rw [hgD]; exact BB.out.size)
 (first | replace HX := Lib.hid (show kD.In w.heap.size (wd.alloc (.cells #[.slice none 0 0, .slice none 0 0, .slice none 0 0, .int .i64 0, .int .i64 0] 34)).heap.size (wd.alloc (.cells #[.slice none 0 0, .slice none 0 0, .slice none 0 0, .int .i64 0, .int .i64 0] 34)) (.agg #[.slice ya ma da, .slice yb mb db, .slice yc mc dc_, .int .i64 (Ring.sgK T (pN ({ data := #[47, 107, 101, 121, 47, 97] } : ByteArray)) (pN s) (digK T (pN s)) 5000).2.2.2.1, .int .i64 (Ring.sgK T (pN ({ data := #[47, 107, 101, 121, 47, 97] } : ByteArray)) (pN s) (digK T (pN s)) 5000).2.2.2.2]) (Ring.sgK T (pN ({ data := #[47, 107, 101, 121, 47, 97] } : ByteArray)) (pN s) (digK T (pN s)) 5000) from Kd.In.mono (Kd.In.on HX.out hb) (Nat.le_refl _) hb.size) | skip)
 rw [← hgD]
 clear hgD
 replace BB := Lib.hid (BB.out.trans (hb.mono BB.out.size))
 clear hb
 generalize wd.alloc (.cells #[.slice none 0 0, .slice none 0 0, .slice none 0 0, .int .i64 0, .int .i64 0] 34) = wn13 at *
 clear hHeld
 refine hK.out _ _ ?_ (fun hHeld => ?_)
 ·
  (try dsimp only); exact kc KT.out BB.out
 clear hK K
 (try simp only [Act.put, Row.pB0, Row.pB1, Row.pB2])
 refine wpAnyH_ready (rs := [3]) (by kernel_rfl) (by simp) ?_
 refine AllReadyH.cons (o := ⟨some 52, .call ⟨.value (.func 44), #[.tmp 51], #[9]⟩, 32, "l11_trust.go:112", #[⟨2, .data⟩], none⟩) rfl (fun K hK => ?_) AllReadyH.nil
 go_simp
 refine (l4OfB s _ (by have := HS.out; omega)).mono ?_
 rintro e wn14 ⟨u, rfl, ho, hb⟩
 obtain ⟨xA, nA, cA, rfl, -, ho⟩ := ho.shapeN
 have HA := Lib.hid (kN_of ho.holds); clear ho
 replace XD := Lib.hid (XD.out.on hb)
 replace BB := Lib.hid (BB.out.trans (hb.mono BB.out.size))
 clear hb
 (try go_wp2_with fail)
 clear hHeld
 refine hK.out _ _ ?_ (fun hHeld => ?_)
 ·
  (try dsimp only); exact kc KT.out BB.out
 clear hK K
 (try simp only [Act.put, Row.pB0, Row.pB1, Row.pB2])
 refine wpAnyH_ready (rs := [4]) (by kernel_rfl) (by simp) ?_
 refine AllReadyH.cons (o := ⟨some 53, .call { callee := .value (.func 44), args := #[.const (Value.string { data := #[47, 107, 101, 121, 47, 97] })], argTypes := #[9] }, 32, "l11_trust.go:112", #[⟨3, .chain⟩], none⟩) rfl (fun K hK => ?_) AllReadyH.nil
 go_simp
 refine (l4OfB ({ data := #[47, 107, 101, 121, 47, 97] } : ByteArray) _ (by decide)).mono ?_
 rintro e wn15 ⟨u, rfl, ho, hb⟩
 obtain ⟨xB, nB, cB, rfl, -, ho⟩ := ho.shapeN
 have HBn := Lib.hid (kN_of ho.holds); clear ho
 replace XD := Lib.hid (XD.out.on hb)
 replace HA := Lib.hid (HA.out.on hb)
 replace BB := Lib.hid (BB.out.trans (hb.mono BB.out.size))
 clear hb
 (try go_wp2_with fail)
 clear hHeld
 refine hK.out _ _ ?_ (fun hHeld => ?_)
 ·
  (try dsimp only); exact kc KT.out BB.out
 clear hK K
 (try simp only [Act.put, Row.pB0, Row.pB1, Row.pB2])
 refine wpAnyH_ready (rs := [5]) (by kernel_rfl) (by simp) ?_
 refine AllReadyH.cons (o := ⟨some 54, .call ⟨.value (.func 14), #[.tmp 50, .tmp 52, .tmp 53, .const (Value.int IntKind.i64 5000)], #[24, 32, 32, 3]⟩, 46, "l11_trust.go:112", #[⟨1, .data⟩, ⟨3, .data⟩, ⟨4, .data⟩, ⟨4, .chain⟩], none⟩) rfl (fun K hK => ?_) AllReadyH.nil
 go_simp
 refine (specIssueCertificate _ _ _ T (pN s) (pN ({ data := #[47, 107, 101, 121, 47, 97] } : ByteArray)) 5000 _ (H_t.out.on BB.out) HA.out HBn.out HT.out (Nat.le_trans (bulk_pN _) (by decide)) (Nat.le_trans (bulk_pN _) (by decide))).mono ?_
 rintro e wn16 ⟨v, rfl, ho, hb⟩
 obtain ⟨ya, ma, da, yb, mb, db, yc, mc, dc_, rfl, ho⟩ := kD_shape ho
 have HX := Lib.hid (show kD.In w.heap.size wn16.heap.size wn16 (.agg #[.slice ya ma da, .slice yb mb db, .slice yc mc dc_, .int .i64 (Ring.sgK T (pN ({ data := #[47, 107, 101, 121, 47, 97] } : ByteArray)) (pN s) (digK T (pN s)) 5000).2.2.2.1, .int .i64 (Ring.sgK T (pN ({ data := #[47, 107, 101, 121, 47, 97] } : ByteArray)) (pN s) (digK T (pN s)) 5000).2.2.2.2]) (Ring.sgK T (pN ({ data := #[47, 107, 101, 121, 47, 97] } : ByteArray)) (pN s) (digK T (pN s)) 5000) from Kd.In.mono ho BB.out.size (Nat.le_refl _)); clear ho
 replace XD := Lib.hid (XD.out.on hb)
 replace HA := Lib.hid (HA.out.on hb)
 replace HBn := Lib.hid (HBn.out.on hb)
 replace BB := Lib.hid (BB.out.trans (hb.mono BB.out.size))
 clear hb
 (try go_wp2_with fail)
 clear hHeld
 refine hK.out _ _ ?_ (fun hHeld => ?_)
 ·
  (try dsimp only); exact kc KT.out BB.out
 clear hK K
 (try simp only [Act.put, Row.pB0, Row.pB1, Row.pB2])
 refine wpAnyH_take (i := 6) (oi := ⟨some 48, .move (.tmp 54), 46, "l11_trust.go:112", #[⟨5, .data⟩], none⟩) (v := ?_) rfl (by kernel_rfl) (by kernel_rfl) (by kernel_rfl) (fun _ _ _ h => h) (Or.inl ⟨by rfl, ?_⟩) (by assumption) ?_
 rotate_left
 ·
  intro w' hSw; (try dsimp only at hSw); first | (go_simp; done) | (go_simp; with_reducible rfl)
 (try simp only [Act.put, Row.pB0, Row.pB1, Row.pB2])
 refine wpAnyH_take (i := 7) (oi := ⟨some 55, .extract (.tmp 48) 0, 34, "l11_trust.go:112", #[⟨6, .data⟩], none⟩) (v := ?_) rfl (by kernel_rfl) (by kernel_rfl) (by kernel_rfl) (fun _ _ _ h => h) (Or.inl ⟨by rfl, ?_⟩) (by assumption) ?_
 rotate_left
 ·
  intro w' hSw; (try dsimp only at hSw); first | (go_simp; done) | (go_simp; with_reducible rfl)
 (try simp only [Act.put, Row.pB0, Row.pB1, Row.pB2])
 refine wpAnyH_take (i := 8) (oi := ⟨some 56, .extract (.tmp 48) 1, 4, "l11_trust.go:112", #[⟨6, .data⟩, { on := 10, ground := Ground.gcOnly Departure.lateStores }], none⟩) (v := ?_) rfl (by kernel_rfl) (by kernel_rfl) (by kernel_rfl) (fun _ _ _ h => h) (Or.inl ⟨by rfl, ?_⟩) (by assumption) ?_
 rotate_left
 ·
  intro w' hSw; (try dsimp only at hSw); first | (go_simp; done) | (go_simp; with_reducible rfl)
 (try simp only [Act.put, Row.pB0, Row.pB1, Row.pB2])
 refine wpAnyH_ready (rs := [10]) (by kernel_rfl) (by simp) ?_
 refine AllReadyH.cons (o := ⟨none, .store 34 (.tmp 10) (.tmp 55), 0, "l11_trust.go:112", #[⟨9, .data⟩, ⟨7, .data⟩, ⟨5, .chain⟩, ⟨0, .phase⟩, ⟨1, .phase⟩, ⟨2, .phase⟩, ⟨3, .phase⟩, ⟨4, .phase⟩, ⟨5, .phase⟩, ⟨6, .phase⟩, ⟨7, .phase⟩, { on := 8, ground := Ground.textOnly Departure.lateStores }, ⟨9, .phase⟩], none⟩) rfl (fun K hK => ?_) AllReadyH.nil
 obtain ⟨r0, r1, r2, r3, r4⟩ := cells5_11 XD.out
 obtain ⟨t0, t1, t2, t3, t4⟩ := froz5_11 XD.out
 go_simp
 clear hHeld
 refine hK.out _ _ ?_ (fun hHeld => ?_)
 ·
  (try dsimp only); exact cell_five11 (kc KT.out BB.out) (by have h1 : gT < w.heap.size := cell_lt KT.out; have h2 := HDW.out; omega)
 clear hK K
 (try simp only [Act.put, Row.pB0, Row.pB1, Row.pB2])
 refine wpAnyH_take (i := 11) (oi := ⟨some 11, .assign (.tmp 56), 4, "l11_trust.go:112", #[⟨8, .data⟩, ⟨10, .chain⟩, ⟨0, .phase⟩, ⟨1, .phase⟩, ⟨2, .phase⟩, ⟨3, .phase⟩, ⟨4, .phase⟩, ⟨5, .phase⟩, ⟨6, .phase⟩, ⟨7, .phase⟩, ⟨8, .phase⟩, ⟨9, .phase⟩, ⟨10, .phase⟩], none⟩) (v := ?_) rfl (by kernel_rfl) (by kernel_rfl) (by kernel_rfl) (fun _ _ _ h => h) (Or.inl ⟨by rfl, ?_⟩) (by assumption) ?_
 rotate_left
 ·
  intro w' hSw; (try dsimp only at hSw); first | (go_simp; done) | (go_simp; with_reducible rfl)
 (try simp only [Act.put, Row.pB0, Row.pB1, Row.pB2])
 refine wpAnyH_done (by kernel_rfl) ?_ _
 exact NoPanic.normal (HQ.out _ _ _ _ _ _ _ _ _ gD ma da mb db mc dc_ ya yb yc _ HDW.out XD.out HX.out BB.out)
set_option maxRecDepth 100000 in
set_option maxHeartbeats 4000000 in
theorem tru11 {Q : Exit → Act → World → Prop} {v0 v1 v2 v4 v5 v6 v7 v8 v10 v11 v12 v13 v14 v15 v16 v17 v18 v19 v20 v21 v22 v23 v24 v25 v26 v27 v28 v29 v30 v31 v32 v33 v34 v35 v36 v37 v38 v39 v40 v41 v42 v43 v44 v45 v46 v47 v48 v49 v50 v51 v52 v53 v54 v55 v56 v57 v58 v59 v60 v61 v62 v63 v64 v65 v66 v67 v68 v69 v70 : Value} {w : World} {gT nk ck : Nat} {xk : Option Addr} {T : Ring.Kt} {s : ByteArray} (HS : Hid (s.size ≤ 100)) (H_t : Hid (Ring.kK.At w (.slice xk nk ck) T)) (HT : Hid (Ring.bulkT T ≤ 1200000)) (KT : Hid (w.cell? ⟨gT, 0, none⟩ = some (.slice xk nk ck)))
    (hQ : ∀ (u48 u49 u50 u51 u52 u53 u54 u55 u56 : Value) (gD ma da mb db mc dc_ : Nat) (ya yb yc : Option Addr) (w2 : World), Below w.heap.size w w2 → kD.In w.heap.size w2.heap.size w2 (.agg #[.slice ya ma da, .slice yb mb db, .slice yc mc dc_, .int .i64 (Ring.sgK T (pN ({ data := #[47, 107, 101, 121, 47, 97] } : ByteArray)) (pN s) (digK T (pN s)) 5000).2.2.2.1, .int .i64 (Ring.sgK T (pN ({ data := #[47, 107, 101, 121, 47, 97] } : ByteArray)) (pN s) (digK T (pN s)) 5000).2.2.2.2]) (Ring.sgK T (pN ({ data := #[47, 107, 101, 121, 47, 97] } : ByteArray)) (pN s) (digK T (pN s)) 5000) → Ret.Blk w2 gD #[.slice ya ma da, .slice yb mb db, .slice yc mc dc_, .int .i64 (Ring.sgK T (pN ({ data := #[47, 107, 101, 121, 47, 97] } : ByteArray)) (pN s) (digK T (pN s)) 5000).2.2.2.1, .int .i64 (Ring.sgK T (pN ({ data := #[47, 107, 101, 121, 47, 97] } : ByteArray)) (pN s) (digK T (pN s)) 5000).2.2.2.2] 34 → w.heap.size ≤ gD → gD < w2.heap.size → Q .normal ⟨#[v0, v1, v2, .pointer (some ⟨gT, 0, none⟩), v4, v5, v6, v7, v8, .string s, .pointer (some ⟨gD, 0, none⟩), .bool (Ring.sgOk T (pN ({ data := #[47, 107, 101, 121, 47, 97] } : ByteArray)) (pN s) (digK T (pN s)) 5000), v12, v13, v14, v15, v16, v17, v18, v19, v20, v21, v22, v23, v24, v25, v26, v27, v28, v29, v30, v31, v32, v33, v34, v35, v36, v37, v38, v39, v40, v41, v42, v43, v44, v45, v46, v47, u48, u49, u50, u51, u52, u53, u54, u55, u56, v57, v58, v59, v60, v61, v62, v63, v64, v65, v66, v67, v68, v69, v70], []⟩ w2) :
    (Code.region 11 #[{ dst := some 49, op := Op.fieldAddr 29 (Operand.tmp 3) 0, type := 0, pos := "l11_trust.go:112", after := #[], guard := none },
      { dst := some 50, op := Op.load 24 (Operand.tmp 49), type := 24, pos := "l11_trust.go:112", after := #[{ on := 0, ground := Ground.data }], guard := none },
      { dst := some 51, op := Op.move (Operand.tmp 9), type := 9, pos := "l11_trust.go:112", after := #[], guard := none },
      { dst := some 52, op := Op.call { callee := Callee.value (Operand.func 44), args := #[Operand.tmp 51], argTypes := #[9] }, type := 32, pos := "l11_trust.go:112", after := #[{ on := 2, ground := Ground.data }], guard := none },
      { dst := some 53, op := Op.call { callee := Callee.value (Operand.func 44), args := #[Operand.const (Value.string { data := #[47, 107, 101, 121, 47, 97] })], argTypes := #[9] }, type := 32, pos := "l11_trust.go:112", after := #[{ on := 3, ground := Ground.chain }], guard := none },
      { dst := some 54, op := Op.call { callee := Callee.value (Operand.func 14), args := #[Operand.tmp 50, Operand.tmp 52, Operand.tmp 53, Operand.const (Value.int IntKind.i64 5000)], argTypes := #[24, 32, 32, 3] }, type := 46, pos := "l11_trust.go:112", after := #[{ on := 1, ground := Ground.data }, { on := 3, ground := Ground.data }, { on := 4, ground := Ground.data }, { on := 4, ground := Ground.chain }], guard := none },
      { dst := some 48, op := Op.move (Operand.tmp 54), type := 46, pos := "l11_trust.go:112", after := #[{ on := 5, ground := Ground.data }], guard := none },
      { dst := some 55, op := Op.extract (Operand.tmp 48) 0, type := 34, pos := "l11_trust.go:112", after := #[{ on := 6, ground := Ground.data }], guard := none },
      { dst := some 56, op := Op.extract (Operand.tmp 48) 1, type := 4, pos := "l11_trust.go:112", after := #[{ on := 6, ground := Ground.data }, { on := 10, ground := Ground.gcOnly Departure.lateStores }], guard := none },
      { dst := some 10, op := Op.alloc 34, type := 0, pos := "l11_trust.go:112", after := #[], guard := none },
      { dst := none, op := Op.store 34 (Operand.tmp 10) (Operand.tmp 55), type := 0, pos := "l11_trust.go:112", after := #[{ on := 9, ground := Ground.data }, { on := 7, ground := Ground.data }, { on := 5, ground := Ground.chain }, { on := 0, ground := Ground.phase }, { on := 1, ground := Ground.phase }, { on := 2, ground := Ground.phase }, { on := 3, ground := Ground.phase }, { on := 4, ground := Ground.phase }, { on := 5, ground := Ground.phase }, { on := 6, ground := Ground.phase }, { on := 7, ground := Ground.phase }, { on := 8, ground := Ground.textOnly Departure.lateStores }, { on := 9, ground := Ground.phase }], guard := none },
      { dst := some 11, op := Op.assign (Operand.tmp 56), type := 4, pos := "l11_trust.go:112", after := #[{ on := 8, ground := Ground.data }, { on := 10, ground := Ground.chain }, { on := 0, ground := Ground.phase }, { on := 1, ground := Ground.phase }, { on := 2, ground := Ground.phase }, { on := 3, ground := Ground.phase }, { on := 4, ground := Ground.phase }, { on := 5, ground := Ground.phase }, { on := 6, ground := Ground.phase }, { on := 7, ground := Ground.phase }, { on := 8, ground := Ground.phase }, { on := 9, ground := Ground.phase }, { on := 10, ground := Ground.phase }], guard := none }] true).wp Tryz.prog Q ⟨#[v0, v1, v2, .pointer (some ⟨gT, 0, none⟩), v4, v5, v6, v7, v8, .string s, v10, v11, v12, v13, v14, v15, v16, v17, v18, v19, v20, v21, v22, v23, v24, v25, v26, v27, v28, v29, v30, v31, v32, v33, v34, v35, v36, v37, v38, v39, v40, v41, v42, v43, v44, v45, v46, v47, v48, v49, v50, v51, v52, v53, v54, v55, v56, v57, v58, v59, v60, v61, v62, v63, v64, v65, v66, v67, v68, v69, v70], []⟩ w := by
  refine tru110 HS H_t HT KT ?_
  intro u48 u49 u50 u51 u52 u53 u54 u55 u56 gD ma da mb db mc dc_ ya yb yc wx hgd hxd hin hb
  obtain ⟨h1, h2, h3⟩ := five_facts11 hgd (Nat.le_refl _) hxd hin hb
  exact hQ _ _ _ _ _ _ _ _ _ _ _ _ _ _ _ _ _ _ _ _ h1 h2 h3 hgd (by rw [size_five11]; exact hxd.lt)
def KS11 : List Kyt := [(pN ({ data := #[47, 107, 101, 121, 47, 97] } : ByteArray), 100), (pN ({ data := #[47, 97, 47, 107, 101, 121] } : ByteArray), 101), (pN ({ data := #[47, 98, 47, 107, 101, 121] } : ByteArray), 102), (pN ({ data := #[47, 98, 97, 100, 47, 107, 101, 121] } : ByteArray), 103)]
def RS11 : List Rlt := [prR ({ data := #[47, 63, 120, 47, 107, 101, 121, 32, 60, 32, 47, 107, 101, 121, 47, 97] } : ByteArray), prR ({ data := #[47, 63, 120, 47, 42, 42, 32, 60, 32, 47, 63, 120, 47, 107, 101, 121] } : ByteArray)]
def TrustD (B : Nat) (V : Value) (w : World) : Prop :=
  ∃ (gk ga : Nat) (a1 a3 : Option Addr) (c1 n3 c3 : Nat) (L0 : List Kym) (L1 : List Rlm) (L2 : List Nnm) (L3 : List Dzm), V = .agg #[.slice (some ⟨gk, 0, none⟩) 4 4, .slice a1 2 c1, .slice (some ⟨ga, 0, none⟩) 1 1, .slice a3 n3 c3] ∧
    sLKy.own B w ⟨some ⟨gk, 0, none⟩, 4, 4, L0⟩ ∧ sLRl.own B w ⟨a1, 2, c1, L1⟩ ∧ sLNn.own B w ⟨some ⟨ga, 0, none⟩, 1, 1, L2⟩ ∧ sLDz.own B w ⟨a3, n3, c3, L3⟩ ∧
    L0.map kKy.strip = KS11 ∧ L1.map kRl.strip = RS11 ∧ L2.map kN.strip = [pN ({ data := #[47, 107, 101, 121, 47, 97] } : ByteArray)] ∧ L3.length ≤ 2 ∧ ∀ y ∈ L3, smD11 (kDz.strip y) ∧ (kDz.strip y).2.2.2.1 = 5000
theorem KS11_bulk : Ring.bulkT KS11 ≤ 1200000 := by
  rw [bulkT_K]
  refine Nat.le_trans (bulkK_of (n := 4) (b := 1000) (by decide) (fun x hx => ?_)) (by decide)
  simp only [KS11, List.mem_cons, List.not_mem_nil, or_false] at hx
  rcases hx with rfl | rfl | rfl | rfl <;> (unfold wtKy; dsimp only; exact bulk_pN _)
theorem sgK_until {T : Ring.Kt} {lk ln : List ByteArray} {b : List Int} {u : Int} (h : Ring.sgOk T lk ln b u = true) : (Ring.sgK T lk ln b u).2.2.2.1 = u ∧ (Ring.sgK T lk ln b u).1 = ln ∧ (Ring.sgK T lk ln b u).2.1 = b ∧ (Ring.sgK T lk ln b u).2.2.1 = lk := by
  rw [Ring.sgK_yes h]; exact ⟨rfl, rfl, rfl, rfl⟩
set_option maxHeartbeats 16000000 in
theorem l11Trust (w0 : World) (p : Nat) (v : Value) (l : List UInt8) (w : World) (hc : Cur w0 p v l w) :
    Calls Tryz.prog 76 #[.pointer (some ⟨p, 0, none⟩)] w (DrawnW w0 p v l w (TrustD w.heap.size)) := by
  have ds := Lib.hid ((DS.start hc).alloc (.cells #[.slice none 0 0, .slice none 0 0, .slice none 0 0, .slice none 0 0] 29))
  have hR := Lib.hid (Blk.new w #[.slice none 0 0, .slice none 0 0, .slice none 0 0, .slice none 0 0] 29)
  have HF := Lib.hid (l4OfB ({ data := #[47, 107, 101, 121, 47, 97] } : ByteArray) (w.alloc (.cells #[.slice none 0 0, .slice none 0 0, .slice none 0 0, .slice none 0 0] 29)) (by decide))
  have HBB := Lib.hid (show w.heap.size ≤ (w.alloc (.cells #[.slice none 0 0, .slice none 0 0, .slice none 0 0, .slice none 0 0] 29)).heap.size by simp)
  clear hc
  go_enter Tryz.func76, Tryz.ntmps76
  go_wp2_with fail
  refine HF.out.mono ?_
  rintro e w1 ⟨u, rfl, hu, hb⟩
  obtain ⟨x1, n1, c1, rfl, -, hu⟩ := hu.shapeN
  have hN1 := Lib.hid (hb_soft (hu.mono HBB.out))
  replace ds := Lib.hid (ds.out.on hb); replace hR := Lib.hid (hR.out.on hb); replace HBB := Lib.hid (Nat.le_trans HBB.out hb.size)
  clear hu hb HF
  have HF := Lib.hid (l4OfB ({ data := #[47, 97, 47, 107, 101, 121] } : ByteArray) w1 (by decide))
  go_wp2_with fail
  refine HF.out.mono ?_
  rintro e w2 ⟨u, rfl, hu, hb⟩
  obtain ⟨x2, n2, c2, rfl, -, hu⟩ := hu.shapeN
  have hN2 := Lib.hid (hb_soft (hu.mono HBB.out))
  replace ds := Lib.hid (ds.out.on hb); replace hR := Lib.hid (hR.out.on hb); replace HBB := Lib.hid (Nat.le_trans HBB.out hb.size)
  replace hN1 := Lib.hid (Kd.own_on hN1.out hb)
  clear hu hb HF
  have HF := Lib.hid (l4OfB ({ data := #[47, 98, 47, 107, 101, 121] } : ByteArray) w2 (by decide))
  go_wp2_with fail
  refine HF.out.mono ?_
  rintro e w3 ⟨u, rfl, hu, hb⟩
  obtain ⟨x3, n3, c3, rfl, -, hu⟩ := hu.shapeN
  have hN3 := Lib.hid (hb_soft (hu.mono HBB.out))
  replace ds := Lib.hid (ds.out.on hb); replace hR := Lib.hid (hR.out.on hb); replace HBB := Lib.hid (Nat.le_trans HBB.out hb.size)
  replace hN1 := Lib.hid (Kd.own_on hN1.out hb)
  replace hN2 := Lib.hid (Kd.own_on hN2.out hb)
  clear hu hb HF
  have HF := Lib.hid (l4OfB ({ data := #[47, 98, 97, 100, 47, 107, 101, 121] } : ByteArray) w3 (by decide))
  go_wp2_with fail
  refine HF.out.mono ?_
  rintro e w4 ⟨u, rfl, hu, hb⟩
  obtain ⟨x4, n4, c4, rfl, -, hu⟩ := hu.shapeN
  have hN4 := Lib.hid (hb_soft (hu.mono HBB.out))
  replace ds := Lib.hid (ds.out.on hb); replace hR := Lib.hid (hR.out.on hb); replace HBB := Lib.hid (Nat.le_trans HBB.out hb.size)
  replace hN1 := Lib.hid (Kd.own_on hN1.out hb)
  replace hN2 := Lib.hid (Kd.own_on hN2.out hb)
  replace hN3 := Lib.hid (Kd.own_on hN3.out hb)
  clear hu hb HF
  have hb := (Below.refl w4.heap.size w4).alloc (Nat.le_refl _) (.cells #[.slice x1 n1 c1, .int .i64 100, .slice x2 n2 c2, .int .i64 101, .slice x3 n3 c3, .int .i64 102, .slice x4 n4 c4, .int .i64 103] 119)
  have hK := Lib.hid (show sLKy.own w.heap.size (w4.alloc (.cells #[.slice x1 n1 c1, .int .i64 100, .slice x2 n2 c2, .int .i64 101, .slice x3 n3 c3, .int .i64 102, .slice x4 n4 c4, .int .i64 103] 119)) ⟨some ⟨w4.heap.size, 0, none⟩, 4, 4, [((⟨x1, n1, c1, pN ({ data := #[47, 107, 101, 121, 47, 97] } : ByteArray)⟩, 100) : Kym), ((⟨x2, n2, c2, pN ({ data := #[47, 97, 47, 107, 101, 121] } : ByteArray)⟩, 101) : Kym), ((⟨x3, n3, c3, pN ({ data := #[47, 98, 47, 107, 101, 121] } : ByteArray)⟩, 102) : Kym), ((⟨x4, n4, c4, pN ({ data := #[47, 98, 97, 100, 47, 107, 101, 121] } : ByteArray)⟩, 103) : Kym)]⟩ from by
    refine ⟨World.ownsRow_lit w4 #[.slice x1 n1 c1, .int .i64 100, .slice x2 n2 c2, .int .i64 101, .slice x3 n3 c3, .int .i64 102, .slice x4 n4 c4, .int .i64 103] 4 HBB.out (by unfold maxLen; omega) rfl, fun x hx => ?_⟩
    rcases List.mem_cons.1 hx with rfl | hx
    · exact ⟨Kd.own_on hN1.out hb, trivial⟩
    rcases List.mem_cons.1 hx with rfl | hx
    · exact ⟨Kd.own_on hN2.out hb, trivial⟩
    rcases List.mem_cons.1 hx with rfl | hx
    · exact ⟨Kd.own_on hN3.out hb, trivial⟩
    · rw [List.mem_singleton.1 hx]; exact ⟨Kd.own_on hN4.out hb, trivial⟩)
  replace ds := Lib.hid (ds.out.on hb); replace hR := Lib.hid (hR.out.on hb); replace HBB := Lib.hid (Nat.le_trans HBB.out hb.size)
  obtain ⟨gk, hgk⟩ : ∃ g, w4.heap.size = g := ⟨_, rfl⟩
  have HF := Lib.hid (l4OfB ({ data := #[47, 107, 101, 121, 47, 97] } : ByteArray) (w4.alloc (.cells #[.slice x1 n1 c1, .int .i64 100, .slice x2 n2 c2, .int .i64 101, .slice x3 n3 c3, .int .i64 102, .slice x4 n4 c4, .int .i64 103] 119)) (by decide))
  rw [hgk] at hK
  clear hb hN1 hN2 hN3 hN4
  go_wp2_with fail
  clear hgk
  refine HF.out.mono ?_
  rintro e w5 ⟨u, rfl, hu, hb⟩
  obtain ⟨x5, n5, c5, rfl, -, hu⟩ := hu.shapeN
  have hN5 := Lib.hid (hb_soft (hu.mono HBB.out))
  replace ds := Lib.hid (ds.out.on hb); replace hR := Lib.hid (hR.out.on hb); replace HBB := Lib.hid (Nat.le_trans HBB.out hb.size)
  replace hK := Lib.hid (Kd.own_on hK.out hb); clear hu hb HF
  -- the anchors' row, the variable
  obtain ⟨k1, k2, hb, k4⟩ := two_new (w := w5) #[.slice x5 n5 c5] #[.slice (some ⟨gk, 0, none⟩) 4 4, .slice none 0 0, .slice (some ⟨w5.heap.size, 0, none⟩) 1 1, .slice none 0 0] 32 29
  have hA := Lib.hid (show sLNn.own w.heap.size ((w5.alloc (.cells #[.slice x5 n5 c5] 32)).alloc (.cells #[.slice (some ⟨gk, 0, none⟩) 4 4, .slice none 0 0, .slice (some ⟨w5.heap.size, 0, none⟩) 1 1, .slice none 0 0] 29)) ⟨some ⟨w5.heap.size, 0, none⟩, 1, 1, [(⟨x5, n5, c5, pN ({ data := #[47, 107, 101, 121, 47, 97] } : ByteArray)⟩ : Nnm)]⟩ from
    Kd.own_on (k := sLNn) (w := w5.alloc (.cells #[.slice x5 n5 c5] 32)) ⟨World.ownsRow_lit w5 #[.slice x5 n5 c5] 1 HBB.out (by unfold maxLen; omega) rfl, fun x hx => by rw [List.mem_singleton.1 hx]; exact Kd.own_on hN5.out ((Below.refl _ _).alloc (Nat.le_refl _) _)⟩ ((Below.refl _ _).alloc (Nat.le_refl _) _))
  have HGT := Lib.hid (show w.heap.size ≤ w5.heap.size + 1 by have := HBB.out; omega)
  have HNE := Lib.hid (show (⟨w5.heap.size + 1, 1, none⟩ : Addr).block ≠ w.heap.size from (show w5.heap.size + 1 ≠ w.heap.size by have := HBB.out; omega))
  have hT := Lib.hid k2
  replace ds := Lib.hid (ds.out.on hb); replace hR := Lib.hid (hR.out.on hb); replace hK := Lib.hid (Kd.own_on hK.out hb)
  obtain ⟨w7, hw7⟩ : ∃ W, (w5.alloc (.cells #[.slice x5 n5 c5] 32)).alloc (.cells #[.slice (some ⟨gk, 0, none⟩) 4 4, .slice none 0 0, .slice (some ⟨w5.heap.size, 0, none⟩) 1 1, .slice none 0 0] 29) = W := ⟨_, rfl⟩
  rw [hw7] at ds hR hK hA hT
  have HW7 := Lib.hid hw7
  clear hb hN5 k1 k2 k4 hw7
  go_upto_region 2 with fail
  rw [HW7.out]
  obtain ⟨ga, hga⟩ : ∃ g, w5.heap.size = g := ⟨_, rfl⟩
  rw [hga] at hT hA HGT HNE ⊢
  obtain ⟨gT, hgT⟩ : ∃ g, ga + 1 = g := ⟨_, rfl⟩
  rw [hgT] at hT HGT HNE ⊢
  clear HW7 hga hgT
  have hb := (Below.refl w7.heap.size w7).alloc (Nat.le_refl _) (.cells #[.string { data := #[47, 63, 120, 47, 107, 101, 121, 32, 60, 32, 47, 107, 101, 121, 47, 97] }, .string { data := #[47, 63, 120, 47, 42, 42, 32, 60, 32, 47, 63, 120, 47, 107, 101, 121] }] 9)
  have hL := Lib.hid (Blk.new w7 #[.string { data := #[47, 63, 120, 47, 107, 101, 121, 32, 60, 32, 47, 107, 101, 121, 47, 97] }, .string { data := #[47, 63, 120, 47, 42, 42, 32, 60, 32, 47, 63, 120, 47, 107, 101, 121] }] 9)
  replace ds := Lib.hid (ds.out.on hb); replace hR := Lib.hid (hR.out.on hb); replace hK := Lib.hid (Kd.own_on hK.out hb); replace hA := Lib.hid (Kd.own_on hA.out hb); replace hT := Lib.hid (hT.out.on hb)
  obtain ⟨gL, hgL⟩ : ∃ g, w7.heap.size = g := ⟨_, rfl⟩
  rw [hgL] at hL
  obtain ⟨w8, hw8⟩ : ∃ W, w7.alloc (.cells #[.string { data := #[47, 63, 120, 47, 107, 101, 121, 32, 60, 32, 47, 107, 101, 121, 47, 97] }, .string { data := #[47, 63, 120, 47, 42, 42, 32, 60, 32, 47, 63, 120, 47, 107, 101, 121] }] 9) = W := ⟨_, rfl⟩
  rw [hw8] at ds hR hK hA hT hL
  clear hb HBB
  have HW8 := Lib.hid hw8; have HGL := Lib.hid hgL
  clear hw8 hgL
  go_wp2_with fail
  rw [HW8.out, HGL.out]
  clear HW8 HGL
  go_loopw [26] (fun iv wr => ∃ k : Nat, k ≤ 2 ∧ iv = .int .i64 k ∧ ∃ (ad : Option Addr) (cap : Nat) (L : List Rlm), Hid (L.map kRl.strip = RS11.take k) ∧ Hid (sLRl.own w.heap.size wr ⟨ad, k, cap, L⟩) ∧ Hid (DS w0 p v l w wr) ∧ Hid (Blk wr w.heap.size #[.slice none 0 0, .slice none 0 0, .slice none 0 0, .slice none 0 0] 29) ∧ Hid (Blk wr gT #[.slice (some ⟨gk, 0, none⟩) 4 4, .slice ad k cap, .slice (some ⟨ga, 0, none⟩) 1 1, .slice none 0 0] 29) ∧ Hid (Blk wr gL #[.string { data := #[47, 63, 120, 47, 107, 101, 121, 32, 60, 32, 47, 107, 101, 121, 47, 97] }, .string { data := #[47, 63, 120, 47, 42, 42, 32, 60, 32, 47, 63, 120, 47, 107, 101, 121] }] 9) ∧ Hid (sLKy.own w.heap.size wr ⟨some ⟨gk, 0, none⟩, 4, 4, [((⟨x1, n1, c1, pN ({ data := #[47, 107, 101, 121, 47, 97] } : ByteArray)⟩, 100) : Kym), ((⟨x2, n2, c2, pN ({ data := #[47, 97, 47, 107, 101, 121] } : ByteArray)⟩, 101) : Kym), ((⟨x3, n3, c3, pN ({ data := #[47, 98, 47, 107, 101, 121] } : ByteArray)⟩, 102) : Kym), ((⟨x4, n4, c4, pN ({ data := #[47, 98, 97, 100, 47, 107, 101, 121] } : ByteArray)⟩, 103) : Kym)]⟩) ∧ Hid (sLNn.own w.heap.size wr ⟨some ⟨ga, 0, none⟩, 1, 1, [(⟨x5, n5, c5, pN ({ data := #[47, 107, 101, 121, 47, 97] } : ByteArray)⟩ : Nnm)]⟩)) (fun iv _ => 2 - (intOf iv).toNat)
  case atStart => exact ⟨0, Nat.zero_le _, rfl, none, 0, [], Lib.hid rfl, Lib.hid ⟨OwnK.nil _ _ _ _ _, fun x hx => by cases hx⟩, ds, hR, hT, hL, hK, hA⟩
  case round =>
    clear ds hR hT hL hK hA
    obtain ⟨k, hk, rfl, ad, cap, L, hst, hO, ds, hR, hT, hL, hK, hA⟩ := hrel
    by_cases hlt : k < 2
    · obtain ⟨s, hs, hsz, hpr⟩ : ∃ s : ByteArray, wr.cell? ⟨gL, k, none⟩ = some (.string s) ∧ s.size ≤ 100 ∧ RS11.take (k + 1) = RS11.take k ++ [prR s] := by
        rcases (show k = 0 ∨ k = 1 by omega) with rfl | rfl
        · exact ⟨({ data := #[47, 63, 120, 47, 107, 101, 121, 32, 60, 32, 47, 107, 101, 121, 47, 97] } : ByteArray), hL.out.cell 0, by decide, rfl⟩
        · exact ⟨({ data := #[47, 63, 120, 47, 42, 42, 32, 60, 32, 47, 63, 120, 47, 107, 101, 121] } : ByteArray), hL.out.cell 1, by decide, rfl⟩
      have HPR := Lib.hid hpr
      have HF := Lib.hid (specParseRuleB s wr (by omega))
      clear hpr
      go_wp2_with fail
      refine HF.out.mono ?_
      rintro e w2 ⟨y0, y1, m0, d0, m1, d1, rfl, ha, hb', hb⟩
      obtain ⟨k1, k2, k3, k4⟩ := two_new (w := w2) #[.slice y0 m0 d0, .slice y1 m1 d1] #[.slice y0 m0 d0, .slice y1 m1 d1] 131 131
      have hx0 : sRl.own w.heap.size w2 ((⟨y0, m0, d0, (prR s).1⟩, ⟨y1, m1, d1, (prR s).2⟩) : Rlm) := ⟨hb_soft (ha.mono ds.out.size), hb_soft (hb'.mono ds.out.size)⟩
      have hX := Lib.hid (Kd.own_on hx0 k3)
      have hSRC := Lib.hid (show HoldsK kRl.cells 2 ((w2.alloc (.cells #[.slice y0 m0 d0, .slice y1 m1 d1] 131)).alloc (.cells #[.slice y0 m0 d0, .slice y1 m1 d1] 131)) (.slice (some ⟨w2.heap.size + 1, 0, none⟩) 1 1) [((⟨y0, m0, d0, (prR s).1⟩, ⟨y1, m1, d1, (prR s).2⟩) : Rlm)] from by
        have h5 := holdsK_one szRl_cells 131 (w2.alloc (.cells #[.slice y0 m0 d0, .slice y1 m1 d1] 131)) ((⟨y0, m0, d0, (prR s).1⟩, ⟨y1, m1, d1, (prR s).2⟩) : Rlm)
        rwa [show (w2.alloc (.cells #[.slice y0 m0 d0, .slice y1 m1 d1] 131)).heap.size = w2.heap.size + 1 from by simp] at h5)
      have hb1 := (Below.refl w2.heap.size w2).alloc (Nat.le_refl _) (.cells #[.slice y0 m0 d0, .slice y1 m1 d1] 131)
      have hT3 := Lib.hid ((hT.out.on hb).on hb1)
      have c6a : (w2.alloc (.cells #[.slice y0 m0 d0, .slice y1 m1 d1] 131)).cell? ⟨w2.heap.size, 0, none⟩ = some (.slice y0 m0 d0) := (Blk.new w2 _ _).cell 0
      have c6b : (w2.alloc (.cells #[.slice y0 m0 d0, .slice y1 m1 d1] 131)).cell? ⟨w2.heap.size, 1, none⟩ = some (.slice y1 m1 d1) := (Blk.new w2 _ _).cell 1
      have q1 : (w2.alloc (.cells #[.slice y0 m0 d0, .slice y1 m1 d1] 131)).cell? ⟨gT, 1, none⟩ = some (.slice ad k cap) := hT3.out.cell 1
      replace ds := Lib.hid ((ds.out.on hb).on k3); replace hR := Lib.hid ((hR.out.on hb).on k3); replace hT := Lib.hid ((hT.out.on hb).on k3); replace hL := Lib.hid ((hL.out.on hb).on k3)
      replace hK := Lib.hid (Kd.own_on (Kd.own_on hK.out hb) k3); replace hA := Lib.hid (Kd.own_on (Kd.own_on hA.out hb) k3); replace hO := Lib.hid (Kd.own_on (Kd.own_on hO.out hb) k3)
      have HOK := Lib.hid (show OwnK 131 kRl.cells 2 w.heap.size ((w2.alloc (.cells #[.slice y0 m0 d0, .slice y1 m1 d1] 131)).alloc (.cells #[.slice y0 m0 d0, .slice y1 m1 d1] 131)) (.slice ad k cap) L from hO.out.1)
      have hlL := HOK.out.len
      have hll : L.length = k := by have h5 := congrArg List.length hst.out; rw [List.length_map, List.length_take] at h5; simp only [RS11, List.length_cons, List.length_nil] at h5; omega
      have HLL := Lib.hid hll
      clear k1 k2 k3 k4 hx0 ha hb' hb hb1 HF hT3 hs hsz hlL hll
      go_wp2_with (at_builtin; refine wpList_appK kindRl (B := w.heap.size) (l := L) (m := [((⟨y0, m0, d0, (prR s).1⟩, ⟨y1, m1, d1, (prR s).2⟩) : Rlm)]) rfl _ _ rfl Tryz.underlying25 rfl rfl HOK.out hSRC.out (by have := HLL.out; simp; omega) (by have := HLL.out; unfold maxLen; simp; omega) ds.out.size ?_)
      intro v5 w5 ho5 hg5
      obtain ⟨z5, n6, c6, rfl, hn6, -, ho5⟩ := ho5.shapeN
      have hn7 : n6 = k + 1 := by rw [hn6, List.length_append, HLL.out]; rfl
      subst hn7
      replace ds := Lib.hid (ds.out.grown HOK.out hg5); replace hR := Lib.hid (blk_row hR.out (by decide) HOK.out hg5); replace hT := Lib.hid (blk_row hT.out (by decide) HOK.out hg5); replace hL := Lib.hid (blk_row hL.out (by decide) HOK.out hg5)
      replace hK := Lib.hid (Kd.own_rowT ((noRow_sKy (by decide)).slice (by decide)) hK.out HOK.out hg5); replace hA := Lib.hid (Kd.own_rowT ((noRow_sN (by decide)).slice (by decide)) hA.out HOK.out hg5)
      replace hO := Lib.hid (show sLRl.own w.heap.size w5 ⟨z5, k + 1, c6, L ++ [((⟨y0, m0, d0, (prR s).1⟩, ⟨y1, m1, d1, (prR s).2⟩) : Rlm)]⟩ from Kd.own_push (k := sRl) (noRow_sRl (by decide)) hO.out (fun y hy => by rw [List.mem_singleton.1 hy]; exact hX.out) ho5 hg5)
      have q2 : w5.cell? ⟨gT, 1, none⟩ = some (.slice ad k cap) := hT.out.cell 1
      have f2 : w5.frozen? ⟨gT, 1, none⟩ = false := hT.out.frozen 1
      have hN := hT.out.set 1 (.slice z5 (k + 1) c6)
      have ds2 := Lib.hid (ds.out.set (g := gT) (i := 1) (u := .slice z5 (k + 1) c6) HGT.out)
      have hR2 := Lib.hid (hR.out.other (a := ⟨gT, 1, none⟩) HNE.out (.slice z5 (k + 1) c6)); have hL2 := Lib.hid (hL.out.other (a := ⟨gT, 1, none⟩) (fun e => by have h5 := blk_ty hT.out (e ▸ hL.out); exact absurd h5 (by decide)) (.slice z5 (k + 1) c6))
      have hK2 := Lib.hid (Kd.own_setT (i := 1) (u := .slice z5 (k + 1) c6) ((noRow_sKy (by decide)).slice (by decide)) hK.out hT.out); have hA2 := Lib.hid (Kd.own_setT (i := 1) (u := .slice z5 (k + 1) c6) ((noRow_sN (by decide)).slice (by decide)) hA.out hT.out); have hO2 := Lib.hid (Kd.own_setT (i := 1) (u := .slice z5 (k + 1) c6) ((noRow_sRl (by decide)).slice (by decide)) hO.out hT.out)
      have hN2 := Lib.hid hN
      have hST2 := Lib.hid (show (L ++ [((⟨y0, m0, d0, (prR s).1⟩, ⟨y1, m1, d1, (prR s).2⟩) : Rlm)]).map kRl.strip = RS11.take (k + 1) by
        rw [List.map_append, hst.out, HPR.out, List.map_cons, List.map_nil, kRl_strip11])
      clear hn6 ho5 hg5 hN hO hK hA hR hL ds hT hX hSRC HOK HLL hst HPR c6a c6b q1
      go_wp2_with fail
      go_roundw
      case rel => exact ⟨k + 1, by omega, by go_num, z5, c6, _, hST2, hO2, ds2, hR2, hN2, hL2, hK2, hA2⟩
      case measure => simp [intOf]; omega
    · obtain rfl : k = 2 := by omega
      clear hlt
      go_upto_region 8 with fail
      rw [show ((2 : Nat) : Int) = 2 from rfl]
      have hb := (Below.refl wr.heap.size wr).alloc (Nat.le_refl _) (.cells #[.string { data := #[47, 97, 47, 107, 101, 121] }, .string { data := #[47, 98, 47, 107, 101, 121] }] 9)
      have hM := Lib.hid (Blk.new wr #[.string { data := #[47, 97, 47, 107, 101, 121] }, .string { data := #[47, 98, 47, 107, 101, 121] }] 9)
      replace ds := Lib.hid (ds.out.on hb); replace hR := Lib.hid (hR.out.on hb); replace hK := Lib.hid (Kd.own_on hK.out hb); replace hA := Lib.hid (Kd.own_on hA.out hb); replace hT := Lib.hid (hT.out.on hb); replace hO := Lib.hid (Kd.own_on hO.out hb)
      obtain ⟨gM, hgM⟩ : ∃ g, wr.heap.size = g := ⟨_, rfl⟩
      rw [hgM] at hM
      obtain ⟨w9, hw9⟩ : ∃ W, wr.alloc (.cells #[.string { data := #[47, 97, 47, 107, 101, 121] }, .string { data := #[47, 98, 47, 107, 101, 121] }] 9) = W := ⟨_, rfl⟩
      rw [hw9] at ds hR hK hA hT hM hO
      have HW9 := Lib.hid hw9; have HGM := Lib.hid hgM
      have HRS := Lib.hid (show L.map kRl.strip = RS11 from hst.out)
      have HKS := Lib.hid (show ([((⟨x1, n1, c1, pN ({ data := #[47, 107, 101, 121, 47, 97] } : ByteArray)⟩, 100) : Kym), ((⟨x2, n2, c2, pN ({ data := #[47, 97, 47, 107, 101, 121] } : ByteArray)⟩, 101) : Kym), ((⟨x3, n3, c3, pN ({ data := #[47, 98, 47, 107, 101, 121] } : ByteArray)⟩, 102) : Kym), ((⟨x4, n4, c4, pN ({ data := #[47, 98, 97, 100, 47, 107, 101, 121] } : ByteArray)⟩, 103) : Kym)] : List Kym).map kKy.strip = KS11 from by simp only [List.map_cons, List.map_nil, kKy_strip11]; rfl)
      clear hb hw9 hgM hL hst
      go_wp2_with fail
      rw [HW9.out, HGM.out]
      clear HW9 HGM
      go_loopw [44] (fun iv wr => ∃ k : Nat, k ≤ 2 ∧ iv = .int .i64 k ∧ ∃ (aq : Option Addr) (nq cq : Nat) (M : List Dzm), Hid (M.length = nq) ∧ Hid (nq ≤ k) ∧ Hid (∀ y ∈ M, smD11 (kDz.strip y) ∧ (kDz.strip y).2.2.2.1 = 5000) ∧ Hid (sLDz.own w.heap.size wr ⟨aq, nq, cq, M⟩) ∧ Hid (DS w0 p v l w wr) ∧ Hid (Blk wr w.heap.size #[.slice none 0 0, .slice none 0 0, .slice none 0 0, .slice none 0 0] 29) ∧ Hid (Blk wr gT #[.slice (some ⟨gk, 0, none⟩) 4 4, .slice ad 2 cap, .slice (some ⟨ga, 0, none⟩) 1 1, .slice aq nq cq] 29) ∧ Hid (Blk wr gM #[.string { data := #[47, 97, 47, 107, 101, 121] }, .string { data := #[47, 98, 47, 107, 101, 121] }] 9) ∧ Hid (sLKy.own w.heap.size wr ⟨some ⟨gk, 0, none⟩, 4, 4, [((⟨x1, n1, c1, pN ({ data := #[47, 107, 101, 121, 47, 97] } : ByteArray)⟩, 100) : Kym), ((⟨x2, n2, c2, pN ({ data := #[47, 97, 47, 107, 101, 121] } : ByteArray)⟩, 101) : Kym), ((⟨x3, n3, c3, pN ({ data := #[47, 98, 47, 107, 101, 121] } : ByteArray)⟩, 102) : Kym), ((⟨x4, n4, c4, pN ({ data := #[47, 98, 97, 100, 47, 107, 101, 121] } : ByteArray)⟩, 103) : Kym)]⟩) ∧ Hid (sLRl.own w.heap.size wr ⟨ad, 2, cap, L⟩) ∧ Hid (sLNn.own w.heap.size wr ⟨some ⟨ga, 0, none⟩, 1, 1, [(⟨x5, n5, c5, pN ({ data := #[47, 107, 101, 121, 47, 97] } : ByteArray)⟩ : Nnm)]⟩)) (fun iv _ => 2 - (intOf iv).toNat)
      case atStart => exact ⟨0, Nat.zero_le _, rfl, none, 0, 0, [], Lib.hid rfl, Lib.hid (Nat.le_refl _), Lib.hid (fun y hy => by cases hy), Lib.hid ⟨OwnK.nil _ _ _ _ _, fun x hx => by cases hx⟩, ds, hR, hT, hM, hK, hO, hA⟩
      case round =>
        clear ds hR hT hM hK hA hO
        obtain ⟨k, hk, rfl, aq, nq, cq, M, hML, hNK, hSM, hD, ds, hR, hT, hM, hK, hO, hA⟩ := hrel
        by_cases hlt : k < 2
        · obtain ⟨s, hs, hsz⟩ : ∃ s : ByteArray, wr.cell? ⟨gM, k, none⟩ = some (.string s) ∧ s.size ≤ 100 := by
            rcases (show k = 0 ∨ k = 1 by omega) with rfl | rfl
            · exact ⟨({ data := #[47, 97, 47, 107, 101, 121] } : ByteArray), hM.out.cell 0, by decide⟩
            · exact ⟨({ data := #[47, 98, 47, 107, 101, 121] } : ByteArray), hM.out.cell 1, by decide⟩
          have HSZ := Lib.hid hsz
          have HKT := Lib.hid (show Ring.kK.At wr (.slice (some ⟨gk, 0, none⟩) 4 4) KS11 from HKS.out ▸ kK_ofK (sLKy_at hK.out))
          clear hsz
          go_wp2_with fail
          refine tru11 HSZ HKT (Lib.hid KS11_bulk) (Lib.hid (hT.out.cell 0)) ?_
          intro u48 u49 u50 u51 u52 u53 u54 u55 u56 gD ma da mb db mc dc_ ya yb yc w2 hb hin hblk hg1 hg2
          obtain ⟨ok, hok⟩ : ∃ ok, (Ring.sgOk KS11 (pN ({ data := #[47, 107, 101, 121, 47, 97] } : ByteArray)) (pN s) (digK KS11 (pN s)) 5000) = ok := ⟨_, rfl⟩
          rw [hok]
          obtain ⟨X, hXX⟩ : ∃ X, (Ring.sgK KS11 (pN ({ data := #[47, 107, 101, 121, 47, 97] } : ByteArray)) (pN s) (digK KS11 (pN s)) 5000) = X := ⟨_, rfl⟩
          have HSM := Lib.hid (sgK_small (T := KS11) (lk := pN ({ data := #[47, 107, 101, 121, 47, 97] } : ByteArray)) (ln := pN s) (b := digK KS11 (pN s)) (u := 5000) (bulk_pN _) (bulk_pN _) (Nat.le_trans (digK_len _ _) (by decide)) (digK_wf _ _) (by decide))
          have HUN : Hid (ok = true → X.2.2.2.1 = 5000) := Lib.hid (fun e => by rw [← hXX]; exact (sgK_until (hok.trans e)).1)
          rw [hXX] at hin hblk HSM
          clear hs HKT hok hXX
          have hXo := Lib.hid (sDz.own_mono (sDz_of_kD hin) ds.out.size); have hXB := Lib.hid hblk
          replace ds := Lib.hid (ds.out.on hb); replace hR := Lib.hid (hR.out.on hb); replace hT := Lib.hid (hT.out.on hb); replace hM := Lib.hid (hM.out.on hb); replace hK := Lib.hid (Kd.own_on hK.out hb); replace hA := Lib.hid (Kd.own_on hA.out hb); replace hO := Lib.hid (Kd.own_on hO.out hb); replace hD := Lib.hid (Kd.own_on hD.out hb)
          clear hin hblk hb hg1 hg2
          cases ok with
          | false =>
            go_wp2_with fail
            go_roundw
            case rel => exact ⟨k + 1, by omega, by go_num, aq, nq, cq, M, hML, Lib.hid (Nat.le_trans hNK.out (Nat.le_succ k)), hSM, hD, ds, hR, hT, hM, hK, hO, hA⟩
            case measure => simp [intOf]; omega
          | true =>
            have hF5 := Lib.hid (show X.2.2.2.1 = 5000 from HUN.out rfl)
            go_wp2_with fail
            refine (once w0 p v l w2 8 ds.out.cur).mono ?_
            rintro e w3 ⟨y, rfl, ⟨b, rfl⟩, hc3, hk3⟩
            have hpb := ds.out.hp
            have hgTp : gT ≠ p := by have := HGT.out; omega
            have hgMp : gM ≠ p := fun e => by have h5 := hM.out; have h6 := ds.out.cur.row; obtain ⟨i, h, -, -, h7⟩ := h6; rw [← e] at h7; exact absurd (blk_ty h5 (show Blk w2 gM _ _ from h7)) (by decide)
            have hgDp : gD ≠ p := fun e => by have h5 := hXB.out; have h6 := ds.out.cur.row; obtain ⟨i, h, -, -, h7⟩ := h6; rw [← e] at h7; exact absurd (blk_ty h5 (show Blk w2 gD _ _ from h7)) (by decide)
            replace hR := Lib.hid (blk_keep hR.out hk3 (by omega)); replace hT := Lib.hid (blk_keep hT.out hk3 hgTp); replace hM := Lib.hid (blk_keep hM.out hk3 hgMp); replace hXB := Lib.hid (blk_keep hXB.out hk3 hgDp)
            replace hK := Lib.hid (Kd.own_cur hK.out hk3 hpb); replace hA := Lib.hid (Kd.own_cur hA.out hk3 hpb); replace hO := Lib.hid (Kd.own_cur hO.out hk3 hpb); replace hD := Lib.hid (Kd.own_cur hD.out hk3 hpb); replace hXo := Lib.hid (Kd.own_cur hXo.out hk3 hpb)
            replace ds := Lib.hid (ds.out.step hc3 hk3)
            clear hc3 hk3 hgTp hgMp hgDp hpb
            cases b with
            | true =>
              go_wp2_with fail
              go_roundw
              case rel => exact ⟨k + 1, by omega, by go_num, aq, nq, cq, M, hML, Lib.hid (Nat.le_trans hNK.out (Nat.le_succ k)), hSM, hD, ds, hR, hT, hM, hK, hO, hA⟩
              case measure => simp [intOf]; omega
            | false =>
              obtain ⟨q0, q1, q2, q3, q4⟩ := cells5_11 hXB.out
              have qt : w3.cell? ⟨gT, 3, none⟩ = some (.slice aq nq cq) := hT.out.cell 3
              have hb1 := (Below.refl w3.heap.size w3).alloc (Nat.le_refl _) (.cells #[.slice ya ma da, .slice yb mb db, .slice yc mc dc_, .int .i64 X.2.2.2.1, .int .i64 X.2.2.2.2] 34)
              have hSRC := Lib.hid (show HoldsK kDz.cells 5 (w3.alloc (.cells #[.slice ya ma da, .slice yb mb db, .slice yc mc dc_, .int .i64 X.2.2.2.1, .int .i64 X.2.2.2.2] 34)) (.slice (some ⟨w3.heap.size, 0, none⟩) 1 1) [((⟨ya, ma, da, X.1⟩, ⟨yb, mb, db, X.2.1⟩, ⟨yc, mc, dc_, X.2.2.1⟩, X.2.2.2.1, X.2.2.2.2) : Dzm)] from holdsK_one szDz_cells 34 w3 ((⟨ya, ma, da, X.1⟩, ⟨yb, mb, db, X.2.1⟩, ⟨yc, mc, dc_, X.2.2.1⟩, X.2.2.2.1, X.2.2.2.2) : Dzm))
              replace ds := Lib.hid (ds.out.on hb1); replace hR := Lib.hid (hR.out.on hb1); replace hT := Lib.hid (hT.out.on hb1); replace hM := Lib.hid (hM.out.on hb1)
              replace hK := Lib.hid (Kd.own_on hK.out hb1); replace hA := Lib.hid (Kd.own_on hA.out hb1); replace hO := Lib.hid (Kd.own_on hO.out hb1); replace hD := Lib.hid (Kd.own_on hD.out hb1); replace hXo := Lib.hid (Kd.own_on hXo.out hb1)
              have HOK := Lib.hid (show OwnK 34 kDz.cells 5 w.heap.size (w3.alloc (.cells #[.slice ya ma da, .slice yb mb db, .slice yc mc dc_, .int .i64 X.2.2.2.1, .int .i64 X.2.2.2.2] 34)) (.slice aq nq cq) M from hD.out.1)
              have HLE := Lib.hid (show M.length ≤ 2 by have := hML.out; have := hNK.out; omega)
              clear hb1
              go_wp2_with (at_builtin; refine wpList_appK kindDz (B := w.heap.size) (l := M) (m := [((⟨ya, ma, da, X.1⟩, ⟨yb, mb, db, X.2.1⟩, ⟨yc, mc, dc_, X.2.2.1⟩, X.2.2.2.1, X.2.2.2.2) : Dzm)]) rfl _ _ rfl Tryz.underlying27 rfl rfl HOK.out hSRC.out (by have := HLE.out; simp; omega) (by have := HLE.out; unfold maxLen; simp; omega) ds.out.size ?_)
              intro v5 w5 ho5 hg5
              obtain ⟨z5, n6, c6, rfl, hn6, -, ho5⟩ := ho5.shapeN
              have hn7 : n6 = nq + 1 := by rw [hn6, List.length_append, hML.out]; rfl
              subst hn7
              replace ds := Lib.hid (ds.out.grown HOK.out hg5); replace hR := Lib.hid (blk_row hR.out (by decide) HOK.out hg5); replace hT := Lib.hid (blk_row hT.out (by decide) HOK.out hg5); replace hM := Lib.hid (blk_row hM.out (by decide) HOK.out hg5)
              replace hK := Lib.hid (Kd.own_rowT ((noRow_sKy (by decide)).slice (by decide)) hK.out HOK.out hg5); replace hA := Lib.hid (Kd.own_rowT ((noRow_sN (by decide)).slice (by decide)) hA.out HOK.out hg5); replace hO := Lib.hid (Kd.own_rowT ((noRow_sRl (by decide)).slice (by decide)) hO.out HOK.out hg5)
              replace hD := Lib.hid (show sLDz.own w.heap.size w5 ⟨z5, nq + 1, c6, M ++ [((⟨ya, ma, da, X.1⟩, ⟨yb, mb, db, X.2.1⟩, ⟨yc, mc, dc_, X.2.2.1⟩, X.2.2.2.1, X.2.2.2.2) : Dzm)]⟩ from Kd.own_push (k := sDz) (noRow_sDz (by decide) (by decide)) hD.out (fun y hy => by rw [List.mem_singleton.1 hy]; exact hXo.out) ho5 hg5)
              have qt2 : w5.cell? ⟨gT, 3, none⟩ = some (.slice aq nq cq) := hT.out.cell 3
              have ft2 : w5.frozen? ⟨gT, 3, none⟩ = false := hT.out.frozen 3
              have hN2 := Lib.hid (hT.out.set 3 (.slice z5 (nq + 1) c6))
              have ds2 := Lib.hid (ds.out.set (g := gT) (i := 3) (u := .slice z5 (nq + 1) c6) HGT.out)
              have hR2 := Lib.hid (hR.out.other (a := ⟨gT, 3, none⟩) HNE.out (.slice z5 (nq + 1) c6)); have hM2 := Lib.hid (hM.out.other (a := ⟨gT, 3, none⟩) (fun e => by have h5 := blk_ty hT.out (e ▸ hM.out); exact absurd h5 (by decide)) (.slice z5 (nq + 1) c6))
              have hK2 := Lib.hid (Kd.own_setT (i := 3) (u := .slice z5 (nq + 1) c6) ((noRow_sKy (by decide)).slice (by decide)) hK.out hT.out); have hA2 := Lib.hid (Kd.own_setT (i := 3) (u := .slice z5 (nq + 1) c6) ((noRow_sN (by decide)).slice (by decide)) hA.out hT.out); have hO2 := Lib.hid (Kd.own_setT (i := 3) (u := .slice z5 (nq + 1) c6) ((noRow_sRl (by decide)).slice (by decide)) hO.out hT.out); have hD2 := Lib.hid (Kd.own_setT (i := 3) (u := .slice z5 (nq + 1) c6) ((noRow_sDz (by decide) (by decide)).slice (by decide)) hD.out hT.out)
              have hSM2 := Lib.hid (show ∀ y ∈ M ++ [((⟨ya, ma, da, X.1⟩, ⟨yb, mb, db, X.2.1⟩, ⟨yc, mc, dc_, X.2.2.1⟩, X.2.2.2.1, X.2.2.2.2) : Dzm)], smD11 (kDz.strip y) ∧ (kDz.strip y).2.2.2.1 = 5000 from fun y hy => by
                rcases List.mem_append.1 hy with hy | hy
                · exact hSM.out y hy
                · rw [List.mem_singleton.1 hy, kDz_strip11]; exact ⟨HSM.out, hF5.out⟩)
              have hML2 := Lib.hid (show (M ++ [((⟨ya, ma, da, X.1⟩, ⟨yb, mb, db, X.2.1⟩, ⟨yc, mc, dc_, X.2.2.1⟩, X.2.2.2.1, X.2.2.2.2) : Dzm)]).length = nq + 1 by rw [List.length_append, hML.out]; rfl)
              have hNK2 := Lib.hid (show nq + 1 ≤ k + 1 from Nat.succ_le_succ hNK.out)
              clear hn6 ho5 hg5 hO hK hA hR hM ds hT hD hXo hXB hSRC HOK HLE hSM hML hNK HSM HUN hF5 q0 q1 q2 q3 q4 qt
              go_wp2_with fail
              go_roundw
              case rel => exact ⟨k + 1, by omega, by go_num, z5, nq + 1, c6, _, hML2, hNK2, hSM2, hD2, ds2, hR2, hN2, hM2, hK2, hO2, hA2⟩
              case measure => simp [intOf]; omega
        · obtain rfl : k = 2 := by omega
          clear hlt
          have hVT := hT.out
          obtain ⟨e0, e1, e2, e3⟩ := (⟨hVT.cell 0, hVT.cell 1, hVT.cell 2, hVT.cell 3⟩ : _ ∧ _ ∧ _ ∧ _)
          have f0 := hR.out.frozen 0; have f1 := hR.out.frozen 1; have f2 := hR.out.frozen 2; have f3 := hR.out.frozen 3
          have r0 := hR.out.cell 0; have r1 := hR.out.cell 1; have r2 := hR.out.cell 2; have r3 := hR.out.cell 3
          have Z1 := Lib.hid ((((hR.out.set 0 (.slice (some ⟨gk, 0, none⟩) 4 4)).set 1 (.slice ad 2 cap)).set 2 (.slice (some ⟨ga, 0, none⟩) 1 1)).set 3 (.slice aq nq cq))
          have Z2 := Lib.hid (ds.out.four11 (Nat.le_refl _) (a := .slice (some ⟨gk, 0, none⟩) 4 4) (b := .slice ad 2 cap) (c := .slice (some ⟨ga, 0, none⟩) 1 1) (d := .slice aq nq cq))
          have Z3 := Lib.hid (own_four11 (a := .slice (some ⟨gk, 0, none⟩) 4 4) (b := .slice ad 2 cap) (c := .slice (some ⟨ga, 0, none⟩) 1 1) (d := .slice aq nq cq) ((noRow_sKy (by decide)).slice (by decide)) hK.out hR.out)
          have Z4 := Lib.hid (own_four11 (a := .slice (some ⟨gk, 0, none⟩) 4 4) (b := .slice ad 2 cap) (c := .slice (some ⟨ga, 0, none⟩) 1 1) (d := .slice aq nq cq) ((noRow_sRl (by decide)).slice (by decide)) hO.out hR.out)
          have Z5 := Lib.hid (own_four11 (a := .slice (some ⟨gk, 0, none⟩) 4 4) (b := .slice ad 2 cap) (c := .slice (some ⟨ga, 0, none⟩) 1 1) (d := .slice aq nq cq) ((noRow_sN (by decide)).slice (by decide)) hA.out hR.out)
          have Z6 := Lib.hid (own_four11 (a := .slice (some ⟨gk, 0, none⟩) 4 4) (b := .slice ad 2 cap) (c := .slice (some ⟨ga, 0, none⟩) 1 1) (d := .slice aq nq cq) ((noRow_sDz (by decide) (by decide)).slice (by decide)) hD.out hR.out)
          have hML3 := Lib.hid (show M.length ≤ 2 by have := hML.out; have := hNK.out; omega)
          clear hVT hK hO hA hD ds hR hM hT
          go_wp2_with fail
          refine bodyPost_ret (Ret.results_c rfl _ _ w.heap.size [.slice (some ⟨gk, 0, none⟩) 4 4, .slice ad 2 cap, .slice (some ⟨ga, 0, none⟩) 1 1, .slice aq nq cq] rfl aggTp Z1.out.cells) rfl ?_
          exact ⟨_, rfl, ⟨gk, ga, ad, aq, cap, nq, cq, _, L, _, M, rfl, Z3.out, Z4.out, Z5.out, Z6.out, HKS.out, HRS.out, by simp only [List.map_cons, List.map_nil]; rw [show kN.strip (⟨x5, n5, c5, pN ({ data := #[47, 107, 101, 121, 47, 97] } : ByteArray)⟩ : Nnm) = _ from kN_strip _], hML3.out, hSM.out⟩, Z2.out.cur, Z2.out.keep⟩
end Go.Proofs.YtlhchmjnaanjpaaGreatDoor.Draw
