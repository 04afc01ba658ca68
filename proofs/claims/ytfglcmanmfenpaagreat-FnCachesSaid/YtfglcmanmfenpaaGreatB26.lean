/- Contracts and mathematics, joined: DrawC2. No conditions but those that each states. -/
import Derived.WalkKit
import Derived.Deep.RegionHeld3
import Derived.Test.YtfglcmanmfenpaaGreatB25
/- The model's draw of any content store (l12Any). What was in memory stays as it was, but for the cursor. -/
namespace Go.Proofs.YtfglcmanmfenpaaGreat.Draw
open Go.ChangeShapes Go.WideShapes Go.ChangeAt Go.RowKit Go.Instr
open Go.Proofs.YtfglcmanmfenpaaGreat.Row
open Go.Proofs.YtfglcmanmfenpaaGreat.Ret (NC Blk Box)
set_option linter.unusedVariables false
set_option maxRecDepth 100000
theorem kDz_strip12 (xa xb xc : Option Addr) (na ca nb cb nc cc : Nat) (y : Dt) : kDz.strip ((⟨xa, na, ca, y.1⟩, ⟨xb, nb, cb, y.2.1⟩, ⟨xc, nc, cc, y.2.2.1⟩, y.2.2.2.1, y.2.2.2.2) : Dzm) = y := by
  show (kN.strip _, kB.strip _, kN.strip _, y.2.2.2.1, y.2.2.2.2) = y
  rw [kN_strip, kN_strip, show kB.strip (⟨xb, nb, cb, y.2.1⟩ : Rw Int) = y.2.1 from by simp [kB, kS, Kd.slice, Kd.scalar]]
theorem smC_snoc {k : Nat} {c : Int} {L : List Cem} {m : Cem} (h : smC k (c, L.map kCe.strip)) (hm : inCe (kCe.strip m)) (hw : wtDz (kDz.strip m.1) ≤ 4000) : smC (k + 1) (c, (L ++ [m]).map kCe.strip) := by
  refine ⟨h.1, ?_, fun e he => ?_⟩
  · have := h.2.1
    simp only [List.length_map, List.length_append, List.length_singleton] at this ⊢
    omega
  · rw [List.map_append] at he
    rcases List.mem_append.1 he with he | he
    · exact h.2.2 e he
    · rw [List.mem_singleton.1 (show e ∈ [kCe.strip m] from he)]; exact ⟨hm, hw⟩
set_option maxRecDepth 100000 in
set_option maxHeartbeats 4000000 in
theorem c12c {Q : Exit → Act → World → Prop} {v1 v2 v4 v5 v6 v7 v8 v9 v10 v11 v12 v13 v14 v15 v16 v17 v18 v19 v20 v21 v22 v23 v24 v25 v26 v27 v28 v29 v30 v31 v32 v33 v34 v35 v36 v37 v38 v39 : Value} {w : World} {w0 wc : World} {p : Nat} {v : Value} {l : List UInt8} (C0 : Hid (DS w0 p v l wc w)) {g rr n cap k : Nat} {c : Int} {ad : Option Addr} {L : List Cem} (XK : Hid (Blk w g #[.int .i64 c, .slice ad n cap] 26)) (OC : Hid (sCn.own wc.heap.size w (c, ⟨ad, n, cap, L⟩))) (HGP : Hid (g ≠ p)) (HSM : Hid (smC k (c, L.map kCe.strip))) (HK : Hid (k ≤ 90)) (XR : Hid (Blk w rr #[.int .i64 0, .slice none 0 0] 26)) (HRP : Hid (rr ≠ p)) 
  (hQ : ∀ (u16 u17 u18 u19 u20 u21 u22 u23 : Value) (ad2 : Option Addr) (n2 cap2 : Nat) (L2 : List Cem) (wx : World), Blk wx g #[.int .i64 c, .slice ad n cap] 26 → Blk wx rr #[.int .i64 0, .slice none 0 0] 26 → sCn.own wc.heap.size wx (c, ⟨ad2, n2, cap2, L2⟩) → smC (k + 1) (c, L2.map kCe.strip) → DS w0 p v l wc wx → Q .normal ⟨#[.pointer (some ⟨p, 0, none⟩), v1, v2, .pointer (some ⟨g, 0, none⟩), v4, v5, v6, v7, v8, v9, v10, v11, v12, v13, v14, v15, u16, u17, u18, u19, u20, u21, u22, u23, v24, v25, v26, v27, v28, v29, v30, v31, v32, v33, v34, v35, v36, v37, v38, v39], []⟩ (wx.setCell ⟨g, 1, none⟩ (.slice ad2 n2 cap2))) :
  (Code.region 6 #[⟨some 16, .fieldAddr 26 (.tmp 3) 1, 0, "l12_cache.go:133", #[], none⟩,
   ⟨some 17, .load 24 (.tmp 16), 24, "l12_cache.go:133", #[⟨0, .data⟩], none⟩,
   ⟨some 18, .move (.tmp 0), 55, "l12_cache.go:133", #[], none⟩,
   ⟨some 19, .call ⟨.value (.func 32), #[.tmp 18], #[55]⟩, 31, "l12_cache.go:133", #[⟨2, .data⟩], none⟩,
   ⟨some 20, .build 64 #[(0, .tmp 19)], 64, "l12_cache.go:133", #[⟨3, .data⟩], none⟩,
   ⟨some 21, .buildSlice 24 1 #[(0, .tmp 20)], 24, "l12_cache.go:133", #[⟨4, .data⟩], none⟩,
   ⟨some 22, .call ⟨.builtin .append, #[.tmp 17, .tmp 21], #[24, 24]⟩, 24, "l12_cache.go:133", #[⟨1, .data⟩, ⟨5, .data⟩, ⟨3, .chain⟩], none⟩,
   ⟨some 23, .fieldAddr 26 (.tmp 3) 1, 0, "l12_cache.go:133", #[⟨0, .phase⟩, ⟨1, .phase⟩, ⟨2, .phase⟩, ⟨3, .phase⟩, ⟨4, .phase⟩, ⟨5, .phase⟩, ⟨6, .phase⟩], none⟩,
   ⟨none, .store 24 (.tmp 23) (.tmp 22), 0, "l12_cache.go:133", #[⟨7, .data⟩, ⟨6, .data⟩, ⟨6, .chain⟩, ⟨0, .phase⟩, ⟨1, .phase⟩, ⟨2, .phase⟩, ⟨3, .phase⟩, ⟨4, .phase⟩, ⟨5, .phase⟩, ⟨6, .phase⟩], none⟩] true).wp Tryz.prog Q ⟨#[.pointer (some ⟨p, 0, none⟩), v1, v2, .pointer (some ⟨g, 0, none⟩), v4, v5, v6, v7, v8, v9, v10, v11, v12, v13, v14, v15, v16, v17, v18, v19, v20, v21, v22, v23, v24, v25, v26, v27, v28, v29, v30, v31, v32, v33, v34, v35, v36, v37, v38, v39], []⟩ w := by
 have HQ := Lib.hid hQ; clear hQ
 have hb : Below w.heap.size w w.drew := (Below.refl _ _).drew
 have HLN := Lib.hid (show L.length ≤ k from by have h := HSM.out.2.1; rw [List.length_map] at h; exact h)
 have HPB := Lib.hid C0.out.hp
 replace XK := Lib.hid (XK.out.on hb)
 replace XR := Lib.hid (XR.out.on hb)
 replace OC := Lib.hid (Kd.own_on OC.out hb)
 have C := Lib.hid (C0.out.on hb)
 have BS := Lib.hid (show w.heap.size ≤ w.drew.heap.size from hb.size)
 have CP := Lib.hid C0.out.cur.lt
 clear hb
 refine wp_region_noPanic ?_
 refine wp_region_held_drew (S := (fun w' => True)) (by kernel_rfl) ?_ (fun hHeld => ?_)
 ·
  trivial
 generalize w.drew = wd at *
 refine wpAnyH_take (i := 0) (oi := ⟨some 16, .fieldAddr 26 (.tmp 3) 1, 0, "l12_cache.go:133", #[], none⟩) (v := ?_) rfl (by kernel_rfl) (by kernel_rfl) (by kernel_rfl) (fun _ _ _ h => h) (Or.inl ⟨by rfl, ?_⟩) (by assumption) ?_
 rotate_left
 ·
  intro w' hSw; (try dsimp only at hSw); first | (go_simp; done) | (go_simp; with_reducible rfl)
 (try simp only [Act.put, Row.pB0, Row.pB1, Row.pB2])
 refine wpAnyH_take (i := 2) (oi := ⟨some 18, .move (.tmp 0), 55, "l12_cache.go:133", #[], none⟩) (v := ?_) rfl (by kernel_rfl) (by kernel_rfl) (by kernel_rfl) (fun _ _ _ h => h) (Or.inl ⟨by rfl, ?_⟩) (by assumption) ?_
 rotate_left
 ·
  intro w' hSw; (try dsimp only at hSw); first | (go_simp; done) | (go_simp; with_reducible rfl)
 (try simp only [Act.put, Row.pB0, Row.pB1, Row.pB2])
 refine wpAnyH_ready (rs := [1, 3]) (by kernel_rfl) (by simp) ?_
 refine AllReadyH.cons (o := ⟨some 17, .load 24 (.tmp 16), 24, "l12_cache.go:133", #[⟨0, .data⟩], none⟩) rfl (fun K hK => ?_) ?_
 ·
  have q1 := XK.out.cell 1
  go_simp
  clear hHeld
  refine hK.out _ _ ?_ (fun hHeld => ?_)
  ·
   trivial
  clear hK K
  (try simp only [Act.put, Row.pB0, Row.pB1, Row.pB2])
  refine wpAnyH_ready (rs := [3]) (by kernel_rfl) (by simp) ?_
  refine AllReadyH.cons (o := ⟨some 19, .call ⟨.value (.func 32), #[.tmp 18], #[55]⟩, 31, "l12_cache.go:133", #[⟨2, .data⟩], none⟩) rfl (fun K hK => ?_) AllReadyH.nil
  go_simp
  refine (l8Any w0 p v l _ C.out.cur).mono ?_
  rintro e wn2 ⟨y_, rfl, hd, hc, hk⟩
  obtain ⟨xa, xb, xc, na, ca, nb, cb, nc, cc, y, rfl, ho, hbk, hin⟩ := hd.soft' (by decide)
  have OD := Lib.hid (sDz.own_mono ho C.out.size); have HBK := Lib.hid (show wtDz y ≤ 4000 from Nat.le_trans (show wtDz y ≤ 3000 from hbk) (by decide)); have HIN := Lib.hid hin
  clear hd ho hbk hin
  replace XK := Lib.hid (blk_keep XK.out hk HGP.out)
  replace XR := Lib.hid (blk_keep XR.out hk HRP.out)
  replace OC := Lib.hid (Kd.own_cur OC.out hk HPB.out)
  replace C := Lib.hid (C.out.step hc hk); replace BS := Lib.hid (Nat.le_trans BS.out hk.size); clear hc hk
  (try go_wp2_with fail)
  clear hHeld
  refine hK.out _ _ ?_ (fun hHeld => ?_)
  ·
   trivial
  clear hK K
  (try simp only [Act.put, Row.pB0, Row.pB1, Row.pB2])
  refine wpAnyH_take (i := 4) (oi := ⟨some 20, .build 64 #[(0, .tmp 19)], 64, "l12_cache.go:133", #[⟨3, .data⟩], none⟩) (v := ?_) rfl (by kernel_rfl) (by kernel_rfl) (by kernel_rfl) (fun _ _ _ h => h) (Or.inl ⟨by rfl, ?_⟩) (by assumption) ?_
  rotate_left
  ·
   intro w' hSw; (try dsimp only at hSw); first | (go_simp; done) | (go_simp; with_reducible rfl)
  (try simp only [Act.put, Row.pB0, Row.pB1, Row.pB2])
  refine wpAnyH_ready (rs := [5]) (by kernel_rfl) (by simp) ?_
  refine AllReadyH.cons (o := ⟨some 21, .buildSlice 24 1 #[(0, .tmp 20)], 24, "l12_cache.go:133", #[⟨4, .data⟩], none⟩) rfl (fun K hK => ?_) AllReadyH.nil
  go_simp
  have hb : Below wn2.heap.size wn2 (wn2.alloc (.cells #[.slice xa na ca, .slice xb nb cb, .slice xc nc cc, .int .i64 y.2.2.2.1, .int .i64 y.2.2.2.2, .int .i64 0] 64)) := (Below.refl _ _).alloc (Nat.le_refl _) _
  have SRC := Lib.hid (show HoldsK kCe.cells 6 (wn2.alloc (.cells #[.slice xa na ca, .slice xb nb cb, .slice xc nc cc, .int .i64 y.2.2.2.1, .int .i64 y.2.2.2.2, .int .i64 0] 64)) (.slice (some ⟨wn2.heap.size, 0, none⟩) 1 1) [(((⟨xa, na, ca, y.1⟩, ⟨xb, nb, cb, y.2.1⟩, ⟨xc, nc, cc, y.2.2.1⟩, y.2.2.2.1, y.2.2.2.2), (0 : Int)) : Cem)] from holdsK_one szCe_cells 64 wn2 _)
  replace XK := Lib.hid (XK.out.on hb)
  replace XR := Lib.hid (XR.out.on hb)
  replace OC := Lib.hid (Kd.own_on OC.out hb)
  replace OD := Lib.hid (Kd.own_on OD.out hb)
  replace C := Lib.hid (C.out.on hb); replace BS := Lib.hid (Nat.le_trans BS.out hb.size); clear hb
  generalize wn2.alloc (.cells #[.slice xa na ca, .slice xb nb cb, .slice xc nc cc, .int .i64 y.2.2.2.1, .int .i64 y.2.2.2.2, .int .i64 0] 64) = wn3 at *
  clear hHeld
  refine hK.out _ _ ?_ (fun hHeld => ?_)
  ·
   trivial
  clear hK K
  (try simp only [Act.put, Row.pB0, Row.pB1, Row.pB2])
  refine wpAnyH_ready (rs := [6]) (by kernel_rfl) (by simp) ?_
  refine AllReadyH.cons (o := ⟨some 22, .call ⟨.builtin .append, #[.tmp 17, .tmp 21], #[24, 24]⟩, 24, "l12_cache.go:133", #[⟨1, .data⟩, ⟨5, .data⟩, ⟨3, .chain⟩], none⟩) rfl (fun K hK => ?_) AllReadyH.nil
  refine step_appK kindCe (B := wc.heap.size) (v := .slice ad n cap) (l := L) (m := [(((⟨xa, na, ca, y.1⟩, ⟨xb, nb, cb, y.2.1⟩, ⟨xc, nc, cc, y.2.2.1⟩, y.2.2.2.1, y.2.2.2.2), (0 : Int)) : Cem)]) rfl _ _ (by rfl) Tryz.underlying24 (by rfl) (by rfl) OC.out.2.1 SRC.out (by have := HLN.out; have := HK.out; simp; omega) (by have := HLN.out; have := HK.out; unfold maxLen; simp; omega) C.out.size ?_
  intro v6 wn4 ho6 hg6
  obtain ⟨ad2, n2, cap2, rfl, hn6, -, ho6⟩ := ho6.shapeN
  have HX := Lib.hid (show sCn.own wc.heap.size wn4 (c, ⟨ad2, n2, cap2, L ++ [(((⟨xa, na, ca, y.1⟩, ⟨xb, nb, cb, y.2.1⟩, ⟨xc, nc, cc, y.2.2.1⟩, y.2.2.2.1, y.2.2.2.2), (0 : Int)) : Cem)]⟩) from ⟨trivial, Kd.own_push (k := sCe) (noRow_sCe (by decide) (by decide)) OC.out.2 (fun y hy => by rw [List.mem_singleton.1 hy]; exact ⟨OD.out, trivial⟩) ho6 hg6⟩)
  have HS2 := Lib.hid (show smC (k + 1) (c, (L ++ [(((⟨xa, na, ca, y.1⟩, ⟨xb, nb, cb, y.2.1⟩, ⟨xc, nc, cc, y.2.2.1⟩, y.2.2.2.1, y.2.2.2.2), (0 : Int)) : Cem)]).map kCe.strip) from smC_snoc HSM.out ⟨(show inDz (kDz.strip ((⟨xa, na, ca, y.1⟩, ⟨xb, nb, cb, y.2.1⟩, ⟨xc, nc, cc, y.2.2.1⟩, y.2.2.2.1, y.2.2.2.2) : Dzm)) from by rw [kDz_strip12]; exact HIN.out), (show (Lit.int .i64 0).wf = true from by decide)⟩ (show wtDz (kDz.strip ((⟨xa, na, ca, y.1⟩, ⟨xb, nb, cb, y.2.1⟩, ⟨xc, nc, cc, y.2.2.1⟩, y.2.2.2.1, y.2.2.2.2) : Dzm)) ≤ 4000 from by rw [kDz_strip12]; exact HBK.out))
  replace XK := Lib.hid (blk_row XK.out (by decide) OC.out.2.1 hg6)
  replace XR := Lib.hid (blk_row XR.out (by decide) OC.out.2.1 hg6)
  replace BS := Lib.hid (Nat.le_trans BS.out hg6.size)
  replace C := Lib.hid (C.out.grown OC.out.2.1 hg6)
  clear hn6 ho6 hg6 OC SRC
  clear hHeld
  refine hK.out _ _ ?_ (fun hHeld => ?_)
  ·
   trivial
  clear hK K
  (try simp only [Act.put, Row.pB0, Row.pB1, Row.pB2])
  refine wpAnyH_take (i := 7) (oi := ⟨some 23, .fieldAddr 26 (.tmp 3) 1, 0, "l12_cache.go:133", #[⟨0, .phase⟩, ⟨1, .phase⟩, ⟨2, .phase⟩, ⟨3, .phase⟩, ⟨4, .phase⟩, ⟨5, .phase⟩, ⟨6, .phase⟩], none⟩) (v := ?_) rfl (by kernel_rfl) (by kernel_rfl) (by kernel_rfl) (fun _ _ _ h => h) (Or.inl ⟨by rfl, ?_⟩) (by assumption) ?_
  rotate_left
  ·
   intro w' hSw; (try dsimp only at hSw); first | (go_simp; done) | (go_simp; with_reducible rfl)
  (try simp only [Act.put, Row.pB0, Row.pB1, Row.pB2])
  refine wpAnyH_ready (rs := [8]) (by kernel_rfl) (by simp) ?_
  refine AllReadyH.cons (o := ⟨none, .store 24 (.tmp 23) (.tmp 22), 0, "l12_cache.go:133", #[⟨7, .data⟩, ⟨6, .data⟩, ⟨6, .chain⟩, ⟨0, .phase⟩, ⟨1, .phase⟩, ⟨2, .phase⟩, ⟨3, .phase⟩, ⟨4, .phase⟩, ⟨5, .phase⟩, ⟨6, .phase⟩], none⟩) rfl (fun K hK => ?_) AllReadyH.nil
  have r1 := XK.out.cell 1; have t1 := XK.out.frozen 1
  go_simp
  clear hHeld
  refine hK.out _ _ ?_ (fun hHeld => ?_)
  ·
   trivial
  clear hK K
  (try simp only [Act.put, Row.pB0, Row.pB1, Row.pB2])
  refine wpAnyH_done (by kernel_rfl) ?_ _
  exact NoPanic.normal (HQ.out _ _ _ _ _ _ _ _ ad2 n2 cap2 _ _ XK.out XR.out HX.out HS2.out C.out)
 refine AllReadyH.cons (o := ⟨some 19, .call ⟨.value (.func 32), #[.tmp 18], #[55]⟩, 31, "l12_cache.go:133", #[⟨2, .data⟩], none⟩) rfl (fun K hK => ?_) AllReadyH.nil
 go_simp
 refine (l8Any w0 p v l _ C.out.cur).mono ?_
 rintro e wn6 ⟨y_, rfl, hd, hc, hk⟩
 obtain ⟨xa, xb, xc, na, ca, nb, cb, nc, cc, y, rfl, ho, hbk, hin⟩ := hd.soft' (by decide)
 have OD := Lib.hid (sDz.own_mono ho C.out.size); have HBK := Lib.hid (show wtDz y ≤ 4000 from Nat.le_trans (show wtDz y ≤ 3000 from hbk) (by decide)); have HIN := Lib.hid hin
 clear hd ho hbk hin
 replace XK := Lib.hid (blk_keep XK.out hk HGP.out)
 replace XR := Lib.hid (blk_keep XR.out hk HRP.out)
 replace OC := Lib.hid (Kd.own_cur OC.out hk HPB.out)
 replace C := Lib.hid (C.out.step hc hk); replace BS := Lib.hid (Nat.le_trans BS.out hk.size); clear hc hk
 (try go_wp2_with fail)
 clear hHeld
 refine hK.out _ _ ?_ (fun hHeld => ?_)
 ·
  trivial
 clear hK K
 (try simp only [Act.put, Row.pB0, Row.pB1, Row.pB2])
 refine wpAnyH_take (i := 4) (oi := ⟨some 20, .build 64 #[(0, .tmp 19)], 64, "l12_cache.go:133", #[⟨3, .data⟩], none⟩) (v := ?_) rfl (by kernel_rfl) (by kernel_rfl) (by kernel_rfl) (fun _ _ _ h => h) (Or.inl ⟨by rfl, ?_⟩) (by assumption) ?_
 rotate_left
 ·
  intro w' hSw; (try dsimp only at hSw); first | (go_simp; done) | (go_simp; with_reducible rfl)
 (try simp only [Act.put, Row.pB0, Row.pB1, Row.pB2])
 refine wpAnyH_ready (rs := [1, 5]) (by kernel_rfl) (by simp) ?_
 refine AllReadyH.cons (o := ⟨some 17, .load 24 (.tmp 16), 24, "l12_cache.go:133", #[⟨0, .data⟩], none⟩) rfl (fun K hK => ?_) ?_
 ·
  have q1 := XK.out.cell 1
  go_simp
  clear hHeld
  refine hK.out _ _ ?_ (fun hHeld => ?_)
  ·
   trivial
  clear hK K
  (try simp only [Act.put, Row.pB0, Row.pB1, Row.pB2])
  refine wpAnyH_ready (rs := [5]) (by kernel_rfl) (by simp) ?_
  refine AllReadyH.cons (o := ⟨some 21, .buildSlice 24 1 #[(0, .tmp 20)], 24, "l12_cache.go:133", #[⟨4, .data⟩], none⟩) rfl (fun K hK => ?_) AllReadyH.nil
  go_simp
  have hb : Below wn6.heap.size wn6 (wn6.alloc (.cells #[.slice xa na ca, .slice xb nb cb, .slice xc nc cc, .int .i64 y.2.2.2.1, .int .i64 y.2.2.2.2, .int .i64 0] 64)) := (Below.refl _ _).alloc (Nat.le_refl _) _
  have SRC := Lib.hid (show HoldsK kCe.cells 6 (wn6.alloc (.cells #[.slice xa na ca, .slice xb nb cb, .slice xc nc cc, .int .i64 y.2.2.2.1, .int .i64 y.2.2.2.2, .int .i64 0] 64)) (.slice (some ⟨wn6.heap.size, 0, none⟩) 1 1) [(((⟨xa, na, ca, y.1⟩, ⟨xb, nb, cb, y.2.1⟩, ⟨xc, nc, cc, y.2.2.1⟩, y.2.2.2.1, y.2.2.2.2), (0 : Int)) : Cem)] from holdsK_one szCe_cells 64 wn6 _)
  replace XK := Lib.hid (XK.out.on hb)
  replace XR := Lib.hid (XR.out.on hb)
  replace OC := Lib.hid (Kd.own_on OC.out hb)
  replace OD := Lib.hid (Kd.own_on OD.out hb)
  replace C := Lib.hid (C.out.on hb); replace BS := Lib.hid (Nat.le_trans BS.out hb.size); clear hb
  generalize wn6.alloc (.cells #[.slice xa na ca, .slice xb nb cb, .slice xc nc cc, .int .i64 y.2.2.2.1, .int .i64 y.2.2.2.2, .int .i64 0] 64) = wn8 at *
  clear hHeld
  refine hK.out _ _ ?_ (fun hHeld => ?_)
  ·
   trivial
  clear hK K
  (try simp only [Act.put, Row.pB0, Row.pB1, Row.pB2])
  refine wpAnyH_ready (rs := [6]) (by kernel_rfl) (by simp) ?_
  refine AllReadyH.cons (o := ⟨some 22, .call ⟨.builtin .append, #[.tmp 17, .tmp 21], #[24, 24]⟩, 24, "l12_cache.go:133", #[⟨1, .data⟩, ⟨5, .data⟩, ⟨3, .chain⟩], none⟩) rfl (fun K hK => ?_) AllReadyH.nil
  refine step_appK kindCe (B := wc.heap.size) (v := .slice ad n cap) (l := L) (m := [(((⟨xa, na, ca, y.1⟩, ⟨xb, nb, cb, y.2.1⟩, ⟨xc, nc, cc, y.2.2.1⟩, y.2.2.2.1, y.2.2.2.2), (0 : Int)) : Cem)]) rfl _ _ (by rfl) Tryz.underlying24 (by rfl) (by rfl) OC.out.2.1 SRC.out (by have := HLN.out; have := HK.out; simp; omega) (by have := HLN.out; have := HK.out; unfold maxLen; simp; omega) C.out.size ?_
  intro v6 wn9 ho6 hg6
  obtain ⟨ad2, n2, cap2, rfl, hn6, -, ho6⟩ := ho6.shapeN
  have HX := Lib.hid (show sCn.own wc.heap.size wn9 (c, ⟨ad2, n2, cap2, L ++ [(((⟨xa, na, ca, y.1⟩, ⟨xb, nb, cb, y.2.1⟩, ⟨xc, nc, cc, y.2.2.1⟩, y.2.2.2.1, y.2.2.2.2), (0 : Int)) : Cem)]⟩) from ⟨trivial, Kd.own_push (k := sCe) (noRow_sCe (by decide) (by decide)) OC.out.2 (fun y hy => by rw [List.mem_singleton.1 hy]; exact ⟨OD.out, trivial⟩) ho6 hg6⟩)
  have HS2 := Lib.hid (show smC (k + 1) (c, (L ++ [(((⟨xa, na, ca, y.1⟩, ⟨xb, nb, cb, y.2.1⟩, ⟨xc, nc, cc, y.2.2.1⟩, y.2.2.2.1, y.2.2.2.2), (0 : Int)) : Cem)]).map kCe.strip) from smC_snoc HSM.out ⟨(show inDz (kDz.strip ((⟨xa, na, ca, y.1⟩, ⟨xb, nb, cb, y.2.1⟩, ⟨xc, nc, cc, y.2.2.1⟩, y.2.2.2.1, y.2.2.2.2) : Dzm)) from by rw [kDz_strip12]; exact HIN.out), (show (Lit.int .i64 0).wf = true from by decide)⟩ (show wtDz (kDz.strip ((⟨xa, na, ca, y.1⟩, ⟨xb, nb, cb, y.2.1⟩, ⟨xc, nc, cc, y.2.2.1⟩, y.2.2.2.1, y.2.2.2.2) : Dzm)) ≤ 4000 from by rw [kDz_strip12]; exact HBK.out))
  replace XK := Lib.hid (blk_row XK.out (by decide) OC.out.2.1 hg6)
  replace XR := Lib.hid (blk_row XR.out (by decide) OC.out.2.1 hg6)
  replace BS := Lib.hid (Nat.le_trans BS.out hg6.size)
  replace C := Lib.hid (C.out.grown OC.out.2.1 hg6)
  clear hn6 ho6 hg6 OC SRC
  clear hHeld
  refine hK.out _ _ ?_ (fun hHeld => ?_)
  ·
   trivial
  clear hK K
  (try simp only [Act.put, Row.pB0, Row.pB1, Row.pB2])
  refine wpAnyH_take (i := 7) (oi := ⟨some 23, .fieldAddr 26 (.tmp 3) 1, 0, "l12_cache.go:133", #[⟨0, .phase⟩, ⟨1, .phase⟩, ⟨2, .phase⟩, ⟨3, .phase⟩, ⟨4, .phase⟩, ⟨5, .phase⟩, ⟨6, .phase⟩], none⟩) (v := ?_) rfl (by kernel_rfl) (by kernel_rfl) (by kernel_rfl) (fun _ _ _ h => h) (Or.inl ⟨by rfl, ?_⟩) (by assumption) ?_
  rotate_left
  ·
   intro w' hSw; (try dsimp only at hSw); first | (go_simp; done) | (go_simp; with_reducible rfl)
  (try simp only [Act.put, Row.pB0, Row.pB1, Row.pB2])
  refine wpAnyH_ready (rs := [8]) (by kernel_rfl) (by simp) ?_
  refine AllReadyH.cons (o := ⟨none, .store 24 (.tmp 23) (.tmp 22), 0, "l12_cache.go:133", #[⟨7, .data⟩, ⟨6, .data⟩, ⟨6, .chain⟩, ⟨0, .phase⟩, ⟨1, .phase⟩, ⟨2, .phase⟩, ⟨3, .phase⟩, ⟨4, .phase⟩, ⟨5, .phase⟩, ⟨6, .phase⟩], none⟩) rfl (fun K hK => ?_) AllReadyH.nil
  have r1 := XK.out.cell 1; have t1 := XK.out.frozen 1
  go_simp
  clear hHeld
  refine hK.out _ _ ?_ (fun hHeld => ?_)
  ·
   trivial
  clear hK K
  (try simp only [Act.put, Row.pB0, Row.pB1, Row.pB2])
  refine wpAnyH_done (by kernel_rfl) ?_ _
  exact NoPanic.normal (HQ.out _ _ _ _ _ _ _ _ ad2 n2 cap2 _ _ XK.out XR.out HX.out HS2.out C.out)
 refine AllReadyH.cons (o := ⟨some 21, .buildSlice 24 1 #[(0, .tmp 20)], 24, "l12_cache.go:133", #[⟨4, .data⟩], none⟩) rfl (fun K hK => ?_) AllReadyH.nil
 go_simp
 have hb : Below wn6.heap.size wn6 (wn6.alloc (.cells #[.slice xa na ca, .slice xb nb cb, .slice xc nc cc, .int .i64 y.2.2.2.1, .int .i64 y.2.2.2.2, .int .i64 0] 64)) := (Below.refl _ _).alloc (Nat.le_refl _) _
 have SRC := Lib.hid (show HoldsK kCe.cells 6 (wn6.alloc (.cells #[.slice xa na ca, .slice xb nb cb, .slice xc nc cc, .int .i64 y.2.2.2.1, .int .i64 y.2.2.2.2, .int .i64 0] 64)) (.slice (some ⟨wn6.heap.size, 0, none⟩) 1 1) [(((⟨xa, na, ca, y.1⟩, ⟨xb, nb, cb, y.2.1⟩, ⟨xc, nc, cc, y.2.2.1⟩, y.2.2.2.1, y.2.2.2.2), (0 : Int)) : Cem)] from holdsK_one szCe_cells 64 wn6 _)
 replace XK := Lib.hid (XK.out.on hb)
 replace XR := Lib.hid (XR.out.on hb)
 replace OC := Lib.hid (Kd.own_on OC.out hb)
 replace OD := Lib.hid (Kd.own_on OD.out hb)
 replace C := Lib.hid (C.out.on hb); replace BS := Lib.hid (Nat.le_trans BS.out hb.size); clear hb
 generalize wn6.alloc (.cells #[.slice xa na ca, .slice xb nb cb, .slice xc nc cc, .int .i64 y.2.2.2.1, .int .i64 y.2.2.2.2, .int .i64 0] 64) = wn11 at *
 clear hHeld
 refine hK.out _ _ ?_ (fun hHeld => ?_)
 ·
  trivial
 clear hK K
 (try simp only [Act.put, Row.pB0, Row.pB1, Row.pB2])
 refine wpAnyH_ready (rs := [1]) (by kernel_rfl) (by simp) ?_
 refine AllReadyH.cons (o := ⟨some 17, .load 24 (.tmp 16), 24, "l12_cache.go:133", #[⟨0, .data⟩], none⟩) rfl (fun K hK => ?_) AllReadyH.nil
 have q1 := XK.out.cell 1
 go_simp
 clear hHeld
 refine hK.out _ _ ?_ (fun hHeld => ?_)
 ·
  trivial
 clear hK K
 (try simp only [Act.put, Row.pB0, Row.pB1, Row.pB2])
 refine wpAnyH_ready (rs := [6]) (by kernel_rfl) (by simp) ?_
 refine AllReadyH.cons (o := ⟨some 22, .call ⟨.builtin .append, #[.tmp 17, .tmp 21], #[24, 24]⟩, 24, "l12_cache.go:133", #[⟨1, .data⟩, ⟨5, .data⟩, ⟨3, .chain⟩], none⟩) rfl (fun K hK => ?_) AllReadyH.nil
 refine step_appK kindCe (B := wc.heap.size) (v := .slice ad n cap) (l := L) (m := [(((⟨xa, na, ca, y.1⟩, ⟨xb, nb, cb, y.2.1⟩, ⟨xc, nc, cc, y.2.2.1⟩, y.2.2.2.1, y.2.2.2.2), (0 : Int)) : Cem)]) rfl _ _ (by rfl) Tryz.underlying24 (by rfl) (by rfl) OC.out.2.1 SRC.out (by have := HLN.out; have := HK.out; simp; omega) (by have := HLN.out; have := HK.out; unfold maxLen; simp; omega) C.out.size ?_
 intro v6 wn13 ho6 hg6
 obtain ⟨ad2, n2, cap2, rfl, hn6, -, ho6⟩ := ho6.shapeN
 have HX := Lib.hid (show sCn.own wc.heap.size wn13 (c, ⟨ad2, n2, cap2, L ++ [(((⟨xa, na, ca, y.1⟩, ⟨xb, nb, cb, y.2.1⟩, ⟨xc, nc, cc, y.2.2.1⟩, y.2.2.2.1, y.2.2.2.2), (0 : Int)) : Cem)]⟩) from ⟨trivial, Kd.own_push (k := sCe) (noRow_sCe (by decide) (by decide)) OC.out.2 (fun y hy => by rw [List.mem_singleton.1 hy]; exact ⟨OD.out, trivial⟩) ho6 hg6⟩)
 have HS2 := Lib.hid (show smC (k + 1) (c, (L ++ [(((⟨xa, na, ca, y.1⟩, ⟨xb, nb, cb, y.2.1⟩, ⟨xc, nc, cc, y.2.2.1⟩, y.2.2.2.1, y.2.2.2.2), (0 : Int)) : Cem)]).map kCe.strip) from smC_snoc HSM.out ⟨(show inDz (kDz.strip ((⟨xa, na, ca, y.1⟩, ⟨xb, nb, cb, y.2.1⟩, ⟨xc, nc, cc, y.2.2.1⟩, y.2.2.2.1, y.2.2.2.2) : Dzm)) from by rw [kDz_strip12]; exact HIN.out), (show (Lit.int .i64 0).wf = true from by decide)⟩ (show wtDz (kDz.strip ((⟨xa, na, ca, y.1⟩, ⟨xb, nb, cb, y.2.1⟩, ⟨xc, nc, cc, y.2.2.1⟩, y.2.2.2.1, y.2.2.2.2) : Dzm)) ≤ 4000 from by rw [kDz_strip12]; exact HBK.out))
 replace XK := Lib.hid (blk_row XK.out (by decide) OC.out.2.1 hg6)
 replace XR := Lib.hid (blk_row XR.out (by decide) OC.out.2.1 hg6)
 replace BS := Lib.hid (Nat.le_trans BS.out hg6.size)
 replace C := Lib.hid (C.out.grown OC.out.2.1 hg6)
 clear hn6 ho6 hg6 OC SRC
 clear hHeld
 refine hK.out _ _ ?_ (fun hHeld => ?_)
 ·
  trivial
 clear hK K
 (try simp only [Act.put, Row.pB0, Row.pB1, Row.pB2])
 refine wpAnyH_take (i := 7) (oi := ⟨some 23, .fieldAddr 26 (.tmp 3) 1, 0, "l12_cache.go:133", #[⟨0, .phase⟩, ⟨1, .phase⟩, ⟨2, .phase⟩, ⟨3, .phase⟩, ⟨4, .phase⟩, ⟨5, .phase⟩, ⟨6, .phase⟩], none⟩) (v := ?_) rfl (by kernel_rfl) (by kernel_rfl) (by kernel_rfl) (fun _ _ _ h => h) (Or.inl ⟨by rfl, ?_⟩) (by assumption) ?_
 rotate_left
 ·
  intro w' hSw; (try dsimp only at hSw); first | (go_simp; done) | (go_simp; with_reducible rfl)
 (try simp only [Act.put, Row.pB0, Row.pB1, Row.pB2])
 refine wpAnyH_ready (rs := [8]) (by kernel_rfl) (by simp) ?_
 refine AllReadyH.cons (o := ⟨none, .store 24 (.tmp 23) (.tmp 22), 0, "l12_cache.go:133", #[⟨7, .data⟩, ⟨6, .data⟩, ⟨6, .chain⟩, ⟨0, .phase⟩, ⟨1, .phase⟩, ⟨2, .phase⟩, ⟨3, .phase⟩, ⟨4, .phase⟩, ⟨5, .phase⟩, ⟨6, .phase⟩], none⟩) rfl (fun K hK => ?_) AllReadyH.nil
 have r1 := XK.out.cell 1; have t1 := XK.out.frozen 1
 go_simp
 clear hHeld
 refine hK.out _ _ ?_ (fun hHeld => ?_)
 ·
  trivial
 clear hK K
 (try simp only [Act.put, Row.pB0, Row.pB1, Row.pB2])
 refine wpAnyH_done (by kernel_rfl) ?_ _
 exact NoPanic.normal (HQ.out _ _ _ _ _ _ _ _ ad2 n2 cap2 _ _ XK.out XR.out HX.out HS2.out C.out)
set_option maxRecDepth 100000 in
set_option maxHeartbeats 4000000 in
theorem c12d {Q : Exit → Act → World → Prop} {v0 v1 v2 v4 v5 v6 v7 v8 v9 v10 v11 v12 v13 v14 v15 v16 v17 v18 v19 v20 v21 v22 v23 v24 v25 v26 v27 v28 v29 v30 v31 v32 v33 v34 v35 v36 v37 v38 v39 : Value} {w : World} {w0 wc : World} {p : Nat} {v : Value} {l : List UInt8} (C0 : Hid (DS w0 p v l wc w)) {g rr n cap k : Nat} {c : Int} {b ma da mb db mc dc_ : Nat} {za zb zc : Option Addr} {la : List ByteArray} {lb : List Int} {lc : List ByteArray} {f0 s0 u0 : Int} {L : List Cem} (XK : Hid (Blk w g #[.int .i64 c, .slice (some ⟨b, 0, none⟩) n cap] 26)) (OC : Hid (sCn.own wc.heap.size w (c, ⟨some ⟨b, 0, none⟩, n, cap, L⟩))) (HGP : Hid (g ≠ p)) (HSM : Hid (smC k (c, L.map kCe.strip))) (HK : Hid (k ≤ 90)) (XR : Hid (Blk w rr #[.int .i64 0, .slice none 0 0] 26)) (HRP : Hid (rr ≠ p)) (HM0 : Hid (nth L 0 = (((⟨za, ma, da, la⟩, ⟨zb, mb, db, lb⟩, ⟨zc, mc, dc_, lc⟩, f0, s0), u0) : Cem))) (HL0 : Hid (0 < L.length)) (HLE : Hid (n = L.length)) (hn0 : 0 < n) 
  (hQ : ∀ (u30 u31 u32 u33 u34 u35 u36 u37 u38 : Value) (ad2 : Option Addr) (n2 cap2 : Nat) (L2 : List Cem) (wx : World), Blk wx g #[.int .i64 c, .slice (some ⟨b, 0, none⟩) n cap] 26 → Blk wx rr #[.int .i64 0, .slice none 0 0] 26 → sCn.own wc.heap.size wx (c, ⟨ad2, n2, cap2, L2⟩) → smC (k + 1) (c, L2.map kCe.strip) → DS w0 p v l wc wx → Q .normal ⟨#[v0, v1, v2, .pointer (some ⟨g, 0, none⟩), v4, v5, v6, v7, v8, v9, v10, v11, v12, v13, v14, v15, v16, v17, v18, v19, v20, v21, v22, v23, v24, v25, v26, v27, v28, v29, u30, u31, u32, u33, u34, u35, u36, u37, u38, v39], []⟩ (wx.setCell ⟨g, 1, none⟩ (.slice ad2 n2 cap2))) :
  (Code.region 9 #[⟨some 30, .fieldAddr 26 (.tmp 3) 1, 0, "l12_cache.go:136", #[], none⟩,
   ⟨some 31, .load 24 (.tmp 30), 24, "l12_cache.go:136", #[⟨0, .data⟩], none⟩,
   ⟨some 32, .fieldAddr 26 (.tmp 3) 1, 0, "l12_cache.go:136", #[], none⟩,
   ⟨some 33, .load 24 (.tmp 32), 24, "l12_cache.go:136", #[⟨2, .data⟩], none⟩,
   ⟨some 34, .indexAddr 24 (.tmp 33) (.const (Value.int IntKind.i64 0)), 0, "l12_cache.go:136", #[⟨3, .data⟩], none⟩,
   ⟨some 35, .load 64 (.tmp 34), 64, "l12_cache.go:136", #[⟨4, .data⟩], none⟩,
   ⟨some 36, .buildSlice 24 1 #[(0, .tmp 35)], 24, "l12_cache.go:136", #[⟨5, .data⟩], none⟩,
   ⟨some 37, .call ⟨.builtin .append, #[.tmp 31, .tmp 36], #[24, 24]⟩, 24, "l12_cache.go:136", #[⟨1, .data⟩, ⟨6, .data⟩], none⟩,
   ⟨some 38, .fieldAddr 26 (.tmp 3) 1, 0, "l12_cache.go:136", #[⟨0, .phase⟩, ⟨1, .phase⟩, ⟨2, .phase⟩, ⟨3, .phase⟩, ⟨4, .phase⟩, ⟨5, .phase⟩, ⟨6, .phase⟩, ⟨7, .phase⟩], none⟩,
   ⟨none, .store 24 (.tmp 38) (.tmp 37), 0, "l12_cache.go:136", #[⟨8, .data⟩, ⟨7, .data⟩, ⟨7, .chain⟩, ⟨0, .phase⟩, ⟨1, .phase⟩, ⟨2, .phase⟩, ⟨3, .phase⟩, ⟨4, .phase⟩, ⟨5, .phase⟩, ⟨6, .phase⟩, ⟨7, .phase⟩], none⟩] true).wp Tryz.prog Q ⟨#[v0, v1, v2, .pointer (some ⟨g, 0, none⟩), v4, v5, v6, v7, v8, v9, v10, v11, v12, v13, v14, v15, v16, v17, v18, v19, v20, v21, v22, v23, v24, v25, v26, v27, v28, v29, v30, v31, v32, v33, v34, v35, v36, v37, v38, v39], []⟩ w := by
 have HQ := Lib.hid hQ; clear hQ
 have hb : Below w.heap.size w w.drew := (Below.refl _ _).drew
 have HLN := Lib.hid (show L.length ≤ k from by have h := HSM.out.2.1; rw [List.length_map] at h; exact h)
 have HPB := Lib.hid C0.out.hp
 have HIN := Lib.hid (show inCe (kCe.strip (((⟨za, ma, da, la⟩, ⟨zb, mb, db, lb⟩, ⟨zc, mc, dc_, lc⟩, f0, s0), u0) : Cem)) from by have h := (HSM.out.2.2 (kCe.strip (nth L 0)) (List.mem_map.2 ⟨nth L 0, nth_mem HL0.out, rfl⟩)).1; rw [HM0.out] at h; exact h)
 have HBK := Lib.hid (show wtDz (kDz.strip (((⟨za, ma, da, la⟩, ⟨zb, mb, db, lb⟩, ⟨zc, mc, dc_, lc⟩, f0, s0), u0) : Cem).1) ≤ 4000 from by have h := (HSM.out.2.2 (kCe.strip (nth L 0)) (List.mem_map.2 ⟨nth L 0, nth_mem HL0.out, rfl⟩)).2; rw [HM0.out] at h; exact h)
 replace XK := Lib.hid (XK.out.on hb)
 replace XR := Lib.hid (XR.out.on hb)
 replace OC := Lib.hid (Kd.own_on OC.out hb)
 have C := Lib.hid (C0.out.on hb)
 have BS := Lib.hid (show w.heap.size ≤ w.drew.heap.size from hb.size)
 have CP := Lib.hid C0.out.cur.lt
 clear hb
 refine wp_region_noPanic ?_
 refine wp_region_held_drew (S := (fun w' => True)) (by kernel_rfl) ?_ (fun hHeld => ?_)
 ·
  trivial
 generalize w.drew = wd at *
 refine wpAnyH_take (i := 0) (oi := ⟨some 30, .fieldAddr 26 (.tmp 3) 1, 0, "l12_cache.go:136", #[], none⟩) (v := ?_) rfl (by kernel_rfl) (by kernel_rfl) (by kernel_rfl) (fun _ _ _ h => h) (Or.inl ⟨by rfl, ?_⟩) (by assumption) ?_
 rotate_left
 ·
  intro w' hSw; (try dsimp only at hSw); first | (go_simp; done) | (go_simp; with_reducible rfl)
 (try simp only [Act.put, Row.pB0, Row.pB1, Row.pB2])
 refine wpAnyH_take (i := 2) (oi := ⟨some 32, .fieldAddr 26 (.tmp 3) 1, 0, "l12_cache.go:136", #[], none⟩) (v := ?_) rfl (by kernel_rfl) (by kernel_rfl) (by kernel_rfl) (fun _ _ _ h => h) (Or.inl ⟨by rfl, ?_⟩) (by assumption) ?_
 rotate_left
 ·
  intro w' hSw; (try dsimp only at hSw); first | (go_simp; done) | (go_simp; with_reducible rfl)
 (try simp only [Act.put, Row.pB0, Row.pB1, Row.pB2])
 refine wpAnyH_ready (rs := [1, 3]) (by kernel_rfl) (by simp) ?_
 refine AllReadyH.cons (o := ⟨some 31, .load 24 (.tmp 30), 24, "l12_cache.go:136", #[⟨0, .data⟩], none⟩) rfl (fun K hK => ?_) ?_
 ·
  have q1 := XK.out.cell 1
  go_simp
  clear hHeld
  refine hK.out _ _ ?_ (fun hHeld => ?_)
  ·
   trivial
  clear hK K
  (try simp only [Act.put, Row.pB0, Row.pB1, Row.pB2])
  refine wpAnyH_ready (rs := [3]) (by kernel_rfl) (by simp) ?_
  refine AllReadyH.cons (o := ⟨some 33, .load 24 (.tmp 32), 24, "l12_cache.go:136", #[⟨2, .data⟩], none⟩) rfl (fun K hK => ?_) AllReadyH.nil
  have q1 := XK.out.cell 1
  go_simp
  clear hHeld
  refine hK.out _ _ ?_ (fun hHeld => ?_)
  ·
   trivial
  clear hK K
  (try simp only [Act.put, Row.pB0, Row.pB1, Row.pB2])
  refine wpAnyH_take (i := 4) (oi := ⟨some 34, .indexAddr 24 (.tmp 33) (.const (Value.int IntKind.i64 0)), 0, "l12_cache.go:136", #[⟨3, .data⟩], none⟩) (v := ?_) rfl (by kernel_rfl) (by kernel_rfl) (by kernel_rfl) (fun _ _ _ h => h) (Or.inl ⟨by rfl, ?_⟩) (by assumption) ?_
  rotate_left
  ·
   intro w' hSw; (try dsimp only at hSw); first | (go_simp; done) | (go_simp; with_reducible rfl)
  (try simp only [Act.put, Row.pB0, Row.pB1, Row.pB2])
  refine wpAnyH_ready (rs := [5]) (by kernel_rfl) (by simp) ?_
  refine AllReadyH.cons (o := ⟨some 35, .load 64 (.tmp 34), 64, "l12_cache.go:136", #[⟨4, .data⟩], none⟩) rfl (fun K hK => ?_) AllReadyH.nil
  have e0 : wd.cell? ⟨b, 0, none⟩ = some (.slice za ma da) := by have h := (ownK_cell szCe_cells OC.out.2.1 HLE.out HL0.out (i := 0) (by decide)).1; rw [HM0.out] at h; exact h
  have e1 : wd.cell? ⟨b, 1, none⟩ = some (.slice zb mb db) := by have h := (ownK_cell szCe_cells OC.out.2.1 HLE.out HL0.out (i := 1) (by decide)).1; rw [HM0.out] at h; exact h
  have e2 : wd.cell? ⟨b, 2, none⟩ = some (.slice zc mc dc_) := by have h := (ownK_cell szCe_cells OC.out.2.1 HLE.out HL0.out (i := 2) (by decide)).1; rw [HM0.out] at h; exact h
  have e3 : wd.cell? ⟨b, 3, none⟩ = some (.int .i64 f0) := by have h := (ownK_cell szCe_cells OC.out.2.1 HLE.out HL0.out (i := 3) (by decide)).1; rw [HM0.out] at h; exact h
  have e4 : wd.cell? ⟨b, 4, none⟩ = some (.int .i64 s0) := by have h := (ownK_cell szCe_cells OC.out.2.1 HLE.out HL0.out (i := 4) (by decide)).1; rw [HM0.out] at h; exact h
  have e5 : wd.cell? ⟨b, 5, none⟩ = some (.int .i64 u0) := by have h := (ownK_cell szCe_cells OC.out.2.1 HLE.out HL0.out (i := 5) (by decide)).1; rw [HM0.out] at h; exact h
  go_simp
  clear hHeld
  refine hK.out _ _ ?_ (fun hHeld => ?_)
  ·
   trivial
  clear hK K
  (try simp only [Act.put, Row.pB0, Row.pB1, Row.pB2])
  refine wpAnyH_ready (rs := [6]) (by kernel_rfl) (by simp) ?_
  refine AllReadyH.cons (o := ⟨some 36, .buildSlice 24 1 #[(0, .tmp 35)], 24, "l12_cache.go:136", #[⟨5, .data⟩], none⟩) rfl (fun K hK => ?_) AllReadyH.nil
  go_simp
  have hb : Below wd.heap.size wd (wd.alloc (.cells #[.slice za ma da, .slice zb mb db, .slice zc mc dc_, .int .i64 f0, .int .i64 s0, .int .i64 u0] 64)) := (Below.refl _ _).alloc (Nat.le_refl _) _
  have SRC := Lib.hid (show HoldsK kCe.cells 6 (wd.alloc (.cells #[.slice za ma da, .slice zb mb db, .slice zc mc dc_, .int .i64 f0, .int .i64 s0, .int .i64 u0] 64)) (.slice (some ⟨wd.heap.size, 0, none⟩) 1 1) [(((⟨za, ma, da, la⟩, ⟨zb, mb, db, lb⟩, ⟨zc, mc, dc_, lc⟩, f0, s0), u0) : Cem)] from holdsK_one szCe_cells 64 wd _)
  replace XK := Lib.hid (XK.out.on hb)
  replace XR := Lib.hid (XR.out.on hb)
  replace OC := Lib.hid (Kd.own_on OC.out hb)
  replace C := Lib.hid (C.out.on hb); replace BS := Lib.hid (Nat.le_trans BS.out hb.size); clear hb
  generalize wd.alloc (.cells #[.slice za ma da, .slice zb mb db, .slice zc mc dc_, .int .i64 f0, .int .i64 s0, .int .i64 u0] 64) = wn4 at *
  clear hHeld
  refine hK.out _ _ ?_ (fun hHeld => ?_)
  ·
   trivial
  clear hK K
  (try simp only [Act.put, Row.pB0, Row.pB1, Row.pB2])
  refine wpAnyH_ready (rs := [7]) (by kernel_rfl) (by simp) ?_
  refine AllReadyH.cons (o := ⟨some 37, .call ⟨.builtin .append, #[.tmp 31, .tmp 36], #[24, 24]⟩, 24, "l12_cache.go:136", #[⟨1, .data⟩, ⟨6, .data⟩], none⟩) rfl (fun K hK => ?_) AllReadyH.nil
  have O9 := Lib.hid (show sCe.own wc.heap.size wn4 (((⟨za, ma, da, la⟩, ⟨zb, mb, db, lb⟩, ⟨zc, mc, dc_, lc⟩, f0, s0), u0) : Cem) from by have h := OC.out.2.2 (nth L 0) (nth_mem HL0.out); rw [HM0.out] at h; exact h)
  refine step_appK kindCe (B := wc.heap.size) (v := .slice (some ⟨b, 0, none⟩) n cap) (l := L) (m := [(((⟨za, ma, da, la⟩, ⟨zb, mb, db, lb⟩, ⟨zc, mc, dc_, lc⟩, f0, s0), u0) : Cem)]) rfl _ _ (by rfl) Tryz.underlying24 (by rfl) (by rfl) OC.out.2.1 SRC.out (by have := HLN.out; have := HK.out; simp; omega) (by have := HLN.out; have := HK.out; unfold maxLen; simp; omega) C.out.size ?_
  intro v6 wn5 ho6 hg6
  obtain ⟨ad2, n2, cap2, rfl, hn6, -, ho6⟩ := ho6.shapeN
  have HX := Lib.hid (show sCn.own wc.heap.size wn5 (c, ⟨ad2, n2, cap2, L ++ [(((⟨za, ma, da, la⟩, ⟨zb, mb, db, lb⟩, ⟨zc, mc, dc_, lc⟩, f0, s0), u0) : Cem)]⟩) from ⟨trivial, Kd.own_push (k := sCe) (noRow_sCe (by decide) (by decide)) OC.out.2 (fun y hy => by rw [List.mem_singleton.1 hy]; exact O9.out) ho6 hg6⟩)
  have HS2 := Lib.hid (show smC (k + 1) (c, (L ++ [(((⟨za, ma, da, la⟩, ⟨zb, mb, db, lb⟩, ⟨zc, mc, dc_, lc⟩, f0, s0), u0) : Cem)]).map kCe.strip) from smC_snoc HSM.out HIN.out HBK.out)
  replace XK := Lib.hid (blk_row XK.out (by decide) OC.out.2.1 hg6)
  replace XR := Lib.hid (blk_row XR.out (by decide) OC.out.2.1 hg6)
  replace BS := Lib.hid (Nat.le_trans BS.out hg6.size)
  replace C := Lib.hid (C.out.grown OC.out.2.1 hg6)
  clear hn6 ho6 hg6 OC SRC
  clear hHeld
  refine hK.out _ _ ?_ (fun hHeld => ?_)
  ·
   trivial
  clear hK K
  (try simp only [Act.put, Row.pB0, Row.pB1, Row.pB2])
  refine wpAnyH_take (i := 8) (oi := ⟨some 38, .fieldAddr 26 (.tmp 3) 1, 0, "l12_cache.go:136", #[⟨0, .phase⟩, ⟨1, .phase⟩, ⟨2, .phase⟩, ⟨3, .phase⟩, ⟨4, .phase⟩, ⟨5, .phase⟩, ⟨6, .phase⟩, ⟨7, .phase⟩], none⟩) (v := ?_) rfl (by kernel_rfl) (by kernel_rfl) (by kernel_rfl) (fun _ _ _ h => h) (Or.inl ⟨by rfl, ?_⟩) (by assumption) ?_
  rotate_left
  ·
   intro w' hSw; (try dsimp only at hSw); first | (go_simp; done) | (go_simp; with_reducible rfl)
  (try simp only [Act.put, Row.pB0, Row.pB1, Row.pB2])
  refine wpAnyH_ready (rs := [9]) (by kernel_rfl) (by simp) ?_
  refine AllReadyH.cons (o := ⟨none, .store 24 (.tmp 38) (.tmp 37), 0, "l12_cache.go:136", #[⟨8, .data⟩, ⟨7, .data⟩, ⟨7, .chain⟩, ⟨0, .phase⟩, ⟨1, .phase⟩, ⟨2, .phase⟩, ⟨3, .phase⟩, ⟨4, .phase⟩, ⟨5, .phase⟩, ⟨6, .phase⟩, ⟨7, .phase⟩], none⟩) rfl (fun K hK => ?_) AllReadyH.nil
  have r1 := XK.out.cell 1; have t1 := XK.out.frozen 1
  go_simp
  clear hHeld
  refine hK.out _ _ ?_ (fun hHeld => ?_)
  ·
   trivial
  clear hK K
  (try simp only [Act.put, Row.pB0, Row.pB1, Row.pB2])
  refine wpAnyH_done (by kernel_rfl) ?_ _
  exact NoPanic.normal (HQ.out _ _ _ _ _ _ _ _ _ ad2 n2 cap2 _ _ XK.out XR.out HX.out HS2.out C.out)
 refine AllReadyH.cons (o := ⟨some 33, .load 24 (.tmp 32), 24, "l12_cache.go:136", #[⟨2, .data⟩], none⟩) rfl (fun K hK => ?_) AllReadyH.nil
 have q1 := XK.out.cell 1
 go_simp
 clear hHeld
 refine hK.out _ _ ?_ (fun hHeld => ?_)
 ·
  trivial
 clear hK K
 (try simp only [Act.put, Row.pB0, Row.pB1, Row.pB2])
 refine wpAnyH_take (i := 4) (oi := ⟨some 34, .indexAddr 24 (.tmp 33) (.const (Value.int IntKind.i64 0)), 0, "l12_cache.go:136", #[⟨3, .data⟩], none⟩) (v := ?_) rfl (by kernel_rfl) (by kernel_rfl) (by kernel_rfl) (fun _ _ _ h => h) (Or.inl ⟨by rfl, ?_⟩) (by assumption) ?_
 rotate_left
 ·
  intro w' hSw; (try dsimp only at hSw); first | (go_simp; done) | (go_simp; with_reducible rfl)
 (try simp only [Act.put, Row.pB0, Row.pB1, Row.pB2])
 refine wpAnyH_ready (rs := [1, 5]) (by kernel_rfl) (by simp) ?_
 refine AllReadyH.cons (o := ⟨some 31, .load 24 (.tmp 30), 24, "l12_cache.go:136", #[⟨0, .data⟩], none⟩) rfl (fun K hK => ?_) ?_
 ·
  have q1 := XK.out.cell 1
  go_simp
  clear hHeld
  refine hK.out _ _ ?_ (fun hHeld => ?_)
  ·
   trivial
  clear hK K
  (try simp only [Act.put, Row.pB0, Row.pB1, Row.pB2])
  refine wpAnyH_ready (rs := [5]) (by kernel_rfl) (by simp) ?_
  refine AllReadyH.cons (o := ⟨some 35, .load 64 (.tmp 34), 64, "l12_cache.go:136", #[⟨4, .data⟩], none⟩) rfl (fun K hK => ?_) AllReadyH.nil
  have e0 : wd.cell? ⟨b, 0, none⟩ = some (.slice za ma da) := by have h := (ownK_cell szCe_cells OC.out.2.1 HLE.out HL0.out (i := 0) (by decide)).1; rw [HM0.out] at h; exact h
  have e1 : wd.cell? ⟨b, 1, none⟩ = some (.slice zb mb db) := by have h := (ownK_cell szCe_cells OC.out.2.1 HLE.out HL0.out (i := 1) (by decide)).1; rw [HM0.out] at h; exact h
  have e2 : wd.cell? ⟨b, 2, none⟩ = some (.slice zc mc dc_) := by have h := (ownK_cell szCe_cells OC.out.2.1 HLE.out HL0.out (i := 2) (by decide)).1; rw [HM0.out] at h; exact h
  have e3 : wd.cell? ⟨b, 3, none⟩ = some (.int .i64 f0) := by have h := (ownK_cell szCe_cells OC.out.2.1 HLE.out HL0.out (i := 3) (by decide)).1; rw [HM0.out] at h; exact h
  have e4 : wd.cell? ⟨b, 4, none⟩ = some (.int .i64 s0) := by have h := (ownK_cell szCe_cells OC.out.2.1 HLE.out HL0.out (i := 4) (by decide)).1; rw [HM0.out] at h; exact h
  have e5 : wd.cell? ⟨b, 5, none⟩ = some (.int .i64 u0) := by have h := (ownK_cell szCe_cells OC.out.2.1 HLE.out HL0.out (i := 5) (by decide)).1; rw [HM0.out] at h; exact h
  go_simp
  clear hHeld
  refine hK.out _ _ ?_ (fun hHeld => ?_)
  ·
   trivial
  clear hK K
  (try simp only [Act.put, Row.pB0, Row.pB1, Row.pB2])
  refine wpAnyH_ready (rs := [6]) (by kernel_rfl) (by simp) ?_
  refine AllReadyH.cons (o := ⟨some 36, .buildSlice 24 1 #[(0, .tmp 35)], 24, "l12_cache.go:136", #[⟨5, .data⟩], none⟩) rfl (fun K hK => ?_) AllReadyH.nil
  go_simp
  have hb : Below wd.heap.size wd (wd.alloc (.cells #[.slice za ma da, .slice zb mb db, .slice zc mc dc_, .int .i64 f0, .int .i64 s0, .int .i64 u0] 64)) := (Below.refl _ _).alloc (Nat.le_refl _) _
  have SRC := Lib.hid (show HoldsK kCe.cells 6 (wd.alloc (.cells #[.slice za ma da, .slice zb mb db, .slice zc mc dc_, .int .i64 f0, .int .i64 s0, .int .i64 u0] 64)) (.slice (some ⟨wd.heap.size, 0, none⟩) 1 1) [(((⟨za, ma, da, la⟩, ⟨zb, mb, db, lb⟩, ⟨zc, mc, dc_, lc⟩, f0, s0), u0) : Cem)] from holdsK_one szCe_cells 64 wd _)
  replace XK := Lib.hid (XK.out.on hb)
  replace XR := Lib.hid (XR.out.on hb)
  replace OC := Lib.hid (Kd.own_on OC.out hb)
  replace C := Lib.hid (C.out.on hb); replace BS := Lib.hid (Nat.le_trans BS.out hb.size); clear hb
  generalize wd.alloc (.cells #[.slice za ma da, .slice zb mb db, .slice zc mc dc_, .int .i64 f0, .int .i64 s0, .int .i64 u0] 64) = wn10 at *
  clear hHeld
  refine hK.out _ _ ?_ (fun hHeld => ?_)
  ·
   trivial
  clear hK K
  (try simp only [Act.put, Row.pB0, Row.pB1, Row.pB2])
  refine wpAnyH_ready (rs := [7]) (by kernel_rfl) (by simp) ?_
  refine AllReadyH.cons (o := ⟨some 37, .call ⟨.builtin .append, #[.tmp 31, .tmp 36], #[24, 24]⟩, 24, "l12_cache.go:136", #[⟨1, .data⟩, ⟨6, .data⟩], none⟩) rfl (fun K hK => ?_) AllReadyH.nil
  have O9 := Lib.hid (show sCe.own wc.heap.size wn10 (((⟨za, ma, da, la⟩, ⟨zb, mb, db, lb⟩, ⟨zc, mc, dc_, lc⟩, f0, s0), u0) : Cem) from by have h := OC.out.2.2 (nth L 0) (nth_mem HL0.out); rw [HM0.out] at h; exact h)
  refine step_appK kindCe (B := wc.heap.size) (v := .slice (some ⟨b, 0, none⟩) n cap) (l := L) (m := [(((⟨za, ma, da, la⟩, ⟨zb, mb, db, lb⟩, ⟨zc, mc, dc_, lc⟩, f0, s0), u0) : Cem)]) rfl _ _ (by rfl) Tryz.underlying24 (by rfl) (by rfl) OC.out.2.1 SRC.out (by have := HLN.out; have := HK.out; simp; omega) (by have := HLN.out; have := HK.out; unfold maxLen; simp; omega) C.out.size ?_
  intro v6 wn11 ho6 hg6
  obtain ⟨ad2, n2, cap2, rfl, hn6, -, ho6⟩ := ho6.shapeN
  have HX := Lib.hid (show sCn.own wc.heap.size wn11 (c, ⟨ad2, n2, cap2, L ++ [(((⟨za, ma, da, la⟩, ⟨zb, mb, db, lb⟩, ⟨zc, mc, dc_, lc⟩, f0, s0), u0) : Cem)]⟩) from ⟨trivial, Kd.own_push (k := sCe) (noRow_sCe (by decide) (by decide)) OC.out.2 (fun y hy => by rw [List.mem_singleton.1 hy]; exact O9.out) ho6 hg6⟩)
  have HS2 := Lib.hid (show smC (k + 1) (c, (L ++ [(((⟨za, ma, da, la⟩, ⟨zb, mb, db, lb⟩, ⟨zc, mc, dc_, lc⟩, f0, s0), u0) : Cem)]).map kCe.strip) from smC_snoc HSM.out HIN.out HBK.out)
  replace XK := Lib.hid (blk_row XK.out (by decide) OC.out.2.1 hg6)
  replace XR := Lib.hid (blk_row XR.out (by decide) OC.out.2.1 hg6)
  replace BS := Lib.hid (Nat.le_trans BS.out hg6.size)
  replace C := Lib.hid (C.out.grown OC.out.2.1 hg6)
  clear hn6 ho6 hg6 OC SRC
  clear hHeld
  refine hK.out _ _ ?_ (fun hHeld => ?_)
  ·
   trivial
  clear hK K
  (try simp only [Act.put, Row.pB0, Row.pB1, Row.pB2])
  refine wpAnyH_take (i := 8) (oi := ⟨some 38, .fieldAddr 26 (.tmp 3) 1, 0, "l12_cache.go:136", #[⟨0, .phase⟩, ⟨1, .phase⟩, ⟨2, .phase⟩, ⟨3, .phase⟩, ⟨4, .phase⟩, ⟨5, .phase⟩, ⟨6, .phase⟩, ⟨7, .phase⟩], none⟩) (v := ?_) rfl (by kernel_rfl) (by kernel_rfl) (by kernel_rfl) (fun _ _ _ h => h) (Or.inl ⟨by rfl, ?_⟩) (by assumption) ?_
  rotate_left
  ·
   intro w' hSw; (try dsimp only at hSw); first | (go_simp; done) | (go_simp; with_reducible rfl)
  (try simp only [Act.put, Row.pB0, Row.pB1, Row.pB2])
  refine wpAnyH_ready (rs := [9]) (by kernel_rfl) (by simp) ?_
  refine AllReadyH.cons (o := ⟨none, .store 24 (.tmp 38) (.tmp 37), 0, "l12_cache.go:136", #[⟨8, .data⟩, ⟨7, .data⟩, ⟨7, .chain⟩, ⟨0, .phase⟩, ⟨1, .phase⟩, ⟨2, .phase⟩, ⟨3, .phase⟩, ⟨4, .phase⟩, ⟨5, .phase⟩, ⟨6, .phase⟩, ⟨7, .phase⟩], none⟩) rfl (fun K hK => ?_) AllReadyH.nil
  have r1 := XK.out.cell 1; have t1 := XK.out.frozen 1
  go_simp
  clear hHeld
  refine hK.out _ _ ?_ (fun hHeld => ?_)
  ·
   trivial
  clear hK K
  (try simp only [Act.put, Row.pB0, Row.pB1, Row.pB2])
  refine wpAnyH_done (by kernel_rfl) ?_ _
  exact NoPanic.normal (HQ.out _ _ _ _ _ _ _ _ _ ad2 n2 cap2 _ _ XK.out XR.out HX.out HS2.out C.out)
 refine AllReadyH.cons (o := ⟨some 35, .load 64 (.tmp 34), 64, "l12_cache.go:136", #[⟨4, .data⟩], none⟩) rfl (fun K hK => ?_) AllReadyH.nil
 have e0 : wd.cell? ⟨b, 0, none⟩ = some (.slice za ma da) := by have h := (ownK_cell szCe_cells OC.out.2.1 HLE.out HL0.out (i := 0) (by decide)).1; rw [HM0.out] at h; exact h
 have e1 : wd.cell? ⟨b, 1, none⟩ = some (.slice zb mb db) := by have h := (ownK_cell szCe_cells OC.out.2.1 HLE.out HL0.out (i := 1) (by decide)).1; rw [HM0.out] at h; exact h
 have e2 : wd.cell? ⟨b, 2, none⟩ = some (.slice zc mc dc_) := by have h := (ownK_cell szCe_cells OC.out.2.1 HLE.out HL0.out (i := 2) (by decide)).1; rw [HM0.out] at h; exact h
 have e3 : wd.cell? ⟨b, 3, none⟩ = some (.int .i64 f0) := by have h := (ownK_cell szCe_cells OC.out.2.1 HLE.out HL0.out (i := 3) (by decide)).1; rw [HM0.out] at h; exact h
 have e4 : wd.cell? ⟨b, 4, none⟩ = some (.int .i64 s0) := by have h := (ownK_cell szCe_cells OC.out.2.1 HLE.out HL0.out (i := 4) (by decide)).1; rw [HM0.out] at h; exact h
 have e5 : wd.cell? ⟨b, 5, none⟩ = some (.int .i64 u0) := by have h := (ownK_cell szCe_cells OC.out.2.1 HLE.out HL0.out (i := 5) (by decide)).1; rw [HM0.out] at h; exact h
 go_simp
 clear hHeld
 refine hK.out _ _ ?_ (fun hHeld => ?_)
 ·
  trivial
 clear hK K
 (try simp only [Act.put, Row.pB0, Row.pB1, Row.pB2])
 refine wpAnyH_ready (rs := [1, 6]) (by kernel_rfl) (by simp) ?_
 refine AllReadyH.cons (o := ⟨some 31, .load 24 (.tmp 30), 24, "l12_cache.go:136", #[⟨0, .data⟩], none⟩) rfl (fun K hK => ?_) ?_
 ·
  have q1 := XK.out.cell 1
  go_simp
  clear hHeld
  refine hK.out _ _ ?_ (fun hHeld => ?_)
  ·
   trivial
  clear hK K
  (try simp only [Act.put, Row.pB0, Row.pB1, Row.pB2])
  refine wpAnyH_ready (rs := [6]) (by kernel_rfl) (by simp) ?_
  refine AllReadyH.cons (o := ⟨some 36, .buildSlice 24 1 #[(0, .tmp 35)], 24, "l12_cache.go:136", #[⟨5, .data⟩], none⟩) rfl (fun K hK => ?_) AllReadyH.nil
  go_simp
  have hb : Below wd.heap.size wd (wd.alloc (.cells #[.slice za ma da, .slice zb mb db, .slice zc mc dc_, .int .i64 f0, .int .i64 s0, .int .i64 u0] 64)) := (Below.refl _ _).alloc (Nat.le_refl _) _
  have SRC := Lib.hid (show HoldsK kCe.cells 6 (wd.alloc (.cells #[.slice za ma da, .slice zb mb db, .slice zc mc dc_, .int .i64 f0, .int .i64 s0, .int .i64 u0] 64)) (.slice (some ⟨wd.heap.size, 0, none⟩) 1 1) [(((⟨za, ma, da, la⟩, ⟨zb, mb, db, lb⟩, ⟨zc, mc, dc_, lc⟩, f0, s0), u0) : Cem)] from holdsK_one szCe_cells 64 wd _)
  replace XK := Lib.hid (XK.out.on hb)
  replace XR := Lib.hid (XR.out.on hb)
  replace OC := Lib.hid (Kd.own_on OC.out hb)
  replace C := Lib.hid (C.out.on hb); replace BS := Lib.hid (Nat.le_trans BS.out hb.size); clear hb
  generalize wd.alloc (.cells #[.slice za ma da, .slice zb mb db, .slice zc mc dc_, .int .i64 f0, .int .i64 s0, .int .i64 u0] 64) = wn15 at *
  clear hHeld
  refine hK.out _ _ ?_ (fun hHeld => ?_)
  ·
   trivial
  clear hK K
  (try simp only [Act.put, Row.pB0, Row.pB1, Row.pB2])
  refine wpAnyH_ready (rs := [7]) (by kernel_rfl) (by simp) ?_
  refine AllReadyH.cons (o := ⟨some 37, .call ⟨.builtin .append, #[.tmp 31, .tmp 36], #[24, 24]⟩, 24, "l12_cache.go:136", #[⟨1, .data⟩, ⟨6, .data⟩], none⟩) rfl (fun K hK => ?_) AllReadyH.nil
  have O9 := Lib.hid (show sCe.own wc.heap.size wn15 (((⟨za, ma, da, la⟩, ⟨zb, mb, db, lb⟩, ⟨zc, mc, dc_, lc⟩, f0, s0), u0) : Cem) from by have h := OC.out.2.2 (nth L 0) (nth_mem HL0.out); rw [HM0.out] at h; exact h)
  refine step_appK kindCe (B := wc.heap.size) (v := .slice (some ⟨b, 0, none⟩) n cap) (l := L) (m := [(((⟨za, ma, da, la⟩, ⟨zb, mb, db, lb⟩, ⟨zc, mc, dc_, lc⟩, f0, s0), u0) : Cem)]) rfl _ _ (by rfl) Tryz.underlying24 (by rfl) (by rfl) OC.out.2.1 SRC.out (by have := HLN.out; have := HK.out; simp; omega) (by have := HLN.out; have := HK.out; unfold maxLen; simp; omega) C.out.size ?_
  intro v6 wn16 ho6 hg6
  obtain ⟨ad2, n2, cap2, rfl, hn6, -, ho6⟩ := ho6.shapeN
  have HX := Lib.hid (show sCn.own wc.heap.size wn16 (c, ⟨ad2, n2, cap2, L ++ [(((⟨za, ma, da, la⟩, ⟨zb, mb, db, lb⟩, ⟨zc, mc, dc_, lc⟩, f0, s0), u0) : Cem)]⟩) from ⟨trivial, Kd.own_push (k := sCe) (noRow_sCe (by decide) (by decide)) OC.out.2 (fun y hy => by rw [List.mem_singleton.1 hy]; exact O9.out) ho6 hg6⟩)
  have HS2 := Lib.hid (show smC (k + 1) (c, (L ++ [(((⟨za, ma, da, la⟩, ⟨zb, mb, db, lb⟩, ⟨zc, mc, dc_, lc⟩, f0, s0), u0) : Cem)]).map kCe.strip) from smC_snoc HSM.out HIN.out HBK.out)
  replace XK := Lib.hid (blk_row XK.out (by decide) OC.out.2.1 hg6)
  replace XR := Lib.hid (blk_row XR.out (by decide) OC.out.2.1 hg6)
  replace BS := Lib.hid (Nat.le_trans BS.out hg6.size)
  replace C := Lib.hid (C.out.grown OC.out.2.1 hg6)
  clear hn6 ho6 hg6 OC SRC
  clear hHeld
  refine hK.out _ _ ?_ (fun hHeld => ?_)
  ·
   trivial
  clear hK K
  (try simp only [Act.put, Row.pB0, Row.pB1, Row.pB2])
  refine wpAnyH_take (i := 8) (oi := ⟨some 38, .fieldAddr 26 (.tmp 3) 1, 0, "l12_cache.go:136", #[⟨0, .phase⟩, ⟨1, .phase⟩, ⟨2, .phase⟩, ⟨3, .phase⟩, ⟨4, .phase⟩, ⟨5, .phase⟩, ⟨6, .phase⟩, ⟨7, .phase⟩], none⟩) (v := ?_) rfl (by kernel_rfl) (by kernel_rfl) (by kernel_rfl) (fun _ _ _ h => h) (Or.inl ⟨by rfl, ?_⟩) (by assumption) ?_
  rotate_left
  ·
   intro w' hSw; (try dsimp only at hSw); first | (go_simp; done) | (go_simp; with_reducible rfl)
  (try simp only [Act.put, Row.pB0, Row.pB1, Row.pB2])
  refine wpAnyH_ready (rs := [9]) (by kernel_rfl) (by simp) ?_
  refine AllReadyH.cons (o := ⟨none, .store 24 (.tmp 38) (.tmp 37), 0, "l12_cache.go:136", #[⟨8, .data⟩, ⟨7, .data⟩, ⟨7, .chain⟩, ⟨0, .phase⟩, ⟨1, .phase⟩, ⟨2, .phase⟩, ⟨3, .phase⟩, ⟨4, .phase⟩, ⟨5, .phase⟩, ⟨6, .phase⟩, ⟨7, .phase⟩], none⟩) rfl (fun K hK => ?_) AllReadyH.nil
  have r1 := XK.out.cell 1; have t1 := XK.out.frozen 1
  go_simp
  clear hHeld
  refine hK.out _ _ ?_ (fun hHeld => ?_)
  ·
   trivial
  clear hK K
  (try simp only [Act.put, Row.pB0, Row.pB1, Row.pB2])
  refine wpAnyH_done (by kernel_rfl) ?_ _
  exact NoPanic.normal (HQ.out _ _ _ _ _ _ _ _ _ ad2 n2 cap2 _ _ XK.out XR.out HX.out HS2.out C.out)
 refine AllReadyH.cons (o := ⟨some 36, .buildSlice 24 1 #[(0, .tmp 35)], 24, "l12_cache.go:136", #[⟨5, .data⟩], none⟩) rfl (fun K hK => ?_) AllReadyH.nil
 go_simp
 have hb : Below wd.heap.size wd (wd.alloc (.cells #[.slice za ma da, .slice zb mb db, .slice zc mc dc_, .int .i64 f0, .int .i64 s0, .int .i64 u0] 64)) := (Below.refl _ _).alloc (Nat.le_refl _) _
 have SRC := Lib.hid (show HoldsK kCe.cells 6 (wd.alloc (.cells #[.slice za ma da, .slice zb mb db, .slice zc mc dc_, .int .i64 f0, .int .i64 s0, .int .i64 u0] 64)) (.slice (some ⟨wd.heap.size, 0, none⟩) 1 1) [(((⟨za, ma, da, la⟩, ⟨zb, mb, db, lb⟩, ⟨zc, mc, dc_, lc⟩, f0, s0), u0) : Cem)] from holdsK_one szCe_cells 64 wd _)
 replace XK := Lib.hid (XK.out.on hb)
 replace XR := Lib.hid (XR.out.on hb)
 replace OC := Lib.hid (Kd.own_on OC.out hb)
 replace C := Lib.hid (C.out.on hb); replace BS := Lib.hid (Nat.le_trans BS.out hb.size); clear hb
 generalize wd.alloc (.cells #[.slice za ma da, .slice zb mb db, .slice zc mc dc_, .int .i64 f0, .int .i64 s0, .int .i64 u0] 64) = wn18 at *
 clear hHeld
 refine hK.out _ _ ?_ (fun hHeld => ?_)
 ·
  trivial
 clear hK K
 (try simp only [Act.put, Row.pB0, Row.pB1, Row.pB2])
 refine wpAnyH_ready (rs := [1]) (by kernel_rfl) (by simp) ?_
 refine AllReadyH.cons (o := ⟨some 31, .load 24 (.tmp 30), 24, "l12_cache.go:136", #[⟨0, .data⟩], none⟩) rfl (fun K hK => ?_) AllReadyH.nil
 have q1 := XK.out.cell 1
 go_simp
 clear hHeld
 refine hK.out _ _ ?_ (fun hHeld => ?_)
 ·
  trivial
 clear hK K
 (try simp only [Act.put, Row.pB0, Row.pB1, Row.pB2])
 refine wpAnyH_ready (rs := [7]) (by kernel_rfl) (by simp) ?_
 refine AllReadyH.cons (o := ⟨some 37, .call ⟨.builtin .append, #[.tmp 31, .tmp 36], #[24, 24]⟩, 24, "l12_cache.go:136", #[⟨1, .data⟩, ⟨6, .data⟩], none⟩) rfl (fun K hK => ?_) AllReadyH.nil
 have O9 := Lib.hid (show sCe.own wc.heap.size wn18 (((⟨za, ma, da, la⟩, ⟨zb, mb, db, lb⟩, ⟨zc, mc, dc_, lc⟩, f0, s0), u0) : Cem) from by have h := OC.out.2.2 (nth L 0) (nth_mem HL0.out); rw [HM0.out] at h; exact h)
 refine step_appK kindCe (B := wc.heap.size) (v := .slice (some ⟨b, 0, none⟩) n cap) (l := L) (m := [(((⟨za, ma, da, la⟩, ⟨zb, mb, db, lb⟩, ⟨zc, mc, dc_, lc⟩, f0, s0), u0) : Cem)]) rfl _ _ (by rfl) Tryz.underlying24 (by rfl) (by rfl) OC.out.2.1 SRC.out (by have := HLN.out; have := HK.out; simp; omega) (by have := HLN.out; have := HK.out; unfold maxLen; simp; omega) C.out.size ?_
 intro v6 wn20 ho6 hg6
 obtain ⟨ad2, n2, cap2, rfl, hn6, -, ho6⟩ := ho6.shapeN
 have HX := Lib.hid (show sCn.own wc.heap.size wn20 (c, ⟨ad2, n2, cap2, L ++ [(((⟨za, ma, da, la⟩, ⟨zb, mb, db, lb⟩, ⟨zc, mc, dc_, lc⟩, f0, s0), u0) : Cem)]⟩) from ⟨trivial, Kd.own_push (k := sCe) (noRow_sCe (by decide) (by decide)) OC.out.2 (fun y hy => by rw [List.mem_singleton.1 hy]; exact O9.out) ho6 hg6⟩)
 have HS2 := Lib.hid (show smC (k + 1) (c, (L ++ [(((⟨za, ma, da, la⟩, ⟨zb, mb, db, lb⟩, ⟨zc, mc, dc_, lc⟩, f0, s0), u0) : Cem)]).map kCe.strip) from smC_snoc HSM.out HIN.out HBK.out)
 replace XK := Lib.hid (blk_row XK.out (by decide) OC.out.2.1 hg6)
 replace XR := Lib.hid (blk_row XR.out (by decide) OC.out.2.1 hg6)
 replace BS := Lib.hid (Nat.le_trans BS.out hg6.size)
 replace C := Lib.hid (C.out.grown OC.out.2.1 hg6)
 clear hn6 ho6 hg6 OC SRC
 clear hHeld
 refine hK.out _ _ ?_ (fun hHeld => ?_)
 ·
  trivial
 clear hK K
 (try simp only [Act.put, Row.pB0, Row.pB1, Row.pB2])
 refine wpAnyH_take (i := 8) (oi := ⟨some 38, .fieldAddr 26 (.tmp 3) 1, 0, "l12_cache.go:136", #[⟨0, .phase⟩, ⟨1, .phase⟩, ⟨2, .phase⟩, ⟨3, .phase⟩, ⟨4, .phase⟩, ⟨5, .phase⟩, ⟨6, .phase⟩, ⟨7, .phase⟩], none⟩) (v := ?_) rfl (by kernel_rfl) (by kernel_rfl) (by kernel_rfl) (fun _ _ _ h => h) (Or.inl ⟨by rfl, ?_⟩) (by assumption) ?_
 rotate_left
 ·
  intro w' hSw; (try dsimp only at hSw); first | (go_simp; done) | (go_simp; with_reducible rfl)
 (try simp only [Act.put, Row.pB0, Row.pB1, Row.pB2])
 refine wpAnyH_ready (rs := [9]) (by kernel_rfl) (by simp) ?_
 refine AllReadyH.cons (o := ⟨none, .store 24 (.tmp 38) (.tmp 37), 0, "l12_cache.go:136", #[⟨8, .data⟩, ⟨7, .data⟩, ⟨7, .chain⟩, ⟨0, .phase⟩, ⟨1, .phase⟩, ⟨2, .phase⟩, ⟨3, .phase⟩, ⟨4, .phase⟩, ⟨5, .phase⟩, ⟨6, .phase⟩, ⟨7, .phase⟩], none⟩) rfl (fun K hK => ?_) AllReadyH.nil
 have r1 := XK.out.cell 1; have t1 := XK.out.frozen 1
 go_simp
 clear hHeld
 refine hK.out _ _ ?_ (fun hHeld => ?_)
 ·
  trivial
 clear hK K
 (try simp only [Act.put, Row.pB0, Row.pB1, Row.pB2])
 refine wpAnyH_done (by kernel_rfl) ?_ _
 exact NoPanic.normal (HQ.out _ _ _ _ _ _ _ _ _ ad2 n2 cap2 _ _ XK.out XR.out HX.out HS2.out C.out)
set_option maxHeartbeats 8000000 in
theorem l12Any (w0 : World) (p : Nat) (v : Value) (l : List UInt8) (w : World) (hc : Cur w0 p v l w) :
    Calls Tryz.prog 31 #[.pointer (some ⟨p, 0, none⟩)] w (DrawnW w0 p v l w (StoreD 15 w.heap.size)) := by
  have ds := Lib.hid ((DS.start hc).alloc (.cells #[.int .i64 0, .slice none 0 0] 26))
  have hR := Lib.hid (Blk.new w #[.int .i64 0, .slice none 0 0] 26)
  have HF := Lib.hid (l12Draw w0 p v l (w.alloc (.cells #[.int .i64 0, .slice none 0 0] 26)) ds.out.cur)
  have HPL := Lib.hid hc.lt
  have HWP := Lib.hid (show w.heap.size ≠ p from by have := HPL.out; omega)
  have HS0 := Lib.hid ds.out.size
  clear hc
  go_enter Tryz.func31, Tryz.ntmps31
  go_wp2_with fail
  refine HF.out.mono ?_
  rintro e w1 ⟨y_, rfl, ⟨c, ad, n, cap, L, rfl, hO, hM⟩, hc1, hk1⟩
  have hal := (Below.refl w1.heap.size w1).alloc (Nat.le_refl _) (.cells #[.int .i64 c, .slice ad n cap] 26)
  replace hO := Lib.hid (Kd.own_on (sCn.own_mono hO HS0.out) hal); replace hM := Lib.hid hM
  replace ds := Lib.hid (ds.out.step hc1 hk1); replace hR := Lib.hid (blk_keep hR.out hk1 HWP.out)
  have hX := Lib.hid (Blk.new w1 #[.int .i64 c, .slice ad n cap] 26)
  have HGW := Lib.hid (show w1.heap.size ≠ w.heap.size from by have := hR.out.lt; omega)
  have HGS := Lib.hid ds.out.size
  have HGP := Lib.hid (show w1.heap.size ≠ p from by have := HPL.out; have := HGS.out; omega)
  replace ds := Lib.hid (ds.out.on hal); replace hR := Lib.hid (hR.out.on hal)
  have HF3 := Lib.hid (below w0 p v l (w1.alloc (.cells #[.int .i64 c, .slice ad n cap] 26)) 10 ds.out.cur)
  clear HF hal hc1 hk1 HS0
  go_wp2_with fail
  refine HF3.out.mono ?_
  rintro e w4 ⟨y_, rfl, ⟨r, rfl, hr, -⟩, hc4, hk4⟩
  clear hr
  replace ds := Lib.hid (ds.out.step hc4 hk4); replace hR := Lib.hid (blk_keep hR.out hk4 HWP.out); replace hX := Lib.hid (blk_keep hX.out hk4 HGP.out); replace hO := Lib.hid (Kd.own_cur hO.out hk4 HPL.out)
  obtain ⟨g, hg⟩ : ∃ g, w1.heap.size = g := ⟨_, rfl⟩
  rw [hg] at hX HGW HGS HGP ⊢
  clear HF3 hc4 hk4 hg
  by_cases h0 : r = 0
  · have t0 : (r == 0) = true := by simp [h0]
    have HF := Lib.hid (intLit2 w0 p v l w4 ds.out.cur [-1, 0, 8, 9] #[.int .i64 (-1), .int .i64 0, .int .i64 8, .int .i64 9] rfl 4 rfl (by decide) (by decide) (-1) 9 (by simp))
    clear h0
    go_wp2_with fail
    refine HF.out.mono ?_
    rintro e w5 ⟨y_, rfl, ⟨q, rfl, hq1, hq2⟩, hc5, hk5⟩
    replace ds := Lib.hid (ds.out.step hc5 hk5); replace hR := Lib.hid (blk_keep hR.out hk5 HWP.out); replace hX := Lib.hid (blk_keep hX.out hk5 HGP.out); replace hO := Lib.hid (Kd.own_cur hO.out hk5 HPL.out)
    have x0 := hX.out.cell 0; have y0 := hX.out.frozen 0
    have z1 := Kd.own_setT (i := 0) (u := .int .i64 q) (noRow_sCn (by decide) (by decide) (by decide)) (show sCn.own w.heap.size w5 (q, ⟨ad, n, cap, L⟩) from ⟨trivial, hO.out.2⟩) hX.out
    have z2 := hX.out.set 0 (.int .i64 q)
    have z3 := hR.out.other (a := ⟨g, 0, none⟩) HGW.out (.int .i64 q)
    have z4 := ds.out.set (g := g) (i := 0) (u := .int .i64 q) HGS.out
    have z5 : smC 14 (q, L.map kCe.strip) := ⟨wf_of (by omega) (by omega), hM.out.2⟩
    replace hO := Lib.hid z1; replace hX := Lib.hid z2; replace hR := Lib.hid z3; replace ds := Lib.hid z4; replace hM := Lib.hid z5
    clear z1 z2 z3 z4 z5 hc5 hk5 HF
    go_upto_region 10 with fail
    generalize w5.setCell ⟨g, 0, none⟩ (.int .i64 q) = V at *
    clear x0 y0
    have q0 := hX.out.cell 0; have q1 := hX.out.cell 1; have r0 := hR.out.cell 0; have r1 := hR.out.cell 1; have t0 := hR.out.frozen 0; have t1 := hR.out.frozen 1
    have z := (hR.out.set 0 (.int .i64 q)).set 1 (.slice ad n cap)
    have HZ := Lib.hid z
    have hO2 := Lib.hid (Kd.own_setT (i := 1) (u := .slice ad n cap) (noRow_sCn (by decide) (by decide) (by decide)) (Kd.own_setT (i := 0) (u := .int .i64 q) (noRow_sCn (by decide) (by decide) (by decide)) hO.out hR.out) (hR.out.set 0 (.int .i64 q)))
    have ds2 := Lib.hid ((ds.out.set (g := w.heap.size) (i := 0) (u := .int .i64 q) (Nat.le_refl _)).set (g := w.heap.size) (i := 1) (u := .slice ad n cap) (Nat.le_refl _))
    clear z
    go_wp2_with fail
    refine bodyPost_ret (Ret.results_c rfl _ _ w.heap.size [.int .i64 q, .slice ad n cap] rfl aggCn HZ.out.cells) rfl ?_
    exact ⟨_, rfl, ⟨q, ad, n, cap, L, rfl, hO2.out, hM.out.mono (by decide)⟩, ds2.out.cur, ds2.out.keep⟩
  · have t0 : (r == 0) = false := by simpa using h0
    clear h0
    by_cases h1 : r = 1
    · have t1 : (r == 1) = true := by simp [h1]
      clear h1
      go_upto_region 6 with fail
      refine c12c ds hX hO HGP hM (Lib.hid (by decide)) hR HWP ?_
      intro u16 u17 u18 u19 u20 u21 u22 u23 ad2 n2 cap2 L2 wx xk xr ok sm ds9
      have z1 := Kd.own_setT (i := 1) (u := .slice ad2 n2 cap2) (noRow_sCn (by decide) (by decide) (by decide)) ok xk
      have z2 := xk.set 1 (.slice ad2 n2 cap2)
      have z3 := xr.other (a := ⟨g, 1, none⟩) HGW.out (.slice ad2 n2 cap2)
      have z4 := ds9.set (g := g) (i := 1) (u := .slice ad2 n2 cap2) HGS.out
      replace hO := Lib.hid z1; replace hX := Lib.hid z2; replace hR := Lib.hid z3; replace ds := Lib.hid z4; replace hM := Lib.hid sm
      generalize wx.setCell ⟨g, 1, none⟩ (.slice ad2 n2 cap2) = V at *
      clear z1 z2 z3 z4 xk xr ok sm ds9
      have q0 := hX.out.cell 0; have q1 := hX.out.cell 1; have r0 := hR.out.cell 0; have r1 := hR.out.cell 1; have t0 := hR.out.frozen 0; have t1 := hR.out.frozen 1
      have z := (hR.out.set 0 (.int .i64 c)).set 1 (.slice ad2 n2 cap2)
      have HZ := Lib.hid z
      have hO2 := Lib.hid (Kd.own_setT (i := 1) (u := .slice ad2 n2 cap2) (noRow_sCn (by decide) (by decide) (by decide)) (Kd.own_setT (i := 0) (u := .int .i64 c) (noRow_sCn (by decide) (by decide) (by decide)) hO.out hR.out) (hR.out.set 0 (.int .i64 c)))
      have ds2 := Lib.hid ((ds.out.set (g := w.heap.size) (i := 0) (u := .int .i64 c) (Nat.le_refl _)).set (g := w.heap.size) (i := 1) (u := .slice ad2 n2 cap2) (Nat.le_refl _))
      clear z
      go_wp2_with fail
      refine bodyPost_ret (Ret.results_c rfl _ _ w.heap.size [.int .i64 c, .slice ad2 n2 cap2] rfl aggCn HZ.out.cells) rfl ?_
      exact ⟨_, rfl, ⟨c, ad2, n2, cap2, L2, rfl, hO2.out, hM.out.mono (by decide)⟩, ds2.out.cur, ds2.out.keep⟩
    · have t1 : (r == 1) = false := by simpa using h1
      clear h1
      by_cases h2 : r = 2
      · have t2 : (r == 2) = true := by simp [h2]
        have q1 := hX.out.cell 1
        clear h2
        by_cases hn : 0 < n
        · have hn2 : (0 : Int) < (n : Int) := by omega
          obtain ⟨b, rfl⟩ : ∃ b, ad = some ⟨b, 0, none⟩ := by
            rcases hO.out.2.1.2 with ⟨hv, -⟩ | ⟨g2, cap3, cur, hv, -⟩
            · have hv : Value.slice ad n cap = .slice none 0 0 := hv
              injection hv with e1 e2 e3
              omega
            · have hv : Value.slice ad n cap = .slice (some ⟨g2, 0, none⟩) L.length cap3 := hv
              injection hv with e1 e2 e3
              exact ⟨g2, e1⟩
          have hll : n = L.length := hO.out.2.1.holds.lenEq
          obtain ⟨m, hm⟩ : ∃ m, nth L 0 = m := ⟨_, rfl⟩
          obtain ⟨⟨⟨za, ma, da, la⟩, ⟨zb, mb, db, lb⟩, ⟨zc, mc, dc_, lc⟩, f0, s0⟩, u0⟩ := m
          go_upto_region 9 with fail
          clear q1
          refine c12d ds hX hO HGP hM (Lib.hid (by decide)) hR HWP (Lib.hid hm) (Lib.hid (by omega)) (Lib.hid hll) hn ?_
          intro u30 u31 u32 u33 u34 u35 u36 u37 u38 ad2 n2 cap2 L2 wx xk xr ok sm ds9
          have z1 := Kd.own_setT (i := 1) (u := .slice ad2 n2 cap2) (noRow_sCn (by decide) (by decide) (by decide)) ok xk
          have z2 := xk.set 1 (.slice ad2 n2 cap2)
          have z3 := xr.other (a := ⟨g, 1, none⟩) HGW.out (.slice ad2 n2 cap2)
          have z4 := ds9.set (g := g) (i := 1) (u := .slice ad2 n2 cap2) HGS.out
          replace hO := Lib.hid z1; replace hX := Lib.hid z2; replace hR := Lib.hid z3; replace ds := Lib.hid z4; replace hM := Lib.hid sm
          generalize wx.setCell ⟨g, 1, none⟩ (.slice ad2 n2 cap2) = V at *
          clear z1 z2 z3 z4 xk xr ok sm ds9
          clear hll hm
          have q0 := hX.out.cell 0; have q1 := hX.out.cell 1; have r0 := hR.out.cell 0; have r1 := hR.out.cell 1; have t0 := hR.out.frozen 0; have t1 := hR.out.frozen 1
          have z := (hR.out.set 0 (.int .i64 c)).set 1 (.slice ad2 n2 cap2)
          have HZ := Lib.hid z
          have hO2 := Lib.hid (Kd.own_setT (i := 1) (u := .slice ad2 n2 cap2) (noRow_sCn (by decide) (by decide) (by decide)) (Kd.own_setT (i := 0) (u := .int .i64 c) (noRow_sCn (by decide) (by decide) (by decide)) hO.out hR.out) (hR.out.set 0 (.int .i64 c)))
          have ds2 := Lib.hid ((ds.out.set (g := w.heap.size) (i := 0) (u := .int .i64 c) (Nat.le_refl _)).set (g := w.heap.size) (i := 1) (u := .slice ad2 n2 cap2) (Nat.le_refl _))
          clear z
          go_wp2_with fail
          refine bodyPost_ret (Ret.results_c rfl _ _ w.heap.size [.int .i64 c, .slice ad2 n2 cap2] rfl aggCn HZ.out.cells) rfl ?_
          exact ⟨_, rfl, ⟨c, ad2, n2, cap2, L2, rfl, hO2.out, hM.out.mono (by decide)⟩, ds2.out.cur, ds2.out.keep⟩
        · have hn2 : ¬ (0 : Int) < (n : Int) := by omega
          have q0 := hX.out.cell 0; have q1 := hX.out.cell 1; have r0 := hR.out.cell 0; have r1 := hR.out.cell 1; have t0 := hR.out.frozen 0; have t1 := hR.out.frozen 1
          have z := (hR.out.set 0 (.int .i64 c)).set 1 (.slice ad n cap)
          have HZ := Lib.hid z
          have hO2 := Lib.hid (Kd.own_setT (i := 1) (u := .slice ad n cap) (noRow_sCn (by decide) (by decide) (by decide)) (Kd.own_setT (i := 0) (u := .int .i64 c) (noRow_sCn (by decide) (by decide) (by decide)) hO.out hR.out) (hR.out.set 0 (.int .i64 c)))
          have ds2 := Lib.hid ((ds.out.set (g := w.heap.size) (i := 0) (u := .int .i64 c) (Nat.le_refl _)).set (g := w.heap.size) (i := 1) (u := .slice ad n cap) (Nat.le_refl _))
          clear z
          go_wp2_with fail
          refine bodyPost_ret (Ret.results_c rfl _ _ w.heap.size [.int .i64 c, .slice ad n cap] rfl aggCn HZ.out.cells) rfl ?_
          exact ⟨_, rfl, ⟨c, ad, n, cap, L, rfl, hO2.out, hM.out.mono (by decide)⟩, ds2.out.cur, ds2.out.keep⟩
      · have t2 : (r == 2) = false := by simpa using h2
        clear h2
        have q0 := hX.out.cell 0; have q1 := hX.out.cell 1; have r0 := hR.out.cell 0; have r1 := hR.out.cell 1; have t0 := hR.out.frozen 0; have t1 := hR.out.frozen 1
        have z := (hR.out.set 0 (.int .i64 c)).set 1 (.slice ad n cap)
        have HZ := Lib.hid z
        have hO2 := Lib.hid (Kd.own_setT (i := 1) (u := .slice ad n cap) (noRow_sCn (by decide) (by decide) (by decide)) (Kd.own_setT (i := 0) (u := .int .i64 c) (noRow_sCn (by decide) (by decide) (by decide)) hO.out hR.out) (hR.out.set 0 (.int .i64 c)))
        have ds2 := Lib.hid ((ds.out.set (g := w.heap.size) (i := 0) (u := .int .i64 c) (Nat.le_refl _)).set (g := w.heap.size) (i := 1) (u := .slice ad n cap) (Nat.le_refl _))
        clear z
        go_wp2_with fail
        refine bodyPost_ret (Ret.results_c rfl _ _ w.heap.size [.int .i64 c, .slice ad n cap] rfl aggCn HZ.out.cells) rfl ?_
        exact ⟨_, rfl, ⟨c, ad, n, cap, L, rfl, hO2.out, hM.out.mono (by decide)⟩, ds2.out.cur, ds2.out.keep⟩
end Go.Proofs.YtfglcmanmfenpaaGreat.Draw
