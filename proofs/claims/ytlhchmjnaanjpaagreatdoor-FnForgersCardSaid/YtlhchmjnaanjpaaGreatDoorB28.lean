/- Contracts and mathematics, joined: RegF11. No conditions but those that each states. -/
import Derived.WalkKit
import Derived.Deep.RegionHeld3
import Derived.Test.YtlhchmjnaanjpaaGreatDoorB24
import Derived.Test.YtlhchmjnaanjpaaGreatDoorB26
import Derived.Test.YtlhchmjnaanjpaaGreatDoorB27
/- FnForgers: its regions whose order is drawn. No conditions. -/
namespace Go.Proofs.YtlhchmjnaanjpaaGreatDoor.Row
open Go.ChangeShapes Go.WideShapes Go.ChangeAt Go.RowKit Go.Instr
open Go.Proofs.YtlhchmjnaanjpaaGreatDoor.Ret (NC Blk Box)
set_option linter.unusedVariables false
set_option maxRecDepth 100000
theorem lawAtB {x : Option Addr} {n cap : Nat} {l : List UInt8} {w : World} (k : Nat) (hq : Frame.Bytes w (.slice x n cap) l) (hn : n = l.length) (hk : k ≤ 1000) :
    Calls Tryz.prog 32 #[.slice x n cap, .int .i64 k] w fun e w' => ∃ r : Int, e = .returned (.int .i64 r) ∧ 0 ≤ r ∧ r ≤ 255 ∧ Below w.heap.size w w' :=
  (Draw.lawAt x n cap k l w hq hn hk).mono fun e w' ⟨⟨r, h1, h2, h3⟩, h4⟩ => ⟨r, h1, h2, h3, by subst h4; exact Below.refl _ _⟩
theorem byt_wf11 {l : List Int} (h : ∀ y ∈ l, (Lit.int .u8 y).wf = true) : Sl.Byt l := fun y hy => by
  have h1 := h y hy
  have e1 : IntKind.u8.min = 0 := rfl
  have e2 : IntKind.u8.max = 255 := rfl
  simp only [Lit.wf, e1, e2, Bool.and_eq_true, decide_eq_true_eq] at h1
  exact ⟨by omega, by omega⟩
set_option maxRecDepth 100000 in
set_option maxHeartbeats 4000000 in
theorem fg4true {Q : Exit → Act → World → Prop} {v1 v2 v5 v6 v7 v8 v9 v10 v11 v12 v13 v14 v15 v16 v17 v18 v19 v20 v21 v22 v23 v24 v25 v26 v27 v28 v29 v30 v31 v32 v33 v34 v35 v36 v37 v38 v39 v40 v41 v42 v43 v44 v45 v46 v47 v48 v49 v50 v51 v52 v53 v54 v55 v56 v57 v58 v59 v60 v61 v62 v63 v64 v65 v66 v67 v68 v69 v70 v71 v72 v73 v74 v75 v76 v77 : Value} {w : World} {x0 x1 x2 x3 ya yb yc x : Option Addr} {n1 c0 n2 c1 n3 c2 n4 c3 ma da mb db mc dc_ gt gx n0 cap : Nat} {tt : Tpt} {xx : Dt}  (H_t : Hid (kTp.At w (.agg #[.slice x0 n1 c0, .slice x1 n2 c1, .slice x2 n3 c2, .slice x3 n4 c3]) tt)) (H_x : Hid (kD.At w (.agg #[.slice ya ma da, .slice yb mb db, .slice yc mc dc_, .int .i64 xx.2.2.2.1, .int .i64 xx.2.2.2.2]) xx)) (HFT : Hid (FitT tt)) (HFX : Hid (FitD xx)) (HT : Hid (ErrT w)) (HZ : Hid (trusted tt xx 50 = true)) (KT0 : Hid (w.cell? ⟨gt, 0, none⟩ = some (.slice x0 n1 c0))) (KT1 : Hid (w.cell? ⟨gt, 1, none⟩ = some (.slice x1 n2 c1))) (KT2 : Hid (w.cell? ⟨gt, 2, none⟩ = some (.slice x2 n3 c2))) (KT3 : Hid (w.cell? ⟨gt, 3, none⟩ = some (.slice x3 n4 c3))) (KX0 : Hid (w.cell? ⟨gx, 0, none⟩ = some (.slice ya ma da))) (KX1 : Hid (w.cell? ⟨gx, 1, none⟩ = some (.slice yb mb db))) (KX2 : Hid (w.cell? ⟨gx, 2, none⟩ = some (.slice yc mc dc_))) (KX3 : Hid (w.cell? ⟨gx, 3, none⟩ = some (.int .i64 xx.2.2.2.1))) (KX4 : Hid (w.cell? ⟨gx, 4, none⟩ = some (.int .i64 xx.2.2.2.2)))
  (hQ : ∀ (u16 u17 u19 u20 : Value)  (wx : World), Below w.heap.size w wx → Q .normal ⟨#[.slice x n0 cap, v1, v2, .pointer (some ⟨gt, 0, none⟩), .pointer (some ⟨gx, 0, none⟩), v5, v6, v7, v8, v9, v10, v11, v12, v13, v14, v15, u16, u17, .bool true, u19, u20, .bool true, .bool false, v23, v24, v25, v26, v27, v28, v29, v30, v31, v32, v33, v34, v35, v36, v37, v38, v39, v40, v41, v42, v43, v44, v45, v46, v47, v48, v49, v50, v51, v52, v53, v54, v55, v56, v57, v58, v59, v60, v61, v62, v63, v64, v65, v66, v67, v68, v69, v70, v71, v72, v73, v74, v75, v76, v77], []⟩ wx) :
  (Code.region 4 #[⟨some 16, .load 29 (.tmp 3), 29, "laws.go:713", #[], none⟩,
   ⟨some 17, .load 34 (.tmp 4), 34, "laws.go:713", #[], none⟩,
   ⟨some 18, .call ⟨.value (.func 16), #[.tmp 16, .tmp 17, .const (Value.int IntKind.i64 50)], #[29, 34, 3]⟩, 4, "laws.go:713", #[⟨0, .data⟩, ⟨1, .data⟩], none⟩,
   ⟨some 19, .load 29 (.tmp 3), 29, "laws.go:713", #[], none⟩,
   ⟨some 20, .load 34 (.tmp 4), 34, "laws.go:713", #[], none⟩,
   ⟨some 21, .call ⟨.value (.func 17), #[.tmp 19, .tmp 20, .const (Value.int IntKind.i64 50)], #[29, 34, 3]⟩, 4, "laws.go:713", #[⟨3, .data⟩, ⟨4, .data⟩, ⟨2, .chain⟩], none⟩,
   ⟨some 22, .binOp BinOp.neq 4 (.tmp 18) (.tmp 21) 4, 4, "laws.go:713", #[⟨2, .data⟩, ⟨5, .data⟩], none⟩] true).wp Tryz.prog Q ⟨#[.slice x n0 cap, v1, v2, .pointer (some ⟨gt, 0, none⟩), .pointer (some ⟨gx, 0, none⟩), v5, v6, v7, v8, v9, v10, v11, v12, v13, v14, v15, v16, v17, v18, v19, v20, v21, v22, v23, v24, v25, v26, v27, v28, v29, v30, v31, v32, v33, v34, v35, v36, v37, v38, v39, v40, v41, v42, v43, v44, v45, v46, v47, v48, v49, v50, v51, v52, v53, v54, v55, v56, v57, v58, v59, v60, v61, v62, v63, v64, v65, v66, v67, v68, v69, v70, v71, v72, v73, v74, v75, v76, v77], []⟩ w := by
 have HQ := Lib.hid hQ; clear hQ
 have hdr : Below w.heap.size w w.drew := (Below.refl _ _).drew
 have BB := Lib.hid hdr
 refine wp_region_noPanic ?_
 refine wp_region_held_drew (S := (fun w' => w'.cell? ⟨gt, 0, none⟩ = some (.slice x0 n1 c0) ∧ w'.cell? ⟨gt, 1, none⟩ = some (.slice x1 n2 c1) ∧ w'.cell? ⟨gt, 2, none⟩ = some (.slice x2 n3 c2) ∧ w'.cell? ⟨gt, 3, none⟩ = some (.slice x3 n4 c3) ∧ w'.cell? ⟨gx, 0, none⟩ = some (.slice ya ma da) ∧ w'.cell? ⟨gx, 1, none⟩ = some (.slice yb mb db) ∧ w'.cell? ⟨gx, 2, none⟩ = some (.slice yc mc dc_) ∧ w'.cell? ⟨gx, 3, none⟩ = some (.int .i64 xx.2.2.2.1) ∧ w'.cell? ⟨gx, 4, none⟩ = some (.int .i64 xx.2.2.2.2))) (by kernel_rfl) ?_ (fun hHeld => ?_)
 ·
  exact ⟨kc KT0.out BB.out, kc KT1.out BB.out, kc KT2.out BB.out, kc KT3.out BB.out, kc KX0.out BB.out, kc KX1.out BB.out, kc KX2.out BB.out, kc KX3.out BB.out, kc KX4.out BB.out⟩
 clear hdr
 generalize w.drew = wd at *
 refine wpAnyH_take (i := 0) (oi := ⟨some 16, .load 29 (.tmp 3), 29, "laws.go:713", #[], none⟩) (v := ?_) rfl (by kernel_rfl) (by kernel_rfl) (by kernel_rfl) (fun _ _ _ h => h) (Or.inl ⟨by rfl, ?_⟩) (by assumption) ?_
 rotate_left
 ·
  intro w' hSw; (try dsimp only at hSw); first | (go_simp; done) | (go_simp; with_reducible rfl)
 (try simp only [Act.put, Row.pB0, Row.pB1, Row.pB2])
 refine wpAnyH_take (i := 1) (oi := ⟨some 17, .load 34 (.tmp 4), 34, "laws.go:713", #[], none⟩) (v := ?_) rfl (by kernel_rfl) (by kernel_rfl) (by kernel_rfl) (fun _ _ _ h => h) (Or.inl ⟨by rfl, ?_⟩) (by assumption) ?_
 rotate_left
 ·
  intro w' hSw; (try dsimp only at hSw); first | (go_simp; done) | (go_simp; with_reducible rfl)
 (try simp only [Act.put, Row.pB0, Row.pB1, Row.pB2])
 refine wpAnyH_take (i := 3) (oi := ⟨some 19, .load 29 (.tmp 3), 29, "laws.go:713", #[], none⟩) (v := ?_) rfl (by kernel_rfl) (by kernel_rfl) (by kernel_rfl) (fun _ _ _ h => h) (Or.inl ⟨by rfl, ?_⟩) (by assumption) ?_
 rotate_left
 ·
  intro w' hSw; (try dsimp only at hSw); first | (go_simp; done) | (go_simp; with_reducible rfl)
 (try simp only [Act.put, Row.pB0, Row.pB1, Row.pB2])
 refine wpAnyH_take (i := 4) (oi := ⟨some 20, .load 34 (.tmp 4), 34, "laws.go:713", #[], none⟩) (v := ?_) rfl (by kernel_rfl) (by kernel_rfl) (by kernel_rfl) (fun _ _ _ h => h) (Or.inl ⟨by rfl, ?_⟩) (by assumption) ?_
 rotate_left
 ·
  intro w' hSw; (try dsimp only at hSw); first | (go_simp; done) | (go_simp; with_reducible rfl)
 (try simp only [Act.put, Row.pB0, Row.pB1, Row.pB2])
 refine wpAnyH_ready (rs := [2]) (by kernel_rfl) (by simp) ?_
 refine AllReadyH.cons (o := ⟨some 18, .call ⟨.value (.func 16), #[.tmp 16, .tmp 17, .const (Value.int IntKind.i64 50)], #[29, 34, 3]⟩, 4, "laws.go:713", #[⟨0, .data⟩, ⟨1, .data⟩], none⟩) rfl (fun K hK => ?_) AllReadyH.nil
 go_simp
 refine (implIsTrusted _ _ tt xx 50 _ true HZ.out (H_t.out.on BB.out) (H_x.out.on BB.out) HFT.out HFX.out (HT.out.on BB.out)).mono ?_
 rintro e wn1 ⟨rfl, hb⟩
 replace BB := Lib.hid (BB.out.trans (hb.mono BB.out.size))
 clear hb
 (try go_wp2_with fail)
 clear hHeld
 refine hK.out _ _ ?_ (fun hHeld => ?_)
 ·
  (try dsimp only); exact ⟨kc KT0.out BB.out, kc KT1.out BB.out, kc KT2.out BB.out, kc KT3.out BB.out, kc KX0.out BB.out, kc KX1.out BB.out, kc KX2.out BB.out, kc KX3.out BB.out, kc KX4.out BB.out⟩
 clear hK K
 (try simp only [Act.put, Row.pB0, Row.pB1, Row.pB2])
 refine wpAnyH_ready (rs := [5]) (by kernel_rfl) (by simp) ?_
 refine AllReadyH.cons (o := ⟨some 21, .call ⟨.value (.func 17), #[.tmp 19, .tmp 20, .const (Value.int IntKind.i64 50)], #[29, 34, 3]⟩, 4, "laws.go:713", #[⟨3, .data⟩, ⟨4, .data⟩, ⟨2, .chain⟩], none⟩) rfl (fun K hK => ?_) AllReadyH.nil
 go_simp
 refine (specIsTrusted _ _ tt xx 50 _ true HZ.out (H_t.out.on BB.out) (H_x.out.on BB.out) HFT.out HFX.out).mono ?_
 rintro e wn2 ⟨rfl, hb⟩
 replace BB := Lib.hid (BB.out.trans (hb.mono BB.out.size))
 clear hb
 (try go_wp2_with fail)
 clear hHeld
 refine hK.out _ _ ?_ (fun hHeld => ?_)
 ·
  (try dsimp only); exact ⟨kc KT0.out BB.out, kc KT1.out BB.out, kc KT2.out BB.out, kc KT3.out BB.out, kc KX0.out BB.out, kc KX1.out BB.out, kc KX2.out BB.out, kc KX3.out BB.out, kc KX4.out BB.out⟩
 clear hK K
 (try simp only [Act.put, Row.pB0, Row.pB1, Row.pB2])
 refine wpAnyH_take (i := 6) (oi := ⟨some 22, .binOp BinOp.neq 4 (.tmp 18) (.tmp 21) 4, 4, "laws.go:713", #[⟨2, .data⟩, ⟨5, .data⟩], none⟩) (v := ?_) rfl (by kernel_rfl) (by kernel_rfl) (by kernel_rfl) (fun _ _ _ h => h) (Or.inl ⟨by rfl, ?_⟩) (by assumption) ?_
 rotate_left
 ·
  intro w' hSw; (try dsimp only at hSw); first | (go_simp; done) | (go_simp; with_reducible rfl)
 (try simp only [Act.put, Row.pB0, Row.pB1, Row.pB2])
 refine wpAnyH_done (by kernel_rfl) ?_ _
 exact NoPanic.normal (HQ.out _ _ _ _  _  BB.out)
set_option maxRecDepth 100000 in
set_option maxHeartbeats 4000000 in
theorem fg4false {Q : Exit → Act → World → Prop} {v1 v2 v5 v6 v7 v8 v9 v10 v11 v12 v13 v14 v15 v16 v17 v18 v19 v20 v21 v22 v23 v24 v25 v26 v27 v28 v29 v30 v31 v32 v33 v34 v35 v36 v37 v38 v39 v40 v41 v42 v43 v44 v45 v46 v47 v48 v49 v50 v51 v52 v53 v54 v55 v56 v57 v58 v59 v60 v61 v62 v63 v64 v65 v66 v67 v68 v69 v70 v71 v72 v73 v74 v75 v76 v77 : Value} {w : World} {x0 x1 x2 x3 ya yb yc x : Option Addr} {n1 c0 n2 c1 n3 c2 n4 c3 ma da mb db mc dc_ gt gx n0 cap : Nat} {tt : Tpt} {xx : Dt}  (H_t : Hid (kTp.At w (.agg #[.slice x0 n1 c0, .slice x1 n2 c1, .slice x2 n3 c2, .slice x3 n4 c3]) tt)) (H_x : Hid (kD.At w (.agg #[.slice ya ma da, .slice yb mb db, .slice yc mc dc_, .int .i64 xx.2.2.2.1, .int .i64 xx.2.2.2.2]) xx)) (HFT : Hid (FitT tt)) (HFX : Hid (FitD xx)) (HT : Hid (ErrT w)) (HZ : Hid (trusted tt xx 50 = false)) (KT0 : Hid (w.cell? ⟨gt, 0, none⟩ = some (.slice x0 n1 c0))) (KT1 : Hid (w.cell? ⟨gt, 1, none⟩ = some (.slice x1 n2 c1))) (KT2 : Hid (w.cell? ⟨gt, 2, none⟩ = some (.slice x2 n3 c2))) (KT3 : Hid (w.cell? ⟨gt, 3, none⟩ = some (.slice x3 n4 c3))) (KX0 : Hid (w.cell? ⟨gx, 0, none⟩ = some (.slice ya ma da))) (KX1 : Hid (w.cell? ⟨gx, 1, none⟩ = some (.slice yb mb db))) (KX2 : Hid (w.cell? ⟨gx, 2, none⟩ = some (.slice yc mc dc_))) (KX3 : Hid (w.cell? ⟨gx, 3, none⟩ = some (.int .i64 xx.2.2.2.1))) (KX4 : Hid (w.cell? ⟨gx, 4, none⟩ = some (.int .i64 xx.2.2.2.2)))
  (hQ : ∀ (u16 u17 u19 u20 : Value)  (wx : World), Below w.heap.size w wx → Q .normal ⟨#[.slice x n0 cap, v1, v2, .pointer (some ⟨gt, 0, none⟩), .pointer (some ⟨gx, 0, none⟩), v5, v6, v7, v8, v9, v10, v11, v12, v13, v14, v15, u16, u17, .bool false, u19, u20, .bool false, .bool false, v23, v24, v25, v26, v27, v28, v29, v30, v31, v32, v33, v34, v35, v36, v37, v38, v39, v40, v41, v42, v43, v44, v45, v46, v47, v48, v49, v50, v51, v52, v53, v54, v55, v56, v57, v58, v59, v60, v61, v62, v63, v64, v65, v66, v67, v68, v69, v70, v71, v72, v73, v74, v75, v76, v77], []⟩ wx) :
  (Code.region 4 #[⟨some 16, .load 29 (.tmp 3), 29, "laws.go:713", #[], none⟩,
   ⟨some 17, .load 34 (.tmp 4), 34, "laws.go:713", #[], none⟩,
   ⟨some 18, .call ⟨.value (.func 16), #[.tmp 16, .tmp 17, .const (Value.int IntKind.i64 50)], #[29, 34, 3]⟩, 4, "laws.go:713", #[⟨0, .data⟩, ⟨1, .data⟩], none⟩,
   ⟨some 19, .load 29 (.tmp 3), 29, "laws.go:713", #[], none⟩,
   ⟨some 20, .load 34 (.tmp 4), 34, "laws.go:713", #[], none⟩,
   ⟨some 21, .call ⟨.value (.func 17), #[.tmp 19, .tmp 20, .const (Value.int IntKind.i64 50)], #[29, 34, 3]⟩, 4, "laws.go:713", #[⟨3, .data⟩, ⟨4, .data⟩, ⟨2, .chain⟩], none⟩,
   ⟨some 22, .binOp BinOp.neq 4 (.tmp 18) (.tmp 21) 4, 4, "laws.go:713", #[⟨2, .data⟩, ⟨5, .data⟩], none⟩] true).wp Tryz.prog Q ⟨#[.slice x n0 cap, v1, v2, .pointer (some ⟨gt, 0, none⟩), .pointer (some ⟨gx, 0, none⟩), v5, v6, v7, v8, v9, v10, v11, v12, v13, v14, v15, v16, v17, v18, v19, v20, v21, v22, v23, v24, v25, v26, v27, v28, v29, v30, v31, v32, v33, v34, v35, v36, v37, v38, v39, v40, v41, v42, v43, v44, v45, v46, v47, v48, v49, v50, v51, v52, v53, v54, v55, v56, v57, v58, v59, v60, v61, v62, v63, v64, v65, v66, v67, v68, v69, v70, v71, v72, v73, v74, v75, v76, v77], []⟩ w := by
 have HQ := Lib.hid hQ; clear hQ
 have hdr : Below w.heap.size w w.drew := (Below.refl _ _).drew
 have BB := Lib.hid hdr
 refine wp_region_noPanic ?_
 refine wp_region_held_drew (S := (fun w' => w'.cell? ⟨gt, 0, none⟩ = some (.slice x0 n1 c0) ∧ w'.cell? ⟨gt, 1, none⟩ = some (.slice x1 n2 c1) ∧ w'.cell? ⟨gt, 2, none⟩ = some (.slice x2 n3 c2) ∧ w'.cell? ⟨gt, 3, none⟩ = some (.slice x3 n4 c3) ∧ w'.cell? ⟨gx, 0, none⟩ = some (.slice ya ma da) ∧ w'.cell? ⟨gx, 1, none⟩ = some (.slice yb mb db) ∧ w'.cell? ⟨gx, 2, none⟩ = some (.slice yc mc dc_) ∧ w'.cell? ⟨gx, 3, none⟩ = some (.int .i64 xx.2.2.2.1) ∧ w'.cell? ⟨gx, 4, none⟩ = some (.int .i64 xx.2.2.2.2))) (by kernel_rfl) ?_ (fun hHeld => ?_)
 ·
  exact ⟨kc KT0.out BB.out, kc KT1.out BB.out, kc KT2.out BB.out, kc KT3.out BB.out, kc KX0.out BB.out, kc KX1.out BB.out, kc KX2.out BB.out, kc KX3.out BB.out, kc KX4.out BB.out⟩
 clear hdr
 generalize w.drew = wd at *
 refine wpAnyH_take (i := 0) (oi := ⟨some 16, .load 29 (.tmp 3), 29, "laws.go:713", #[], none⟩) (v := ?_) rfl (by kernel_rfl) (by kernel_rfl) (by kernel_rfl) (fun _ _ _ h => h) (Or.inl ⟨by rfl, ?_⟩) (by assumption) ?_
 rotate_left
 ·
  intro w' hSw; (try dsimp only at hSw); first | (go_simp; done) | (go_simp; with_reducible rfl)
 (try simp only [Act.put, Row.pB0, Row.pB1, Row.pB2])
 refine wpAnyH_take (i := 1) (oi := ⟨some 17, .load 34 (.tmp 4), 34, "laws.go:713", #[], none⟩) (v := ?_) rfl (by kernel_rfl) (by kernel_rfl) (by kernel_rfl) (fun _ _ _ h => h) (Or.inl ⟨by rfl, ?_⟩) (by assumption) ?_
 rotate_left
 ·
  intro w' hSw; (try dsimp only at hSw); first | (go_simp; done) | (go_simp; with_reducible rfl)
 (try simp only [Act.put, Row.pB0, Row.pB1, Row.pB2])
 refine wpAnyH_take (i := 3) (oi := ⟨some 19, .load 29 (.tmp 3), 29, "laws.go:713", #[], none⟩) (v := ?_) rfl (by kernel_rfl) (by kernel_rfl) (by kernel_rfl) (fun _ _ _ h => h) (Or.inl ⟨by rfl, ?_⟩) (by assumption) ?_
 rotate_left
 ·
  intro w' hSw; (try dsimp only at hSw); first | (go_simp; done) | (go_simp; with_reducible rfl)
 (try simp only [Act.put, Row.pB0, Row.pB1, Row.pB2])
 refine wpAnyH_take (i := 4) (oi := ⟨some 20, .load 34 (.tmp 4), 34, "laws.go:713", #[], none⟩) (v := ?_) rfl (by kernel_rfl) (by kernel_rfl) (by kernel_rfl) (fun _ _ _ h => h) (Or.inl ⟨by rfl, ?_⟩) (by assumption) ?_
 rotate_left
 ·
  intro w' hSw; (try dsimp only at hSw); first | (go_simp; done) | (go_simp; with_reducible rfl)
 (try simp only [Act.put, Row.pB0, Row.pB1, Row.pB2])
 refine wpAnyH_ready (rs := [2]) (by kernel_rfl) (by simp) ?_
 refine AllReadyH.cons (o := ⟨some 18, .call ⟨.value (.func 16), #[.tmp 16, .tmp 17, .const (Value.int IntKind.i64 50)], #[29, 34, 3]⟩, 4, "laws.go:713", #[⟨0, .data⟩, ⟨1, .data⟩], none⟩) rfl (fun K hK => ?_) AllReadyH.nil
 go_simp
 refine (implIsTrusted _ _ tt xx 50 _ false HZ.out (H_t.out.on BB.out) (H_x.out.on BB.out) HFT.out HFX.out (HT.out.on BB.out)).mono ?_
 rintro e wn1 ⟨rfl, hb⟩
 replace BB := Lib.hid (BB.out.trans (hb.mono BB.out.size))
 clear hb
 (try go_wp2_with fail)
 clear hHeld
 refine hK.out _ _ ?_ (fun hHeld => ?_)
 ·
  (try dsimp only); exact ⟨kc KT0.out BB.out, kc KT1.out BB.out, kc KT2.out BB.out, kc KT3.out BB.out, kc KX0.out BB.out, kc KX1.out BB.out, kc KX2.out BB.out, kc KX3.out BB.out, kc KX4.out BB.out⟩
 clear hK K
 (try simp only [Act.put, Row.pB0, Row.pB1, Row.pB2])
 refine wpAnyH_ready (rs := [5]) (by kernel_rfl) (by simp) ?_
 refine AllReadyH.cons (o := ⟨some 21, .call ⟨.value (.func 17), #[.tmp 19, .tmp 20, .const (Value.int IntKind.i64 50)], #[29, 34, 3]⟩, 4, "laws.go:713", #[⟨3, .data⟩, ⟨4, .data⟩, ⟨2, .chain⟩], none⟩) rfl (fun K hK => ?_) AllReadyH.nil
 go_simp
 refine (specIsTrusted _ _ tt xx 50 _ false HZ.out (H_t.out.on BB.out) (H_x.out.on BB.out) HFT.out HFX.out).mono ?_
 rintro e wn2 ⟨rfl, hb⟩
 replace BB := Lib.hid (BB.out.trans (hb.mono BB.out.size))
 clear hb
 (try go_wp2_with fail)
 clear hHeld
 refine hK.out _ _ ?_ (fun hHeld => ?_)
 ·
  (try dsimp only); exact ⟨kc KT0.out BB.out, kc KT1.out BB.out, kc KT2.out BB.out, kc KT3.out BB.out, kc KX0.out BB.out, kc KX1.out BB.out, kc KX2.out BB.out, kc KX3.out BB.out, kc KX4.out BB.out⟩
 clear hK K
 (try simp only [Act.put, Row.pB0, Row.pB1, Row.pB2])
 refine wpAnyH_take (i := 6) (oi := ⟨some 22, .binOp BinOp.neq 4 (.tmp 18) (.tmp 21) 4, 4, "laws.go:713", #[⟨2, .data⟩, ⟨5, .data⟩], none⟩) (v := ?_) rfl (by kernel_rfl) (by kernel_rfl) (by kernel_rfl) (fun _ _ _ h => h) (Or.inl ⟨by rfl, ?_⟩) (by assumption) ?_
 rotate_left
 ·
  intro w' hSw; (try dsimp only at hSw); first | (go_simp; done) | (go_simp; with_reducible rfl)
 (try simp only [Act.put, Row.pB0, Row.pB1, Row.pB2])
 refine wpAnyH_done (by kernel_rfl) ?_ _
 exact NoPanic.normal (HQ.out _ _ _ _  _  BB.out)
set_option maxRecDepth 100000 in
set_option maxHeartbeats 4000000 in
theorem fg9 {Q : Exit → Act → World → Prop} {v1 v2 v3 v6 v7 v8 v9 v10 v11 v12 v13 v14 v15 v16 v17 v18 v19 v20 v21 v22 v23 v24 v25 v26 v27 v28 v29 v30 v31 v32 v33 v34 v35 v36 v37 v38 v39 v40 v41 v42 v43 v44 v45 v46 v47 v48 v49 v50 v51 v52 v53 v54 v55 v56 v57 v58 v59 v60 v61 v62 v63 v64 v65 v66 v67 v68 v69 v70 v71 v72 v73 v74 v75 v76 v77 : Value} {w : World} {ya yb yc x : Option Addr} {ma da mb db mc dc_ gx gz n0 cap : Nat}  {xx : Dt} {l0 : List UInt8} {f : Int} (Q0 : Hid (Frame.Bytes w (.slice x n0 cap) l0)) (HN0 : Hid (n0 = l0.length)) (C_x : Hid (Blk w gx #[.slice ya ma da, .slice yb mb db, .slice yc mc dc_, .int .i64 xx.2.2.2.1, .int .i64 xx.2.2.2.2] 34)) (C_z : Hid (Blk w gz #[.slice ya ma da, .slice yb mb db, .slice yc mc dc_, .int .i64 xx.2.2.2.1, .int .i64 xx.2.2.2.2] 34)) (HNE : Hid (gx ≠ gz)) (HF : Hid (0 ≤ f ∧ f ≤ 2147483646)) (HEF : Hid (xx.2.2.2.1 = f)) (KF : Hid (w.cell? ⟨gx, 3, none⟩ = some (.int .i64 f)))
  (hQ : ∀ (u28 u29 u30 u31 u32 u33 u34 : Value) (r : Int) (wx : World), 0 ≤ r → r ≤ 255 → Below w.heap.size w wx → Q .normal ⟨#[.slice x n0 cap, v1, v2, v3, .pointer (some ⟨gx, 0, none⟩), .pointer (some ⟨gz, 0, none⟩), v6, v7, v8, v9, v10, v11, v12, v13, v14, v15, v16, v17, v18, v19, v20, v21, v22, v23, v24, v25, v26, v27, u28, u29, u30, u31, u32, u33, u34, v35, v36, v37, v38, v39, v40, v41, v42, v43, v44, v45, v46, v47, v48, v49, v50, v51, v52, v53, v54, v55, v56, v57, v58, v59, v60, v61, v62, v63, v64, v65, v66, v67, v68, v69, v70, v71, v72, v73, v74, v75, v76, v77], []⟩ (wx.setCell ⟨gz, 3, none⟩ (.int .i64 (f + 1 + r)))) :
  (Code.region 9 #[⟨some 28, .fieldAddr 34 (.tmp 4) 3, 0, "laws.go:720", #[], none⟩,
   ⟨some 29, .load 3 (.tmp 28), 3, "laws.go:720", #[⟨0, .data⟩], none⟩,
   ⟨some 30, .binOp BinOp.add 3 (.tmp 29) (.const (Value.int IntKind.i64 1)) 3, 3, "laws.go:720", #[⟨1, .data⟩], none⟩,
   ⟨some 31, .move (.tmp 0), 22, "laws.go:720", #[], none⟩,
   ⟨some 32, .call ⟨.value (.func 32), #[.tmp 31, .const (Value.int IntKind.i64 3)], #[22, 3]⟩, 3, "laws.go:720", #[⟨3, .data⟩], none⟩,
   ⟨some 33, .binOp BinOp.add 3 (.tmp 30) (.tmp 32) 3, 3, "laws.go:720", #[⟨2, .data⟩, ⟨4, .data⟩], none⟩,
   ⟨some 34, .fieldAddr 34 (.tmp 5) 3, 0, "laws.go:720", #[⟨0, .phase⟩, ⟨1, .phase⟩, ⟨2, .phase⟩, ⟨3, .phase⟩, ⟨4, .phase⟩, ⟨5, .phase⟩], none⟩,
   ⟨none, .store 3 (.tmp 34) (.tmp 33), 0, "laws.go:720", #[⟨6, .data⟩, ⟨5, .data⟩, ⟨4, .chain⟩, ⟨0, .phase⟩, ⟨1, .phase⟩, ⟨2, .phase⟩, ⟨3, .phase⟩, ⟨4, .phase⟩, ⟨5, .phase⟩], none⟩] true).wp Tryz.prog Q ⟨#[.slice x n0 cap, v1, v2, v3, .pointer (some ⟨gx, 0, none⟩), .pointer (some ⟨gz, 0, none⟩), v6, v7, v8, v9, v10, v11, v12, v13, v14, v15, v16, v17, v18, v19, v20, v21, v22, v23, v24, v25, v26, v27, v28, v29, v30, v31, v32, v33, v34, v35, v36, v37, v38, v39, v40, v41, v42, v43, v44, v45, v46, v47, v48, v49, v50, v51, v52, v53, v54, v55, v56, v57, v58, v59, v60, v61, v62, v63, v64, v65, v66, v67, v68, v69, v70, v71, v72, v73, v74, v75, v76, v77], []⟩ w := by
 have HQ := Lib.hid hQ; clear hQ
 have hdr : Below w.heap.size w w.drew := (Below.refl _ _).drew
 have hwf1 : IntKind.i64.wrap (f + 1) = f + 1 := by rw [IntKind.wrap_i64]; have := HF.out; omega
 have BB := Lib.hid hdr
 refine wp_region_noPanic ?_
 refine wp_region_held_drew (S := (fun w' => w'.cell? ⟨gx, 3, none⟩ = some (.int .i64 f))) (by kernel_rfl) ?_ (fun hHeld => ?_)
 ·
  exact kc KF.out BB.out
 clear hdr
 generalize w.drew = wd at *
 refine wpAnyH_take (i := 0) (oi := ⟨some 28, .fieldAddr 34 (.tmp 4) 3, 0, "laws.go:720", #[], none⟩) (v := ?_) rfl (by kernel_rfl) (by kernel_rfl) (by kernel_rfl) (fun _ _ _ h => h) (Or.inl ⟨by rfl, ?_⟩) (by assumption) ?_
 rotate_left
 ·
  intro w' hSw; (try dsimp only at hSw); first | (go_simp; done) | (go_simp; with_reducible rfl)
 (try simp only [Act.put, Row.pB0, Row.pB1, Row.pB2])
 refine wpAnyH_take (i := 1) (oi := ⟨some 29, .load 3 (.tmp 28), 3, "laws.go:720", #[⟨0, .data⟩], none⟩) (v := ?_) rfl (by kernel_rfl) (by kernel_rfl) (by kernel_rfl) (fun _ _ _ h => h) (Or.inl ⟨by rfl, ?_⟩) (by assumption) ?_
 rotate_left
 ·
  intro w' hSw; (try dsimp only at hSw); first | (go_simp; done) | (go_simp; with_reducible rfl)
 (try simp only [Act.put, Row.pB0, Row.pB1, Row.pB2])
 refine wpAnyH_take (i := 2) (oi := ⟨some 30, .binOp BinOp.add 3 (.tmp 29) (.const (Value.int IntKind.i64 1)) 3, 3, "laws.go:720", #[⟨1, .data⟩], none⟩) (v := ?_) rfl (by kernel_rfl) (by kernel_rfl) (by kernel_rfl) (fun _ _ _ h => h) (Or.inl ⟨by rfl, ?_⟩) (by assumption) ?_
 rotate_left
 ·
  intro w' hSw; (try dsimp only at hSw); first | (go_simp; done) | (go_simp; with_reducible rfl)
 (try simp only [Act.put, Row.pB0, Row.pB1, Row.pB2])
 refine wpAnyH_take (i := 3) (oi := ⟨some 31, .move (.tmp 0), 22, "laws.go:720", #[], none⟩) (v := ?_) rfl (by kernel_rfl) (by kernel_rfl) (by kernel_rfl) (fun _ _ _ h => h) (Or.inl ⟨by rfl, ?_⟩) (by assumption) ?_
 rotate_left
 ·
  intro w' hSw; (try dsimp only at hSw); first | (go_simp; done) | (go_simp; with_reducible rfl)
 (try simp only [Act.put, Row.pB0, Row.pB1, Row.pB2])
 refine wpAnyH_ready (rs := [4]) (by kernel_rfl) (by simp) ?_
 refine AllReadyH.cons (o := ⟨some 32, .call ⟨.value (.func 32), #[.tmp 31, .const (Value.int IntKind.i64 3)], #[22, 3]⟩, 3, "laws.go:720", #[⟨3, .data⟩], none⟩) rfl (fun K hK => ?_) AllReadyH.nil
 go_simp
 refine (lawAtB 3 (Q0.out.on BB.out) HN0.out (by decide)).mono ?_
 rintro e wn1 ⟨r, rfl, hr0, hr1, hb⟩
 have HR0 := Lib.hid hr0; have HR1 := Lib.hid hr1
 have hwf2 : IntKind.i64.wrap (f + 1 + r) = f + 1 + r := by rw [IntKind.wrap_i64]; have := HF.out; omega
 clear hr0 hr1
 replace BB := Lib.hid (BB.out.trans (hb.mono BB.out.size))
 clear hb
 (try go_wp2_with fail)
 clear hHeld
 refine hK.out _ _ ?_ (fun hHeld => ?_)
 ·
  (try dsimp only); exact kc KF.out BB.out
 clear hK K
 (try simp only [Act.put, Row.pB0, Row.pB1, Row.pB2])
 refine wpAnyH_take (i := 5) (oi := ⟨some 33, .binOp BinOp.add 3 (.tmp 30) (.tmp 32) 3, 3, "laws.go:720", #[⟨2, .data⟩, ⟨4, .data⟩], none⟩) (v := ?_) rfl (by kernel_rfl) (by kernel_rfl) (by kernel_rfl) (fun _ _ _ h => h) (Or.inl ⟨by rfl, ?_⟩) (by assumption) ?_
 rotate_left
 ·
  intro w' hSw; (try dsimp only at hSw); first | (go_simp; done) | (go_simp; with_reducible rfl)
 (try simp only [Act.put, Row.pB0, Row.pB1, Row.pB2])
 refine wpAnyH_take (i := 6) (oi := ⟨some 34, .fieldAddr 34 (.tmp 5) 3, 0, "laws.go:720", #[⟨0, .phase⟩, ⟨1, .phase⟩, ⟨2, .phase⟩, ⟨3, .phase⟩, ⟨4, .phase⟩, ⟨5, .phase⟩], none⟩) (v := ?_) rfl (by kernel_rfl) (by kernel_rfl) (by kernel_rfl) (fun _ _ _ h => h) (Or.inl ⟨by rfl, ?_⟩) (by assumption) ?_
 rotate_left
 ·
  intro w' hSw; (try dsimp only at hSw); first | (go_simp; done) | (go_simp; with_reducible rfl)
 (try simp only [Act.put, Row.pB0, Row.pB1, Row.pB2])
 refine wpAnyH_ready (rs := [7]) (by kernel_rfl) (by simp) ?_
 refine AllReadyH.cons (o := ⟨none, .store 3 (.tmp 34) (.tmp 33), 0, "laws.go:720", #[⟨6, .data⟩, ⟨5, .data⟩, ⟨4, .chain⟩, ⟨0, .phase⟩, ⟨1, .phase⟩, ⟨2, .phase⟩, ⟨3, .phase⟩, ⟨4, .phase⟩, ⟨5, .phase⟩], none⟩) rfl (fun K hK => ?_) AllReadyH.nil
 have q3 : wn1.cell? ⟨gz, 3, none⟩ = some (.int .i64 xx.2.2.2.1) := (C_z.out.on BB.out).cell 3
 have f3 : wn1.frozen? ⟨gz, 3, none⟩ = false := (C_z.out.on BB.out).frozen 3
 go_simp
 clear hHeld
 refine hK.out _ _ ?_ (fun hHeld => ?_)
 ·
  (try dsimp only); exact HEF.out ▸ ((C_x.out.on BB.out).other (a := ⟨gz, 3, none⟩) (Ne.symm HNE.out) _).cell 3
 clear hK K
 (try simp only [Act.put, Row.pB0, Row.pB1, Row.pB2])
 refine wpAnyH_done (by kernel_rfl) ?_ _
 exact NoPanic.normal (HQ.out _ _ _ _ _ _ _ r _ HR0.out HR1.out BB.out)
set_option maxRecDepth 100000 in
set_option maxHeartbeats 4000000 in
theorem fg12 {Q : Exit → Act → World → Prop} {v1 v2 v3 v5 v6 v7 v9 v10 v11 v12 v13 v14 v15 v16 v17 v18 v19 v20 v21 v22 v23 v24 v25 v26 v27 v28 v29 v30 v31 v32 v33 v34 v35 v36 v37 v38 v39 v40 v41 v42 v43 v44 v45 v46 v47 v48 v49 v50 v51 v52 v53 v54 v55 v56 v57 v58 v59 v60 v61 v62 v63 v64 v65 v66 v67 v68 v69 v70 v71 v72 v73 v74 v75 v76 v77 : Value} {w : World} {ya yb yc x : Option Addr} {ma da mb db mc dc_ gx gv n0 cap : Nat}  {xx : Dt} {l0 : List UInt8} {f : Int} (Q0 : Hid (Frame.Bytes w (.slice x n0 cap) l0)) (HN0 : Hid (n0 = l0.length)) (C_x : Hid (Blk w gx #[.slice ya ma da, .slice yb mb db, .slice yc mc dc_, .int .i64 xx.2.2.2.1, .int .i64 xx.2.2.2.2] 34)) (C_z : Hid (Blk w gv #[.slice ya ma da, .slice yb mb db, .slice yc mc dc_, .int .i64 xx.2.2.2.1, .int .i64 xx.2.2.2.2] 34)) (HNE : Hid (gx ≠ gv)) (HF : Hid (0 ≤ f ∧ f ≤ 2147483646)) (HEF : Hid (xx.2.2.2.2 = f)) (KF : Hid (w.cell? ⟨gx, 4, none⟩ = some (.int .i64 f)))
  (hQ : ∀ (u50 u51 u52 u53 u54 u55 u56 u57 : Value) (r : Int) (wx : World), 0 ≤ r → r ≤ 255 → Below w.heap.size w wx → Q .normal ⟨#[.slice x n0 cap, v1, v2, v3, .pointer (some ⟨gx, 0, none⟩), v5, v6, v7, .pointer (some ⟨gv, 0, none⟩), v9, v10, v11, v12, v13, v14, v15, v16, v17, v18, v19, v20, v21, v22, v23, v24, v25, v26, v27, v28, v29, v30, v31, v32, v33, v34, v35, v36, v37, v38, v39, v40, v41, v42, v43, v44, v45, v46, v47, v48, v49, u50, u51, u52, u53, u54, u55, u56, u57, v58, v59, v60, v61, v62, v63, v64, v65, v66, v67, v68, v69, v70, v71, v72, v73, v74, v75, v76, v77], []⟩ (wx.setCell ⟨gv, 4, none⟩ (.int .i64 ((f + 1 + r).tmod 2147483647)))) :
  (Code.region 12 #[⟨some 50, .fieldAddr 34 (.tmp 4) 4, 0, "laws.go:723", #[], none⟩,
   ⟨some 51, .load 3 (.tmp 50), 3, "laws.go:723", #[⟨0, .data⟩], none⟩,
   ⟨some 52, .binOp BinOp.add 3 (.tmp 51) (.const (Value.int IntKind.i64 1)) 3, 3, "laws.go:723", #[⟨1, .data⟩], none⟩,
   ⟨some 53, .move (.tmp 0), 22, "laws.go:723", #[], none⟩,
   ⟨some 54, .call ⟨.value (.func 32), #[.tmp 53, .const (Value.int IntKind.i64 4)], #[22, 3]⟩, 3, "laws.go:723", #[⟨3, .data⟩], none⟩,
   ⟨some 55, .binOp BinOp.add 3 (.tmp 52) (.tmp 54) 3, 3, "laws.go:723", #[⟨2, .data⟩, ⟨4, .data⟩], none⟩,
   ⟨some 56, .binOp BinOp.rem 3 (.tmp 55) (.const (Value.int IntKind.i64 2147483647)) 3, 3, "laws.go:723", #[⟨5, .data⟩], none⟩,
   ⟨some 57, .fieldAddr 34 (.tmp 8) 4, 0, "laws.go:723", #[⟨0, .phase⟩, ⟨1, .phase⟩, ⟨2, .phase⟩, ⟨3, .phase⟩, ⟨4, .phase⟩, ⟨5, .phase⟩, ⟨6, .phase⟩], none⟩,
   ⟨none, .store 3 (.tmp 57) (.tmp 56), 0, "laws.go:723", #[⟨7, .data⟩, ⟨6, .data⟩, ⟨4, .chain⟩, ⟨0, .phase⟩, ⟨1, .phase⟩, ⟨2, .phase⟩, ⟨3, .phase⟩, ⟨4, .phase⟩, ⟨5, .phase⟩, ⟨6, .phase⟩], none⟩] true).wp Tryz.prog Q ⟨#[.slice x n0 cap, v1, v2, v3, .pointer (some ⟨gx, 0, none⟩), v5, v6, v7, .pointer (some ⟨gv, 0, none⟩), v9, v10, v11, v12, v13, v14, v15, v16, v17, v18, v19, v20, v21, v22, v23, v24, v25, v26, v27, v28, v29, v30, v31, v32, v33, v34, v35, v36, v37, v38, v39, v40, v41, v42, v43, v44, v45, v46, v47, v48, v49, v50, v51, v52, v53, v54, v55, v56, v57, v58, v59, v60, v61, v62, v63, v64, v65, v66, v67, v68, v69, v70, v71, v72, v73, v74, v75, v76, v77], []⟩ w := by
 have HQ := Lib.hid hQ; clear hQ
 have hdr : Below w.heap.size w w.drew := (Below.refl _ _).drew
 have hwf1 : IntKind.i64.wrap (f + 1) = f + 1 := by rw [IntKind.wrap_i64]; have := HF.out; omega
 have BB := Lib.hid hdr
 refine wp_region_noPanic ?_
 refine wp_region_held_drew (S := (fun w' => w'.cell? ⟨gx, 4, none⟩ = some (.int .i64 f))) (by kernel_rfl) ?_ (fun hHeld => ?_)
 ·
  exact kc KF.out BB.out
 clear hdr
 generalize w.drew = wd at *
 refine wpAnyH_take (i := 0) (oi := ⟨some 50, .fieldAddr 34 (.tmp 4) 4, 0, "laws.go:723", #[], none⟩) (v := ?_) rfl (by kernel_rfl) (by kernel_rfl) (by kernel_rfl) (fun _ _ _ h => h) (Or.inl ⟨by rfl, ?_⟩) (by assumption) ?_
 rotate_left
 ·
  intro w' hSw; (try dsimp only at hSw); first | (go_simp; done) | (go_simp; with_reducible rfl)
 (try simp only [Act.put, Row.pB0, Row.pB1, Row.pB2])
 refine wpAnyH_take (i := 1) (oi := ⟨some 51, .load 3 (.tmp 50), 3, "laws.go:723", #[⟨0, .data⟩], none⟩) (v := ?_) rfl (by kernel_rfl) (by kernel_rfl) (by kernel_rfl) (fun _ _ _ h => h) (Or.inl ⟨by rfl, ?_⟩) (by assumption) ?_
 rotate_left
 ·
  intro w' hSw; (try dsimp only at hSw); first | (go_simp; done) | (go_simp; with_reducible rfl)
 (try simp only [Act.put, Row.pB0, Row.pB1, Row.pB2])
 refine wpAnyH_take (i := 2) (oi := ⟨some 52, .binOp BinOp.add 3 (.tmp 51) (.const (Value.int IntKind.i64 1)) 3, 3, "laws.go:723", #[⟨1, .data⟩], none⟩) (v := ?_) rfl (by kernel_rfl) (by kernel_rfl) (by kernel_rfl) (fun _ _ _ h => h) (Or.inl ⟨by rfl, ?_⟩) (by assumption) ?_
 rotate_left
 ·
  intro w' hSw; (try dsimp only at hSw); first | (go_simp; done) | (go_simp; with_reducible rfl)
 (try simp only [Act.put, Row.pB0, Row.pB1, Row.pB2])
 refine wpAnyH_take (i := 3) (oi := ⟨some 53, .move (.tmp 0), 22, "laws.go:723", #[], none⟩) (v := ?_) rfl (by kernel_rfl) (by kernel_rfl) (by kernel_rfl) (fun _ _ _ h => h) (Or.inl ⟨by rfl, ?_⟩) (by assumption) ?_
 rotate_left
 ·
  intro w' hSw; (try dsimp only at hSw); first | (go_simp; done) | (go_simp; with_reducible rfl)
 (try simp only [Act.put, Row.pB0, Row.pB1, Row.pB2])
 refine wpAnyH_ready (rs := [4]) (by kernel_rfl) (by simp) ?_
 refine AllReadyH.cons (o := ⟨some 54, .call ⟨.value (.func 32), #[.tmp 53, .const (Value.int IntKind.i64 4)], #[22, 3]⟩, 3, "laws.go:723", #[⟨3, .data⟩], none⟩) rfl (fun K hK => ?_) AllReadyH.nil
 go_simp
 refine (lawAtB 4 (Q0.out.on BB.out) HN0.out (by decide)).mono ?_
 rintro e wn1 ⟨r, rfl, hr0, hr1, hb⟩
 have HR0 := Lib.hid hr0; have HR1 := Lib.hid hr1
 have hwf2 : IntKind.i64.wrap (f + 1 + r) = f + 1 + r := by rw [IntKind.wrap_i64]; have := HF.out; omega
 clear hr0 hr1
 replace BB := Lib.hid (BB.out.trans (hb.mono BB.out.size))
 clear hb
 (try go_wp2_with fail)
 clear hHeld
 refine hK.out _ _ ?_ (fun hHeld => ?_)
 ·
  (try dsimp only); exact kc KF.out BB.out
 clear hK K
 (try simp only [Act.put, Row.pB0, Row.pB1, Row.pB2])
 refine wpAnyH_take (i := 5) (oi := ⟨some 55, .binOp BinOp.add 3 (.tmp 52) (.tmp 54) 3, 3, "laws.go:723", #[⟨2, .data⟩, ⟨4, .data⟩], none⟩) (v := ?_) rfl (by kernel_rfl) (by kernel_rfl) (by kernel_rfl) (fun _ _ _ h => h) (Or.inl ⟨by rfl, ?_⟩) (by assumption) ?_
 rotate_left
 ·
  intro w' hSw; (try dsimp only at hSw); first | (go_simp; done) | (go_simp; with_reducible rfl)
 (try simp only [Act.put, Row.pB0, Row.pB1, Row.pB2])
 refine wpAnyH_take (i := 6) (oi := ⟨some 56, .binOp BinOp.rem 3 (.tmp 55) (.const (Value.int IntKind.i64 2147483647)) 3, 3, "laws.go:723", #[⟨5, .data⟩], none⟩) (v := ?_) rfl (by kernel_rfl) (by kernel_rfl) (by kernel_rfl) (fun _ _ _ h => h) (Or.inl ⟨by rfl, ?_⟩) (by assumption) ?_
 rotate_left
 ·
  intro w' hSw; (try dsimp only at hSw); first | (go_simp; done) | (go_simp; with_reducible rfl)
 (try simp only [Act.put, Row.pB0, Row.pB1, Row.pB2])
 refine wpAnyH_take (i := 7) (oi := ⟨some 57, .fieldAddr 34 (.tmp 8) 4, 0, "laws.go:723", #[⟨0, .phase⟩, ⟨1, .phase⟩, ⟨2, .phase⟩, ⟨3, .phase⟩, ⟨4, .phase⟩, ⟨5, .phase⟩, ⟨6, .phase⟩], none⟩) (v := ?_) rfl (by kernel_rfl) (by kernel_rfl) (by kernel_rfl) (fun _ _ _ h => h) (Or.inl ⟨by rfl, ?_⟩) (by assumption) ?_
 rotate_left
 ·
  intro w' hSw; (try dsimp only at hSw); first | (go_simp; done) | (go_simp; with_reducible rfl)
 (try simp only [Act.put, Row.pB0, Row.pB1, Row.pB2])
 refine wpAnyH_ready (rs := [8]) (by kernel_rfl) (by simp) ?_
 refine AllReadyH.cons (o := ⟨none, .store 3 (.tmp 57) (.tmp 56), 0, "laws.go:723", #[⟨7, .data⟩, ⟨6, .data⟩, ⟨4, .chain⟩, ⟨0, .phase⟩, ⟨1, .phase⟩, ⟨2, .phase⟩, ⟨3, .phase⟩, ⟨4, .phase⟩, ⟨5, .phase⟩, ⟨6, .phase⟩], none⟩) rfl (fun K hK => ?_) AllReadyH.nil
 have q3 : wn1.cell? ⟨gv, 4, none⟩ = some (.int .i64 xx.2.2.2.2) := (C_z.out.on BB.out).cell 4
 have f3 : wn1.frozen? ⟨gv, 4, none⟩ = false := (C_z.out.on BB.out).frozen 4
 go_simp
 clear hHeld
 refine hK.out _ _ ?_ (fun hHeld => ?_)
 ·
  (try dsimp only); exact HEF.out ▸ ((C_x.out.on BB.out).other (a := ⟨gv, 4, none⟩) (Ne.symm HNE.out) _).cell 4
 clear hK K
 (try simp only [Act.put, Row.pB0, Row.pB1, Row.pB2])
 refine wpAnyH_done (by kernel_rfl) ?_ _
 exact NoPanic.normal (HQ.out _ _ _ _ _ _ _ _ r _ HR0.out HR1.out BB.out)
end Go.Proofs.YtlhchmjnaanjpaaGreatDoor.Row
