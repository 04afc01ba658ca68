/- Contracts and mathematics, joined: RegS8. No conditions but those that each states. -/
import Derived.WalkKit
import Derived.Deep.RegionHeld3
import Derived.Test.YtdaahcaafdleaaaB8
/- FnSeens: its region that draws. No conditions. -/
namespace Go.Proofs.Ytdaahcaafdleaaa.Row
open Go.ChangeShapes Go.WideShapes Go.ChangeAt Go.RowKit Go.Instr
set_option linter.unusedVariables false
set_option maxRecDepth 100000
set_option maxRecDepth 100000 in
set_option maxHeartbeats 4000000 in
theorem regS8 {Q : Exit → Act → World → Prop} {v0 v1 v2 v8 v9 v10 v11 v12 v13 v14 v15 v16 v17 v18 v19 v20 v21 v22 v23 v24 v25 v26 v27 v28 v29 v30 v31 v32 v33 v34 v35 v36 v37 v38 v39 v40 v41 v42 v43 v44 v45 v46 v47 v48 v49 v50 v51 v52 v53 v54 v55 v56 v57 v58 v59 : Value} {w : World} {b off k6 n6 c6 ns cs bn bw nn cn nl cl : Nat} {xs xn xl : Option Addr} {k : Int} {lx : List Snt} {mm : List ByteArray} (hk : k6 < n6) (hkc : k6 ≤ c6) (hn : n6 ≤ 9000000) (hw : IntKind.i64.wrap ((n6 : Int) - 1) = (k6 : Int)) (ts : decide ((24 : Int) < (ns : Int)) = false) (tx : decide ((n6 : Int) ≤ (24 : Int)) = true) (H_x : Hid (kLSn.At w (.slice (some ⟨b, off, none⟩) n6 c6) lx)) (H_w : Hid (kW.At w (.agg #[.slice xn nn cn, .int .i64 k, .int .i64 0, .int .i64 1]) (mm, k, 0, 1))) (H_n : Hid (kN.At w (.agg #[.slice xn nn cn]) mm)) (H_l : Hid (kN.At w (.agg #[.slice xl nl cl]) mm)) (HLO : Hid (loopP [] lx (mm, k, 0, 1) = true)) (s_x : Hid (smS9 24 lx)) (HBM : Hid (bulk mm ≤ 1000)) (HML : Hid (mm.length ≤ 9000000)) (KN : Hid (w.cell? ⟨bn, 0, none⟩ = some (.slice xn nn cn))) (KX : Hid (w.cell? ⟨b, off + k6 * 2, none⟩ = some (.slice xl nl cl))) (KW0 : Hid (w.cell? ⟨bw, 0, none⟩ = some (.slice xn nn cn))) (KW1 : Hid (w.cell? ⟨bw, 1, none⟩ = some (.int .i64 k))) (KW2 : Hid (w.cell? ⟨bw, 2, none⟩ = some (.int .i64 0))) (KW3 : Hid (w.cell? ⟨bw, 3, none⟩ = some (.int .i64 1)))
  (hQ : ∀ (u35 u36 u37 u38 u39 u40 u41 u42 u43 u44 u45 u46 u47 u48 u49 u50 u51 u52 u53 u54 u55 u56 u57 u58 : Value)  (wx : World), Below w.heap.size w wx → Q .normal ⟨#[v0, v1, .bool true, .slice xs ns cs, .pointer (some ⟨bn, 0, none⟩), .int .i64 k, .slice (some ⟨b, off, none⟩) n6 c6, .pointer (some ⟨bw, 0, none⟩), v8, v9, v10, v11, v12, v13, v14, v15, v16, v17, v18, v19, v20, v21, v22, v23, v24, v25, v26, v27, v28, v29, v30, v31, v32, v33, v34, u35, u36, u37, u38, u39, u40, u41, u42, u43, u44, u45, u46, u47, u48, u49, u50, u51, u52, u53, u54, u55, u56, u57, u58, .bool true], []⟩ wx) :
  (Code.region 8 #[⟨some 35, .buildSlice 35 0 #[], 35, "laws.go:797", #[], none⟩,
   ⟨some 36, .move (.tmp 6), 24, "laws.go:797", #[], none⟩,
   ⟨some 37, .load 33 (.tmp 7), 33, "laws.go:797", #[], none⟩,
   ⟨some 38, .call ⟨.value (.func 13), #[.tmp 35, .tmp 36, .tmp 37], #[35, 24, 33]⟩, 4, "laws.go:797", #[⟨0, .data⟩, ⟨1, .data⟩, ⟨2, .data⟩], none⟩,
   ⟨some 39, .move (.tmp 38), 4, "laws.go:797", #[⟨3, .data⟩, ⟨3, .chain⟩], none⟩,
   ⟨some 40, .move (.tmp 3), 24, "laws.go:797", #[⟨4, .guard⟩], some (4, true)⟩,
   ⟨some 41, .call ⟨.builtin .len, #[.tmp 40], #[24]⟩, 3, "laws.go:797", #[⟨5, .data⟩, ⟨4, .guard⟩], some (4, true)⟩,
   ⟨some 42, .binOp BinOp.gtr 3 (.tmp 41) (.const (Value.int IntKind.i64 24)) 3, 4, "laws.go:797", #[⟨6, .data⟩, ⟨4, .guard⟩], some (4, true)⟩,
   ⟨some 43, .move (.tmp 42), 4, "laws.go:797", #[⟨7, .data⟩, ⟨4, .chain⟩, ⟨4, .guard⟩], some (4, true)⟩,
   ⟨some 44, .move (.tmp 6), 24, "laws.go:797", #[⟨8, .guard⟩], some (8, false)⟩,
   ⟨some 45, .call ⟨.builtin .len, #[.tmp 44], #[24]⟩, 3, "laws.go:797", #[⟨9, .data⟩, ⟨8, .guard⟩], some (8, false)⟩,
   ⟨some 46, .binOp BinOp.leq 3 (.tmp 45) (.const (Value.int IntKind.i64 24)) 3, 4, "laws.go:797", #[⟨10, .data⟩, ⟨8, .guard⟩], some (8, false)⟩,
   ⟨some 47, .pick (.tmp 43) (.const (Value.bool true)) (.tmp 46), 4, "laws.go:797", #[⟨8, .data⟩, ⟨11, .data⟩, ⟨4, .guard⟩], some (4, true)⟩,
   ⟨some 48, .pick (.tmp 39) (.tmp 47) (.const (Value.bool false)), 4, "laws.go:797", #[⟨4, .data⟩, ⟨12, .data⟩], none⟩,
   ⟨some 49, .move (.tmp 48), 4, "laws.go:797", #[⟨13, .data⟩, ⟨8, .chain⟩], none⟩,
   ⟨some 50, .move (.tmp 6), 24, "laws.go:797", #[⟨14, .guard⟩], some (14, true)⟩,
   ⟨some 51, .move (.tmp 6), 24, "laws.go:797", #[⟨14, .guard⟩], some (14, true)⟩,
   ⟨some 52, .call ⟨.builtin .len, #[.tmp 51], #[24]⟩, 3, "laws.go:797", #[⟨16, .data⟩, ⟨14, .guard⟩], some (14, true)⟩,
   ⟨some 53, .binOp BinOp.sub 3 (.tmp 52) (.const (Value.int IntKind.i64 1)) 3, 3, "laws.go:797", #[⟨17, .data⟩, ⟨14, .guard⟩], some (14, true)⟩,
   ⟨some 54, .indexAddr 24 (.tmp 50) (.tmp 53), 0, "laws.go:797", #[⟨15, .data⟩, ⟨18, .data⟩, ⟨14, .guard⟩], some (14, true)⟩,
   ⟨some 55, .fieldAddr 38 (.tmp 54) 0, 0, "laws.go:797", #[⟨19, .data⟩, ⟨14, .guard⟩], some (14, true)⟩,
   ⟨some 56, .load 27 (.tmp 55), 27, "laws.go:797", #[⟨20, .data⟩, ⟨14, .guard⟩], some (14, true)⟩,
   ⟨some 57, .load 27 (.tmp 4), 27, "laws.go:797", #[⟨14, .guard⟩], some (14, true)⟩,
   ⟨some 58, .call ⟨.value (.func 14), #[.tmp 56, .tmp 57], #[27, 27]⟩, 4, "laws.go:797", #[⟨21, .data⟩, ⟨22, .data⟩, ⟨14, .chain⟩, ⟨14, .guard⟩], some (14, true)⟩,
   ⟨some 59, .pick (.tmp 49) (.tmp 58) (.const (Value.bool false)), 4, "laws.go:797", #[⟨14, .data⟩, ⟨23, .data⟩], none⟩,
   ⟨some 2, .assign (.tmp 59), 4, "laws.go:797", #[⟨24, .data⟩, ⟨23, .chain⟩, ⟨0, .phase⟩, ⟨1, .phase⟩, ⟨2, .phase⟩, ⟨3, .phase⟩, ⟨4, .phase⟩, ⟨5, .phase⟩, ⟨6, .phase⟩, ⟨7, .phase⟩, ⟨8, .phase⟩, ⟨9, .phase⟩, ⟨10, .phase⟩, ⟨11, .phase⟩, ⟨12, .phase⟩, ⟨13, .phase⟩, ⟨14, .phase⟩, ⟨15, .phase⟩, ⟨16, .phase⟩, ⟨17, .phase⟩, ⟨18, .phase⟩, ⟨19, .phase⟩, ⟨20, .phase⟩, ⟨21, .phase⟩, ⟨22, .phase⟩, ⟨23, .phase⟩, ⟨24, .phase⟩], none⟩] true).wp Try.prog Q ⟨#[v0, v1, v2, .slice xs ns cs, .pointer (some ⟨bn, 0, none⟩), .int .i64 k, .slice (some ⟨b, off, none⟩) n6 c6, .pointer (some ⟨bw, 0, none⟩), v8, v9, v10, v11, v12, v13, v14, v15, v16, v17, v18, v19, v20, v21, v22, v23, v24, v25, v26, v27, v28, v29, v30, v31, v32, v33, v34, v35, v36, v37, v38, v39, v40, v41, v42, v43, v44, v45, v46, v47, v48, v49, v50, v51, v52, v53, v54, v55, v56, v57, v58, v59], []⟩ w := by
 have HQ := Lib.hid hQ; clear hQ
 have hdr : Below w.heap.size w w.drew := (Below.refl _ _).drew
 have BB := Lib.hid hdr
 refine wp_region_noPanic ?_
 refine wp_region_held_drew (S := (fun w' => w'.cell? ⟨bn, 0, none⟩ = some (.slice xn nn cn) ∧ w'.cell? ⟨b, off + k6 * 2, none⟩ = some (.slice xl nl cl) ∧ w'.cell? ⟨bw, 0, none⟩ = some (.slice xn nn cn) ∧ w'.cell? ⟨bw, 1, none⟩ = some (.int .i64 k) ∧ w'.cell? ⟨bw, 2, none⟩ = some (.int .i64 0) ∧ w'.cell? ⟨bw, 3, none⟩ = some (.int .i64 1))) (by kernel_rfl) ?_ (fun hHeld => ?_)
 ·
  exact ⟨kc KN.out BB.out, kc KX.out BB.out, kc KW0.out BB.out, kc KW1.out BB.out, kc KW2.out BB.out, kc KW3.out BB.out⟩
 clear hdr
 generalize w.drew = wd at *
 refine wpAnyH_take (i := 1) (oi := ⟨some 36, .move (.tmp 6), 24, "laws.go:797", #[], none⟩) (v := ?_) rfl (by kernel_rfl) (by kernel_rfl) (by kernel_rfl) (fun _ _ _ h => h) (Or.inl ⟨by rfl, ?_⟩) (by assumption) ?_
 rotate_left
 ·
  intro w' hSw; (try dsimp only at hSw); first | (go_simp; done) | (go_simp; with_reducible rfl)
 (try simp only [Act.put, Row.pB0, Row.pB1, Row.pB2])
 refine wpAnyH_take (i := 2) (oi := ⟨some 37, .load 33 (.tmp 7), 33, "laws.go:797", #[], none⟩) (v := ?_) rfl (by kernel_rfl) (by kernel_rfl) (by kernel_rfl) (fun _ _ _ h => h) (Or.inl ⟨by rfl, ?_⟩) (by assumption) ?_
 rotate_left
 ·
  intro w' hSw; (try dsimp only at hSw); first | (go_simp; done) | (go_simp; with_reducible rfl)
 (try simp only [Act.put, Row.pB0, Row.pB1, Row.pB2])
 refine wpAnyH_ready (rs := [0]) (by kernel_rfl) (by simp) ?_
 refine AllReadyH.cons (o := ⟨some 35, .buildSlice 35 0 #[], 35, "laws.go:797", #[], none⟩) rfl (fun K hK => ?_) AllReadyH.nil
 go_simp
 have hb : Below wd.heap.size wd (wd.alloc (.cells #[] 112)) := (Below.refl _ _).alloc (Nat.le_refl _) _
 obtain ⟨gD, hgD⟩ : ∃ g, g = wd.heap.size := ⟨_, rfl⟩
 have RP := Lib.hid (lpi_nil hgD)
 (first | rw [← hgD] | skip)
 clear hgD
 replace BB := Lib.hid (BB.out.trans (hb.mono BB.out.size))
 clear hb
 generalize wd.alloc (.cells #[] 112) = wn1 at *
 clear hHeld
 refine hK.out _ _ ?_ (fun hHeld => ?_)
 ·
  (try dsimp only); exact ⟨kc KN.out BB.out, kc KX.out BB.out, kc KW0.out BB.out, kc KW1.out BB.out, kc KW2.out BB.out, kc KW3.out BB.out⟩
 clear hK K
 (try simp only [Act.put, Row.pB0, Row.pB1, Row.pB2])
 refine wpAnyH_ready (rs := [3]) (by kernel_rfl) (by simp) ?_
 refine AllReadyH.cons (o := ⟨some 38, .call ⟨.value (.func 13), #[.tmp 35, .tmp 36, .tmp 37], #[35, 24, 33]⟩, 4, "laws.go:797", #[⟨0, .data⟩, ⟨1, .data⟩, ⟨2, .data⟩], none⟩) rfl (fun K hK => ?_) AllReadyH.nil
 go_simp
 refine (iLoV (mm, k, 0, 1) HLO.out RP.out (H_x.out.on BB.out) (H_w.out.on BB.out) s_x.out HBM.out).mono ?_
 rintro e wn2 ⟨rfl, hb⟩
 replace RP := Lib.hid (RP.out.on hb)
 replace BB := Lib.hid (BB.out.trans (hb.mono BB.out.size))
 clear hb
 (try go_wp2_with fail)
 clear hHeld
 refine hK.out _ _ ?_ (fun hHeld => ?_)
 ·
  (try dsimp only); exact ⟨kc KN.out BB.out, kc KX.out BB.out, kc KW0.out BB.out, kc KW1.out BB.out, kc KW2.out BB.out, kc KW3.out BB.out⟩
 clear hK K
 (try simp only [Act.put, Row.pB0, Row.pB1, Row.pB2])
 refine wpAnyH_take (i := 4) (oi := ⟨some 39, .move (.tmp 38), 4, "laws.go:797", #[⟨3, .data⟩, ⟨3, .chain⟩], none⟩) (v := ?_) rfl (by kernel_rfl) (by kernel_rfl) (by kernel_rfl) (fun _ _ _ h => h) (Or.inl ⟨by rfl, ?_⟩) (by assumption) ?_
 rotate_left
 ·
  intro w' hSw; (try dsimp only at hSw); first | (go_simp; done) | (go_simp; with_reducible rfl)
 (try simp only [Act.put, Row.pB0, Row.pB1, Row.pB2])
 refine wpAnyH_take (i := 5) (oi := ⟨some 40, .move (.tmp 3), 24, "laws.go:797", #[⟨4, .guard⟩], some (4, true)⟩) (v := ?_) rfl (by kernel_rfl) (by kernel_rfl) (by kernel_rfl) (fun _ _ _ h => h) (Or.inl ⟨by rfl, ?_⟩) (by assumption) ?_
 rotate_left
 ·
  intro w' hSw; (try dsimp only at hSw); first | (go_simp; done) | (go_simp; with_reducible rfl)
 (try simp only [Act.put, Row.pB0, Row.pB1, Row.pB2])
 refine wpAnyH_take (i := 6) (oi := ⟨some 41, .call ⟨.builtin .len, #[.tmp 40], #[24]⟩, 3, "laws.go:797", #[⟨5, .data⟩, ⟨4, .guard⟩], some (4, true)⟩) (v := ?_) rfl (by kernel_rfl) (by kernel_rfl) (by kernel_rfl) (fun _ _ _ h => h) (Or.inl ⟨by rfl, ?_⟩) (by assumption) ?_
 rotate_left
 ·
  intro w' hSw; (try dsimp only at hSw); first | (go_simp; done) | (go_simp; with_reducible rfl)
 (try simp only [Act.put, Row.pB0, Row.pB1, Row.pB2])
 refine wpAnyH_take (i := 7) (oi := ⟨some 42, .binOp BinOp.gtr 3 (.tmp 41) (.const (Value.int IntKind.i64 24)) 3, 4, "laws.go:797", #[⟨6, .data⟩, ⟨4, .guard⟩], some (4, true)⟩) (v := ?_) rfl (by kernel_rfl) (by kernel_rfl) (by kernel_rfl) (fun _ _ _ h => h) (Or.inl ⟨by rfl, ?_⟩) (by assumption) ?_
 rotate_left
 ·
  intro w' hSw; (try dsimp only at hSw); first | (go_simp; done) | (go_simp; with_reducible rfl)
 (try simp only [Act.put, Row.pB0, Row.pB1, Row.pB2])
 refine wpAnyH_take (i := 8) (oi := ⟨some 43, .move (.tmp 42), 4, "laws.go:797", #[⟨7, .data⟩, ⟨4, .chain⟩, ⟨4, .guard⟩], some (4, true)⟩) (v := ?_) rfl (by kernel_rfl) (by kernel_rfl) (by kernel_rfl) (fun _ _ _ h => h) (Or.inl ⟨by rfl, ?_⟩) (by assumption) ?_
 rotate_left
 ·
  intro w' hSw; (try dsimp only at hSw); first | (go_simp; done) | (go_simp; with_reducible rfl)
 (try simp only [Act.put, Row.pB0, Row.pB1, Row.pB2])
 refine wpAnyH_take (i := 9) (oi := ⟨some 44, .move (.tmp 6), 24, "laws.go:797", #[⟨8, .guard⟩], some (8, false)⟩) (v := ?_) rfl (by kernel_rfl) (by kernel_rfl) (by kernel_rfl) (fun _ _ _ h => h) (Or.inl ⟨by rfl, ?_⟩) (by assumption) ?_
 rotate_left
 ·
  intro w' hSw; (try dsimp only at hSw); first | (go_simp; done) | (go_simp; with_reducible rfl)
 (try simp only [Act.put, Row.pB0, Row.pB1, Row.pB2])
 refine wpAnyH_take (i := 10) (oi := ⟨some 45, .call ⟨.builtin .len, #[.tmp 44], #[24]⟩, 3, "laws.go:797", #[⟨9, .data⟩, ⟨8, .guard⟩], some (8, false)⟩) (v := ?_) rfl (by kernel_rfl) (by kernel_rfl) (by kernel_rfl) (fun _ _ _ h => h) (Or.inl ⟨by rfl, ?_⟩) (by assumption) ?_
 rotate_left
 ·
  intro w' hSw; (try dsimp only at hSw); first | (go_simp; done) | (go_simp; with_reducible rfl)
 (try simp only [Act.put, Row.pB0, Row.pB1, Row.pB2])
 refine wpAnyH_take (i := 11) (oi := ⟨some 46, .binOp BinOp.leq 3 (.tmp 45) (.const (Value.int IntKind.i64 24)) 3, 4, "laws.go:797", #[⟨10, .data⟩, ⟨8, .guard⟩], some (8, false)⟩) (v := ?_) rfl (by kernel_rfl) (by kernel_rfl) (by kernel_rfl) (fun _ _ _ h => h) (Or.inl ⟨by rfl, ?_⟩) (by assumption) ?_
 rotate_left
 ·
  intro w' hSw; (try dsimp only at hSw); first | (go_simp; done) | (go_simp; with_reducible rfl)
 (try simp only [Act.put, Row.pB0, Row.pB1, Row.pB2])
 refine wpAnyH_take (i := 12) (oi := ⟨some 47, .pick (.tmp 43) (.const (Value.bool true)) (.tmp 46), 4, "laws.go:797", #[⟨8, .data⟩, ⟨11, .data⟩, ⟨4, .guard⟩], some (4, true)⟩) (v := ?_) rfl (by kernel_rfl) (by kernel_rfl) (by kernel_rfl) (fun _ _ _ h => h) (Or.inl ⟨by rfl, ?_⟩) (by assumption) ?_
 rotate_left
 ·
  intro w' hSw; (try dsimp only at hSw); first | (go_simp; done) | (go_simp; with_reducible rfl)
 (try simp only [Act.put, Row.pB0, Row.pB1, Row.pB2])
 refine wpAnyH_take (i := 13) (oi := ⟨some 48, .pick (.tmp 39) (.tmp 47) (.const (Value.bool false)), 4, "laws.go:797", #[⟨4, .data⟩, ⟨12, .data⟩], none⟩) (v := ?_) rfl (by kernel_rfl) (by kernel_rfl) (by kernel_rfl) (fun _ _ _ h => h) (Or.inl ⟨by rfl, ?_⟩) (by assumption) ?_
 rotate_left
 ·
  intro w' hSw; (try dsimp only at hSw); first | (go_simp; done) | (go_simp; with_reducible rfl)
 (try simp only [Act.put, Row.pB0, Row.pB1, Row.pB2])
 refine wpAnyH_take (i := 14) (oi := ⟨some 49, .move (.tmp 48), 4, "laws.go:797", #[⟨13, .data⟩, ⟨8, .chain⟩], none⟩) (v := ?_) rfl (by kernel_rfl) (by kernel_rfl) (by kernel_rfl) (fun _ _ _ h => h) (Or.inl ⟨by rfl, ?_⟩) (by assumption) ?_
 rotate_left
 ·
  intro w' hSw; (try dsimp only at hSw); first | (go_simp; done) | (go_simp; with_reducible rfl)
 (try simp only [Act.put, Row.pB0, Row.pB1, Row.pB2])
 refine wpAnyH_take (i := 15) (oi := ⟨some 50, .move (.tmp 6), 24, "laws.go:797", #[⟨14, .guard⟩], some (14, true)⟩) (v := ?_) rfl (by kernel_rfl) (by kernel_rfl) (by kernel_rfl) (fun _ _ _ h => h) (Or.inl ⟨by rfl, ?_⟩) (by assumption) ?_
 rotate_left
 ·
  intro w' hSw; (try dsimp only at hSw); first | (go_simp; done) | (go_simp; with_reducible rfl)
 (try simp only [Act.put, Row.pB0, Row.pB1, Row.pB2])
 refine wpAnyH_take (i := 16) (oi := ⟨some 51, .move (.tmp 6), 24, "laws.go:797", #[⟨14, .guard⟩], some (14, true)⟩) (v := ?_) rfl (by kernel_rfl) (by kernel_rfl) (by kernel_rfl) (fun _ _ _ h => h) (Or.inl ⟨by rfl, ?_⟩) (by assumption) ?_
 rotate_left
 ·
  intro w' hSw; (try dsimp only at hSw); first | (go_simp; done) | (go_simp; with_reducible rfl)
 (try simp only [Act.put, Row.pB0, Row.pB1, Row.pB2])
 refine wpAnyH_take (i := 17) (oi := ⟨some 52, .call ⟨.builtin .len, #[.tmp 51], #[24]⟩, 3, "laws.go:797", #[⟨16, .data⟩, ⟨14, .guard⟩], some (14, true)⟩) (v := ?_) rfl (by kernel_rfl) (by kernel_rfl) (by kernel_rfl) (fun _ _ _ h => h) (Or.inl ⟨by rfl, ?_⟩) (by assumption) ?_
 rotate_left
 ·
  intro w' hSw; (try dsimp only at hSw); first | (go_simp; done) | (go_simp; with_reducible rfl)
 (try simp only [Act.put, Row.pB0, Row.pB1, Row.pB2])
 refine wpAnyH_take (i := 18) (oi := ⟨some 53, .binOp BinOp.sub 3 (.tmp 52) (.const (Value.int IntKind.i64 1)) 3, 3, "laws.go:797", #[⟨17, .data⟩, ⟨14, .guard⟩], some (14, true)⟩) (v := ?_) rfl (by kernel_rfl) (by kernel_rfl) (by kernel_rfl) (fun _ _ _ h => h) (Or.inl ⟨by rfl, ?_⟩) (by assumption) ?_
 rotate_left
 ·
  intro w' hSw; (try dsimp only at hSw); first | (go_simp; done) | (go_simp; with_reducible rfl)
 (try simp only [Act.put, Row.pB0, Row.pB1, Row.pB2])
 refine wpAnyH_take (i := 19) (oi := ⟨some 54, .indexAddr 24 (.tmp 50) (.tmp 53), 0, "laws.go:797", #[⟨15, .data⟩, ⟨18, .data⟩, ⟨14, .guard⟩], some (14, true)⟩) (v := ?_) rfl (by kernel_rfl) (by kernel_rfl) (by kernel_rfl) (fun _ _ _ h => h) (Or.inl ⟨by rfl, ?_⟩) (by assumption) ?_
 rotate_left
 ·
  intro w' hSw; (try dsimp only at hSw); first | (go_simp; done) | (go_simp; with_reducible rfl)
 (try simp only [Act.put, Row.pB0, Row.pB1, Row.pB2])
 refine wpAnyH_take (i := 20) (oi := ⟨some 55, .fieldAddr 38 (.tmp 54) 0, 0, "laws.go:797", #[⟨19, .data⟩, ⟨14, .guard⟩], some (14, true)⟩) (v := ?_) rfl (by kernel_rfl) (by kernel_rfl) (by kernel_rfl) (fun _ _ _ h => h) (Or.inl ⟨by rfl, ?_⟩) (by assumption) ?_
 rotate_left
 ·
  intro w' hSw; (try dsimp only at hSw); first | (go_simp; done) | (go_simp; with_reducible rfl)
 (try simp only [Act.put, Row.pB0, Row.pB1, Row.pB2])
 refine wpAnyH_take (i := 21) (oi := ⟨some 56, .load 27 (.tmp 55), 27, "laws.go:797", #[⟨20, .data⟩, ⟨14, .guard⟩], some (14, true)⟩) (v := ?_) rfl (by kernel_rfl) (by kernel_rfl) (by kernel_rfl) (fun _ _ _ h => h) (Or.inl ⟨by rfl, ?_⟩) (by assumption) ?_
 rotate_left
 ·
  intro w' hSw; (try dsimp only at hSw); first | (go_simp; done) | (go_simp; with_reducible rfl)
 (try simp only [Act.put, Row.pB0, Row.pB1, Row.pB2])
 refine wpAnyH_take (i := 22) (oi := ⟨some 57, .load 27 (.tmp 4), 27, "laws.go:797", #[⟨14, .guard⟩], some (14, true)⟩) (v := ?_) rfl (by kernel_rfl) (by kernel_rfl) (by kernel_rfl) (fun _ _ _ h => h) (Or.inl ⟨by rfl, ?_⟩) (by assumption) ?_
 rotate_left
 ·
  intro w' hSw; (try dsimp only at hSw); first | (go_simp; done) | (go_simp; with_reducible rfl)
 (try simp only [Act.put, Row.pB0, Row.pB1, Row.pB2])
 refine wpAnyH_ready (rs := [23]) (by kernel_rfl) (by simp) ?_
 refine AllReadyH.cons (o := ⟨some 58, .call ⟨.value (.func 14), #[.tmp 56, .tmp 57], #[27, 27]⟩, 4, "laws.go:797", #[⟨21, .data⟩, ⟨22, .data⟩, ⟨14, .chain⟩, ⟨14, .guard⟩], some (14, true)⟩) rfl (fun K hK => ?_) AllReadyH.nil
 go_simp
 refine (sameNmS (H_l.out.on BB.out) (H_n.out.on BB.out) HML.out).mono ?_
 rintro e wn3 ⟨rfl, hb⟩
 replace RP := Lib.hid (RP.out.on hb)
 replace BB := Lib.hid (BB.out.trans (hb.mono BB.out.size))
 clear hb
 (try go_wp2_with fail)
 clear hHeld
 refine hK.out _ _ ?_ (fun hHeld => ?_)
 ·
  (try dsimp only); exact ⟨kc KN.out BB.out, kc KX.out BB.out, kc KW0.out BB.out, kc KW1.out BB.out, kc KW2.out BB.out, kc KW3.out BB.out⟩
 clear hK K
 (try simp only [Act.put, Row.pB0, Row.pB1, Row.pB2])
 refine wpAnyH_take (i := 24) (oi := ⟨some 59, .pick (.tmp 49) (.tmp 58) (.const (Value.bool false)), 4, "laws.go:797", #[⟨14, .data⟩, ⟨23, .data⟩], none⟩) (v := ?_) rfl (by kernel_rfl) (by kernel_rfl) (by kernel_rfl) (fun _ _ _ h => h) (Or.inl ⟨by rfl, ?_⟩) (by assumption) ?_
 rotate_left
 ·
  intro w' hSw; (try dsimp only at hSw); first | (go_simp; done) | (go_simp; with_reducible rfl)
 (try simp only [Act.put, Row.pB0, Row.pB1, Row.pB2])
 refine wpAnyH_take (i := 25) (oi := ⟨some 2, .assign (.tmp 59), 4, "laws.go:797", #[⟨24, .data⟩, ⟨23, .chain⟩, ⟨0, .phase⟩, ⟨1, .phase⟩, ⟨2, .phase⟩, ⟨3, .phase⟩, ⟨4, .phase⟩, ⟨5, .phase⟩, ⟨6, .phase⟩, ⟨7, .phase⟩, ⟨8, .phase⟩, ⟨9, .phase⟩, ⟨10, .phase⟩, ⟨11, .phase⟩, ⟨12, .phase⟩, ⟨13, .phase⟩, ⟨14, .phase⟩, ⟨15, .phase⟩, ⟨16, .phase⟩, ⟨17, .phase⟩, ⟨18, .phase⟩, ⟨19, .phase⟩, ⟨20, .phase⟩, ⟨21, .phase⟩, ⟨22, .phase⟩, ⟨23, .phase⟩, ⟨24, .phase⟩], none⟩) (v := ?_) rfl (by kernel_rfl) (by kernel_rfl) (by kernel_rfl) (fun _ _ _ h => h) (Or.inl ⟨by rfl, ?_⟩) (by assumption) ?_
 rotate_left
 ·
  intro w' hSw; (try dsimp only at hSw); first | (go_simp; done) | (go_simp; with_reducible rfl)
 (try simp only [Act.put, Row.pB0, Row.pB1, Row.pB2])
 refine wpAnyH_done (by kernel_rfl) ?_ _
 exact NoPanic.normal (HQ.out _ _ _ _ _ _ _ _ _ _ _ _ _ _ _ _ _ _ _ _ _ _ _ _  _  BB.out)
end Go.Proofs.Ytdaahcaafdleaaa.Row
