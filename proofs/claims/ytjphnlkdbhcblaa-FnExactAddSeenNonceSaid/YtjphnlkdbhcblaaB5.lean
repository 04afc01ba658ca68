/- Contracts and mathematics, joined: PendQ1, PendQ2, PendD, PendT0, PendT, PendU, PendP, PendN0, PendN1, PendN, Far. No conditions but those that each states. -/
import Derived.WalkKit
import Derived.Deep.RegionHeld3
import Derived.Deep.RegionLaw
import Derived.Test.YtjphnlkdbhcblaaB4
import Derived.Lib.AppendZerosOnto
import Derived.Test.YtjphnlkdbhcblaaB1
/- EqualPending, the model. No conditions but that lengths fit. -/
namespace Go.Proofs.Ytjphnlkdbhcblaa.Row
open Go.ChangeShapes Go.WideShapes Go.ChangeAt Go.RowKit Go.Instr
set_option linter.unusedVariables false
set_option maxRecDepth 100000
set_option maxRecDepth 100000 in
set_option maxHeartbeats 4000000 in
theorem rep0 {Q : Exit → Act → World → Prop} {v2 v3 v4 v6 v7 v8 v9 v10 v11 v12 v13 v14 v15 v16 v17 v18 v19 v20 v21 v22 v23 v24 v25 v26 v27 v28 v29 v30 v31 v32 v33 v34 v35 v36 v37 v38 v39 v40 v41 v42 v43 v44 v45 v46 v47 v48 v49 v50 v51 v52 v53 v54 v55 v56 v57 v58 v59 v60 v61 v62 v63 v64 v65 v66 v67 v68 v69 v70 v71 v72 v73 v74 v75 v76 v77 v78 v79 v80 v81 v82 v83 v84 : Value} {w : World} {b off n c b2 off2 n2 c2 k : Nat}  {u1 u2 : Int}  (hk : k < n) (hk2 : k < n2) (hv : (u1 != u2) = true) (K2 : Hid (w.cell? ⟨b, off + k * 3 + 2, none⟩ = some (.int .i64 u1))) (J2 : Hid (w.cell? ⟨b2, off2 + k * 3 + 2, none⟩ = some (.int .i64 u2)))
  (hQ : ∀ (u18 u19 u20 u21 u22 u23 u24 u25 u26 u27 u28 u29 u30 u31 u32 u33 u34 u35 u36 u37 u38 u39 u40 u41 u42 u43 u44 u45 u46 u47 u48 u49 u50 u51 u52 u53 u54 u55 u56 : Value)  (wx : World), Below w.heap.size w wx → Q .normal ⟨#[.slice (some ⟨b, off, none⟩) n c, .slice (some ⟨b2, off2, none⟩) n2 c2, v2, v3, v4, .int .i64 k, v6, v7, v8, v9, v10, v11, v12, v13, v14, v15, v16, v17, u18, u19, u20, u21, u22, u23, u24, u25, u26, u27, u28, u29, u30, u31, u32, u33, u34, u35, u36, u37, u38, u39, u40, u41, u42, u43, u44, u45, u46, u47, u48, u49, u50, u51, u52, u53, u54, u55, u56, .bool true, v58, v59, v60, v61, v62, v63, v64, v65, v66, v67, v68, v69, v70, v71, v72, v73, v74, v75, v76, v77, v78, v79, v80, v81, v82, v83, v84], []⟩ wx) :
  (Code.region 6 #[⟨some 18, .move (.tmp 0), 35, "l13_pend.go:160", #[], none⟩,
   ⟨some 19, .move (.tmp 5), 3, "l13_pend.go:160", #[], none⟩,
   ⟨some 20, .indexAddr 35 (.tmp 18) (.tmp 19), 0, "l13_pend.go:160", #[⟨0, .data⟩, ⟨1, .data⟩], none⟩,
   ⟨some 21, .fieldAddr 101 (.tmp 20) 2, 0, "l13_pend.go:160", #[⟨2, .data⟩], none⟩,
   ⟨some 22, .load 3 (.tmp 21), 3, "l13_pend.go:160", #[⟨3, .data⟩], none⟩,
   ⟨some 23, .move (.tmp 1), 35, "l13_pend.go:160", #[], none⟩,
   ⟨some 24, .move (.tmp 5), 3, "l13_pend.go:160", #[], none⟩,
   ⟨some 25, .indexAddr 35 (.tmp 23) (.tmp 24), 0, "l13_pend.go:160", #[⟨5, .data⟩, ⟨6, .data⟩], none⟩,
   ⟨some 26, .fieldAddr 101 (.tmp 25) 2, 0, "l13_pend.go:160", #[⟨7, .data⟩], none⟩,
   ⟨some 27, .load 3 (.tmp 26), 3, "l13_pend.go:160", #[⟨8, .data⟩], none⟩,
   ⟨some 28, .binOp BinOp.neq 3 (.tmp 22) (.tmp 27) 3, 4, "l13_pend.go:160", #[⟨4, .data⟩, ⟨9, .data⟩], none⟩,
   ⟨some 29, .move (.tmp 28), 4, "l13_pend.go:160", #[⟨10, .data⟩], none⟩,
   ⟨some 30, .move (.tmp 0), 35, "l13_pend.go:160", #[⟨11, .guard⟩], some (11, false)⟩,
   ⟨some 31, .move (.tmp 5), 3, "l13_pend.go:160", #[⟨11, .guard⟩], some (11, false)⟩,
   ⟨some 32, .indexAddr 35 (.tmp 30) (.tmp 31), 0, "l13_pend.go:160", #[⟨12, .data⟩, ⟨13, .data⟩, ⟨11, .guard⟩], some (11, false)⟩,
   ⟨some 33, .fieldAddr 101 (.tmp 32) 0, 0, "l13_pend.go:160", #[⟨14, .data⟩, ⟨11, .guard⟩], some (11, false)⟩,
   ⟨some 34, .load 27 (.tmp 33), 27, "l13_pend.go:160", #[⟨15, .data⟩, ⟨11, .guard⟩], some (11, false)⟩,
   ⟨some 35, .move (.tmp 1), 35, "l13_pend.go:160", #[⟨11, .guard⟩], some (11, false)⟩,
   ⟨some 36, .move (.tmp 5), 3, "l13_pend.go:160", #[⟨11, .guard⟩], some (11, false)⟩,
   ⟨some 37, .indexAddr 35 (.tmp 35) (.tmp 36), 0, "l13_pend.go:160", #[⟨17, .data⟩, ⟨18, .data⟩, ⟨11, .guard⟩], some (11, false)⟩,
   ⟨some 38, .fieldAddr 101 (.tmp 37) 0, 0, "l13_pend.go:160", #[⟨19, .data⟩, ⟨11, .guard⟩], some (11, false)⟩,
   ⟨some 39, .load 27 (.tmp 38), 27, "l13_pend.go:160", #[⟨20, .data⟩, ⟨11, .guard⟩], some (11, false)⟩,
   ⟨some 40, .call ⟨.value (.func 83), #[.tmp 34, .tmp 39], #[27, 27]⟩, 4, "l13_pend.go:160", #[⟨16, .data⟩, ⟨21, .data⟩, ⟨11, .chain⟩, ⟨11, .guard⟩], some (11, false)⟩,
   ⟨some 41, .unOp UnOp.not 4 (.tmp 40), 4, "l13_pend.go:160", #[⟨22, .data⟩, ⟨11, .guard⟩], some (11, false)⟩,
   ⟨some 42, .pick (.tmp 29) (.const (Value.bool true)) (.tmp 41), 4, "l13_pend.go:160", #[⟨11, .data⟩, ⟨23, .data⟩], none⟩,
   ⟨some 43, .move (.tmp 42), 4, "l13_pend.go:160", #[⟨24, .data⟩, ⟨22, .chain⟩], none⟩,
   ⟨some 44, .move (.tmp 0), 35, "l13_pend.go:160", #[⟨25, .guard⟩], some (25, false)⟩,
   ⟨some 45, .move (.tmp 5), 3, "l13_pend.go:160", #[⟨25, .guard⟩], some (25, false)⟩,
   ⟨some 46, .indexAddr 35 (.tmp 44) (.tmp 45), 0, "l13_pend.go:160", #[⟨26, .data⟩, ⟨27, .data⟩, ⟨25, .guard⟩], some (25, false)⟩,
   ⟨some 47, .fieldAddr 101 (.tmp 46) 1, 0, "l13_pend.go:160", #[⟨28, .data⟩, ⟨25, .guard⟩], some (25, false)⟩,
   ⟨some 48, .load 68 (.tmp 47), 68, "l13_pend.go:160", #[⟨29, .data⟩, ⟨25, .guard⟩], some (25, false)⟩,
   ⟨some 49, .call ⟨.builtin .len, #[.tmp 48], #[68]⟩, 3, "l13_pend.go:160", #[⟨30, .data⟩, ⟨25, .guard⟩], some (25, false)⟩,
   ⟨some 50, .move (.tmp 1), 35, "l13_pend.go:160", #[⟨25, .guard⟩], some (25, false)⟩,
   ⟨some 51, .move (.tmp 5), 3, "l13_pend.go:160", #[⟨25, .guard⟩], some (25, false)⟩,
   ⟨some 52, .indexAddr 35 (.tmp 50) (.tmp 51), 0, "l13_pend.go:160", #[⟨32, .data⟩, ⟨33, .data⟩, ⟨25, .guard⟩], some (25, false)⟩,
   ⟨some 53, .fieldAddr 101 (.tmp 52) 1, 0, "l13_pend.go:160", #[⟨34, .data⟩, ⟨25, .guard⟩], some (25, false)⟩,
   ⟨some 54, .load 68 (.tmp 53), 68, "l13_pend.go:160", #[⟨35, .data⟩, ⟨25, .guard⟩], some (25, false)⟩,
   ⟨some 55, .call ⟨.builtin .len, #[.tmp 54], #[68]⟩, 3, "l13_pend.go:160", #[⟨36, .data⟩, ⟨25, .guard⟩], some (25, false)⟩,
   ⟨some 56, .binOp BinOp.neq 3 (.tmp 49) (.tmp 55) 3, 4, "l13_pend.go:160", #[⟨31, .data⟩, ⟨37, .data⟩, ⟨25, .guard⟩], some (25, false)⟩,
   ⟨some 57, .pick (.tmp 43) (.const (Value.bool true)) (.tmp 56), 4, "l13_pend.go:160", #[⟨25, .data⟩, ⟨38, .data⟩], none⟩] true).wp Try.prog Q ⟨#[.slice (some ⟨b, off, none⟩) n c, .slice (some ⟨b2, off2, none⟩) n2 c2, v2, v3, v4, .int .i64 k, v6, v7, v8, v9, v10, v11, v12, v13, v14, v15, v16, v17, v18, v19, v20, v21, v22, v23, v24, v25, v26, v27, v28, v29, v30, v31, v32, v33, v34, v35, v36, v37, v38, v39, v40, v41, v42, v43, v44, v45, v46, v47, v48, v49, v50, v51, v52, v53, v54, v55, v56, v57, v58, v59, v60, v61, v62, v63, v64, v65, v66, v67, v68, v69, v70, v71, v72, v73, v74, v75, v76, v77, v78, v79, v80, v81, v82, v83, v84], []⟩ w := by
 have HQ := Lib.hid hQ; clear hQ
 have hdr : Below w.heap.size w w.drew := (Below.refl _ _).drew
 have BB := Lib.hid hdr
 refine wp_region_noPanic ?_
 refine wp_region_held_drew (S := (fun w' => w'.cell? ⟨b, off + k * 3 + 2, none⟩ = some (.int .i64 u1) ∧ w'.cell? ⟨b2, off2 + k * 3 + 2, none⟩ = some (.int .i64 u2))) (by kernel_rfl) ?_ (fun hHeld => ?_)
 ·
  exact ⟨kc K2.out BB.out, kc J2.out BB.out⟩
 clear hdr
 generalize w.drew = wd at *
 refine wpAnyH_take (i := 0) (oi := ⟨some 18, .move (.tmp 0), 35, "l13_pend.go:160", #[], none⟩) (v := ?_) rfl (by kernel_rfl) (by kernel_rfl) (by kernel_rfl) (fun _ _ _ h => h) (Or.inl ⟨by rfl, ?_⟩) (by assumption) ?_
 rotate_left
 ·
  intro w' hSw; (try dsimp only at hSw); first | (go_simp; done) | (go_simp; with_reducible rfl)
 (try simp only [Act.put, Row.pB0, Row.pB1, Row.pB2])
 refine wpAnyH_take (i := 1) (oi := ⟨some 19, .move (.tmp 5), 3, "l13_pend.go:160", #[], none⟩) (v := ?_) rfl (by kernel_rfl) (by kernel_rfl) (by kernel_rfl) (fun _ _ _ h => h) (Or.inl ⟨by rfl, ?_⟩) (by assumption) ?_
 rotate_left
 ·
  intro w' hSw; (try dsimp only at hSw); first | (go_simp; done) | (go_simp; with_reducible rfl)
 (try simp only [Act.put, Row.pB0, Row.pB1, Row.pB2])
 refine wpAnyH_take (i := 2) (oi := ⟨some 20, .indexAddr 35 (.tmp 18) (.tmp 19), 0, "l13_pend.go:160", #[⟨0, .data⟩, ⟨1, .data⟩], none⟩) (v := ?_) rfl (by kernel_rfl) (by kernel_rfl) (by kernel_rfl) (fun _ _ _ h => h) (Or.inl ⟨by rfl, ?_⟩) (by assumption) ?_
 rotate_left
 ·
  intro w' hSw; (try dsimp only at hSw); first | (go_simp; done) | (go_simp; with_reducible rfl)
 (try simp only [Act.put, Row.pB0, Row.pB1, Row.pB2])
 refine wpAnyH_take (i := 3) (oi := ⟨some 21, .fieldAddr 101 (.tmp 20) 2, 0, "l13_pend.go:160", #[⟨2, .data⟩], none⟩) (v := ?_) rfl (by kernel_rfl) (by kernel_rfl) (by kernel_rfl) (fun _ _ _ h => h) (Or.inl ⟨by rfl, ?_⟩) (by assumption) ?_
 rotate_left
 ·
  intro w' hSw; (try dsimp only at hSw); first | (go_simp; done) | (go_simp; with_reducible rfl)
 (try simp only [Act.put, Row.pB0, Row.pB1, Row.pB2])
 refine wpAnyH_take (i := 4) (oi := ⟨some 22, .load 3 (.tmp 21), 3, "l13_pend.go:160", #[⟨3, .data⟩], none⟩) (v := ?_) rfl (by kernel_rfl) (by kernel_rfl) (by kernel_rfl) (fun _ _ _ h => h) (Or.inl ⟨by rfl, ?_⟩) (by assumption) ?_
 rotate_left
 ·
  intro w' hSw; (try dsimp only at hSw); first | (go_simp; done) | (go_simp; with_reducible rfl)
 (try simp only [Act.put, Row.pB0, Row.pB1, Row.pB2])
 refine wpAnyH_take (i := 5) (oi := ⟨some 23, .move (.tmp 1), 35, "l13_pend.go:160", #[], none⟩) (v := ?_) rfl (by kernel_rfl) (by kernel_rfl) (by kernel_rfl) (fun _ _ _ h => h) (Or.inl ⟨by rfl, ?_⟩) (by assumption) ?_
 rotate_left
 ·
  intro w' hSw; (try dsimp only at hSw); first | (go_simp; done) | (go_simp; with_reducible rfl)
 (try simp only [Act.put, Row.pB0, Row.pB1, Row.pB2])
 refine wpAnyH_take (i := 6) (oi := ⟨some 24, .move (.tmp 5), 3, "l13_pend.go:160", #[], none⟩) (v := ?_) rfl (by kernel_rfl) (by kernel_rfl) (by kernel_rfl) (fun _ _ _ h => h) (Or.inl ⟨by rfl, ?_⟩) (by assumption) ?_
 rotate_left
 ·
  intro w' hSw; (try dsimp only at hSw); first | (go_simp; done) | (go_simp; with_reducible rfl)
 (try simp only [Act.put, Row.pB0, Row.pB1, Row.pB2])
 refine wpAnyH_take (i := 7) (oi := ⟨some 25, .indexAddr 35 (.tmp 23) (.tmp 24), 0, "l13_pend.go:160", #[⟨5, .data⟩, ⟨6, .data⟩], none⟩) (v := ?_) rfl (by kernel_rfl) (by kernel_rfl) (by kernel_rfl) (fun _ _ _ h => h) (Or.inl ⟨by rfl, ?_⟩) (by assumption) ?_
 rotate_left
 ·
  intro w' hSw; (try dsimp only at hSw); first | (go_simp; done) | (go_simp; with_reducible rfl)
 (try simp only [Act.put, Row.pB0, Row.pB1, Row.pB2])
 refine wpAnyH_take (i := 8) (oi := ⟨some 26, .fieldAddr 101 (.tmp 25) 2, 0, "l13_pend.go:160", #[⟨7, .data⟩], none⟩) (v := ?_) rfl (by kernel_rfl) (by kernel_rfl) (by kernel_rfl) (fun _ _ _ h => h) (Or.inl ⟨by rfl, ?_⟩) (by assumption) ?_
 rotate_left
 ·
  intro w' hSw; (try dsimp only at hSw); first | (go_simp; done) | (go_simp; with_reducible rfl)
 (try simp only [Act.put, Row.pB0, Row.pB1, Row.pB2])
 refine wpAnyH_take (i := 9) (oi := ⟨some 27, .load 3 (.tmp 26), 3, "l13_pend.go:160", #[⟨8, .data⟩], none⟩) (v := ?_) rfl (by kernel_rfl) (by kernel_rfl) (by kernel_rfl) (fun _ _ _ h => h) (Or.inl ⟨by rfl, ?_⟩) (by assumption) ?_
 rotate_left
 ·
  intro w' hSw; (try dsimp only at hSw); first | (go_simp; done) | (go_simp; with_reducible rfl)
 (try simp only [Act.put, Row.pB0, Row.pB1, Row.pB2])
 refine wpAnyH_take (i := 10) (oi := ⟨some 28, .binOp BinOp.neq 3 (.tmp 22) (.tmp 27) 3, 4, "l13_pend.go:160", #[⟨4, .data⟩, ⟨9, .data⟩], none⟩) (v := ?_) rfl (by kernel_rfl) (by kernel_rfl) (by kernel_rfl) (fun _ _ _ h => h) (Or.inl ⟨by rfl, ?_⟩) (by assumption) ?_
 rotate_left
 ·
  intro w' hSw; (try dsimp only at hSw); first | (go_simp; done) | (go_simp; with_reducible rfl)
 (try simp only [Act.put, Row.pB0, Row.pB1, Row.pB2])
 refine wpAnyH_take (i := 11) (oi := ⟨some 29, .move (.tmp 28), 4, "l13_pend.go:160", #[⟨10, .data⟩], none⟩) (v := ?_) rfl (by kernel_rfl) (by kernel_rfl) (by kernel_rfl) (fun _ _ _ h => h) (Or.inl ⟨by rfl, ?_⟩) (by assumption) ?_
 rotate_left
 ·
  intro w' hSw; (try dsimp only at hSw); first | (go_simp; done) | (go_simp; with_reducible rfl)
 (try simp only [Act.put, Row.pB0, Row.pB1, Row.pB2])
 refine wpAnyH_take (i := 12) (oi := ⟨some 30, .move (.tmp 0), 35, "l13_pend.go:160", #[⟨11, .guard⟩], some (11, false)⟩) (v := undef) rfl (by kernel_rfl) (by kernel_rfl) (by kernel_rfl) (fun _ _ _ h => h) (Or.inr ⟨by rfl, rfl⟩) (by assumption) ?_
 (try simp only [Act.put, Row.pB0, Row.pB1, Row.pB2])
 refine wpAnyH_take (i := 13) (oi := ⟨some 31, .move (.tmp 5), 3, "l13_pend.go:160", #[⟨11, .guard⟩], some (11, false)⟩) (v := undef) rfl (by kernel_rfl) (by kernel_rfl) (by kernel_rfl) (fun _ _ _ h => h) (Or.inr ⟨by rfl, rfl⟩) (by assumption) ?_
 (try simp only [Act.put, Row.pB0, Row.pB1, Row.pB2])
 refine wpAnyH_take (i := 14) (oi := ⟨some 32, .indexAddr 35 (.tmp 30) (.tmp 31), 0, "l13_pend.go:160", #[⟨12, .data⟩, ⟨13, .data⟩, ⟨11, .guard⟩], some (11, false)⟩) (v := undef) rfl (by kernel_rfl) (by kernel_rfl) (by kernel_rfl) (fun _ _ _ h => h) (Or.inr ⟨by rfl, rfl⟩) (by assumption) ?_
 (try simp only [Act.put, Row.pB0, Row.pB1, Row.pB2])
 refine wpAnyH_take (i := 15) (oi := ⟨some 33, .fieldAddr 101 (.tmp 32) 0, 0, "l13_pend.go:160", #[⟨14, .data⟩, ⟨11, .guard⟩], some (11, false)⟩) (v := undef) rfl (by kernel_rfl) (by kernel_rfl) (by kernel_rfl) (fun _ _ _ h => h) (Or.inr ⟨by rfl, rfl⟩) (by assumption) ?_
 (try simp only [Act.put, Row.pB0, Row.pB1, Row.pB2])
 refine wpAnyH_take (i := 16) (oi := ⟨some 34, .load 27 (.tmp 33), 27, "l13_pend.go:160", #[⟨15, .data⟩, ⟨11, .guard⟩], some (11, false)⟩) (v := undef) rfl (by kernel_rfl) (by kernel_rfl) (by kernel_rfl) (fun _ _ _ h => h) (Or.inr ⟨by rfl, rfl⟩) (by assumption) ?_
 (try simp only [Act.put, Row.pB0, Row.pB1, Row.pB2])
 refine wpAnyH_take (i := 17) (oi := ⟨some 35, .move (.tmp 1), 35, "l13_pend.go:160", #[⟨11, .guard⟩], some (11, false)⟩) (v := undef) rfl (by kernel_rfl) (by kernel_rfl) (by kernel_rfl) (fun _ _ _ h => h) (Or.inr ⟨by rfl, rfl⟩) (by assumption) ?_
 (try simp only [Act.put, Row.pB0, Row.pB1, Row.pB2])
 refine wpAnyH_take (i := 18) (oi := ⟨some 36, .move (.tmp 5), 3, "l13_pend.go:160", #[⟨11, .guard⟩], some (11, false)⟩) (v := undef) rfl (by kernel_rfl) (by kernel_rfl) (by kernel_rfl) (fun _ _ _ h => h) (Or.inr ⟨by rfl, rfl⟩) (by assumption) ?_
 (try simp only [Act.put, Row.pB0, Row.pB1, Row.pB2])
 refine wpAnyH_take (i := 19) (oi := ⟨some 37, .indexAddr 35 (.tmp 35) (.tmp 36), 0, "l13_pend.go:160", #[⟨17, .data⟩, ⟨18, .data⟩, ⟨11, .guard⟩], some (11, false)⟩) (v := undef) rfl (by kernel_rfl) (by kernel_rfl) (by kernel_rfl) (fun _ _ _ h => h) (Or.inr ⟨by rfl, rfl⟩) (by assumption) ?_
 (try simp only [Act.put, Row.pB0, Row.pB1, Row.pB2])
 refine wpAnyH_take (i := 20) (oi := ⟨some 38, .fieldAddr 101 (.tmp 37) 0, 0, "l13_pend.go:160", #[⟨19, .data⟩, ⟨11, .guard⟩], some (11, false)⟩) (v := undef) rfl (by kernel_rfl) (by kernel_rfl) (by kernel_rfl) (fun _ _ _ h => h) (Or.inr ⟨by rfl, rfl⟩) (by assumption) ?_
 (try simp only [Act.put, Row.pB0, Row.pB1, Row.pB2])
 refine wpAnyH_take (i := 21) (oi := ⟨some 39, .load 27 (.tmp 38), 27, "l13_pend.go:160", #[⟨20, .data⟩, ⟨11, .guard⟩], some (11, false)⟩) (v := undef) rfl (by kernel_rfl) (by kernel_rfl) (by kernel_rfl) (fun _ _ _ h => h) (Or.inr ⟨by rfl, rfl⟩) (by assumption) ?_
 (try simp only [Act.put, Row.pB0, Row.pB1, Row.pB2])
 refine wpAnyH_take (i := 22) (oi := ⟨some 40, .call ⟨.value (.func 83), #[.tmp 34, .tmp 39], #[27, 27]⟩, 4, "l13_pend.go:160", #[⟨16, .data⟩, ⟨21, .data⟩, ⟨11, .chain⟩, ⟨11, .guard⟩], some (11, false)⟩) (v := undef) rfl (by kernel_rfl) (by kernel_rfl) (by kernel_rfl) (fun _ _ _ h => h) (Or.inr ⟨by rfl, rfl⟩) (by assumption) ?_
 (try simp only [Act.put, Row.pB0, Row.pB1, Row.pB2])
 refine wpAnyH_take (i := 23) (oi := ⟨some 41, .unOp UnOp.not 4 (.tmp 40), 4, "l13_pend.go:160", #[⟨22, .data⟩, ⟨11, .guard⟩], some (11, false)⟩) (v := undef) rfl (by kernel_rfl) (by kernel_rfl) (by kernel_rfl) (fun _ _ _ h => h) (Or.inr ⟨by rfl, rfl⟩) (by assumption) ?_
 (try simp only [Act.put, Row.pB0, Row.pB1, Row.pB2])
 refine wpAnyH_take (i := 24) (oi := ⟨some 42, .pick (.tmp 29) (.const (Value.bool true)) (.tmp 41), 4, "l13_pend.go:160", #[⟨11, .data⟩, ⟨23, .data⟩], none⟩) (v := ?_) rfl (by kernel_rfl) (by kernel_rfl) (by kernel_rfl) (fun _ _ _ h => h) (Or.inl ⟨by rfl, ?_⟩) (by assumption) ?_
 rotate_left
 ·
  intro w' hSw; (try dsimp only at hSw); first | (go_simp; done) | (go_simp; with_reducible rfl)
 (try simp only [Act.put, Row.pB0, Row.pB1, Row.pB2])
 refine wpAnyH_take (i := 25) (oi := ⟨some 43, .move (.tmp 42), 4, "l13_pend.go:160", #[⟨24, .data⟩, ⟨22, .chain⟩], none⟩) (v := ?_) rfl (by kernel_rfl) (by kernel_rfl) (by kernel_rfl) (fun _ _ _ h => h) (Or.inl ⟨by rfl, ?_⟩) (by assumption) ?_
 rotate_left
 ·
  intro w' hSw; (try dsimp only at hSw); first | (go_simp; done) | (go_simp; with_reducible rfl)
 (try simp only [Act.put, Row.pB0, Row.pB1, Row.pB2])
 refine wpAnyH_take (i := 26) (oi := ⟨some 44, .move (.tmp 0), 35, "l13_pend.go:160", #[⟨25, .guard⟩], some (25, false)⟩) (v := undef) rfl (by kernel_rfl) (by kernel_rfl) (by kernel_rfl) (fun _ _ _ h => h) (Or.inr ⟨by rfl, rfl⟩) (by assumption) ?_
 (try simp only [Act.put, Row.pB0, Row.pB1, Row.pB2])
 refine wpAnyH_take (i := 27) (oi := ⟨some 45, .move (.tmp 5), 3, "l13_pend.go:160", #[⟨25, .guard⟩], some (25, false)⟩) (v := undef) rfl (by kernel_rfl) (by kernel_rfl) (by kernel_rfl) (fun _ _ _ h => h) (Or.inr ⟨by rfl, rfl⟩) (by assumption) ?_
 (try simp only [Act.put, Row.pB0, Row.pB1, Row.pB2])
 refine wpAnyH_take (i := 28) (oi := ⟨some 46, .indexAddr 35 (.tmp 44) (.tmp 45), 0, "l13_pend.go:160", #[⟨26, .data⟩, ⟨27, .data⟩, ⟨25, .guard⟩], some (25, false)⟩) (v := undef) rfl (by kernel_rfl) (by kernel_rfl) (by kernel_rfl) (fun _ _ _ h => h) (Or.inr ⟨by rfl, rfl⟩) (by assumption) ?_
 (try simp only [Act.put, Row.pB0, Row.pB1, Row.pB2])
 refine wpAnyH_take (i := 29) (oi := ⟨some 47, .fieldAddr 101 (.tmp 46) 1, 0, "l13_pend.go:160", #[⟨28, .data⟩, ⟨25, .guard⟩], some (25, false)⟩) (v := undef) rfl (by kernel_rfl) (by kernel_rfl) (by kernel_rfl) (fun _ _ _ h => h) (Or.inr ⟨by rfl, rfl⟩) (by assumption) ?_
 (try simp only [Act.put, Row.pB0, Row.pB1, Row.pB2])
 refine wpAnyH_take (i := 30) (oi := ⟨some 48, .load 68 (.tmp 47), 68, "l13_pend.go:160", #[⟨29, .data⟩, ⟨25, .guard⟩], some (25, false)⟩) (v := undef) rfl (by kernel_rfl) (by kernel_rfl) (by kernel_rfl) (fun _ _ _ h => h) (Or.inr ⟨by rfl, rfl⟩) (by assumption) ?_
 (try simp only [Act.put, Row.pB0, Row.pB1, Row.pB2])
 refine wpAnyH_take (i := 31) (oi := ⟨some 49, .call ⟨.builtin .len, #[.tmp 48], #[68]⟩, 3, "l13_pend.go:160", #[⟨30, .data⟩, ⟨25, .guard⟩], some (25, false)⟩) (v := undef) rfl (by kernel_rfl) (by kernel_rfl) (by kernel_rfl) (fun _ _ _ h => h) (Or.inr ⟨by rfl, rfl⟩) (by assumption) ?_
 (try simp only [Act.put, Row.pB0, Row.pB1, Row.pB2])
 refine wpAnyH_take (i := 32) (oi := ⟨some 50, .move (.tmp 1), 35, "l13_pend.go:160", #[⟨25, .guard⟩], some (25, false)⟩) (v := undef) rfl (by kernel_rfl) (by kernel_rfl) (by kernel_rfl) (fun _ _ _ h => h) (Or.inr ⟨by rfl, rfl⟩) (by assumption) ?_
 (try simp only [Act.put, Row.pB0, Row.pB1, Row.pB2])
 refine wpAnyH_take (i := 33) (oi := ⟨some 51, .move (.tmp 5), 3, "l13_pend.go:160", #[⟨25, .guard⟩], some (25, false)⟩) (v := undef) rfl (by kernel_rfl) (by kernel_rfl) (by kernel_rfl) (fun _ _ _ h => h) (Or.inr ⟨by rfl, rfl⟩) (by assumption) ?_
 (try simp only [Act.put, Row.pB0, Row.pB1, Row.pB2])
 refine wpAnyH_take (i := 34) (oi := ⟨some 52, .indexAddr 35 (.tmp 50) (.tmp 51), 0, "l13_pend.go:160", #[⟨32, .data⟩, ⟨33, .data⟩, ⟨25, .guard⟩], some (25, false)⟩) (v := undef) rfl (by kernel_rfl) (by kernel_rfl) (by kernel_rfl) (fun _ _ _ h => h) (Or.inr ⟨by rfl, rfl⟩) (by assumption) ?_
 (try simp only [Act.put, Row.pB0, Row.pB1, Row.pB2])
 refine wpAnyH_take (i := 35) (oi := ⟨some 53, .fieldAddr 101 (.tmp 52) 1, 0, "l13_pend.go:160", #[⟨34, .data⟩, ⟨25, .guard⟩], some (25, false)⟩) (v := undef) rfl (by kernel_rfl) (by kernel_rfl) (by kernel_rfl) (fun _ _ _ h => h) (Or.inr ⟨by rfl, rfl⟩) (by assumption) ?_
 (try simp only [Act.put, Row.pB0, Row.pB1, Row.pB2])
 refine wpAnyH_take (i := 36) (oi := ⟨some 54, .load 68 (.tmp 53), 68, "l13_pend.go:160", #[⟨35, .data⟩, ⟨25, .guard⟩], some (25, false)⟩) (v := undef) rfl (by kernel_rfl) (by kernel_rfl) (by kernel_rfl) (fun _ _ _ h => h) (Or.inr ⟨by rfl, rfl⟩) (by assumption) ?_
 (try simp only [Act.put, Row.pB0, Row.pB1, Row.pB2])
 refine wpAnyH_take (i := 37) (oi := ⟨some 55, .call ⟨.builtin .len, #[.tmp 54], #[68]⟩, 3, "l13_pend.go:160", #[⟨36, .data⟩, ⟨25, .guard⟩], some (25, false)⟩) (v := undef) rfl (by kernel_rfl) (by kernel_rfl) (by kernel_rfl) (fun _ _ _ h => h) (Or.inr ⟨by rfl, rfl⟩) (by assumption) ?_
 (try simp only [Act.put, Row.pB0, Row.pB1, Row.pB2])
 refine wpAnyH_take (i := 38) (oi := ⟨some 56, .binOp BinOp.neq 3 (.tmp 49) (.tmp 55) 3, 4, "l13_pend.go:160", #[⟨31, .data⟩, ⟨37, .data⟩, ⟨25, .guard⟩], some (25, false)⟩) (v := undef) rfl (by kernel_rfl) (by kernel_rfl) (by kernel_rfl) (fun _ _ _ h => h) (Or.inr ⟨by rfl, rfl⟩) (by assumption) ?_
 (try simp only [Act.put, Row.pB0, Row.pB1, Row.pB2])
 refine wpAnyH_take (i := 39) (oi := ⟨some 57, .pick (.tmp 43) (.const (Value.bool true)) (.tmp 56), 4, "l13_pend.go:160", #[⟨25, .data⟩, ⟨38, .data⟩], none⟩) (v := ?_) rfl (by kernel_rfl) (by kernel_rfl) (by kernel_rfl) (fun _ _ _ h => h) (Or.inl ⟨by rfl, ?_⟩) (by assumption) ?_
 rotate_left
 ·
  intro w' hSw; (try dsimp only at hSw); first | (go_simp; done) | (go_simp; with_reducible rfl)
 (try simp only [Act.put, Row.pB0, Row.pB1, Row.pB2])
 refine wpAnyH_done (by kernel_rfl) ?_ _
 exact NoPanic.normal (HQ.out _ _ _ _ _ _ _ _ _ _ _ _ _ _ _ _ _ _ _ _ _ _ _ _ _ _ _ _ _ _ _ _ _ _ _ _ _ _ _  _  BB.out)
set_option maxRecDepth 100000 in
set_option maxHeartbeats 4000000 in
theorem rep1 {Q : Exit → Act → World → Prop} {v2 v3 v4 v6 v7 v8 v9 v10 v11 v12 v13 v14 v15 v16 v17 v18 v19 v20 v21 v22 v23 v24 v25 v26 v27 v28 v29 v30 v31 v32 v33 v34 v35 v36 v37 v38 v39 v40 v41 v42 v43 v44 v45 v46 v47 v48 v49 v50 v51 v52 v53 v54 v55 v56 v57 v58 v59 v60 v61 v62 v63 v64 v65 v66 v67 v68 v69 v70 v71 v72 v73 v74 v75 v76 v77 v78 v79 v80 v81 v82 v83 v84 : Value} {w : World} {b off n c b2 off2 n2 c2 k m0 d0 p0 e0 : Nat} {y0 z0 : Option Addr} {u1 u2 : Int} {nm nm2 : List ByteArray} (hk : k < n) (hk2 : k < n2) (hv : (u1 != u2) = false) (HV : Hid (decide (nm = nm2) = false)) (H_m : Hid (kN.At w (.agg #[.slice y0 m0 d0]) nm)) (H_n : Hid (kN.At w (.agg #[.slice z0 p0 e0]) nm2)) (HMB : Hid (bulk nm ≤ 1200000)) (HNB : Hid (bulk nm2 ≤ 1200000)) (K2 : Hid (w.cell? ⟨b, off + k * 3 + 2, none⟩ = some (.int .i64 u1))) (J2 : Hid (w.cell? ⟨b2, off2 + k * 3 + 2, none⟩ = some (.int .i64 u2))) (K0 : Hid (w.cell? ⟨b, off + k * 3, none⟩ = some (.slice y0 m0 d0))) (J0 : Hid (w.cell? ⟨b2, off2 + k * 3, none⟩ = some (.slice z0 p0 e0)))
  (hQ : ∀ (u18 u19 u20 u21 u22 u23 u24 u25 u26 u27 u28 u29 u30 u31 u32 u33 u34 u35 u36 u37 u38 u39 u40 u41 u42 u43 u44 u45 u46 u47 u48 u49 u50 u51 u52 u53 u54 u55 u56 : Value)  (wx : World), Below w.heap.size w wx → Q .normal ⟨#[.slice (some ⟨b, off, none⟩) n c, .slice (some ⟨b2, off2, none⟩) n2 c2, v2, v3, v4, .int .i64 k, v6, v7, v8, v9, v10, v11, v12, v13, v14, v15, v16, v17, u18, u19, u20, u21, u22, u23, u24, u25, u26, u27, u28, u29, u30, u31, u32, u33, u34, u35, u36, u37, u38, u39, u40, u41, u42, u43, u44, u45, u46, u47, u48, u49, u50, u51, u52, u53, u54, u55, u56, .bool true, v58, v59, v60, v61, v62, v63, v64, v65, v66, v67, v68, v69, v70, v71, v72, v73, v74, v75, v76, v77, v78, v79, v80, v81, v82, v83, v84], []⟩ wx) :
  (Code.region 6 #[⟨some 18, .move (.tmp 0), 35, "l13_pend.go:160", #[], none⟩,
   ⟨some 19, .move (.tmp 5), 3, "l13_pend.go:160", #[], none⟩,
   ⟨some 20, .indexAddr 35 (.tmp 18) (.tmp 19), 0, "l13_pend.go:160", #[⟨0, .data⟩, ⟨1, .data⟩], none⟩,
   ⟨some 21, .fieldAddr 101 (.tmp 20) 2, 0, "l13_pend.go:160", #[⟨2, .data⟩], none⟩,
   ⟨some 22, .load 3 (.tmp 21), 3, "l13_pend.go:160", #[⟨3, .data⟩], none⟩,
   ⟨some 23, .move (.tmp 1), 35, "l13_pend.go:160", #[], none⟩,
   ⟨some 24, .move (.tmp 5), 3, "l13_pend.go:160", #[], none⟩,
   ⟨some 25, .indexAddr 35 (.tmp 23) (.tmp 24), 0, "l13_pend.go:160", #[⟨5, .data⟩, ⟨6, .data⟩], none⟩,
   ⟨some 26, .fieldAddr 101 (.tmp 25) 2, 0, "l13_pend.go:160", #[⟨7, .data⟩], none⟩,
   ⟨some 27, .load 3 (.tmp 26), 3, "l13_pend.go:160", #[⟨8, .data⟩], none⟩,
   ⟨some 28, .binOp BinOp.neq 3 (.tmp 22) (.tmp 27) 3, 4, "l13_pend.go:160", #[⟨4, .data⟩, ⟨9, .data⟩], none⟩,
   ⟨some 29, .move (.tmp 28), 4, "l13_pend.go:160", #[⟨10, .data⟩], none⟩,
   ⟨some 30, .move (.tmp 0), 35, "l13_pend.go:160", #[⟨11, .guard⟩], some (11, false)⟩,
   ⟨some 31, .move (.tmp 5), 3, "l13_pend.go:160", #[⟨11, .guard⟩], some (11, false)⟩,
   ⟨some 32, .indexAddr 35 (.tmp 30) (.tmp 31), 0, "l13_pend.go:160", #[⟨12, .data⟩, ⟨13, .data⟩, ⟨11, .guard⟩], some (11, false)⟩,
   ⟨some 33, .fieldAddr 101 (.tmp 32) 0, 0, "l13_pend.go:160", #[⟨14, .data⟩, ⟨11, .guard⟩], some (11, false)⟩,
   ⟨some 34, .load 27 (.tmp 33), 27, "l13_pend.go:160", #[⟨15, .data⟩, ⟨11, .guard⟩], some (11, false)⟩,
   ⟨some 35, .move (.tmp 1), 35, "l13_pend.go:160", #[⟨11, .guard⟩], some (11, false)⟩,
   ⟨some 36, .move (.tmp 5), 3, "l13_pend.go:160", #[⟨11, .guard⟩], some (11, false)⟩,
   ⟨some 37, .indexAddr 35 (.tmp 35) (.tmp 36), 0, "l13_pend.go:160", #[⟨17, .data⟩, ⟨18, .data⟩, ⟨11, .guard⟩], some (11, false)⟩,
   ⟨some 38, .fieldAddr 101 (.tmp 37) 0, 0, "l13_pend.go:160", #[⟨19, .data⟩, ⟨11, .guard⟩], some (11, false)⟩,
   ⟨some 39, .load 27 (.tmp 38), 27, "l13_pend.go:160", #[⟨20, .data⟩, ⟨11, .guard⟩], some (11, false)⟩,
   ⟨some 40, .call ⟨.value (.func 83), #[.tmp 34, .tmp 39], #[27, 27]⟩, 4, "l13_pend.go:160", #[⟨16, .data⟩, ⟨21, .data⟩, ⟨11, .chain⟩, ⟨11, .guard⟩], some (11, false)⟩,
   ⟨some 41, .unOp UnOp.not 4 (.tmp 40), 4, "l13_pend.go:160", #[⟨22, .data⟩, ⟨11, .guard⟩], some (11, false)⟩,
   ⟨some 42, .pick (.tmp 29) (.const (Value.bool true)) (.tmp 41), 4, "l13_pend.go:160", #[⟨11, .data⟩, ⟨23, .data⟩], none⟩,
   ⟨some 43, .move (.tmp 42), 4, "l13_pend.go:160", #[⟨24, .data⟩, ⟨22, .chain⟩], none⟩,
   ⟨some 44, .move (.tmp 0), 35, "l13_pend.go:160", #[⟨25, .guard⟩], some (25, false)⟩,
   ⟨some 45, .move (.tmp 5), 3, "l13_pend.go:160", #[⟨25, .guard⟩], some (25, false)⟩,
   ⟨some 46, .indexAddr 35 (.tmp 44) (.tmp 45), 0, "l13_pend.go:160", #[⟨26, .data⟩, ⟨27, .data⟩, ⟨25, .guard⟩], some (25, false)⟩,
   ⟨some 47, .fieldAddr 101 (.tmp 46) 1, 0, "l13_pend.go:160", #[⟨28, .data⟩, ⟨25, .guard⟩], some (25, false)⟩,
   ⟨some 48, .load 68 (.tmp 47), 68, "l13_pend.go:160", #[⟨29, .data⟩, ⟨25, .guard⟩], some (25, false)⟩,
   ⟨some 49, .call ⟨.builtin .len, #[.tmp 48], #[68]⟩, 3, "l13_pend.go:160", #[⟨30, .data⟩, ⟨25, .guard⟩], some (25, false)⟩,
   ⟨some 50, .move (.tmp 1), 35, "l13_pend.go:160", #[⟨25, .guard⟩], some (25, false)⟩,
   ⟨some 51, .move (.tmp 5), 3, "l13_pend.go:160", #[⟨25, .guard⟩], some (25, false)⟩,
   ⟨some 52, .indexAddr 35 (.tmp 50) (.tmp 51), 0, "l13_pend.go:160", #[⟨32, .data⟩, ⟨33, .data⟩, ⟨25, .guard⟩], some (25, false)⟩,
   ⟨some 53, .fieldAddr 101 (.tmp 52) 1, 0, "l13_pend.go:160", #[⟨34, .data⟩, ⟨25, .guard⟩], some (25, false)⟩,
   ⟨some 54, .load 68 (.tmp 53), 68, "l13_pend.go:160", #[⟨35, .data⟩, ⟨25, .guard⟩], some (25, false)⟩,
   ⟨some 55, .call ⟨.builtin .len, #[.tmp 54], #[68]⟩, 3, "l13_pend.go:160", #[⟨36, .data⟩, ⟨25, .guard⟩], some (25, false)⟩,
   ⟨some 56, .binOp BinOp.neq 3 (.tmp 49) (.tmp 55) 3, 4, "l13_pend.go:160", #[⟨31, .data⟩, ⟨37, .data⟩, ⟨25, .guard⟩], some (25, false)⟩,
   ⟨some 57, .pick (.tmp 43) (.const (Value.bool true)) (.tmp 56), 4, "l13_pend.go:160", #[⟨25, .data⟩, ⟨38, .data⟩], none⟩] true).wp Try.prog Q ⟨#[.slice (some ⟨b, off, none⟩) n c, .slice (some ⟨b2, off2, none⟩) n2 c2, v2, v3, v4, .int .i64 k, v6, v7, v8, v9, v10, v11, v12, v13, v14, v15, v16, v17, v18, v19, v20, v21, v22, v23, v24, v25, v26, v27, v28, v29, v30, v31, v32, v33, v34, v35, v36, v37, v38, v39, v40, v41, v42, v43, v44, v45, v46, v47, v48, v49, v50, v51, v52, v53, v54, v55, v56, v57, v58, v59, v60, v61, v62, v63, v64, v65, v66, v67, v68, v69, v70, v71, v72, v73, v74, v75, v76, v77, v78, v79, v80, v81, v82, v83, v84], []⟩ w := by
 have HQ := Lib.hid hQ; clear hQ
 have hdr : Below w.heap.size w w.drew := (Below.refl _ _).drew
 have BB := Lib.hid hdr
 refine wp_region_noPanic ?_
 refine wp_region_held_drew (S := (fun w' => w'.cell? ⟨b, off + k * 3 + 2, none⟩ = some (.int .i64 u1) ∧ w'.cell? ⟨b2, off2 + k * 3 + 2, none⟩ = some (.int .i64 u2) ∧ w'.cell? ⟨b, off + k * 3, none⟩ = some (.slice y0 m0 d0) ∧ w'.cell? ⟨b2, off2 + k * 3, none⟩ = some (.slice z0 p0 e0))) (by kernel_rfl) ?_ (fun hHeld => ?_)
 ·
  exact ⟨kc K2.out BB.out, kc J2.out BB.out, kc K0.out BB.out, kc J0.out BB.out⟩
 clear hdr
 generalize w.drew = wd at *
 refine wpAnyH_take (i := 0) (oi := ⟨some 18, .move (.tmp 0), 35, "l13_pend.go:160", #[], none⟩) (v := ?_) rfl (by kernel_rfl) (by kernel_rfl) (by kernel_rfl) (fun _ _ _ h => h) (Or.inl ⟨by rfl, ?_⟩) (by assumption) ?_
 rotate_left
 ·
  intro w' hSw; (try dsimp only at hSw); first | (go_simp; done) | (go_simp; with_reducible rfl)
 (try simp only [Act.put, Row.pB0, Row.pB1, Row.pB2])
 refine wpAnyH_take (i := 1) (oi := ⟨some 19, .move (.tmp 5), 3, "l13_pend.go:160", #[], none⟩) (v := ?_) rfl (by kernel_rfl) (by kernel_rfl) (by kernel_rfl) (fun _ _ _ h => h) (Or.inl ⟨by rfl, ?_⟩) (by assumption) ?_
 rotate_left
 ·
  intro w' hSw; (try dsimp only at hSw); first | (go_simp; done) | (go_simp; with_reducible rfl)
 (try simp only [Act.put, Row.pB0, Row.pB1, Row.pB2])
 refine wpAnyH_take (i := 2) (oi := ⟨some 20, .indexAddr 35 (.tmp 18) (.tmp 19), 0, "l13_pend.go:160", #[⟨0, .data⟩, ⟨1, .data⟩], none⟩) (v := ?_) rfl (by kernel_rfl) (by kernel_rfl) (by kernel_rfl) (fun _ _ _ h => h) (Or.inl ⟨by rfl, ?_⟩) (by assumption) ?_
 rotate_left
 ·
  intro w' hSw; (try dsimp only at hSw); first | (go_simp; done) | (go_simp; with_reducible rfl)
 (try simp only [Act.put, Row.pB0, Row.pB1, Row.pB2])
 refine wpAnyH_take (i := 3) (oi := ⟨some 21, .fieldAddr 101 (.tmp 20) 2, 0, "l13_pend.go:160", #[⟨2, .data⟩], none⟩) (v := ?_) rfl (by kernel_rfl) (by kernel_rfl) (by kernel_rfl) (fun _ _ _ h => h) (Or.inl ⟨by rfl, ?_⟩) (by assumption) ?_
 rotate_left
 ·
  intro w' hSw; (try dsimp only at hSw); first | (go_simp; done) | (go_simp; with_reducible rfl)
 (try simp only [Act.put, Row.pB0, Row.pB1, Row.pB2])
 refine wpAnyH_take (i := 4) (oi := ⟨some 22, .load 3 (.tmp 21), 3, "l13_pend.go:160", #[⟨3, .data⟩], none⟩) (v := ?_) rfl (by kernel_rfl) (by kernel_rfl) (by kernel_rfl) (fun _ _ _ h => h) (Or.inl ⟨by rfl, ?_⟩) (by assumption) ?_
 rotate_left
 ·
  intro w' hSw; (try dsimp only at hSw); first | (go_simp; done) | (go_simp; with_reducible rfl)
 (try simp only [Act.put, Row.pB0, Row.pB1, Row.pB2])
 refine wpAnyH_take (i := 5) (oi := ⟨some 23, .move (.tmp 1), 35, "l13_pend.go:160", #[], none⟩) (v := ?_) rfl (by kernel_rfl) (by kernel_rfl) (by kernel_rfl) (fun _ _ _ h => h) (Or.inl ⟨by rfl, ?_⟩) (by assumption) ?_
 rotate_left
 ·
  intro w' hSw; (try dsimp only at hSw); first | (go_simp; done) | (go_simp; with_reducible rfl)
 (try simp only [Act.put, Row.pB0, Row.pB1, Row.pB2])
 refine wpAnyH_take (i := 6) (oi := ⟨some 24, .move (.tmp 5), 3, "l13_pend.go:160", #[], none⟩) (v := ?_) rfl (by kernel_rfl) (by kernel_rfl) (by kernel_rfl) (fun _ _ _ h => h) (Or.inl ⟨by rfl, ?_⟩) (by assumption) ?_
 rotate_left
 ·
  intro w' hSw; (try dsimp only at hSw); first | (go_simp; done) | (go_simp; with_reducible rfl)
 (try simp only [Act.put, Row.pB0, Row.pB1, Row.pB2])
 refine wpAnyH_take (i := 7) (oi := ⟨some 25, .indexAddr 35 (.tmp 23) (.tmp 24), 0, "l13_pend.go:160", #[⟨5, .data⟩, ⟨6, .data⟩], none⟩) (v := ?_) rfl (by kernel_rfl) (by kernel_rfl) (by kernel_rfl) (fun _ _ _ h => h) (Or.inl ⟨by rfl, ?_⟩) (by assumption) ?_
 rotate_left
 ·
  intro w' hSw; (try dsimp only at hSw); first | (go_simp; done) | (go_simp; with_reducible rfl)
 (try simp only [Act.put, Row.pB0, Row.pB1, Row.pB2])
 refine wpAnyH_take (i := 8) (oi := ⟨some 26, .fieldAddr 101 (.tmp 25) 2, 0, "l13_pend.go:160", #[⟨7, .data⟩], none⟩) (v := ?_) rfl (by kernel_rfl) (by kernel_rfl) (by kernel_rfl) (fun _ _ _ h => h) (Or.inl ⟨by rfl, ?_⟩) (by assumption) ?_
 rotate_left
 ·
  intro w' hSw; (try dsimp only at hSw); first | (go_simp; done) | (go_simp; with_reducible rfl)
 (try simp only [Act.put, Row.pB0, Row.pB1, Row.pB2])
 refine wpAnyH_take (i := 9) (oi := ⟨some 27, .load 3 (.tmp 26), 3, "l13_pend.go:160", #[⟨8, .data⟩], none⟩) (v := ?_) rfl (by kernel_rfl) (by kernel_rfl) (by kernel_rfl) (fun _ _ _ h => h) (Or.inl ⟨by rfl, ?_⟩) (by assumption) ?_
 rotate_left
 ·
  intro w' hSw; (try dsimp only at hSw); first | (go_simp; done) | (go_simp; with_reducible rfl)
 (try simp only [Act.put, Row.pB0, Row.pB1, Row.pB2])
 refine wpAnyH_take (i := 10) (oi := ⟨some 28, .binOp BinOp.neq 3 (.tmp 22) (.tmp 27) 3, 4, "l13_pend.go:160", #[⟨4, .data⟩, ⟨9, .data⟩], none⟩) (v := ?_) rfl (by kernel_rfl) (by kernel_rfl) (by kernel_rfl) (fun _ _ _ h => h) (Or.inl ⟨by rfl, ?_⟩) (by assumption) ?_
 rotate_left
 ·
  intro w' hSw; (try dsimp only at hSw); first | (go_simp; done) | (go_simp; with_reducible rfl)
 (try simp only [Act.put, Row.pB0, Row.pB1, Row.pB2])
 refine wpAnyH_take (i := 11) (oi := ⟨some 29, .move (.tmp 28), 4, "l13_pend.go:160", #[⟨10, .data⟩], none⟩) (v := ?_) rfl (by kernel_rfl) (by kernel_rfl) (by kernel_rfl) (fun _ _ _ h => h) (Or.inl ⟨by rfl, ?_⟩) (by assumption) ?_
 rotate_left
 ·
  intro w' hSw; (try dsimp only at hSw); first | (go_simp; done) | (go_simp; with_reducible rfl)
 (try simp only [Act.put, Row.pB0, Row.pB1, Row.pB2])
 refine wpAnyH_take (i := 12) (oi := ⟨some 30, .move (.tmp 0), 35, "l13_pend.go:160", #[⟨11, .guard⟩], some (11, false)⟩) (v := ?_) rfl (by kernel_rfl) (by kernel_rfl) (by kernel_rfl) (fun _ _ _ h => h) (Or.inl ⟨by rfl, ?_⟩) (by assumption) ?_
 rotate_left
 ·
  intro w' hSw; (try dsimp only at hSw); first | (go_simp; done) | (go_simp; with_reducible rfl)
 (try simp only [Act.put, Row.pB0, Row.pB1, Row.pB2])
 refine wpAnyH_take (i := 13) (oi := ⟨some 31, .move (.tmp 5), 3, "l13_pend.go:160", #[⟨11, .guard⟩], some (11, false)⟩) (v := ?_) rfl (by kernel_rfl) (by kernel_rfl) (by kernel_rfl) (fun _ _ _ h => h) (Or.inl ⟨by rfl, ?_⟩) (by assumption) ?_
 rotate_left
 ·
  intro w' hSw; (try dsimp only at hSw); first | (go_simp; done) | (go_simp; with_reducible rfl)
 (try simp only [Act.put, Row.pB0, Row.pB1, Row.pB2])
 refine wpAnyH_take (i := 14) (oi := ⟨some 32, .indexAddr 35 (.tmp 30) (.tmp 31), 0, "l13_pend.go:160", #[⟨12, .data⟩, ⟨13, .data⟩, ⟨11, .guard⟩], some (11, false)⟩) (v := ?_) rfl (by kernel_rfl) (by kernel_rfl) (by kernel_rfl) (fun _ _ _ h => h) (Or.inl ⟨by rfl, ?_⟩) (by assumption) ?_
 rotate_left
 ·
  intro w' hSw; (try dsimp only at hSw); first | (go_simp; done) | (go_simp; with_reducible rfl)
 (try simp only [Act.put, Row.pB0, Row.pB1, Row.pB2])
 refine wpAnyH_take (i := 15) (oi := ⟨some 33, .fieldAddr 101 (.tmp 32) 0, 0, "l13_pend.go:160", #[⟨14, .data⟩, ⟨11, .guard⟩], some (11, false)⟩) (v := ?_) rfl (by kernel_rfl) (by kernel_rfl) (by kernel_rfl) (fun _ _ _ h => h) (Or.inl ⟨by rfl, ?_⟩) (by assumption) ?_
 rotate_left
 ·
  intro w' hSw; (try dsimp only at hSw); first | (go_simp; done) | (go_simp; with_reducible rfl)
 (try simp only [Act.put, Row.pB0, Row.pB1, Row.pB2])
 refine wpAnyH_take (i := 16) (oi := ⟨some 34, .load 27 (.tmp 33), 27, "l13_pend.go:160", #[⟨15, .data⟩, ⟨11, .guard⟩], some (11, false)⟩) (v := ?_) rfl (by kernel_rfl) (by kernel_rfl) (by kernel_rfl) (fun _ _ _ h => h) (Or.inl ⟨by rfl, ?_⟩) (by assumption) ?_
 rotate_left
 ·
  intro w' hSw; (try dsimp only at hSw); first | (go_simp; done) | (go_simp; with_reducible rfl)
 (try simp only [Act.put, Row.pB0, Row.pB1, Row.pB2])
 refine wpAnyH_take (i := 17) (oi := ⟨some 35, .move (.tmp 1), 35, "l13_pend.go:160", #[⟨11, .guard⟩], some (11, false)⟩) (v := ?_) rfl (by kernel_rfl) (by kernel_rfl) (by kernel_rfl) (fun _ _ _ h => h) (Or.inl ⟨by rfl, ?_⟩) (by assumption) ?_
 rotate_left
 ·
  intro w' hSw; (try dsimp only at hSw); first | (go_simp; done) | (go_simp; with_reducible rfl)
 (try simp only [Act.put, Row.pB0, Row.pB1, Row.pB2])
 refine wpAnyH_take (i := 18) (oi := ⟨some 36, .move (.tmp 5), 3, "l13_pend.go:160", #[⟨11, .guard⟩], some (11, false)⟩) (v := ?_) rfl (by kernel_rfl) (by kernel_rfl) (by kernel_rfl) (fun _ _ _ h => h) (Or.inl ⟨by rfl, ?_⟩) (by assumption) ?_
 rotate_left
 ·
  intro w' hSw; (try dsimp only at hSw); first | (go_simp; done) | (go_simp; with_reducible rfl)
 (try simp only [Act.put, Row.pB0, Row.pB1, Row.pB2])
 refine wpAnyH_take (i := 19) (oi := ⟨some 37, .indexAddr 35 (.tmp 35) (.tmp 36), 0, "l13_pend.go:160", #[⟨17, .data⟩, ⟨18, .data⟩, ⟨11, .guard⟩], some (11, false)⟩) (v := ?_) rfl (by kernel_rfl) (by kernel_rfl) (by kernel_rfl) (fun _ _ _ h => h) (Or.inl ⟨by rfl, ?_⟩) (by assumption) ?_
 rotate_left
 ·
  intro w' hSw; (try dsimp only at hSw); first | (go_simp; done) | (go_simp; with_reducible rfl)
 (try simp only [Act.put, Row.pB0, Row.pB1, Row.pB2])
 refine wpAnyH_take (i := 20) (oi := ⟨some 38, .fieldAddr 101 (.tmp 37) 0, 0, "l13_pend.go:160", #[⟨19, .data⟩, ⟨11, .guard⟩], some (11, false)⟩) (v := ?_) rfl (by kernel_rfl) (by kernel_rfl) (by kernel_rfl) (fun _ _ _ h => h) (Or.inl ⟨by rfl, ?_⟩) (by assumption) ?_
 rotate_left
 ·
  intro w' hSw; (try dsimp only at hSw); first | (go_simp; done) | (go_simp; with_reducible rfl)
 (try simp only [Act.put, Row.pB0, Row.pB1, Row.pB2])
 refine wpAnyH_take (i := 21) (oi := ⟨some 39, .load 27 (.tmp 38), 27, "l13_pend.go:160", #[⟨20, .data⟩, ⟨11, .guard⟩], some (11, false)⟩) (v := ?_) rfl (by kernel_rfl) (by kernel_rfl) (by kernel_rfl) (fun _ _ _ h => h) (Or.inl ⟨by rfl, ?_⟩) (by assumption) ?_
 rotate_left
 ·
  intro w' hSw; (try dsimp only at hSw); first | (go_simp; done) | (go_simp; with_reducible rfl)
 (try simp only [Act.put, Row.pB0, Row.pB1, Row.pB2])
 refine wpAnyH_ready (rs := [22]) (by kernel_rfl) (by simp) ?_
 refine AllReadyH.cons (o := ⟨some 40, .call ⟨.value (.func 83), #[.tmp 34, .tmp 39], #[27, 27]⟩, 4, "l13_pend.go:160", #[⟨16, .data⟩, ⟨21, .data⟩, ⟨11, .chain⟩, ⟨11, .guard⟩], some (11, false)⟩) rfl (fun K hK => ?_) AllReadyH.nil
 go_simp
 refine (sEqK false HV.out (H_m.out.on BB.out) (H_n.out.on BB.out) (Nat.le_trans HMB.out (by decide)) (Nat.le_trans HNB.out (by decide))).mono ?_
 rintro e wn1 ⟨rfl, hb⟩
 replace BB := Lib.hid (BB.out.trans (hb.mono BB.out.size))
 clear hb
 (try go_wp2_with fail)
 clear hHeld
 refine hK.out _ _ ?_ (fun hHeld => ?_)
 ·
  (try dsimp only); exact ⟨kc K2.out BB.out, kc J2.out BB.out, kc K0.out BB.out, kc J0.out BB.out⟩
 clear hK K
 (try simp only [Act.put, Row.pB0, Row.pB1, Row.pB2])
 refine wpAnyH_take (i := 23) (oi := ⟨some 41, .unOp UnOp.not 4 (.tmp 40), 4, "l13_pend.go:160", #[⟨22, .data⟩, ⟨11, .guard⟩], some (11, false)⟩) (v := ?_) rfl (by kernel_rfl) (by kernel_rfl) (by kernel_rfl) (fun _ _ _ h => h) (Or.inl ⟨by rfl, ?_⟩) (by assumption) ?_
 rotate_left
 ·
  intro w' hSw; (try dsimp only at hSw); first | (go_simp; done) | (go_simp; with_reducible rfl)
 (try simp only [Act.put, Row.pB0, Row.pB1, Row.pB2])
 refine wpAnyH_take (i := 24) (oi := ⟨some 42, .pick (.tmp 29) (.const (Value.bool true)) (.tmp 41), 4, "l13_pend.go:160", #[⟨11, .data⟩, ⟨23, .data⟩], none⟩) (v := ?_) rfl (by kernel_rfl) (by kernel_rfl) (by kernel_rfl) (fun _ _ _ h => h) (Or.inl ⟨by rfl, ?_⟩) (by assumption) ?_
 rotate_left
 ·
  intro w' hSw; (try dsimp only at hSw); first | (go_simp; done) | (go_simp; with_reducible rfl)
 (try simp only [Act.put, Row.pB0, Row.pB1, Row.pB2])
 refine wpAnyH_take (i := 25) (oi := ⟨some 43, .move (.tmp 42), 4, "l13_pend.go:160", #[⟨24, .data⟩, ⟨22, .chain⟩], none⟩) (v := ?_) rfl (by kernel_rfl) (by kernel_rfl) (by kernel_rfl) (fun _ _ _ h => h) (Or.inl ⟨by rfl, ?_⟩) (by assumption) ?_
 rotate_left
 ·
  intro w' hSw; (try dsimp only at hSw); first | (go_simp; done) | (go_simp; with_reducible rfl)
 (try simp only [Act.put, Row.pB0, Row.pB1, Row.pB2])
 refine wpAnyH_take (i := 26) (oi := ⟨some 44, .move (.tmp 0), 35, "l13_pend.go:160", #[⟨25, .guard⟩], some (25, false)⟩) (v := undef) rfl (by kernel_rfl) (by kernel_rfl) (by kernel_rfl) (fun _ _ _ h => h) (Or.inr ⟨by rfl, rfl⟩) (by assumption) ?_
 (try simp only [Act.put, Row.pB0, Row.pB1, Row.pB2])
 refine wpAnyH_take (i := 27) (oi := ⟨some 45, .move (.tmp 5), 3, "l13_pend.go:160", #[⟨25, .guard⟩], some (25, false)⟩) (v := undef) rfl (by kernel_rfl) (by kernel_rfl) (by kernel_rfl) (fun _ _ _ h => h) (Or.inr ⟨by rfl, rfl⟩) (by assumption) ?_
 (try simp only [Act.put, Row.pB0, Row.pB1, Row.pB2])
 refine wpAnyH_take (i := 28) (oi := ⟨some 46, .indexAddr 35 (.tmp 44) (.tmp 45), 0, "l13_pend.go:160", #[⟨26, .data⟩, ⟨27, .data⟩, ⟨25, .guard⟩], some (25, false)⟩) (v := undef) rfl (by kernel_rfl) (by kernel_rfl) (by kernel_rfl) (fun _ _ _ h => h) (Or.inr ⟨by rfl, rfl⟩) (by assumption) ?_
 (try simp only [Act.put, Row.pB0, Row.pB1, Row.pB2])
 refine wpAnyH_take (i := 29) (oi := ⟨some 47, .fieldAddr 101 (.tmp 46) 1, 0, "l13_pend.go:160", #[⟨28, .data⟩, ⟨25, .guard⟩], some (25, false)⟩) (v := undef) rfl (by kernel_rfl) (by kernel_rfl) (by kernel_rfl) (fun _ _ _ h => h) (Or.inr ⟨by rfl, rfl⟩) (by assumption) ?_
 (try simp only [Act.put, Row.pB0, Row.pB1, Row.pB2])
 refine wpAnyH_take (i := 30) (oi := ⟨some 48, .load 68 (.tmp 47), 68, "l13_pend.go:160", #[⟨29, .data⟩, ⟨25, .guard⟩], some (25, false)⟩) (v := undef) rfl (by kernel_rfl) (by kernel_rfl) (by kernel_rfl) (fun _ _ _ h => h) (Or.inr ⟨by rfl, rfl⟩) (by assumption) ?_
 (try simp only [Act.put, Row.pB0, Row.pB1, Row.pB2])
 refine wpAnyH_take (i := 31) (oi := ⟨some 49, .call ⟨.builtin .len, #[.tmp 48], #[68]⟩, 3, "l13_pend.go:160", #[⟨30, .data⟩, ⟨25, .guard⟩], some (25, false)⟩) (v := undef) rfl (by kernel_rfl) (by kernel_rfl) (by kernel_rfl) (fun _ _ _ h => h) (Or.inr ⟨by rfl, rfl⟩) (by assumption) ?_
 (try simp only [Act.put, Row.pB0, Row.pB1, Row.pB2])
 refine wpAnyH_take (i := 32) (oi := ⟨some 50, .move (.tmp 1), 35, "l13_pend.go:160", #[⟨25, .guard⟩], some (25, false)⟩) (v := undef) rfl (by kernel_rfl) (by kernel_rfl) (by kernel_rfl) (fun _ _ _ h => h) (Or.inr ⟨by rfl, rfl⟩) (by assumption) ?_
 (try simp only [Act.put, Row.pB0, Row.pB1, Row.pB2])
 refine wpAnyH_take (i := 33) (oi := ⟨some 51, .move (.tmp 5), 3, "l13_pend.go:160", #[⟨25, .guard⟩], some (25, false)⟩) (v := undef) rfl (by kernel_rfl) (by kernel_rfl) (by kernel_rfl) (fun _ _ _ h => h) (Or.inr ⟨by rfl, rfl⟩) (by assumption) ?_
 (try simp only [Act.put, Row.pB0, Row.pB1, Row.pB2])
 refine wpAnyH_take (i := 34) (oi := ⟨some 52, .indexAddr 35 (.tmp 50) (.tmp 51), 0, "l13_pend.go:160", #[⟨32, .data⟩, ⟨33, .data⟩, ⟨25, .guard⟩], some (25, false)⟩) (v := undef) rfl (by kernel_rfl) (by kernel_rfl) (by kernel_rfl) (fun _ _ _ h => h) (Or.inr ⟨by rfl, rfl⟩) (by assumption) ?_
 (try simp only [Act.put, Row.pB0, Row.pB1, Row.pB2])
 refine wpAnyH_take (i := 35) (oi := ⟨some 53, .fieldAddr 101 (.tmp 52) 1, 0, "l13_pend.go:160", #[⟨34, .data⟩, ⟨25, .guard⟩], some (25, false)⟩) (v := undef) rfl (by kernel_rfl) (by kernel_rfl) (by kernel_rfl) (fun _ _ _ h => h) (Or.inr ⟨by rfl, rfl⟩) (by assumption) ?_
 (try simp only [Act.put, Row.pB0, Row.pB1, Row.pB2])
 refine wpAnyH_take (i := 36) (oi := ⟨some 54, .load 68 (.tmp 53), 68, "l13_pend.go:160", #[⟨35, .data⟩, ⟨25, .guard⟩], some (25, false)⟩) (v := undef) rfl (by kernel_rfl) (by kernel_rfl) (by kernel_rfl) (fun _ _ _ h => h) (Or.inr ⟨by rfl, rfl⟩) (by assumption) ?_
 (try simp only [Act.put, Row.pB0, Row.pB1, Row.pB2])
 refine wpAnyH_take (i := 37) (oi := ⟨some 55, .call ⟨.builtin .len, #[.tmp 54], #[68]⟩, 3, "l13_pend.go:160", #[⟨36, .data⟩, ⟨25, .guard⟩], some (25, false)⟩) (v := undef) rfl (by kernel_rfl) (by kernel_rfl) (by kernel_rfl) (fun _ _ _ h => h) (Or.inr ⟨by rfl, rfl⟩) (by assumption) ?_
 (try simp only [Act.put, Row.pB0, Row.pB1, Row.pB2])
 refine wpAnyH_take (i := 38) (oi := ⟨some 56, .binOp BinOp.neq 3 (.tmp 49) (.tmp 55) 3, 4, "l13_pend.go:160", #[⟨31, .data⟩, ⟨37, .data⟩, ⟨25, .guard⟩], some (25, false)⟩) (v := undef) rfl (by kernel_rfl) (by kernel_rfl) (by kernel_rfl) (fun _ _ _ h => h) (Or.inr ⟨by rfl, rfl⟩) (by assumption) ?_
 (try simp only [Act.put, Row.pB0, Row.pB1, Row.pB2])
 refine wpAnyH_take (i := 39) (oi := ⟨some 57, .pick (.tmp 43) (.const (Value.bool true)) (.tmp 56), 4, "l13_pend.go:160", #[⟨25, .data⟩, ⟨38, .data⟩], none⟩) (v := ?_) rfl (by kernel_rfl) (by kernel_rfl) (by kernel_rfl) (fun _ _ _ h => h) (Or.inl ⟨by rfl, ?_⟩) (by assumption) ?_
 rotate_left
 ·
  intro w' hSw; (try dsimp only at hSw); first | (go_simp; done) | (go_simp; with_reducible rfl)
 (try simp only [Act.put, Row.pB0, Row.pB1, Row.pB2])
 refine wpAnyH_done (by kernel_rfl) ?_ _
 exact NoPanic.normal (HQ.out _ _ _ _ _ _ _ _ _ _ _ _ _ _ _ _ _ _ _ _ _ _ _ _ _ _ _ _ _ _ _ _ _ _ _ _ _ _ _  _  BB.out)
set_option maxRecDepth 100000 in
set_option maxHeartbeats 4000000 in
theorem rep2 {Q : Exit → Act → World → Prop} {v2 v3 v4 v6 v7 v8 v9 v10 v11 v12 v13 v14 v15 v16 v17 v18 v19 v20 v21 v22 v23 v24 v25 v26 v27 v28 v29 v30 v31 v32 v33 v34 v35 v36 v37 v38 v39 v40 v41 v42 v43 v44 v45 v46 v47 v48 v49 v50 v51 v52 v53 v54 v55 v56 v57 v58 v59 v60 v61 v62 v63 v64 v65 v66 v67 v68 v69 v70 v71 v72 v73 v74 v75 v76 v77 v78 v79 v80 v81 v82 v83 v84 : Value} {w : World} {b off n c b2 off2 n2 c2 k m0 d0 m1 d1 p0 e0 p1 e1 : Nat} {y0 y1 z0 z1 : Option Addr} {u1 u2 : Int} {nm nm2 : List ByteArray} (hk : k < n) (hk2 : k < n2) (hv : (u1 != u2) = false) (HV : Hid (decide (nm = nm2) = true)) (H_m : Hid (kN.At w (.agg #[.slice y0 m0 d0]) nm)) (H_n : Hid (kN.At w (.agg #[.slice z0 p0 e0]) nm2)) (HMB : Hid (bulk nm ≤ 1200000)) (HNB : Hid (bulk nm2 ≤ 1200000)) (K2 : Hid (w.cell? ⟨b, off + k * 3 + 2, none⟩ = some (.int .i64 u1))) (J2 : Hid (w.cell? ⟨b2, off2 + k * 3 + 2, none⟩ = some (.int .i64 u2))) (K0 : Hid (w.cell? ⟨b, off + k * 3, none⟩ = some (.slice y0 m0 d0))) (J0 : Hid (w.cell? ⟨b2, off2 + k * 3, none⟩ = some (.slice z0 p0 e0))) (K1 : Hid (w.cell? ⟨b, off + k * 3 + 1, none⟩ = some (.slice y1 m1 d1))) (J1 : Hid (w.cell? ⟨b2, off2 + k * 3 + 1, none⟩ = some (.slice z1 p1 e1)))
  (hQ : ∀ (u18 u19 u20 u21 u22 u23 u24 u25 u26 u27 u28 u29 u30 u31 u32 u33 u34 u35 u36 u37 u38 u39 u40 u41 u42 u43 u44 u45 u46 u47 u48 u49 u50 u51 u52 u53 u54 u55 u56 : Value)  (wx : World), Below w.heap.size w wx → Q .normal ⟨#[.slice (some ⟨b, off, none⟩) n c, .slice (some ⟨b2, off2, none⟩) n2 c2, v2, v3, v4, .int .i64 k, v6, v7, v8, v9, v10, v11, v12, v13, v14, v15, v16, v17, u18, u19, u20, u21, u22, u23, u24, u25, u26, u27, u28, u29, u30, u31, u32, u33, u34, u35, u36, u37, u38, u39, u40, u41, u42, u43, u44, u45, u46, u47, u48, u49, u50, u51, u52, u53, u54, u55, u56, .bool (((m1 : Nat) : Int) != ((p1 : Nat) : Int)), v58, v59, v60, v61, v62, v63, v64, v65, v66, v67, v68, v69, v70, v71, v72, v73, v74, v75, v76, v77, v78, v79, v80, v81, v82, v83, v84], []⟩ wx) :
  (Code.region 6 #[⟨some 18, .move (.tmp 0), 35, "l13_pend.go:160", #[], none⟩,
   ⟨some 19, .move (.tmp 5), 3, "l13_pend.go:160", #[], none⟩,
   ⟨some 20, .indexAddr 35 (.tmp 18) (.tmp 19), 0, "l13_pend.go:160", #[⟨0, .data⟩, ⟨1, .data⟩], none⟩,
   ⟨some 21, .fieldAddr 101 (.tmp 20) 2, 0, "l13_pend.go:160", #[⟨2, .data⟩], none⟩,
   ⟨some 22, .load 3 (.tmp 21), 3, "l13_pend.go:160", #[⟨3, .data⟩], none⟩,
   ⟨some 23, .move (.tmp 1), 35, "l13_pend.go:160", #[], none⟩,
   ⟨some 24, .move (.tmp 5), 3, "l13_pend.go:160", #[], none⟩,
   ⟨some 25, .indexAddr 35 (.tmp 23) (.tmp 24), 0, "l13_pend.go:160", #[⟨5, .data⟩, ⟨6, .data⟩], none⟩,
   ⟨some 26, .fieldAddr 101 (.tmp 25) 2, 0, "l13_pend.go:160", #[⟨7, .data⟩], none⟩,
   ⟨some 27, .load 3 (.tmp 26), 3, "l13_pend.go:160", #[⟨8, .data⟩], none⟩,
   ⟨some 28, .binOp BinOp.neq 3 (.tmp 22) (.tmp 27) 3, 4, "l13_pend.go:160", #[⟨4, .data⟩, ⟨9, .data⟩], none⟩,
   ⟨some 29, .move (.tmp 28), 4, "l13_pend.go:160", #[⟨10, .data⟩], none⟩,
   ⟨some 30, .move (.tmp 0), 35, "l13_pend.go:160", #[⟨11, .guard⟩], some (11, false)⟩,
   ⟨some 31, .move (.tmp 5), 3, "l13_pend.go:160", #[⟨11, .guard⟩], some (11, false)⟩,
   ⟨some 32, .indexAddr 35 (.tmp 30) (.tmp 31), 0, "l13_pend.go:160", #[⟨12, .data⟩, ⟨13, .data⟩, ⟨11, .guard⟩], some (11, false)⟩,
   ⟨some 33, .fieldAddr 101 (.tmp 32) 0, 0, "l13_pend.go:160", #[⟨14, .data⟩, ⟨11, .guard⟩], some (11, false)⟩,
   ⟨some 34, .load 27 (.tmp 33), 27, "l13_pend.go:160", #[⟨15, .data⟩, ⟨11, .guard⟩], some (11, false)⟩,
   ⟨some 35, .move (.tmp 1), 35, "l13_pend.go:160", #[⟨11, .guard⟩], some (11, false)⟩,
   ⟨some 36, .move (.tmp 5), 3, "l13_pend.go:160", #[⟨11, .guard⟩], some (11, false)⟩,
   ⟨some 37, .indexAddr 35 (.tmp 35) (.tmp 36), 0, "l13_pend.go:160", #[⟨17, .data⟩, ⟨18, .data⟩, ⟨11, .guard⟩], some (11, false)⟩,
   ⟨some 38, .fieldAddr 101 (.tmp 37) 0, 0, "l13_pend.go:160", #[⟨19, .data⟩, ⟨11, .guard⟩], some (11, false)⟩,
   ⟨some 39, .load 27 (.tmp 38), 27, "l13_pend.go:160", #[⟨20, .data⟩, ⟨11, .guard⟩], some (11, false)⟩,
   ⟨some 40, .call ⟨.value (.func 83), #[.tmp 34, .tmp 39], #[27, 27]⟩, 4, "l13_pend.go:160", #[⟨16, .data⟩, ⟨21, .data⟩, ⟨11, .chain⟩, ⟨11, .guard⟩], some (11, false)⟩,
   ⟨some 41, .unOp UnOp.not 4 (.tmp 40), 4, "l13_pend.go:160", #[⟨22, .data⟩, ⟨11, .guard⟩], some (11, false)⟩,
   ⟨some 42, .pick (.tmp 29) (.const (Value.bool true)) (.tmp 41), 4, "l13_pend.go:160", #[⟨11, .data⟩, ⟨23, .data⟩], none⟩,
   ⟨some 43, .move (.tmp 42), 4, "l13_pend.go:160", #[⟨24, .data⟩, ⟨22, .chain⟩], none⟩,
   ⟨some 44, .move (.tmp 0), 35, "l13_pend.go:160", #[⟨25, .guard⟩], some (25, false)⟩,
   ⟨some 45, .move (.tmp 5), 3, "l13_pend.go:160", #[⟨25, .guard⟩], some (25, false)⟩,
   ⟨some 46, .indexAddr 35 (.tmp 44) (.tmp 45), 0, "l13_pend.go:160", #[⟨26, .data⟩, ⟨27, .data⟩, ⟨25, .guard⟩], some (25, false)⟩,
   ⟨some 47, .fieldAddr 101 (.tmp 46) 1, 0, "l13_pend.go:160", #[⟨28, .data⟩, ⟨25, .guard⟩], some (25, false)⟩,
   ⟨some 48, .load 68 (.tmp 47), 68, "l13_pend.go:160", #[⟨29, .data⟩, ⟨25, .guard⟩], some (25, false)⟩,
   ⟨some 49, .call ⟨.builtin .len, #[.tmp 48], #[68]⟩, 3, "l13_pend.go:160", #[⟨30, .data⟩, ⟨25, .guard⟩], some (25, false)⟩,
   ⟨some 50, .move (.tmp 1), 35, "l13_pend.go:160", #[⟨25, .guard⟩], some (25, false)⟩,
   ⟨some 51, .move (.tmp 5), 3, "l13_pend.go:160", #[⟨25, .guard⟩], some (25, false)⟩,
   ⟨some 52, .indexAddr 35 (.tmp 50) (.tmp 51), 0, "l13_pend.go:160", #[⟨32, .data⟩, ⟨33, .data⟩, ⟨25, .guard⟩], some (25, false)⟩,
   ⟨some 53, .fieldAddr 101 (.tmp 52) 1, 0, "l13_pend.go:160", #[⟨34, .data⟩, ⟨25, .guard⟩], some (25, false)⟩,
   ⟨some 54, .load 68 (.tmp 53), 68, "l13_pend.go:160", #[⟨35, .data⟩, ⟨25, .guard⟩], some (25, false)⟩,
   ⟨some 55, .call ⟨.builtin .len, #[.tmp 54], #[68]⟩, 3, "l13_pend.go:160", #[⟨36, .data⟩, ⟨25, .guard⟩], some (25, false)⟩,
   ⟨some 56, .binOp BinOp.neq 3 (.tmp 49) (.tmp 55) 3, 4, "l13_pend.go:160", #[⟨31, .data⟩, ⟨37, .data⟩, ⟨25, .guard⟩], some (25, false)⟩,
   ⟨some 57, .pick (.tmp 43) (.const (Value.bool true)) (.tmp 56), 4, "l13_pend.go:160", #[⟨25, .data⟩, ⟨38, .data⟩], none⟩] true).wp Try.prog Q ⟨#[.slice (some ⟨b, off, none⟩) n c, .slice (some ⟨b2, off2, none⟩) n2 c2, v2, v3, v4, .int .i64 k, v6, v7, v8, v9, v10, v11, v12, v13, v14, v15, v16, v17, v18, v19, v20, v21, v22, v23, v24, v25, v26, v27, v28, v29, v30, v31, v32, v33, v34, v35, v36, v37, v38, v39, v40, v41, v42, v43, v44, v45, v46, v47, v48, v49, v50, v51, v52, v53, v54, v55, v56, v57, v58, v59, v60, v61, v62, v63, v64, v65, v66, v67, v68, v69, v70, v71, v72, v73, v74, v75, v76, v77, v78, v79, v80, v81, v82, v83, v84], []⟩ w := by
 have HQ := Lib.hid hQ; clear hQ
 have hdr : Below w.heap.size w w.drew := (Below.refl _ _).drew
 have BB := Lib.hid hdr
 refine wp_region_noPanic ?_
 refine wp_region_held_drew (S := (fun w' => w'.cell? ⟨b, off + k * 3 + 2, none⟩ = some (.int .i64 u1) ∧ w'.cell? ⟨b2, off2 + k * 3 + 2, none⟩ = some (.int .i64 u2) ∧ w'.cell? ⟨b, off + k * 3, none⟩ = some (.slice y0 m0 d0) ∧ w'.cell? ⟨b2, off2 + k * 3, none⟩ = some (.slice z0 p0 e0) ∧ w'.cell? ⟨b, off + k * 3 + 1, none⟩ = some (.slice y1 m1 d1) ∧ w'.cell? ⟨b2, off2 + k * 3 + 1, none⟩ = some (.slice z1 p1 e1))) (by kernel_rfl) ?_ (fun hHeld => ?_)
 ·
  exact ⟨kc K2.out BB.out, kc J2.out BB.out, kc K0.out BB.out, kc J0.out BB.out, kc K1.out BB.out, kc J1.out BB.out⟩
 clear hdr
 generalize w.drew = wd at *
 refine wpAnyH_take (i := 0) (oi := ⟨some 18, .move (.tmp 0), 35, "l13_pend.go:160", #[], none⟩) (v := ?_) rfl (by kernel_rfl) (by kernel_rfl) (by kernel_rfl) (fun _ _ _ h => h) (Or.inl ⟨by rfl, ?_⟩) (by assumption) ?_
 rotate_left
 ·
  intro w' hSw; (try dsimp only at hSw); first | (go_simp; done) | (go_simp; with_reducible rfl)
 (try simp only [Act.put, Row.pB0, Row.pB1, Row.pB2])
 refine wpAnyH_take (i := 1) (oi := ⟨some 19, .move (.tmp 5), 3, "l13_pend.go:160", #[], none⟩) (v := ?_) rfl (by kernel_rfl) (by kernel_rfl) (by kernel_rfl) (fun _ _ _ h => h) (Or.inl ⟨by rfl, ?_⟩) (by assumption) ?_
 rotate_left
 ·
  intro w' hSw; (try dsimp only at hSw); first | (go_simp; done) | (go_simp; with_reducible rfl)
 (try simp only [Act.put, Row.pB0, Row.pB1, Row.pB2])
 refine wpAnyH_take (i := 2) (oi := ⟨some 20, .indexAddr 35 (.tmp 18) (.tmp 19), 0, "l13_pend.go:160", #[⟨0, .data⟩, ⟨1, .data⟩], none⟩) (v := ?_) rfl (by kernel_rfl) (by kernel_rfl) (by kernel_rfl) (fun _ _ _ h => h) (Or.inl ⟨by rfl, ?_⟩) (by assumption) ?_
 rotate_left
 ·
  intro w' hSw; (try dsimp only at hSw); first | (go_simp; done) | (go_simp; with_reducible rfl)
 (try simp only [Act.put, Row.pB0, Row.pB1, Row.pB2])
 refine wpAnyH_take (i := 3) (oi := ⟨some 21, .fieldAddr 101 (.tmp 20) 2, 0, "l13_pend.go:160", #[⟨2, .data⟩], none⟩) (v := ?_) rfl (by kernel_rfl) (by kernel_rfl) (by kernel_rfl) (fun _ _ _ h => h) (Or.inl ⟨by rfl, ?_⟩) (by assumption) ?_
 rotate_left
 ·
  intro w' hSw; (try dsimp only at hSw); first | (go_simp; done) | (go_simp; with_reducible rfl)
 (try simp only [Act.put, Row.pB0, Row.pB1, Row.pB2])
 refine wpAnyH_take (i := 4) (oi := ⟨some 22, .load 3 (.tmp 21), 3, "l13_pend.go:160", #[⟨3, .data⟩], none⟩) (v := ?_) rfl (by kernel_rfl) (by kernel_rfl) (by kernel_rfl) (fun _ _ _ h => h) (Or.inl ⟨by rfl, ?_⟩) (by assumption) ?_
 rotate_left
 ·
  intro w' hSw; (try dsimp only at hSw); first | (go_simp; done) | (go_simp; with_reducible rfl)
 (try simp only [Act.put, Row.pB0, Row.pB1, Row.pB2])
 refine wpAnyH_take (i := 5) (oi := ⟨some 23, .move (.tmp 1), 35, "l13_pend.go:160", #[], none⟩) (v := ?_) rfl (by kernel_rfl) (by kernel_rfl) (by kernel_rfl) (fun _ _ _ h => h) (Or.inl ⟨by rfl, ?_⟩) (by assumption) ?_
 rotate_left
 ·
  intro w' hSw; (try dsimp only at hSw); first | (go_simp; done) | (go_simp; with_reducible rfl)
 (try simp only [Act.put, Row.pB0, Row.pB1, Row.pB2])
 refine wpAnyH_take (i := 6) (oi := ⟨some 24, .move (.tmp 5), 3, "l13_pend.go:160", #[], none⟩) (v := ?_) rfl (by kernel_rfl) (by kernel_rfl) (by kernel_rfl) (fun _ _ _ h => h) (Or.inl ⟨by rfl, ?_⟩) (by assumption) ?_
 rotate_left
 ·
  intro w' hSw; (try dsimp only at hSw); first | (go_simp; done) | (go_simp; with_reducible rfl)
 (try simp only [Act.put, Row.pB0, Row.pB1, Row.pB2])
 refine wpAnyH_take (i := 7) (oi := ⟨some 25, .indexAddr 35 (.tmp 23) (.tmp 24), 0, "l13_pend.go:160", #[⟨5, .data⟩, ⟨6, .data⟩], none⟩) (v := ?_) rfl (by kernel_rfl) (by kernel_rfl) (by kernel_rfl) (fun _ _ _ h => h) (Or.inl ⟨by rfl, ?_⟩) (by assumption) ?_
 rotate_left
 ·
  intro w' hSw; (try dsimp only at hSw); first | (go_simp; done) | (go_simp; with_reducible rfl)
 (try simp only [Act.put, Row.pB0, Row.pB1, Row.pB2])
 refine wpAnyH_take (i := 8) (oi := ⟨some 26, .fieldAddr 101 (.tmp 25) 2, 0, "l13_pend.go:160", #[⟨7, .data⟩], none⟩) (v := ?_) rfl (by kernel_rfl) (by kernel_rfl) (by kernel_rfl) (fun _ _ _ h => h) (Or.inl ⟨by rfl, ?_⟩) (by assumption) ?_
 rotate_left
 ·
  intro w' hSw; (try dsimp only at hSw); first | (go_simp; done) | (go_simp; with_reducible rfl)
 (try simp only [Act.put, Row.pB0, Row.pB1, Row.pB2])
 refine wpAnyH_take (i := 9) (oi := ⟨some 27, .load 3 (.tmp 26), 3, "l13_pend.go:160", #[⟨8, .data⟩], none⟩) (v := ?_) rfl (by kernel_rfl) (by kernel_rfl) (by kernel_rfl) (fun _ _ _ h => h) (Or.inl ⟨by rfl, ?_⟩) (by assumption) ?_
 rotate_left
 ·
  intro w' hSw; (try dsimp only at hSw); first | (go_simp; done) | (go_simp; with_reducible rfl)
 (try simp only [Act.put, Row.pB0, Row.pB1, Row.pB2])
 refine wpAnyH_take (i := 10) (oi := ⟨some 28, .binOp BinOp.neq 3 (.tmp 22) (.tmp 27) 3, 4, "l13_pend.go:160", #[⟨4, .data⟩, ⟨9, .data⟩], none⟩) (v := ?_) rfl (by kernel_rfl) (by kernel_rfl) (by kernel_rfl) (fun _ _ _ h => h) (Or.inl ⟨by rfl, ?_⟩) (by assumption) ?_
 rotate_left
 ·
  intro w' hSw; (try dsimp only at hSw); first | (go_simp; done) | (go_simp; with_reducible rfl)
 (try simp only [Act.put, Row.pB0, Row.pB1, Row.pB2])
 refine wpAnyH_take (i := 11) (oi := ⟨some 29, .move (.tmp 28), 4, "l13_pend.go:160", #[⟨10, .data⟩], none⟩) (v := ?_) rfl (by kernel_rfl) (by kernel_rfl) (by kernel_rfl) (fun _ _ _ h => h) (Or.inl ⟨by rfl, ?_⟩) (by assumption) ?_
 rotate_left
 ·
  intro w' hSw; (try dsimp only at hSw); first | (go_simp; done) | (go_simp; with_reducible rfl)
 (try simp only [Act.put, Row.pB0, Row.pB1, Row.pB2])
 refine wpAnyH_take (i := 12) (oi := ⟨some 30, .move (.tmp 0), 35, "l13_pend.go:160", #[⟨11, .guard⟩], some (11, false)⟩) (v := ?_) rfl (by kernel_rfl) (by kernel_rfl) (by kernel_rfl) (fun _ _ _ h => h) (Or.inl ⟨by rfl, ?_⟩) (by assumption) ?_
 rotate_left
 ·
  intro w' hSw; (try dsimp only at hSw); first | (go_simp; done) | (go_simp; with_reducible rfl)
 (try simp only [Act.put, Row.pB0, Row.pB1, Row.pB2])
 refine wpAnyH_take (i := 13) (oi := ⟨some 31, .move (.tmp 5), 3, "l13_pend.go:160", #[⟨11, .guard⟩], some (11, false)⟩) (v := ?_) rfl (by kernel_rfl) (by kernel_rfl) (by kernel_rfl) (fun _ _ _ h => h) (Or.inl ⟨by rfl, ?_⟩) (by assumption) ?_
 rotate_left
 ·
  intro w' hSw; (try dsimp only at hSw); first | (go_simp; done) | (go_simp; with_reducible rfl)
 (try simp only [Act.put, Row.pB0, Row.pB1, Row.pB2])
 refine wpAnyH_take (i := 14) (oi := ⟨some 32, .indexAddr 35 (.tmp 30) (.tmp 31), 0, "l13_pend.go:160", #[⟨12, .data⟩, ⟨13, .data⟩, ⟨11, .guard⟩], some (11, false)⟩) (v := ?_) rfl (by kernel_rfl) (by kernel_rfl) (by kernel_rfl) (fun _ _ _ h => h) (Or.inl ⟨by rfl, ?_⟩) (by assumption) ?_
 rotate_left
 ·
  intro w' hSw; (try dsimp only at hSw); first | (go_simp; done) | (go_simp; with_reducible rfl)
 (try simp only [Act.put, Row.pB0, Row.pB1, Row.pB2])
 refine wpAnyH_take (i := 15) (oi := ⟨some 33, .fieldAddr 101 (.tmp 32) 0, 0, "l13_pend.go:160", #[⟨14, .data⟩, ⟨11, .guard⟩], some (11, false)⟩) (v := ?_) rfl (by kernel_rfl) (by kernel_rfl) (by kernel_rfl) (fun _ _ _ h => h) (Or.inl ⟨by rfl, ?_⟩) (by assumption) ?_
 rotate_left
 ·
  intro w' hSw; (try dsimp only at hSw); first | (go_simp; done) | (go_simp; with_reducible rfl)
 (try simp only [Act.put, Row.pB0, Row.pB1, Row.pB2])
 refine wpAnyH_take (i := 16) (oi := ⟨some 34, .load 27 (.tmp 33), 27, "l13_pend.go:160", #[⟨15, .data⟩, ⟨11, .guard⟩], some (11, false)⟩) (v := ?_) rfl (by kernel_rfl) (by kernel_rfl) (by kernel_rfl) (fun _ _ _ h => h) (Or.inl ⟨by rfl, ?_⟩) (by assumption) ?_
 rotate_left
 ·
  intro w' hSw; (try dsimp only at hSw); first | (go_simp; done) | (go_simp; with_reducible rfl)
 (try simp only [Act.put, Row.pB0, Row.pB1, Row.pB2])
 refine wpAnyH_take (i := 17) (oi := ⟨some 35, .move (.tmp 1), 35, "l13_pend.go:160", #[⟨11, .guard⟩], some (11, false)⟩) (v := ?_) rfl (by kernel_rfl) (by kernel_rfl) (by kernel_rfl) (fun _ _ _ h => h) (Or.inl ⟨by rfl, ?_⟩) (by assumption) ?_
 rotate_left
 ·
  intro w' hSw; (try dsimp only at hSw); first | (go_simp; done) | (go_simp; with_reducible rfl)
 (try simp only [Act.put, Row.pB0, Row.pB1, Row.pB2])
 refine wpAnyH_take (i := 18) (oi := ⟨some 36, .move (.tmp 5), 3, "l13_pend.go:160", #[⟨11, .guard⟩], some (11, false)⟩) (v := ?_) rfl (by kernel_rfl) (by kernel_rfl) (by kernel_rfl) (fun _ _ _ h => h) (Or.inl ⟨by rfl, ?_⟩) (by assumption) ?_
 rotate_left
 ·
  intro w' hSw; (try dsimp only at hSw); first | (go_simp; done) | (go_simp; with_reducible rfl)
 (try simp only [Act.put, Row.pB0, Row.pB1, Row.pB2])
 refine wpAnyH_take (i := 19) (oi := ⟨some 37, .indexAddr 35 (.tmp 35) (.tmp 36), 0, "l13_pend.go:160", #[⟨17, .data⟩, ⟨18, .data⟩, ⟨11, .guard⟩], some (11, false)⟩) (v := ?_) rfl (by kernel_rfl) (by kernel_rfl) (by kernel_rfl) (fun _ _ _ h => h) (Or.inl ⟨by rfl, ?_⟩) (by assumption) ?_
 rotate_left
 ·
  intro w' hSw; (try dsimp only at hSw); first | (go_simp; done) | (go_simp; with_reducible rfl)
 (try simp only [Act.put, Row.pB0, Row.pB1, Row.pB2])
 refine wpAnyH_take (i := 20) (oi := ⟨some 38, .fieldAddr 101 (.tmp 37) 0, 0, "l13_pend.go:160", #[⟨19, .data⟩, ⟨11, .guard⟩], some (11, false)⟩) (v := ?_) rfl (by kernel_rfl) (by kernel_rfl) (by kernel_rfl) (fun _ _ _ h => h) (Or.inl ⟨by rfl, ?_⟩) (by assumption) ?_
 rotate_left
 ·
  intro w' hSw; (try dsimp only at hSw); first | (go_simp; done) | (go_simp; with_reducible rfl)
 (try simp only [Act.put, Row.pB0, Row.pB1, Row.pB2])
 refine wpAnyH_take (i := 21) (oi := ⟨some 39, .load 27 (.tmp 38), 27, "l13_pend.go:160", #[⟨20, .data⟩, ⟨11, .guard⟩], some (11, false)⟩) (v := ?_) rfl (by kernel_rfl) (by kernel_rfl) (by kernel_rfl) (fun _ _ _ h => h) (Or.inl ⟨by rfl, ?_⟩) (by assumption) ?_
 rotate_left
 ·
  intro w' hSw; (try dsimp only at hSw); first | (go_simp; done) | (go_simp; with_reducible rfl)
 (try simp only [Act.put, Row.pB0, Row.pB1, Row.pB2])
 refine wpAnyH_ready (rs := [22]) (by kernel_rfl) (by simp) ?_
 refine AllReadyH.cons (o := ⟨some 40, .call ⟨.value (.func 83), #[.tmp 34, .tmp 39], #[27, 27]⟩, 4, "l13_pend.go:160", #[⟨16, .data⟩, ⟨21, .data⟩, ⟨11, .chain⟩, ⟨11, .guard⟩], some (11, false)⟩) rfl (fun K hK => ?_) AllReadyH.nil
 go_simp
 refine (sEqK true HV.out (H_m.out.on BB.out) (H_n.out.on BB.out) (Nat.le_trans HMB.out (by decide)) (Nat.le_trans HNB.out (by decide))).mono ?_
 rintro e wn1 ⟨rfl, hb⟩
 replace BB := Lib.hid (BB.out.trans (hb.mono BB.out.size))
 clear hb
 (try go_wp2_with fail)
 clear hHeld
 refine hK.out _ _ ?_ (fun hHeld => ?_)
 ·
  (try dsimp only); exact ⟨kc K2.out BB.out, kc J2.out BB.out, kc K0.out BB.out, kc J0.out BB.out, kc K1.out BB.out, kc J1.out BB.out⟩
 clear hK K
 (try simp only [Act.put, Row.pB0, Row.pB1, Row.pB2])
 refine wpAnyH_take (i := 23) (oi := ⟨some 41, .unOp UnOp.not 4 (.tmp 40), 4, "l13_pend.go:160", #[⟨22, .data⟩, ⟨11, .guard⟩], some (11, false)⟩) (v := ?_) rfl (by kernel_rfl) (by kernel_rfl) (by kernel_rfl) (fun _ _ _ h => h) (Or.inl ⟨by rfl, ?_⟩) (by assumption) ?_
 rotate_left
 ·
  intro w' hSw; (try dsimp only at hSw); first | (go_simp; done) | (go_simp; with_reducible rfl)
 (try simp only [Act.put, Row.pB0, Row.pB1, Row.pB2])
 refine wpAnyH_take (i := 24) (oi := ⟨some 42, .pick (.tmp 29) (.const (Value.bool true)) (.tmp 41), 4, "l13_pend.go:160", #[⟨11, .data⟩, ⟨23, .data⟩], none⟩) (v := ?_) rfl (by kernel_rfl) (by kernel_rfl) (by kernel_rfl) (fun _ _ _ h => h) (Or.inl ⟨by rfl, ?_⟩) (by assumption) ?_
 rotate_left
 ·
  intro w' hSw; (try dsimp only at hSw); first | (go_simp; done) | (go_simp; with_reducible rfl)
 (try simp only [Act.put, Row.pB0, Row.pB1, Row.pB2])
 refine wpAnyH_take (i := 25) (oi := ⟨some 43, .move (.tmp 42), 4, "l13_pend.go:160", #[⟨24, .data⟩, ⟨22, .chain⟩], none⟩) (v := ?_) rfl (by kernel_rfl) (by kernel_rfl) (by kernel_rfl) (fun _ _ _ h => h) (Or.inl ⟨by rfl, ?_⟩) (by assumption) ?_
 rotate_left
 ·
  intro w' hSw; (try dsimp only at hSw); first | (go_simp; done) | (go_simp; with_reducible rfl)
 (try simp only [Act.put, Row.pB0, Row.pB1, Row.pB2])
 refine wpAnyH_take (i := 26) (oi := ⟨some 44, .move (.tmp 0), 35, "l13_pend.go:160", #[⟨25, .guard⟩], some (25, false)⟩) (v := ?_) rfl (by kernel_rfl) (by kernel_rfl) (by kernel_rfl) (fun _ _ _ h => h) (Or.inl ⟨by rfl, ?_⟩) (by assumption) ?_
 rotate_left
 ·
  intro w' hSw; (try dsimp only at hSw); first | (go_simp; done) | (go_simp; with_reducible rfl)
 (try simp only [Act.put, Row.pB0, Row.pB1, Row.pB2])
 refine wpAnyH_take (i := 27) (oi := ⟨some 45, .move (.tmp 5), 3, "l13_pend.go:160", #[⟨25, .guard⟩], some (25, false)⟩) (v := ?_) rfl (by kernel_rfl) (by kernel_rfl) (by kernel_rfl) (fun _ _ _ h => h) (Or.inl ⟨by rfl, ?_⟩) (by assumption) ?_
 rotate_left
 ·
  intro w' hSw; (try dsimp only at hSw); first | (go_simp; done) | (go_simp; with_reducible rfl)
 (try simp only [Act.put, Row.pB0, Row.pB1, Row.pB2])
 refine wpAnyH_take (i := 28) (oi := ⟨some 46, .indexAddr 35 (.tmp 44) (.tmp 45), 0, "l13_pend.go:160", #[⟨26, .data⟩, ⟨27, .data⟩, ⟨25, .guard⟩], some (25, false)⟩) (v := ?_) rfl (by kernel_rfl) (by kernel_rfl) (by kernel_rfl) (fun _ _ _ h => h) (Or.inl ⟨by rfl, ?_⟩) (by assumption) ?_
 rotate_left
 ·
  intro w' hSw; (try dsimp only at hSw); first | (go_simp; done) | (go_simp; with_reducible rfl)
 (try simp only [Act.put, Row.pB0, Row.pB1, Row.pB2])
 refine wpAnyH_take (i := 29) (oi := ⟨some 47, .fieldAddr 101 (.tmp 46) 1, 0, "l13_pend.go:160", #[⟨28, .data⟩, ⟨25, .guard⟩], some (25, false)⟩) (v := ?_) rfl (by kernel_rfl) (by kernel_rfl) (by kernel_rfl) (fun _ _ _ h => h) (Or.inl ⟨by rfl, ?_⟩) (by assumption) ?_
 rotate_left
 ·
  intro w' hSw; (try dsimp only at hSw); first | (go_simp; done) | (go_simp; with_reducible rfl)
 (try simp only [Act.put, Row.pB0, Row.pB1, Row.pB2])
 refine wpAnyH_take (i := 30) (oi := ⟨some 48, .load 68 (.tmp 47), 68, "l13_pend.go:160", #[⟨29, .data⟩, ⟨25, .guard⟩], some (25, false)⟩) (v := ?_) rfl (by kernel_rfl) (by kernel_rfl) (by kernel_rfl) (fun _ _ _ h => h) (Or.inl ⟨by rfl, ?_⟩) (by assumption) ?_
 rotate_left
 ·
  intro w' hSw; (try dsimp only at hSw); first | (go_simp; done) | (go_simp; with_reducible rfl)
 (try simp only [Act.put, Row.pB0, Row.pB1, Row.pB2])
 refine wpAnyH_take (i := 31) (oi := ⟨some 49, .call ⟨.builtin .len, #[.tmp 48], #[68]⟩, 3, "l13_pend.go:160", #[⟨30, .data⟩, ⟨25, .guard⟩], some (25, false)⟩) (v := ?_) rfl (by kernel_rfl) (by kernel_rfl) (by kernel_rfl) (fun _ _ _ h => h) (Or.inl ⟨by rfl, ?_⟩) (by assumption) ?_
 rotate_left
 ·
  intro w' hSw; (try dsimp only at hSw); first | (go_simp; done) | (go_simp; with_reducible rfl)
 (try simp only [Act.put, Row.pB0, Row.pB1, Row.pB2])
 refine wpAnyH_take (i := 32) (oi := ⟨some 50, .move (.tmp 1), 35, "l13_pend.go:160", #[⟨25, .guard⟩], some (25, false)⟩) (v := ?_) rfl (by kernel_rfl) (by kernel_rfl) (by kernel_rfl) (fun _ _ _ h => h) (Or.inl ⟨by rfl, ?_⟩) (by assumption) ?_
 rotate_left
 ·
  intro w' hSw; (try dsimp only at hSw); first | (go_simp; done) | (go_simp; with_reducible rfl)
 (try simp only [Act.put, Row.pB0, Row.pB1, Row.pB2])
 refine wpAnyH_take (i := 33) (oi := ⟨some 51, .move (.tmp 5), 3, "l13_pend.go:160", #[⟨25, .guard⟩], some (25, false)⟩) (v := ?_) rfl (by kernel_rfl) (by kernel_rfl) (by kernel_rfl) (fun _ _ _ h => h) (Or.inl ⟨by rfl, ?_⟩) (by assumption) ?_
 rotate_left
 ·
  intro w' hSw; (try dsimp only at hSw); first | (go_simp; done) | (go_simp; with_reducible rfl)
 (try simp only [Act.put, Row.pB0, Row.pB1, Row.pB2])
 refine wpAnyH_take (i := 34) (oi := ⟨some 52, .indexAddr 35 (.tmp 50) (.tmp 51), 0, "l13_pend.go:160", #[⟨32, .data⟩, ⟨33, .data⟩, ⟨25, .guard⟩], some (25, false)⟩) (v := ?_) rfl (by kernel_rfl) (by kernel_rfl) (by kernel_rfl) (fun _ _ _ h => h) (Or.inl ⟨by rfl, ?_⟩) (by assumption) ?_
 rotate_left
 ·
  intro w' hSw; (try dsimp only at hSw); first | (go_simp; done) | (go_simp; with_reducible rfl)
 (try simp only [Act.put, Row.pB0, Row.pB1, Row.pB2])
 refine wpAnyH_take (i := 35) (oi := ⟨some 53, .fieldAddr 101 (.tmp 52) 1, 0, "l13_pend.go:160", #[⟨34, .data⟩, ⟨25, .guard⟩], some (25, false)⟩) (v := ?_) rfl (by kernel_rfl) (by kernel_rfl) (by kernel_rfl) (fun _ _ _ h => h) (Or.inl ⟨by rfl, ?_⟩) (by assumption) ?_
 rotate_left
 ·
  intro w' hSw; (try dsimp only at hSw); first | (go_simp; done) | (go_simp; with_reducible rfl)
 (try simp only [Act.put, Row.pB0, Row.pB1, Row.pB2])
 refine wpAnyH_take (i := 36) (oi := ⟨some 54, .load 68 (.tmp 53), 68, "l13_pend.go:160", #[⟨35, .data⟩, ⟨25, .guard⟩], some (25, false)⟩) (v := ?_) rfl (by kernel_rfl) (by kernel_rfl) (by kernel_rfl) (fun _ _ _ h => h) (Or.inl ⟨by rfl, ?_⟩) (by assumption) ?_
 rotate_left
 ·
  intro w' hSw; (try dsimp only at hSw); first | (go_simp; done) | (go_simp; with_reducible rfl)
 (try simp only [Act.put, Row.pB0, Row.pB1, Row.pB2])
 refine wpAnyH_take (i := 37) (oi := ⟨some 55, .call ⟨.builtin .len, #[.tmp 54], #[68]⟩, 3, "l13_pend.go:160", #[⟨36, .data⟩, ⟨25, .guard⟩], some (25, false)⟩) (v := ?_) rfl (by kernel_rfl) (by kernel_rfl) (by kernel_rfl) (fun _ _ _ h => h) (Or.inl ⟨by rfl, ?_⟩) (by assumption) ?_
 rotate_left
 ·
  intro w' hSw; (try dsimp only at hSw); first | (go_simp; done) | (go_simp; with_reducible rfl)
 (try simp only [Act.put, Row.pB0, Row.pB1, Row.pB2])
 refine wpAnyH_take (i := 38) (oi := ⟨some 56, .binOp BinOp.neq 3 (.tmp 49) (.tmp 55) 3, 4, "l13_pend.go:160", #[⟨31, .data⟩, ⟨37, .data⟩, ⟨25, .guard⟩], some (25, false)⟩) (v := ?_) rfl (by kernel_rfl) (by kernel_rfl) (by kernel_rfl) (fun _ _ _ h => h) (Or.inl ⟨by rfl, ?_⟩) (by assumption) ?_
 rotate_left
 ·
  intro w' hSw; (try dsimp only at hSw); first | (go_simp; done) | (go_simp; with_reducible rfl)
 (try simp only [Act.put, Row.pB0, Row.pB1, Row.pB2])
 refine wpAnyH_take (i := 39) (oi := ⟨some 57, .pick (.tmp 43) (.const (Value.bool true)) (.tmp 56), 4, "l13_pend.go:160", #[⟨25, .data⟩, ⟨38, .data⟩], none⟩) (v := ?_) rfl (by kernel_rfl) (by kernel_rfl) (by kernel_rfl) (fun _ _ _ h => h) (Or.inl ⟨by rfl, ?_⟩) (by assumption) ?_
 rotate_left
 ·
  intro w' hSw; (try dsimp only at hSw); first | (go_simp; done) | (go_simp; with_reducible rfl)
 (try simp only [Act.put, Row.pB0, Row.pB1, Row.pB2])
 refine wpAnyH_done (by kernel_rfl) ?_ _
 exact NoPanic.normal (HQ.out _ _ _ _ _ _ _ _ _ _ _ _ _ _ _ _ _ _ _ _ _ _ _ _ _ _ _ _ _ _ _ _ _ _ _ _ _ _ _  _  BB.out)
set_option maxRecDepth 100000 in
set_option maxHeartbeats 4000000 in
theorem rep3 {Q : Exit → Act → World → Prop} {v2 v3 v4 v7 v8 v9 v10 v11 v12 v13 v14 v15 v16 v17 v18 v19 v20 v21 v22 v23 v24 v25 v26 v27 v28 v29 v30 v31 v32 v33 v34 v35 v36 v37 v38 v39 v40 v41 v42 v43 v44 v45 v46 v47 v48 v49 v50 v51 v52 v53 v54 v55 v56 v57 v58 v59 v60 v61 v62 v63 v64 v65 v66 v67 v68 v69 v70 v71 v72 v73 v74 v75 v76 v77 v78 v79 v80 v81 v82 v83 v84 : Value} {w : World} {b off n c b2 off2 n2 c2 k ba oa m1 d1 bb ob p1 e1 i : Nat} {a0 a1 a2 g0 g1 g2 : Int} {q : Bool} (hk : k < n) (hk2 : k < n2) (hi : i < m1) (hi2 : i < p1) (hne : ∀ w : World, (binOp .neq 91 (.agg #[.int .i64 a0, .int .i64 a1, .int .i64 a2]) (.agg #[.int .i64 g0, .int .i64 g1, .int .i64 g2])).run Try.prog w = .ok (.bool (!q)) w) (hgt : Try.prog.eqGuardType Try.prog.depth 91 = false) (K1 : Hid (w.cell? ⟨b, off + k * 3 + 1, none⟩ = some (.slice (some ⟨ba, oa, none⟩) m1 d1))) (J1 : Hid (w.cell? ⟨b2, off2 + k * 3 + 1, none⟩ = some (.slice (some ⟨bb, ob, none⟩) p1 e1))) (A0 : Hid (w.cell? ⟨ba, oa + i * 3, none⟩ = some (.int .i64 a0))) (A1 : Hid (w.cell? ⟨ba, oa + i * 3 + 1, none⟩ = some (.int .i64 a1))) (A2 : Hid (w.cell? ⟨ba, oa + i * 3 + 2, none⟩ = some (.int .i64 a2))) (G0 : Hid (w.cell? ⟨bb, ob + i * 3, none⟩ = some (.int .i64 g0))) (G1 : Hid (w.cell? ⟨bb, ob + i * 3 + 1, none⟩ = some (.int .i64 g1))) (G2 : Hid (w.cell? ⟨bb, ob + i * 3 + 2, none⟩ = some (.int .i64 g2)))
  (hQ : ∀ (u68 u69 u70 u71 u72 u73 u74 u75 u76 u77 u78 u79 u80 u81 u82 u83 : Value)  (wx : World), Below w.heap.size w wx → Q .normal ⟨#[.slice (some ⟨b, off, none⟩) n c, .slice (some ⟨b2, off2, none⟩) n2 c2, v2, v3, v4, .int .i64 k, .int .i64 i, v7, v8, v9, v10, v11, v12, v13, v14, v15, v16, v17, v18, v19, v20, v21, v22, v23, v24, v25, v26, v27, v28, v29, v30, v31, v32, v33, v34, v35, v36, v37, v38, v39, v40, v41, v42, v43, v44, v45, v46, v47, v48, v49, v50, v51, v52, v53, v54, v55, v56, v57, v58, v59, v60, v61, v62, v63, v64, v65, v66, v67, u68, u69, u70, u71, u72, u73, u74, u75, u76, u77, u78, u79, u80, u81, u82, u83, .bool (!q)], []⟩ wx) :
  (Code.region 11 #[⟨some 68, .move (.tmp 0), 35, "l13_pend.go:164", #[], none⟩,
   ⟨some 69, .move (.tmp 5), 3, "l13_pend.go:164", #[], none⟩,
   ⟨some 70, .indexAddr 35 (.tmp 68) (.tmp 69), 0, "l13_pend.go:164", #[⟨0, .data⟩, ⟨1, .data⟩], none⟩,
   ⟨some 71, .fieldAddr 101 (.tmp 70) 1, 0, "l13_pend.go:164", #[⟨2, .data⟩], none⟩,
   ⟨some 72, .load 68 (.tmp 71), 68, "l13_pend.go:164", #[⟨3, .data⟩], none⟩,
   ⟨some 73, .move (.tmp 6), 3, "l13_pend.go:164", #[], none⟩,
   ⟨some 74, .indexAddr 68 (.tmp 72) (.tmp 73), 0, "l13_pend.go:164", #[⟨4, .data⟩, ⟨5, .data⟩], none⟩,
   ⟨some 75, .load 91 (.tmp 74), 91, "l13_pend.go:164", #[⟨6, .data⟩], none⟩,
   ⟨some 76, .move (.tmp 1), 35, "l13_pend.go:164", #[], none⟩,
   ⟨some 77, .move (.tmp 5), 3, "l13_pend.go:164", #[], none⟩,
   ⟨some 78, .indexAddr 35 (.tmp 76) (.tmp 77), 0, "l13_pend.go:164", #[⟨8, .data⟩, ⟨9, .data⟩], none⟩,
   ⟨some 79, .fieldAddr 101 (.tmp 78) 1, 0, "l13_pend.go:164", #[⟨10, .data⟩], none⟩,
   ⟨some 80, .load 68 (.tmp 79), 68, "l13_pend.go:164", #[⟨11, .data⟩], none⟩,
   ⟨some 81, .move (.tmp 6), 3, "l13_pend.go:164", #[], none⟩,
   ⟨some 82, .indexAddr 68 (.tmp 80) (.tmp 81), 0, "l13_pend.go:164", #[⟨12, .data⟩, ⟨13, .data⟩], none⟩,
   ⟨some 83, .load 91 (.tmp 82), 91, "l13_pend.go:164", #[⟨14, .data⟩], none⟩,
   ⟨some 84, .binOp BinOp.neq 91 (.tmp 75) (.tmp 83) 91, 4, "l13_pend.go:164", #[⟨7, .data⟩, ⟨15, .data⟩], none⟩] true).wp Try.prog Q ⟨#[.slice (some ⟨b, off, none⟩) n c, .slice (some ⟨b2, off2, none⟩) n2 c2, v2, v3, v4, .int .i64 k, .int .i64 i, v7, v8, v9, v10, v11, v12, v13, v14, v15, v16, v17, v18, v19, v20, v21, v22, v23, v24, v25, v26, v27, v28, v29, v30, v31, v32, v33, v34, v35, v36, v37, v38, v39, v40, v41, v42, v43, v44, v45, v46, v47, v48, v49, v50, v51, v52, v53, v54, v55, v56, v57, v58, v59, v60, v61, v62, v63, v64, v65, v66, v67, v68, v69, v70, v71, v72, v73, v74, v75, v76, v77, v78, v79, v80, v81, v82, v83, v84], []⟩ w := by
 have HQ := Lib.hid hQ; clear hQ
 have hdr : Below w.heap.size w w.drew := (Below.refl _ _).drew
 have BB := Lib.hid hdr
 refine wp_region_noPanic ?_
 refine wp_region_held_drew (S := (fun w' => w'.cell? ⟨b, off + k * 3 + 1, none⟩ = some (.slice (some ⟨ba, oa, none⟩) m1 d1) ∧ w'.cell? ⟨b2, off2 + k * 3 + 1, none⟩ = some (.slice (some ⟨bb, ob, none⟩) p1 e1) ∧ w'.cell? ⟨ba, oa + i * 3, none⟩ = some (.int .i64 a0) ∧ w'.cell? ⟨ba, oa + i * 3 + 1, none⟩ = some (.int .i64 a1) ∧ w'.cell? ⟨ba, oa + i * 3 + 2, none⟩ = some (.int .i64 a2) ∧ w'.cell? ⟨bb, ob + i * 3, none⟩ = some (.int .i64 g0) ∧ w'.cell? ⟨bb, ob + i * 3 + 1, none⟩ = some (.int .i64 g1) ∧ w'.cell? ⟨bb, ob + i * 3 + 2, none⟩ = some (.int .i64 g2))) (by kernel_rfl) ?_ (fun hHeld => ?_)
 ·
  exact ⟨kc K1.out BB.out, kc J1.out BB.out, kc A0.out BB.out, kc A1.out BB.out, kc A2.out BB.out, kc G0.out BB.out, kc G1.out BB.out, kc G2.out BB.out⟩
 clear hdr
 generalize w.drew = wd at *
 refine wpAnyH_take (i := 0) (oi := ⟨some 68, .move (.tmp 0), 35, "l13_pend.go:164", #[], none⟩) (v := ?_) rfl (by kernel_rfl) (by kernel_rfl) (by kernel_rfl) (fun _ _ _ h => h) (Or.inl ⟨by rfl, ?_⟩) (by assumption) ?_
 rotate_left
 ·
  intro w' hSw; (try dsimp only at hSw); first | (go_simp; done) | (go_simp; with_reducible rfl)
 (try simp only [Act.put, Row.pB0, Row.pB1, Row.pB2])
 refine wpAnyH_take (i := 1) (oi := ⟨some 69, .move (.tmp 5), 3, "l13_pend.go:164", #[], none⟩) (v := ?_) rfl (by kernel_rfl) (by kernel_rfl) (by kernel_rfl) (fun _ _ _ h => h) (Or.inl ⟨by rfl, ?_⟩) (by assumption) ?_
 rotate_left
 ·
  intro w' hSw; (try dsimp only at hSw); first | (go_simp; done) | (go_simp; with_reducible rfl)
 (try simp only [Act.put, Row.pB0, Row.pB1, Row.pB2])
 refine wpAnyH_take (i := 2) (oi := ⟨some 70, .indexAddr 35 (.tmp 68) (.tmp 69), 0, "l13_pend.go:164", #[⟨0, .data⟩, ⟨1, .data⟩], none⟩) (v := ?_) rfl (by kernel_rfl) (by kernel_rfl) (by kernel_rfl) (fun _ _ _ h => h) (Or.inl ⟨by rfl, ?_⟩) (by assumption) ?_
 rotate_left
 ·
  intro w' hSw; (try dsimp only at hSw); first | (go_simp; done) | (go_simp; with_reducible rfl)
 (try simp only [Act.put, Row.pB0, Row.pB1, Row.pB2])
 refine wpAnyH_take (i := 3) (oi := ⟨some 71, .fieldAddr 101 (.tmp 70) 1, 0, "l13_pend.go:164", #[⟨2, .data⟩], none⟩) (v := ?_) rfl (by kernel_rfl) (by kernel_rfl) (by kernel_rfl) (fun _ _ _ h => h) (Or.inl ⟨by rfl, ?_⟩) (by assumption) ?_
 rotate_left
 ·
  intro w' hSw; (try dsimp only at hSw); first | (go_simp; done) | (go_simp; with_reducible rfl)
 (try simp only [Act.put, Row.pB0, Row.pB1, Row.pB2])
 refine wpAnyH_take (i := 4) (oi := ⟨some 72, .load 68 (.tmp 71), 68, "l13_pend.go:164", #[⟨3, .data⟩], none⟩) (v := ?_) rfl (by kernel_rfl) (by kernel_rfl) (by kernel_rfl) (fun _ _ _ h => h) (Or.inl ⟨by rfl, ?_⟩) (by assumption) ?_
 rotate_left
 ·
  intro w' hSw; (try dsimp only at hSw); first | (go_simp; done) | (go_simp; with_reducible rfl)
 (try simp only [Act.put, Row.pB0, Row.pB1, Row.pB2])
 refine wpAnyH_take (i := 5) (oi := ⟨some 73, .move (.tmp 6), 3, "l13_pend.go:164", #[], none⟩) (v := ?_) rfl (by kernel_rfl) (by kernel_rfl) (by kernel_rfl) (fun _ _ _ h => h) (Or.inl ⟨by rfl, ?_⟩) (by assumption) ?_
 rotate_left
 ·
  intro w' hSw; (try dsimp only at hSw); first | (go_simp; done) | (go_simp; with_reducible rfl)
 (try simp only [Act.put, Row.pB0, Row.pB1, Row.pB2])
 refine wpAnyH_take (i := 6) (oi := ⟨some 74, .indexAddr 68 (.tmp 72) (.tmp 73), 0, "l13_pend.go:164", #[⟨4, .data⟩, ⟨5, .data⟩], none⟩) (v := ?_) rfl (by kernel_rfl) (by kernel_rfl) (by kernel_rfl) (fun _ _ _ h => h) (Or.inl ⟨by rfl, ?_⟩) (by assumption) ?_
 rotate_left
 ·
  intro w' hSw; (try dsimp only at hSw); first | (go_simp; done) | (go_simp; with_reducible rfl)
 (try simp only [Act.put, Row.pB0, Row.pB1, Row.pB2])
 refine wpAnyH_take (i := 7) (oi := ⟨some 75, .load 91 (.tmp 74), 91, "l13_pend.go:164", #[⟨6, .data⟩], none⟩) (v := ?_) rfl (by kernel_rfl) (by kernel_rfl) (by kernel_rfl) (fun _ _ _ h => h) (Or.inl ⟨by rfl, ?_⟩) (by assumption) ?_
 rotate_left
 ·
  intro w' hSw; (try dsimp only at hSw); first | (go_simp; done) | (go_simp; with_reducible rfl)
 (try simp only [Act.put, Row.pB0, Row.pB1, Row.pB2])
 refine wpAnyH_take (i := 8) (oi := ⟨some 76, .move (.tmp 1), 35, "l13_pend.go:164", #[], none⟩) (v := ?_) rfl (by kernel_rfl) (by kernel_rfl) (by kernel_rfl) (fun _ _ _ h => h) (Or.inl ⟨by rfl, ?_⟩) (by assumption) ?_
 rotate_left
 ·
  intro w' hSw; (try dsimp only at hSw); first | (go_simp; done) | (go_simp; with_reducible rfl)
 (try simp only [Act.put, Row.pB0, Row.pB1, Row.pB2])
 refine wpAnyH_take (i := 9) (oi := ⟨some 77, .move (.tmp 5), 3, "l13_pend.go:164", #[], none⟩) (v := ?_) rfl (by kernel_rfl) (by kernel_rfl) (by kernel_rfl) (fun _ _ _ h => h) (Or.inl ⟨by rfl, ?_⟩) (by assumption) ?_
 rotate_left
 ·
  intro w' hSw; (try dsimp only at hSw); first | (go_simp; done) | (go_simp; with_reducible rfl)
 (try simp only [Act.put, Row.pB0, Row.pB1, Row.pB2])
 refine wpAnyH_take (i := 10) (oi := ⟨some 78, .indexAddr 35 (.tmp 76) (.tmp 77), 0, "l13_pend.go:164", #[⟨8, .data⟩, ⟨9, .data⟩], none⟩) (v := ?_) rfl (by kernel_rfl) (by kernel_rfl) (by kernel_rfl) (fun _ _ _ h => h) (Or.inl ⟨by rfl, ?_⟩) (by assumption) ?_
 rotate_left
 ·
  intro w' hSw; (try dsimp only at hSw); first | (go_simp; done) | (go_simp; with_reducible rfl)
 (try simp only [Act.put, Row.pB0, Row.pB1, Row.pB2])
 refine wpAnyH_take (i := 11) (oi := ⟨some 79, .fieldAddr 101 (.tmp 78) 1, 0, "l13_pend.go:164", #[⟨10, .data⟩], none⟩) (v := ?_) rfl (by kernel_rfl) (by kernel_rfl) (by kernel_rfl) (fun _ _ _ h => h) (Or.inl ⟨by rfl, ?_⟩) (by assumption) ?_
 rotate_left
 ·
  intro w' hSw; (try dsimp only at hSw); first | (go_simp; done) | (go_simp; with_reducible rfl)
 (try simp only [Act.put, Row.pB0, Row.pB1, Row.pB2])
 refine wpAnyH_take (i := 12) (oi := ⟨some 80, .load 68 (.tmp 79), 68, "l13_pend.go:164", #[⟨11, .data⟩], none⟩) (v := ?_) rfl (by kernel_rfl) (by kernel_rfl) (by kernel_rfl) (fun _ _ _ h => h) (Or.inl ⟨by rfl, ?_⟩) (by assumption) ?_
 rotate_left
 ·
  intro w' hSw; (try dsimp only at hSw); first | (go_simp; done) | (go_simp; with_reducible rfl)
 (try simp only [Act.put, Row.pB0, Row.pB1, Row.pB2])
 refine wpAnyH_take (i := 13) (oi := ⟨some 81, .move (.tmp 6), 3, "l13_pend.go:164", #[], none⟩) (v := ?_) rfl (by kernel_rfl) (by kernel_rfl) (by kernel_rfl) (fun _ _ _ h => h) (Or.inl ⟨by rfl, ?_⟩) (by assumption) ?_
 rotate_left
 ·
  intro w' hSw; (try dsimp only at hSw); first | (go_simp; done) | (go_simp; with_reducible rfl)
 (try simp only [Act.put, Row.pB0, Row.pB1, Row.pB2])
 refine wpAnyH_take (i := 14) (oi := ⟨some 82, .indexAddr 68 (.tmp 80) (.tmp 81), 0, "l13_pend.go:164", #[⟨12, .data⟩, ⟨13, .data⟩], none⟩) (v := ?_) rfl (by kernel_rfl) (by kernel_rfl) (by kernel_rfl) (fun _ _ _ h => h) (Or.inl ⟨by rfl, ?_⟩) (by assumption) ?_
 rotate_left
 ·
  intro w' hSw; (try dsimp only at hSw); first | (go_simp; done) | (go_simp; with_reducible rfl)
 (try simp only [Act.put, Row.pB0, Row.pB1, Row.pB2])
 refine wpAnyH_take (i := 15) (oi := ⟨some 83, .load 91 (.tmp 82), 91, "l13_pend.go:164", #[⟨14, .data⟩], none⟩) (v := ?_) rfl (by kernel_rfl) (by kernel_rfl) (by kernel_rfl) (fun _ _ _ h => h) (Or.inl ⟨by rfl, ?_⟩) (by assumption) ?_
 rotate_left
 ·
  intro w' hSw; (try dsimp only at hSw); first | (go_simp; done) | (go_simp; with_reducible rfl)
 (try simp only [Act.put, Row.pB0, Row.pB1, Row.pB2])
 refine wpAnyH_take (i := 16) (oi := ⟨some 84, .binOp BinOp.neq 91 (.tmp 75) (.tmp 83) 91, 4, "l13_pend.go:164", #[⟨7, .data⟩, ⟨15, .data⟩], none⟩) (v := ?_) rfl (by kernel_rfl) (by kernel_rfl) (by kernel_rfl) (fun _ _ _ h => h) (Or.inl ⟨by rfl, ?_⟩) (by assumption) ?_
 rotate_left
 ·
  intro w' hSw; (try dsimp only at hSw); first | (go_simp; done) | (go_simp; with_reducible rfl)
 (try simp only [Act.put, Row.pB0, Row.pB1, Row.pB2])
 refine wpAnyH_done (by kernel_rfl) ?_ _
 exact NoPanic.normal (HQ.out _ _ _ _ _ _ _ _ _ _ _ _ _ _ _ _  _  BB.out)
end Go.Proofs.Ytjphnlkdbhcblaa.Row
/- EqualPending, the model. No conditions but that lengths fit. -/
namespace Go.Proofs.Ytjphnlkdbhcblaa.Row
open Go.ChangeShapes Go.WideShapes Go.ChangeAt Go.RowKit Go.Instr
set_option linter.unusedVariables false
set_option maxRecDepth 100000
set_option maxHeartbeats 16000000 in
theorem specEqualPending (V U : Value) (l m : List Pit) (w : World) (z : Bool) (hz : eqPs l m = z) (h : kLPi.At w V l) (g : kLPi.At w U m) (hf : FitP l) (hf' : FitP m) :
    Calls Try.prog 57 #[V, U] w fun e w' => e = .returned (.bool z) ∧ Below w.heap.size w w' := by
  have hl := hf.len; have hl' := hf'.len; have hp := hf.each; have hp' := hf'.each
  replace hz : decide (l = m) = z := hz
  obtain ⟨x, n, c, L, rfl, hn, ht, hh, hel⟩ := kLPi_at h
  obtain ⟨x2, n2, c2, M, rfl, hn2, ht2, hh2, hel2⟩ := kLPi_at g
  have hlen : l.length = n := by rw [← ht, List.length_map]; exact hn.symm
  have hlen2 : m.length = n2 := by rw [← ht2, List.length_map]; exact hn2.symm
  rw [hlen] at hl
  rw [hlen2] at hl'
  have hcap : n ≤ c := by obtain ⟨x', n', cap', hv, hn', hc', -⟩ := hh.shapeN; cases hv; exact hc'
  have hcap2 : n2 ≤ c2 := by obtain ⟨x', n', cap', hv, hn', hc', -⟩ := hh2.shapeN; cases hv; exact hc'
  have HZ := Lib.hid hz
  have HN := Lib.hid hn; have HT := Lib.hid ht; have HH := Lib.hid hh; have HEL := Lib.hid hel; have HLEN := Lib.hid hlen; have HP := Lib.hid hp
  have HN2 := Lib.hid hn2; have HT2 := Lib.hid ht2; have HH2 := Lib.hid hh2; have HEL2 := Lib.hid hel2; have HLEN2 := Lib.hid hlen2; have HP2 := Lib.hid hp'
  clear hz hn ht hh hel hlen hp h hn2 ht2 hh2 hel2 hlen2 hp' g
  by_cases hnn : n = n2
  · have tn : (((n : Nat) : Int) != ((n2 : Nat) : Int)) = false := by rw [hnn]; simp
    have HNN := Lib.hid hnn
    clear hnn
    go_enter Try.func57, Try.ntmps57
    go_wp2
    go_loopw [5] (fun iv wr => ∃ i : Nat, i ≤ n ∧ iv = .int .i64 i ∧ Hid (l.take i = m.take i) ∧ Hid (Below w.heap.size w wr)) (fun iv _ => n - (intOf iv).toNat)
    case atStart => exact ⟨0, Nat.zero_le _, rfl, Lib.hid rfl, Lib.hid (Below.refl _ _)⟩
    case round =>
      obtain ⟨k, hk, rfl, ha, hb⟩ := hrel
      by_cases hlt : k < n
      · have hlt2 : k < n2 := by have := HNN.out; omega
        have hlen := HN.out
        have hlen2 := HN2.out
        obtain ⟨b, off, y0, m0, d0, y1, m1, d1, rfl, -, hc0, hc1, hc2, hA⟩ := kLPi_elem (HH.out.on hb.out) (fun y hy => kPi.holds_on (HEL.out y hy) hb.out) (j := k) (by omega)
        obtain ⟨b2, off2, z0, p0, e0, z1, p1, e1, rfl, -, gc0, gc1, gc2, gA⟩ := kLPi_elem (HH2.out.on hb.out) (fun y hy => kPi.holds_on (HEL2.out y hy) hb.out) (j := k) (by omega)
        have hpt : nth l k = kPi.strip (nth L k) := by rw [← HT.out, nth_map _ (by omega)]
        have hpt2 : nth m k = kPi.strip (nth M k) := by rw [← HT2.out, nth_map _ (by omega)]
        have hps := HP.out (nth l k) (nth_mem (by have := HLEN.out; omega))
        have hps2 := HP2.out (nth m k) (nth_mem (by have := HLEN2.out; omega))
        rw [← hpt] at hA hc2
        rw [← hpt2] at gA gc2
        obtain ⟨nm, rq, ls, hx⟩ : ∃ nm rq ls, nth l k = (nm, rq, ls) := ⟨_, _, _, rfl⟩
        obtain ⟨nm2, rq2, ls2, hx2⟩ : ∃ nm rq ls, nth m k = (nm, rq, ls) := ⟨_, _, _, rfl⟩
        rw [hx] at hA hc2 hps
        rw [hx2] at gA gc2 hps2
        simp only at hc2 gc2
        have HXE := Lib.hid hx; have HXE2 := Lib.hid hx2
        obtain ⟨hNM, hRQ⟩ := kPi_parts hA
        obtain ⟨gNM, gRQ⟩ := kPi_parts gA
        have HNM := Lib.hid hNM; have HRQ := Lib.hid hRQ; have GNM := Lib.hid gNM; have GRQ := Lib.hid gRQ; have HAA := Lib.hid hA; have GAA := Lib.hid gA; have HPS := Lib.hid hps; have HPS2 := Lib.hid hps2
        have HPN := Lib.hid (show bulk nm ≤ 1200000 from (wtPi_lens hps).1); have HPR := Lib.hid (show rq.length ≤ 1200000 from (wtPi_lens hps).2)
        have GPN := Lib.hid (show bulk nm2 ≤ 1200000 from (wtPi_lens hps2).1); have GPR := Lib.hid (show rq2.length ≤ 1200000 from (wtPi_lens hps2).2)
        have H0 := Lib.hid hc0; have H1 := Lib.hid hc1; have H2 := Lib.hid hc2; have G0 := Lib.hid gc0; have G1 := Lib.hid gc1; have G2 := Lib.hid gc2
        clear hlen hlen2 hpt hpt2 hps hps2 hA gA hx hx2 hNM hRQ gNM gRQ
        clear hc0 hc1 hc2 gc0 gc1 gc2
        go_wp2_with fail
        by_cases hv : ls = ls2
        · have HVV := Lib.hid hv
          obtain ⟨q, hq⟩ : ∃ q, decide (nm = nm2) = q := ⟨_, rfl⟩
          have HQ := Lib.hid hq; clear hq
          cases q with
          | false =>
            refine rep1 hlt hlt2 (by simp [hv]) HQ HNM GNM HPN GPN H2 G2 H0 G0 ?_
            intro u18 u19 u20 u21 u22 u23 u24 u25 u26 u27 u28 u29 u30 u31 u32 u33 u34 u35 u36 u37 u38 u39 u40 u41 u42 u43 u44 u45 u46 u47 u48 u49 u50 u51 u52 u53 u54 u55 u56 wx hbx
            clear hv
            have HB3 := Lib.hid (hb.out.trans (hbx.mono hb.out.size))
            have HE : Hid (z = false) := Lib.hid (by rw [← HZ.out]; exact decide_eq_false (neP_step (k := k) (by rw [HXE.out, HXE2.out]; simp [of_decide_eq_false HQ.out])))
            clear hbx
            go_wp2
            go_ret
            exact ⟨ret_bool HE.out.symm, HB3.out⟩
          | true =>
            refine rep2 hlt hlt2 (by simp [hv]) HQ HNM GNM HPN GPN H2 G2 H0 G0 H1 G1 ?_
            intro u18 u19 u20 u21 u22 u23 u24 u25 u26 u27 u28 u29 u30 u31 u32 u33 u34 u35 u36 u37 u38 u39 u40 u41 u42 u43 u44 u45 u46 u47 u48 u49 u50 u51 u52 u53 u54 u55 u56 wx hbx
            clear hv
            have hl1 : rq.length = m1 := (kLRq_len HRQ.out).symm
            have hl2 : rq2.length = p1 := (kLRq_len GRQ.out).symm
            by_cases hmn : m1 = p1
            · subst hmn
              have t9 : (((m1 : Nat) : Int) != ((m1 : Nat) : Int)) = false := by simp
              have HB2 := Lib.hid (hb.out.trans (hbx.mono hb.out.size))
              have HRX := Lib.hid (HRQ.out.on hbx); have GRX := Lib.hid (GRQ.out.on hbx)
              have C1 := Lib.hid (kc H1.out hbx); have D1 := Lib.hid (kc G1.out hbx)
              have HL1 := Lib.hid hl1; have HL2 := Lib.hid hl2
              have hm9 : m1 ≤ 1200000 := by have := HPR.out; omega
              clear hbx hl1 hl2
              go_wp2
              go_loopw [6] (fun iv wq => ∃ i : Nat, i ≤ m1 ∧ iv = .int .i64 i ∧ Hid (rq.take i = rq2.take i) ∧ Hid (Below wx.heap.size wx wq)) (fun iv _ => m1 - (intOf iv).toNat)
              case atStart => exact ⟨0, Nat.zero_le _, rfl, Lib.hid rfl, Lib.hid (Below.refl _ _)⟩
              case round =>
                rename_i wq
                obtain ⟨i, hi, rfl, hai, hbi⟩ := hrel
                have C1i := Lib.hid (kc C1.out hbi.out); have D1i := Lib.hid (kc D1.out hbi.out)
                have r1 := C1i.out
                by_cases hil : i < m1
                · obtain ⟨x', n', c', L1, e9, hn1, ht1, hh1, hel1⟩ := kLRq_at (HRX.out.on hbi.out)
                  cases e9
                  obtain ⟨x', n', c', L2, e9, hn2_, ht2_, hh2_, hel2_⟩ := kLRq_at (GRX.out.on hbi.out)
                  cases e9
                  obtain ⟨ba, oa, rfl, -, hc0, hc1, hc2, -⟩ := kLRq_elem hh1 hel1 (j := i) (by omega)
                  obtain ⟨bb, ob, rfl, -, gc0, gc1, gc2, -⟩ := kLRq_elem hh2_ hel2_ (j := i) (by omega)
                  have hpt : nth rq i = kRq.strip (nth L1 i) := by rw [← ht1, nth_map _ (by omega)]
                  have hpt2 : nth rq2 i = kRq.strip (nth L2 i) := by rw [← ht2_, nth_map _ (by omega)]
                  rw [← hpt] at hc0 hc1 hc2
                  rw [← hpt2] at gc0 gc1 gc2
                  obtain ⟨a0, a1, a2, hx⟩ : ∃ a b c, nth rq i = (a, b, c) := ⟨_, _, _, rfl⟩
                  obtain ⟨g0, g1, g2, hx2⟩ : ∃ a b c, nth rq2 i = (a, b, c) := ⟨_, _, _, rfl⟩
                  rw [hx] at hc0 hc1 hc2
                  rw [hx2] at gc0 gc1 gc2
                  simp only at hc0 hc1 hc2 gc0 gc1 gc2
                  obtain ⟨q, hq⟩ : ∃ q, decide (((a0, a1, a2) : Rqt) = (g0, g1, g2)) = q := ⟨_, rfl⟩
                  have HQ9 := Lib.hid hq; have HX := Lib.hid hx; have HX2 := Lib.hid hx2
                  have A0 := Lib.hid hc0; have A1 := Lib.hid hc1; have A2 := Lib.hid hc2; have J0 := Lib.hid gc0; have J1 := Lib.hid gc1; have J2 := Lib.hid gc2
                  clear hn1 ht1 hh1 hel1 hn2_ ht2_ hh2_ hel2_ hpt hpt2 hx hx2 hq hc0 hc1 hc2 gc0 gc1 gc2
                  go_wp2_with fail
                  clear r1
                  refine rep3 (a0 := a0) (a1 := a1) (a2 := a2) (g0 := g0) (g1 := g1) (g2 := g2) (q := q) hlt hlt2 hil hil (rq_neq a0 a1 a2 g0 g1 g2 q HQ9.out) rq_guard C1i D1i A0 A1 A2 J0 J1 J2 ?_
                  intro u68 u69 u70 u71 u72 u73 u74 u75 u76 u77 u78 u79 u80 u81 u82 u83 wy hby
                  have HB3 := Lib.hid (hbi.out.trans (hby.mono hbi.out.size))
                  clear hby
                  cases q with
                  | true =>
                    have HA5 := Lib.hid (eqP_step hai.out (by have := HL1.out; omega) (by have := HL2.out; omega) (by rw [HX.out, HX2.out]; exact of_decide_eq_true HQ9.out))
                    go_wp2
                    go_roundw
                    case rel => exact ⟨i + 1, by omega, by go_num, HA5, HB3⟩
                    case measure => simp [intOf]; omega
                  | false =>
                    have HE : Hid (z = false) := Lib.hid (by
                      rw [← HZ.out]
                      refine decide_eq_false (neP_step (k := k) ?_)
                      rw [HXE.out, HXE2.out]
                      intro e
                      injection e with _ e
                      injection e with e _
                      exact absurd e (neP_step (k := i) (by rw [HX.out, HX2.out]; exact of_decide_eq_false HQ9.out)))
                    have HB4 := Lib.hid (HB2.out.trans (HB3.out.mono HB2.out.size))
                    go_wp2
                    go_ret
                    exact ⟨ret_bool HE.out.symm, HB4.out⟩
                · obtain rfl : i = m1 := by omega
                  have HRE := Lib.hid (show rq = rq2 from by
                    have h1 := hai.out
                    rwa [List.take_of_length_le (by rw [HL1.out]; exact Nat.le_refl _), List.take_of_length_le (by rw [HL2.out]; exact Nat.le_refl _)] at h1)
                  have HA5 := Lib.hid (eqP_step ha.out (by have := HLEN.out; omega) (by have := HLEN2.out; omega) (by rw [HXE.out, HXE2.out, HVV.out, HRE.out, of_decide_eq_true HQ.out]))
                  have HB4 := Lib.hid (HB2.out.trans (hbi.out.mono HB2.out.size))
                  clear hil
                  go_wp2
                  go_roundw
                  case rel => exact ⟨k + 1, by omega, by go_num, HA5, HB4⟩
                  case measure => simp [intOf]; omega
            · have t9 : (((m1 : Nat) : Int) != ((p1 : Nat) : Int)) = true := by rw [bne_iff_ne]; omega
              have HMN := Lib.hid (show rq ≠ rq2 from fun e => hmn (by rw [← hl1, ← hl2, e]))
              clear hl1 hl2 hmn
              have HB3 := Lib.hid (hb.out.trans (hbx.mono hb.out.size))
              have HE : Hid (z = false) := Lib.hid (by rw [← HZ.out]; exact decide_eq_false (neP_step (k := k) (by rw [HXE.out, HXE2.out]; simp [HMN.out])))
              clear hbx
              go_wp2
              go_ret
              exact ⟨ret_bool HE.out.symm, HB3.out⟩
        · refine rep0 hlt hlt2 (by simpa using hv) H2 G2 ?_
          intro u18 u19 u20 u21 u22 u23 u24 u25 u26 u27 u28 u29 u30 u31 u32 u33 u34 u35 u36 u37 u38 u39 u40 u41 u42 u43 u44 u45 u46 u47 u48 u49 u50 u51 u52 u53 u54 u55 u56 wx hbx
          have HB3 := Lib.hid (hb.out.trans (hbx.mono hb.out.size))
          have HE : Hid (z = false) := Lib.hid (by rw [← HZ.out]; exact decide_eq_false (neP_step (k := k) (by rw [HXE.out, HXE2.out]; simp [hv])))
          clear hbx
          go_wp2
          go_ret
          exact ⟨ret_bool HE.out.symm, HB3.out⟩
      · obtain rfl : k = n := by omega
        have HE : Hid (z = true) := Lib.hid (by
          rw [← HZ.out]
          have h1 := ha.out
          rw [List.take_of_length_le (by rw [HLEN.out]; exact Nat.le_refl _), List.take_of_length_le (by rw [HLEN2.out, HNN.out]; exact Nat.le_refl _)] at h1
          exact decide_eq_true h1)
        clear hlt
        go_wp2
        go_ret
        exact ⟨ret_bool HE.out.symm, hb.out⟩
  · have tn : (((n : Nat) : Int) != ((n2 : Nat) : Int)) = true := by rw [bne_iff_ne]; omega
    have HE : Hid (z = false) := Lib.hid (by rw [← HZ.out]; exact decide_eq_false (fun e => hnn (by rw [← HLEN.out, ← HLEN2.out, e])))
    go_enter Try.func57, Try.ntmps57
    go_wp2
    go_ret
    exact ⟨ret_bool HE.out.symm, Below.refl _ _⟩
end Go.Proofs.Ytjphnlkdbhcblaa.Row
/- slices.Delete and slices.DeleteFunc on rows of pending interests and of seen nonces. No conditions but that lengths fit. -/
namespace Go.Proofs.Ytjphnlkdbhcblaa.Row
open Go.ChangeShapes Go.WideShapes Go.ChangeAt Go.RowKit Go.Instr
set_option linter.unusedVariables false
set_option maxRecDepth 100000
theorem zvPi (w : World) : (zeroValue 101).run Try.prog w = .ok (.agg #[.slice none 0 0, .slice none 0 0, .int .i64 0]) w := by kernel_rfl
theorem holds_restPi {w : World} {g n cap i : Nat} {L : List Pim} (h : HoldsK kPi.cells 3 w (.slice (some ⟨g, 0, none⟩) n cap) L) (hi : i ≤ L.length) : HoldsK kPi.cells 3 w (.slice (if cap = i then some ⟨g, 0, none⟩ else some ⟨g, i * 3, none⟩) (n - i) (cap - i)) (L.drop i) := by
  have hn := h.lenEq
  obtain ⟨x', n', cap', hv, hn', hc', -⟩ := h.shapeN
  cases hv
  by_cases e : cap = i
  · rw [if_pos e]
    exact holds_dropIf szPi_cells h hi (Or.inr (by omega))
  · rw [if_neg e]
    exact holds_dropIf szPi_cells h hi (Or.inl (by rw [Nat.zero_add]))
set_option maxHeartbeats 8000000 in
theorem delOnePi (B : Nat) (r : Rw Pim) (i : Nat) (w : World) (h : kLPi.Own B w.heap.size w r) (hi : i < r.els.length) (hl : r.els.length ≤ 1100000) :
    Calls Try.prog 99 #[r.v, .int .i64 i, .int .i64 ((i : Int) + 1)] w fun e w' => ∃ r' : Rw Pim, e = .returned r'.v ∧ kLPi.Own B w'.heap.size w' r' ∧ r'.els = r.els.eraseIdx i ∧ w.grownBy w' r.v.ownBlock ∧ r'.v.ownBlock = r.v.ownBlock := by
  obtain ⟨ad, n, cap, L⟩ := r
  dsimp only at hl hi ⊢
  have HFULL := Lib.hid h
  rcases h.1.1.form with ⟨hv, hL⟩ | ⟨g, cap', hv, g1, g2, g3, g4⟩
  · dsimp only at hL
    rw [hL] at hi
    exact absurd hi (by simp)
  · replace hv : Value.slice ad n cap = .slice (some ⟨g, 0, none⟩) L.length cap' := hv
    cases hv
    dsimp only at g3 g4
    obtain ⟨N, hN⟩ : ∃ N, L.length = N + 1 := ⟨L.length - 1, by omega⟩
    show Calls Try.prog 99 #[.slice (some ⟨g, 0, none⟩) L.length cap, .int .i64 i, .int .i64 ((i : Int) + 1)] w _
    have hh := h.1.1.holds
    have hO : OwnK 101 kPi.cells 3 B w (.slice (some ⟨g, 0, none⟩) i cap) (L.take i) := h.1.1.take szPi_cells (i := i) (by show i ≤ L.length; omega)
    have hR := holds_restPi (i := i + 1) (show HoldsK kPi.cells 3 w (.slice (some ⟨g, 0, none⟩) L.length cap) L from hh) (by omega)
    have hroom : (L.take i).length + (L.drop (i + 1)).length ≤ cap := by rw [List.length_take, List.length_drop]; omega
    have hsum : (L.take i).length + (L.drop (i + 1)).length = N := by rw [List.length_take, List.length_drop]; omega
    have hne : ((i : Int) == (i : Int) + 1) = false := by simp <;> omega
    obtain ⟨j, hj⟩ : ∃ j, j = i + 1 := ⟨_, rfl⟩
    have hg2 : (i : Int) + 1 = (j : Int) := by omega
    rw [hg2] at hne ⊢
    rw [← hj] at hR hroom hsum
    rw [hN] at hR hi hl g3 ⊢
    have hi2 : i ≤ N := by omega
    have hij : i ≤ j := by omega
    have hjN : j ≤ N + 1 := by omega
    have hjc : j ≤ cap := by omega
    have hic : i ≤ cap := by omega
    have u1 : (i : Int) ≤ (j : Int) := by omega
    have u2 : (j : Int) ≤ (N : Int) + 1 := by omega
    have u3 : (N : Int) + 1 ≤ (cap : Int) := by omega
    have HJ := Lib.hid hj
    clear hj hg2 hN
    have HO := Lib.hid (hO.on (Below.refl _ _).drew); have HR := Lib.hid (hR.on (Below.refl w.heap.size w).drew); have HRM := Lib.hid hroom; have HSM := Lib.hid hsum
    clear hh hO hR hroom hsum h
    go_enter Try.func99, Try.ntmps99
    go_wp2_with fail
    go_region_law (refine step_appFits kindPi (B := B) (g := g) (n := i) (cap := cap) (l := L.take i) (m := L.drop j) rfl _ _ (by rfl) Try.underlying35 (by rfl) (by rfl) HO.out HR.out HRM.out ?_; intro w4 M hM ho4 hg4; rw [HSM.out] at hM; subst hM; have HO4 := Lib.hid ho4; have HG4 := Lib.hid hg4; clear ho4 hg4)
    all_goals
      clear HR
      generalize (if cap = j then (some ⟨g, 0, none⟩ : Option Addr) else some ⟨g, j * 3, none⟩) = xo7
      have hc1 : M + 1 ≤ cap := by omega
      have hML : M = (L.take i ++ L.drop j).length := by rw [List.length_append, HSM.out]
      have HML := Lib.hid hML; clear hML
      go_wp2_with (refine wpList_clearPast kindPi rfl zvPi rfl _ rfl Try.underlying35 (i := M) (k := 1) rfl HO4.out HML.out hc1 (by decide) ?_)
      intro w5 ho5 hg5
      have HO5 := Lib.hid ho5; have HG5 := Lib.hid (Go.World.grownBy.trans (Go.World.grownBy.trans (Sl.grown_of_below (Below.refl w.heap.size w).drew (some g)) HG4.out) hg5)
      clear ho5 hg5
      go_wp2_with fail
      go_ret
      exact ⟨⟨some ⟨g, 0, none⟩, M, _, L.take i ++ L.drop j⟩, rfl, Kd.sub noRow_kPi HFULL.out (by rw [HJ.out, ← erase_parts]; exact List.eraseIdx_sublist _ _) HG5.out (fun g' e => e) HO5.out, by rw [HJ.out]; exact (erase_parts L i).symm, HG5.out, rfl⟩
theorem zvSn (w : World) : (zeroValue 38).run Try.prog w = .ok (.agg #[.slice none 0 0, .int .i64 0]) w := by kernel_rfl
theorem holds_restSn {w : World} {g n cap i : Nat} {L : List Snm} (h : HoldsK kSn.cells 2 w (.slice (some ⟨g, 0, none⟩) n cap) L) (hi : i ≤ L.length) : HoldsK kSn.cells 2 w (.slice (if cap = i then some ⟨g, 0, none⟩ else some ⟨g, i * 2, none⟩) (n - i) (cap - i)) (L.drop i) := by
  have hn := h.lenEq
  obtain ⟨x', n', cap', hv, hn', hc', -⟩ := h.shapeN
  cases hv
  by_cases e : cap = i
  · rw [if_pos e]
    exact holds_dropIf szSn_cells h hi (Or.inr (by omega))
  · rw [if_neg e]
    exact holds_dropIf szSn_cells h hi (Or.inl (by rw [Nat.zero_add]))
set_option maxHeartbeats 8000000 in
theorem delOneSn (B : Nat) (r : Rw Snm) (i : Nat) (w : World) (h : kLSn.Own B w.heap.size w r) (hi : i < r.els.length) (hl : r.els.length ≤ 1100000) :
    Calls Try.prog 65 #[r.v, .int .i64 i, .int .i64 ((i : Int) + 1)] w fun e w' => ∃ r' : Rw Snm, e = .returned r'.v ∧ kLSn.Own B w'.heap.size w' r' ∧ r'.els = r.els.eraseIdx i ∧ w.grownBy w' r.v.ownBlock ∧ r'.v.ownBlock = r.v.ownBlock := by
  obtain ⟨ad, n, cap, L⟩ := r
  dsimp only at hl hi ⊢
  have HFULL := Lib.hid h
  rcases h.1.1.form with ⟨hv, hL⟩ | ⟨g, cap', hv, g1, g2, g3, g4⟩
  · dsimp only at hL
    rw [hL] at hi
    exact absurd hi (by simp)
  · replace hv : Value.slice ad n cap = .slice (some ⟨g, 0, none⟩) L.length cap' := hv
    cases hv
    dsimp only at g3 g4
    obtain ⟨N, hN⟩ : ∃ N, L.length = N + 1 := ⟨L.length - 1, by omega⟩
    show Calls Try.prog 65 #[.slice (some ⟨g, 0, none⟩) L.length cap, .int .i64 i, .int .i64 ((i : Int) + 1)] w _
    have hh := h.1.1.holds
    have hO : OwnK 38 kSn.cells 2 B w (.slice (some ⟨g, 0, none⟩) i cap) (L.take i) := h.1.1.take szSn_cells (i := i) (by show i ≤ L.length; omega)
    have hR := holds_restSn (i := i + 1) (show HoldsK kSn.cells 2 w (.slice (some ⟨g, 0, none⟩) L.length cap) L from hh) (by omega)
    have hroom : (L.take i).length + (L.drop (i + 1)).length ≤ cap := by rw [List.length_take, List.length_drop]; omega
    have hsum : (L.take i).length + (L.drop (i + 1)).length = N := by rw [List.length_take, List.length_drop]; omega
    have hne : ((i : Int) == (i : Int) + 1) = false := by simp <;> omega
    obtain ⟨j, hj⟩ : ∃ j, j = i + 1 := ⟨_, rfl⟩
    have hg2 : (i : Int) + 1 = (j : Int) := by omega
    rw [hg2] at hne ⊢
    rw [← hj] at hR hroom hsum
    rw [hN] at hR hi hl g3 ⊢
    have hi2 : i ≤ N := by omega
    have hij : i ≤ j := by omega
    have hjN : j ≤ N + 1 := by omega
    have hjc : j ≤ cap := by omega
    have hic : i ≤ cap := by omega
    have u1 : (i : Int) ≤ (j : Int) := by omega
    have u2 : (j : Int) ≤ (N : Int) + 1 := by omega
    have u3 : (N : Int) + 1 ≤ (cap : Int) := by omega
    have HJ := Lib.hid hj
    clear hj hg2 hN
    have HO := Lib.hid (hO.on (Below.refl _ _).drew); have HR := Lib.hid (hR.on (Below.refl w.heap.size w).drew); have HRM := Lib.hid hroom; have HSM := Lib.hid hsum
    clear hh hO hR hroom hsum h
    go_enter Try.func65, Try.ntmps65
    go_wp2_with fail
    go_region_law (refine step_appFits kindSn (B := B) (g := g) (n := i) (cap := cap) (l := L.take i) (m := L.drop j) rfl _ _ (by rfl) Try.underlying24 (by rfl) (by rfl) HO.out HR.out HRM.out ?_; intro w4 M hM ho4 hg4; rw [HSM.out] at hM; subst hM; have HO4 := Lib.hid ho4; have HG4 := Lib.hid hg4; clear ho4 hg4)
    all_goals
      clear HR
      generalize (if cap = j then (some ⟨g, 0, none⟩ : Option Addr) else some ⟨g, j * 2, none⟩) = xo7
      have hc1 : M + 1 ≤ cap := by omega
      have hML : M = (L.take i ++ L.drop j).length := by rw [List.length_append, HSM.out]
      have HML := Lib.hid hML; clear hML
      go_wp2_with (refine wpList_clearPast kindSn rfl zvSn rfl _ rfl Try.underlying24 (i := M) (k := 1) rfl HO4.out HML.out hc1 (by decide) ?_)
      intro w5 ho5 hg5
      have HO5 := Lib.hid ho5; have HG5 := Lib.hid (Go.World.grownBy.trans (Go.World.grownBy.trans (Sl.grown_of_below (Below.refl w.heap.size w).drew (some g)) HG4.out) hg5)
      clear ho5 hg5
      go_wp2_with fail
      go_ret
      exact ⟨⟨some ⟨g, 0, none⟩, M, _, L.take i ++ L.drop j⟩, rfl, Kd.sub noRow_kSn HFULL.out (by rw [HJ.out, ← erase_parts]; exact List.eraseIdx_sublist _ _) HG5.out (fun g' e => e) HO5.out, by rw [HJ.out]; exact (erase_parts L i).symm, HG5.out, rfl⟩
end Go.Proofs.Ytjphnlkdbhcblaa.Row
/- Satisfy, model and program. No conditions but that lengths fit. -/
namespace Go.Proofs.Ytjphnlkdbhcblaa.Row
open Go.ChangeShapes Go.WideShapes Go.ChangeAt Go.RowKit Go.Instr
set_option linter.unusedVariables false
set_option maxRecDepth 100000
theorem map_erase9 {α β : Type} (f : α → β) (l : List α) (k : Nat) : (l.eraseIdx k).map f = (l.map f).eraseIdx k := by
  rw [erase_parts, erase_parts, List.map_append, List.map_take, List.map_drop]
def SatPost (l : List Pit) (m : List ByteArray) (w : World) (e : Ending) (w' : World) : Prop := ∃ (r : Rw Pim) (q : Rw Rqm), e = .returned (.tuple #[kLPi.val r, kLRq.val q]) ∧ (kLPi.pair kLRq).Own w.heap.size w'.heap.size w' (r, q) ∧ kLPi.strip r = satP l m ∧ kLRq.strip q = satR l m ∧ Below w.heap.size w w'
theorem sat_join {B C E : Nat} {w w' : World} {r r' : Rw Pim} {k : Nat} (h : kLPi.Own B C w r) (hk : k < r.els.length) (hr : kLPi.Own B E w' r') (he : r'.els = r.els.eraseIdx k) (hg : w.grownBy w' r.v.ownBlock) (hb : r'.v.ownBlock = r.v.ownBlock) (hE : C ≤ E) : (kLPi.pair kLRq).Own B E w' (r', (nth r.els k).2.1) := by
  obtain ⟨x, n, c, L⟩ := r
  replace h : (kPi.slice 101).Own B C w ⟨x, n, c, L⟩ := h
  dsimp only at hk he
  have hel := Kd.Own.elem h hk
  obtain ⟨hap1, hap2⟩ := Kd.Own.apart h
  have hin : ∀ g ∈ kLRq.blocks (nth L k).2.1, g ∈ kPi.blocks (nth L k) := fun g hg => List.mem_append_right _ (List.mem_append_left _ hg)
  have ho2 : kLRq.Own B C w (nth L k).2.1 := (Kd.Own.parts (Kd.Own.parts (k := kN) (l := kLRq.pair kInt) (m := (nth L k).1) (n := (nth L k).2) hel).2.1).1
  have hq : kLRq.Own B E w' (nth L k).2.1 := (ho2.grown hg (fun g hg2 hg3 => hap2 g hg2 (List.mem_flatMap.2 ⟨_, nth_mem hk, hin g hg3⟩))).mono (Nat.le_refl _) hE
  refine Kd.Own.join hr hq (fun g hg1 hg2 => ?_)
  rcases List.mem_append.1 (show g ∈ r'.v.ownBlock.toList ++ r'.els.flatMap kPi.blocks from hg1) with h1 | h1
  · rw [hb] at h1
    replace h1 : g ∈ (Value.slice x n c).ownBlock.toList := h1
    exact hap2 g (by simpa using h1) (List.mem_flatMap.2 ⟨_, nth_mem hk, hin g hg2⟩)
  · rw [he] at h1
    obtain ⟨y, hy, hgy⟩ := List.mem_flatMap.1 h1
    obtain ⟨i, hi, hne, rfl⟩ := List.mem_eraseIdx_iff_getElem.1 hy
    refine flat_disj hap1 hi hk (Ne.symm (fun e => hne e.symm)) g hgy ?_
    rw [← nth_eq hk]
    exact hin g hg2
end Go.Proofs.Ytjphnlkdbhcblaa.Row
/- Satisfy, the program. No conditions but that lengths fit. -/
namespace Go.Proofs.Ytjphnlkdbhcblaa.Row
open Go.ChangeShapes Go.WideShapes Go.ChangeAt Go.RowKit Go.Instr
set_option linter.unusedVariables false
set_option maxRecDepth 100000
set_option maxHeartbeats 8000000 in
theorem implSatisfy (V U : Value) (l : List Pit) (m : List ByteArray) (w : World) (h : kLPi.At w V l) (g : kN.At w U m) (hf : FitP l) (hm : bulk m ≤ 1200000) :
    Calls Try.prog 49 #[V, U] w (SatPost l m w) := by
  unfold SatPost
  obtain ⟨x, n, c, L, rfl, hn, ht, hh, hel⟩ := kLPi_at h
  obtain ⟨xn, nn, cn, rfl, g⟩ := kN_shapeA g
  have hlen : l.length = n := by rw [← ht, List.length_map]; exact hn.symm
  have hcap : n ≤ c := by obtain ⟨x', n', cap', hv, hn', hc', -⟩ := hh.shapeN; cases hv; exact hc'
  have hal := (Below.refl w.heap.size w).alloc (Nat.le_refl _) (.cells #[.slice xn nn cn] 27)
  have HX := Lib.hid (Ret.Blk.new w #[.slice xn nn cn] 27)
  have HAT := Lib.hid (h.on hal); have HG := Lib.hid (g.on hal); have HB := Lib.hid hal; have HF := Lib.hid hf
  have HN := Lib.hid hn; have HT := Lib.hid ht; have HH := Lib.hid (hh.on hal); have HEL := Lib.hid (fun y hy => kPi.holds_on (hel y hy) hal); have HLEN := Lib.hid hlen
  have hs0 : (w.alloc (.cells #[.slice xn nn cn] 27)).heap.size = w.heap.size + 1 := by simp
  obtain ⟨z, hz⟩ : ∃ z, ixL (isP m) l = z := ⟨_, rfl⟩
  have HZ := Lib.hid hz
  clear h g hal hf hz hn ht hh hel hlen
  go_enter Try.func49, Try.ntmps49
  go_wp2_with fail
  refine (iCopyP _ l _ HAT.out HF.out).mono ?_
  rintro e w1 ⟨U, rfl, hi, hb1⟩
  obtain ⟨⟨xu, nu, cu, Lu⟩, rfl, hs, hi⟩ := hi.split
  replace hs : Lu.map kPi.strip = l := hs
  rw [show kLPi.val (⟨xu, nu, cu, Lu⟩ : Rw Pim) = .slice xu nu cu from rfl]
  rw [hs0] at hi
  have HO := Lib.hid hi; have HS := Lib.hid hs
  replace HX := Lib.hid (HX.out.on hb1); replace HAT := Lib.hid (HAT.out.on hb1); replace HG := Lib.hid (HG.out.on hb1); replace HB := Lib.hid (HB.out.trans (hb1.mono HB.out.size))
  replace HH := Lib.hid (HH.out.on hb1); replace HEL := Lib.hid (fun y hy => kPi.holds_on (HEL.out y hy) hb1)
  have HLA : Hid (kLPi.At w1 (.slice xu nu cu) l) := Lib.hid ⟨⟨xu, nu, cu, Lu⟩, rfl, hs, hi.holds⟩
  have hs1 : w.heap.size + 1 ≤ w1.heap.size := by rw [← hs0]; exact hb1.size
  clear hi hs hb1 hs0
  have q0 := HX.out.cell 0
  go_wp2_with fail
  refine (pIndex _ _ l m _ z HZ.out HLA.out HG.out HF.out.len9 HF.out.each hm).mono ?_
  rintro e w2 ⟨rfl, hb2⟩
  replace HO := Lib.hid (HO.out.upto hb2); replace HB := Lib.hid (HB.out.trans (hb2.mono HB.out.size))
  replace HH := Lib.hid (HH.out.on hb2); replace HEL := Lib.hid (fun y hy => kPi.holds_on (HEL.out y hy) hb2)
  have hs2 : w.heap.size + 1 ≤ w2.heap.size := Nat.le_trans hs1 hb2.size
  clear hb2 q0 HX HAT HG HLA hs1
  rcases ixL_cases (isP m) l with ⟨e1, -⟩ | ⟨k, hk, e1, -, -⟩
  · obtain rfl : z = -1 := by rw [← HZ.out]; exact e1
    have HR : Hid (Lu.map kPi.strip = satP l m) := Lib.hid (by rw [HS.out]; unfold satP; rw [if_neg (by omega)])
    have HR2 : Hid (([] : List Rqt) = satR l m) := Lib.hid (by unfold satR; rw [if_neg (by omega)])
    have hal := (Below.refl w2.heap.size w2).alloc (Nat.le_refl _) (.cells #[] 91)
    have HQ := Lib.hid (kLRq_own (E := (w2.alloc (.cells #[] 91)).heap.size) (ownK_empty kRq.cells 3 91 w2) (Nat.le_refl _))
    have HO2 := Lib.hid (HO.out.on hal); have HB2 := Lib.hid (HB.out.trans (hal.mono HB.out.size)); have HAL := Lib.hid hal.size
    clear e1 hal
    go_wp2_with fail
    go_ret2
    exact ⟨⟨xu, nu, cu, Lu⟩, ⟨some ⟨w2.heap.size, 0, none⟩, 0, 0, []⟩, rfl, Kd.Own.join (HO2.out.mono (Nat.le_succ _) HAL.out) (HQ.out.mono HB.out.size (Nat.le_refl _)) (fun g h1 h2 => by have h5 := (HO2.out.lt g h1).2.1; have h6 := (HQ.out.lt g h2).1; omega), HR.out, HR2.out, HB2.out⟩
  · obtain rfl : z = (k : Int) := by rw [← HZ.out]; exact e1
    have hkL : k < Lu.length := by rw [← HS.out, List.length_map] at hk; exact hk
    obtain ⟨gR, rfl, hnl, hnc, hg1, hg2⟩ := row_form HO.out hkL
    have HR : Hid ((Lu.eraseIdx k).map kPi.strip = satP l m) := Lib.hid (by
      unfold satP; rw [if_pos (by omega), e1, ← HS.out]; exact map_erase9 _ _ _)
    have HR2 : Hid (kLRq.strip (nth Lu k).2.1 = satR l m) := Lib.hid (by
      unfold satR; rw [if_pos (by omega), e1, ← HS.out]; rw [show ((k : Int)).toNat = k from rfl, nth_map _ hkL]; rfl)
    have hkn : k < nu := by omega
    have hkc : k ≤ cu := by omega
    have hl9 := HF.out.len
    have hn9 : Lu.length ≤ 1100000 := by rw [← HS.out, List.length_map] at hl9; exact hl9
    have hel := Kd.Own.elem HO.out hkL
    obtain ⟨y0, m0, d0, y1, m1, d1, e9, -⟩ := kPi_shapeA (Kd.at_of (k := kPi) hel.holds)
    have hce : kPi.cells (nth Lu k) = [.slice y0 m0 d0, .slice y1 m1 d1, .int .i64 (kPi.strip (nth Lu k)).2.2] := by injection e9 with e; exact congrArg Array.toList e
    have hq1 : kLRq.val (nth Lu k).2.1 = .slice y1 m1 d1 := by
      have h5 := congrArg (fun L => L[1]?) hce
      exact Option.some.inj h5
    have c1 : w2.cell? ⟨gR, k * 3 + 1, none⟩ = some (.slice y1 m1 d1) := by
      have h5 := (ownK_cell szPi_cells HO.out.1.1 hnl hkL (i := 1) (by decide)).1
      rw [hce] at h5
      exact h5
    have HQ1 := Lib.hid hq1; have HKL := Lib.hid hkL
    have HD := Lib.hid (delOnePi (w.heap.size + 1) ⟨some ⟨gR, 0, none⟩, nu, cu, Lu⟩ k w2 HO.out hkL hn9)
    clear e1 e9 hce hel hq1 hk hg1 hg2 hl9 hnl
    go_wp2_with fail
    refine HD.out.mono ?_
    rintro e w3 ⟨r', rfl, ho3, he3, hg3, hb3⟩
    have HB3 := Lib.hid (HB.out.grown hg3 HB.out.size (fun g hg => by have := (HO.out.1.1.lt g hg).1; omega))
    have HJ := Lib.hid (sat_join HO.out HKL.out ho3 he3 hg3 hb3 hg3.size)
    have HE := Lib.hid he3
    clear ho3 he3 hg3 hb3 c1 HD
    obtain ⟨x3, n3, c3, L3⟩ := r'
    go_wp2_with fail
    go_ret2
    exact ⟨⟨x3, n3, c3, L3⟩, (nth Lu k).2.1, by rw [HQ1.out]; rfl, HJ.out.mono (Nat.le_succ _) (Nat.le_refl _), by show L3.map kPi.strip = _; rw [show L3 = Lu.eraseIdx k from HE.out, HR.out], HR2.out, HB3.out⟩
end Go.Proofs.Ytjphnlkdbhcblaa.Row
/- Satisfy, the model. No conditions but that lengths fit. -/
namespace Go.Proofs.Ytjphnlkdbhcblaa.Row
open Go.ChangeShapes Go.WideShapes Go.ChangeAt Go.RowKit Go.Instr
set_option linter.unusedVariables false
set_option maxRecDepth 100000
set_option maxHeartbeats 8000000 in
theorem specSatisfy (V U : Value) (l : List Pit) (m : List ByteArray) (w : World) (h : kLPi.At w V l) (g : kN.At w U m) (hf : FitP l) (hm : bulk m ≤ 1200000) :
    Calls Try.prog 48 #[V, U] w (SatPost l m w) := by
  unfold SatPost
  obtain ⟨x, n, c, L, rfl, hn, ht, hh, hel⟩ := kLPi_at h
  obtain ⟨xn, nn, cn, rfl, g⟩ := kN_shapeA g
  have hlen : l.length = n := by rw [← ht, List.length_map]; exact hn.symm
  have hcap : n ≤ c := by obtain ⟨x', n', cap', hv, hn', hc', -⟩ := hh.shapeN; cases hv; exact hc'
  have hal := (Below.refl w.heap.size w).alloc (Nat.le_refl _) (.cells #[.slice xn nn cn] 27)
  have HX := Lib.hid (Ret.Blk.new w #[.slice xn nn cn] 27)
  have HAT := Lib.hid (h.on hal); have HG := Lib.hid (g.on hal); have HB := Lib.hid hal; have HF := Lib.hid hf
  have HN := Lib.hid hn; have HT := Lib.hid ht; have HH := Lib.hid (hh.on hal); have HEL := Lib.hid (fun y hy => kPi.holds_on (hel y hy) hal); have HLEN := Lib.hid hlen
  have hs0 : (w.alloc (.cells #[.slice xn nn cn] 27)).heap.size = w.heap.size + 1 := by simp
  obtain ⟨z, hz⟩ : ∃ z, ixL (isP m) l = z := ⟨_, rfl⟩
  have HZ := Lib.hid hz
  clear h g hal hf hz hn ht hh hel hlen
  go_enter Try.func48, Try.ntmps48
  go_wp2_with fail
  refine (sCopyP _ l _ HAT.out HF.out).mono ?_
  rintro e w1 ⟨U, rfl, hi, hb1⟩
  obtain ⟨⟨xu, nu, cu, Lu⟩, rfl, hs, hi⟩ := hi.split
  replace hs : Lu.map kPi.strip = l := hs
  rw [show kLPi.val (⟨xu, nu, cu, Lu⟩ : Rw Pim) = .slice xu nu cu from rfl]
  rw [hs0] at hi
  have HO := Lib.hid hi; have HS := Lib.hid hs
  replace HX := Lib.hid (HX.out.on hb1); replace HAT := Lib.hid (HAT.out.on hb1); replace HG := Lib.hid (HG.out.on hb1); replace HB := Lib.hid (HB.out.trans (hb1.mono HB.out.size))
  replace HH := Lib.hid (HH.out.on hb1); replace HEL := Lib.hid (fun y hy => kPi.holds_on (HEL.out y hy) hb1)
  have HLA : Hid (kLPi.At w1 (.slice xu nu cu) l) := Lib.hid ⟨⟨xu, nu, cu, Lu⟩, rfl, hs, hi.holds⟩
  have hs1 : w.heap.size + 1 ≤ w1.heap.size := by rw [← hs0]; exact hb1.size
  clear hi hs hb1 hs0
  have q0 := HX.out.cell 0
  go_wp2_with fail
  refine (sFindP _ _ l m _ z HZ.out HAT.out HG.out HF.out.len9 HF.out.each hm).mono ?_
  rintro e w2 ⟨rfl, hb2⟩
  replace HO := Lib.hid (HO.out.upto hb2); replace HB := Lib.hid (HB.out.trans (hb2.mono HB.out.size))
  replace HH := Lib.hid (HH.out.on hb2); replace HEL := Lib.hid (fun y hy => kPi.holds_on (HEL.out y hy) hb2)
  have hs2 : w.heap.size + 1 ≤ w2.heap.size := Nat.le_trans hs1 hb2.size
  clear hb2 q0 HX HAT HG HLA hs1
  rcases ixL_cases (isP m) l with ⟨e1, -⟩ | ⟨k, hk, e1, -, -⟩
  · obtain rfl : z = -1 := by rw [← HZ.out]; exact e1
    have HR : Hid (Lu.map kPi.strip = satP l m) := Lib.hid (by rw [HS.out]; unfold satP; rw [if_neg (by omega)])
    have HR2 : Hid (([] : List Rqt) = satR l m) := Lib.hid (by unfold satR; rw [if_neg (by omega)])
    have hal := (Below.refl w2.heap.size w2).alloc (Nat.le_refl _) (.cells #[] 91)
    have HQ := Lib.hid (kLRq_own (E := (w2.alloc (.cells #[] 91)).heap.size) (ownK_empty kRq.cells 3 91 w2) (Nat.le_refl _))
    have HO2 := Lib.hid (HO.out.on hal); have HB2 := Lib.hid (HB.out.trans (hal.mono HB.out.size)); have HAL := Lib.hid hal.size
    clear e1 hal
    go_wp2_with fail
    go_ret2
    exact ⟨⟨xu, nu, cu, Lu⟩, ⟨some ⟨w2.heap.size, 0, none⟩, 0, 0, []⟩, rfl, Kd.Own.join (HO2.out.mono (Nat.le_succ _) HAL.out) (HQ.out.mono HB.out.size (Nat.le_refl _)) (fun g h1 h2 => by have h5 := (HO2.out.lt g h1).2.1; have h6 := (HQ.out.lt g h2).1; omega), HR.out, HR2.out, HB2.out⟩
  · obtain rfl : z = (k : Int) := by rw [← HZ.out]; exact e1
    have hkL : k < Lu.length := by rw [← HS.out, List.length_map] at hk; exact hk
    obtain ⟨gR, rfl, hnl, hnc, hg1, hg2⟩ := row_form HO.out hkL
    have HR : Hid ((Lu.eraseIdx k).map kPi.strip = satP l m) := Lib.hid (by
      unfold satP; rw [if_pos (by omega), e1, ← HS.out]; exact map_erase9 _ _ _)
    have HR2 : Hid (kLRq.strip (nth Lu k).2.1 = satR l m) := Lib.hid (by
      unfold satR; rw [if_pos (by omega), e1, ← HS.out]; rw [show ((k : Int)).toNat = k from rfl, nth_map _ hkL]; rfl)
    have hkn : k < nu := by omega
    have hkc : k ≤ cu := by omega
    have hl9 := HF.out.len
    have hn9 : Lu.length ≤ 1100000 := by rw [← HS.out, List.length_map] at hl9; exact hl9
    obtain ⟨b, off, y0, m0, d0, y1, m1, d1, rfl, -, hc0, hc1, hc2, hA⟩ := kLPi_elem HH.out HEL.out (j := k) (by have := HN.out; have := HLEN.out; omega)
    have hpt : nth l k = kPi.strip (nth L k) := by rw [← HT.out, nth_map _ (by have := HN.out; have := HLEN.out; omega)]
    rw [← hpt] at hA hc2
    obtain ⟨-, hRQ⟩ := kPi_parts hA
    have hkn0 : k < n := by have := HLEN.out; omega
    have hps := HF.out.each (nth l k) (nth_mem hk)
    obtain ⟨rq, hrq⟩ : ∃ rq, (nth l k).2.1 = rq := ⟨_, rfl⟩
    rw [hrq] at hRQ
    have hrl : rq.length ≤ 1200000 := by rw [← hrq]; exact (wtPi_lens hps).2
    have hrs : kLRq.strip (nth Lu k).2.1 = rq := by
      rw [← hrq, ← HS.out, nth_map _ hkL]; rfl
    rw [hrs] at HR2
    have hal := (Below.refl w2.heap.size w2).alloc (Nat.le_refl _) (.cells #[] 91)
    have HQ0 := Lib.hid (ownK_empty kRq.cells 3 91 w2)
    have HSQ := Lib.hid (kLRq_holds (hRQ.on hal)); have HAL := Lib.hid hal; have HKL := Lib.hid hkL; have HNL := Lib.hid hnl
    have c1 := kc hc1 hal
    clear e1 hg1 hg2 hl9 hpt hA hRQ hps hrq hrs hal hc0 hc1 hc2 hk hkL hnl
    go_wp2_with (at_builtin; refine wpList_appK kindRq (B := w2.heap.size) (l := []) (m := rq) rfl _ _ rfl Try.underlying68 rfl rfl HQ0.out HSQ.out (by simp; omega) (by unfold maxLen; simp; omega) (by simp) ?_)
    intro v3 w3 ho3 hg3
    obtain ⟨x3, n3, c3, rfl, -, -, ho3⟩ := ho3.shapeN
    have hb3 : Below w2.heap.size w2 w3 := HAL.out.grown hg3 (by simp) (fun g hg => (HQ0.out.lt g hg).1)
    have HO3 := Lib.hid (HO.out.on hb3)
    have HQ3 := Lib.hid (kLRq_own (E := w3.heap.size) ho3 (Nat.le_refl _))
    have HB3 := Lib.hid (HB.out.trans (hb3.mono HB.out.size))
    have HS3 := Lib.hid hb3.size
    clear ho3 hg3 hb3 c1
    have hT := HO3.out.1.1.holds.take szPi_cells (i := k) (show k ≤ Lu.length from Nat.le_of_lt HKL.out)
    have hR := holds_restPi (i := k + 1) (show HoldsK kPi.cells 3 w3 (.slice (some ⟨gR, 0, none⟩) nu cu) Lu from HO3.out.1.1.holds) (show k + 1 ≤ Lu.length from HKL.out)
    have hE : OwnK 101 kPi.cells 3 w3.heap.size (w3.drew.alloc (.cells #[] 101)) (.slice (some ⟨w3.heap.size, 0, none⟩) 0 0) [] := ownK_empty kPi.cells 3 101 w3.drew
    have HE := Lib.hid hE
    have HBE := Lib.hid (show Below w3.heap.size w3 (w3.drew.alloc (.cells #[] 101)) from (Below.refl w3.heap.size w3).drew.alloc (Nat.le_refl _) _)
    have HT3 := Lib.hid (hT.on HBE.out); have HR3 := Lib.hid hR
    have hk1n : k + 1 ≤ nu := by omega
    have hk1c : k + 1 ≤ cu := by omega
    have u0 : (0 : Int) ≤ (k : Int) + 1 := by omega
    have u1 : (k : Int) + 1 ≤ (nu : Int) := by omega
    have u2 : ((k : Int) + 1).toNat = k + 1 := by omega
    have HTL := Lib.hid (show (Lu.take k).length = k by rw [List.length_take]; have := HKL.out; omega); have HDL := Lib.hid (show (Lu.drop (k + 1)).length = nu - (k + 1) by rw [List.length_drop, HNL.out])
    have hn11 : nu ≤ 1100000 := by have := HNL.out; omega
    have hk11 : k ≤ 1100000 := by omega
    have hki : (k : Int) ≤ 1100000 := by omega
    have hk0 : (0 : Int) ≤ (k : Int) := by omega
    have hw : IntKind.i64.wrap ((k : Int) + 1) = ((k + 1 : Nat) : Int) := by rw [Go.IntWalk.i64_left, Go.IntWalk.wrap64_in _ (by omega)]; rfl
    have HNE := Lib.hid (show (if cu = k + 1 then (some ⟨gR, 0, none⟩ : Option Addr) else some ⟨gR, (k + 1) * 3, none⟩) ≠ none by split <;> simp)
    clear hT hR hE
    go_wp2_with fail
    go_region_law (first | (refine step_appKx kindPi (B := w3.heap.size) (l := [] ++ Lu.take k) (m := Lu.drop (k + 1)) rfl _ _ (by rfl) Try.underlying35 (by rfl) (by rfl) HNE.out HO1.out (HR3.out.on HB1.out) (by rw [List.nil_append, HTL.out, HDL.out]; omega) (by rw [List.nil_append, HTL.out, HDL.out]; unfold maxLen; omega) HB1.out.size ?_; intro v5 w5 ho5 hg5; have HO2 := Lib.hid ho5; have HB2 := Lib.hid (HB1.out.grown hg5 HB1.out.size (fun g hg => (HO1.out.lt g hg).1)); clear ho5 hg5) | (refine step_appK kindPi (B := w3.heap.size) (l := ([] : List Pim)) (m := Lu.take k) rfl _ _ (by rfl) Try.underlying35 (by rfl) (by rfl) HE.out HT3.out (by rw [HTL.out]; simp; omega) (by rw [HTL.out]; unfold maxLen; simp; omega) HBE.out.size ?_; intro v4 w4 ho4 hg4; have HO1 := Lib.hid ho4; have HB1 := Lib.hid (HBE.out.grown hg4 HBE.out.size (fun g hg => (HE.out.lt g hg).1)); clear ho4 hg4))
    all_goals
      obtain ⟨x5, n5, c5, rfl, -, -, ho5⟩ := HO2.out.shapeN
      have HO5 := Lib.hid (show OwnK 101 kPi.cells 3 w3.heap.size _ (.slice x5 n5 c5) (Lu.eraseIdx k) from by rw [erase_parts]; simpa using ho5)
      clear ho5 HR3 HNE
      generalize (if cu = k + 1 then (some ⟨gR, 0, none⟩ : Option Addr) else some ⟨gR, (k + 1) * 3, none⟩) = xo7
      go_wp2_with fail
      go_ret2
      have hOn : kLPi.Own (w.heap.size + 1) _ _ ⟨x5, n5, c5, Lu.eraseIdx k⟩ := Kd.sub noRow_kPi HO3.out (List.eraseIdx_sublist _ _) (Sl.grown_of_below HB2.out none) (fun g e => by cases e) (HO5.out.mono (Nat.le_trans hs2 HS3.out))
      refine ⟨⟨x5, n5, c5, Lu.eraseIdx k⟩, ⟨x3, n3, c3, [] ++ rq⟩, rfl, Kd.Own.join (hOn.mono (Nat.le_succ _) (Nat.le_refl _)) ((HQ3.out.on HB2.out).mono HB.out.size HB2.out.size) (fun g h1 h2 => ?_), HR.out, by show List.map kRq.strip ([] ++ rq) = _; rw [rq_map, ← HR2.out]; rfl, HB3.out.trans (HB2.out.mono HB3.out.size)⟩
      have h6 := HQ3.out.lt g h2
      rcases List.mem_append.1 (show g ∈ (Value.slice x5 n5 c5).ownBlock.toList ++ (Lu.eraseIdx k).flatMap kPi.blocks from h1) with h7 | h7
      · have h8 := (HO5.out.lt g (by simpa using h7)).1
        omega
      · obtain ⟨y, hy, hgy⟩ := List.mem_flatMap.1 h7
        have h9 := HO.out.2.2 g (List.mem_append_right _ (List.mem_flatMap.2 ⟨y, List.mem_of_mem_eraseIdx hy, hgy⟩))
        omega
end Go.Proofs.Ytjphnlkdbhcblaa.Row
/- A list of pending interests and one of requesters in one answer: at, on, wrote, marks; Satisfy in these words. No conditions but that lengths fit. -/
namespace Go.Proofs.Ytjphnlkdbhcblaa.Row
open Go.ChangeShapes Go.WideShapes Go.ChangeAt Go.RowKit Go.Instr
set_option linter.unusedVariables false
set_option maxRecDepth 100000
def PairIn (B E : Nat) (w : World) (V U : Value) (a : List Pit) (b : List Rqt) : Prop := ∃ (r : Rw Pim) (q : Rw Rqm), V = kLPi.val r ∧ U = kLRq.val q ∧ kLPi.strip r = a ∧ kLRq.strip q = b ∧ (kLPi.pair kLRq).Own B E w (r, q)
section
variable {B E B' E' : Nat} {w w' : World} {V U : Value} {v : Value × Value} {a : List Pit} {b : List Rqt}
theorem PairIn.shape (h : PairIn B E w v.1 v.2 a b) : ∃ (x : Option Addr) (n c : Nat) (y : Option Addr) (m d : Nat), v = (.slice x n c, .slice y m d) ∧ PairIn B E w (.slice x n c) (.slice y m d) a b := by
  obtain ⟨⟨x, n, c, L⟩, ⟨y, m, d, M⟩, h1, h2, h3, h4, h5⟩ := h
  obtain ⟨v1, v2⟩ := v
  dsimp only at h1 h2
  subst h1; subst h2
  exact ⟨x, n, c, y, m, d, rfl, ⟨x, n, c, L⟩, ⟨y, m, d, M⟩, rfl, rfl, h3, h4, h5⟩
theorem PairIn.on (h : PairIn B E w V U a b) (hb : Below w.heap.size w w') : PairIn B E w' V U a b := by
  obtain ⟨r, q, h1, h2, h3, h4, h5⟩ := h
  exact ⟨r, q, h1, h2, h3, h4, h5.on hb⟩
theorem PairIn.wrote (h : PairIn B E w V U a b) (hw : Wrote B' E' w w') (hn : E ≤ B' ∨ E' ≤ B) : PairIn B E w' V U a b := by
  obtain ⟨r, q, h1, h2, h3, h4, h5⟩ := h
  exact ⟨r, q, h1, h2, h3, h4, h5.wrote hw hn⟩
theorem PairIn.fst (h : PairIn B E w V U a b) : kLPi.In B E w V a := by
  obtain ⟨r, q, rfl, rfl, rfl, rfl, h5⟩ := h
  exact (Kd.Own.parts h5).1.in
theorem PairIn.snd (h : PairIn B E w V U a b) : kLRq.In B E w U b := by
  obtain ⟨r, q, rfl, rfl, rfl, rfl, h5⟩ := h
  exact (Kd.Own.parts h5).2.1.in
theorem val_of_cells {r r' : Rw Pim} {q q' : Rw Rqm} (h : (kLPi.pair kLRq).cells (r', q') = (kLPi.pair kLRq).cells (r, q)) : kLPi.val r' = kLPi.val r ∧ kLRq.val q' = kLRq.val q := by
  have h1 : [kLPi.val r', kLRq.val q'] = [kLPi.val r, kLRq.val q] := h
  injection h1 with h1 h2
  injection h2 with h2 _
  exact ⟨h1, h2⟩
end
theorem PairIn.mark1 (B E : Nat) (V U : Value) (a : List Pit) (b : List Rqt) (w : World) (k : Int) (h : PairIn B E w V U a b) (hl : advK mvPi a ≤ 100000000) (h0 : 0 ≤ k) (h1 : k ≤ 1000000000) :
    Calls Try.prog 40 #[V, .int .i64 k] w fun e w' => e = .returned (.int .i64 (k + (advK mvPi a : Int))) ∧ PairIn B E w' V U (mkLK mvPi mePi k a) b ∧ Wrote B E w w' := by
  obtain ⟨r, q, rfl, rfl, rfl, rfl, h5⟩ := h
  refine ((MarkF.fst markF_LPi kLRq) B E (r, q) w k h5 hl h0 (by show k + (advK mvPi (kLPi.strip r) : Int) ≤ _; omega)).mono ?_
  rintro e w' ⟨rfl, ⟨r', q'⟩, hc, hb, hs, ho, hw⟩
  obtain ⟨e1, e2⟩ := val_of_cells hc
  have hs1 : (kLPi.strip r', kLRq.strip q') = (mkLK mvPi mePi k (kLPi.strip r), kLRq.strip q) := hs
  injection hs1 with s1 s2
  exact ⟨rfl, ⟨r', q', e1.symm, e2.symm, s1, s2, ho⟩, hw.wrote (fun g hg => ⟨(h5.lt g hg).1, (h5.lt g hg).2.1⟩)⟩
theorem PairIn.mark2 (B E : Nat) (V U : Value) (a : List Pit) (b : List Rqt) (w : World) (k : Int) (h : PairIn B E w V U a b) (hl : advK mvRq b ≤ 100000000) (h0 : 0 ≤ k) (h1 : k ≤ 1000000000) :
    Calls Try.prog 51 #[U, .int .i64 k] w fun e w' => e = .returned (.int .i64 (k + (advK mvRq b : Int))) ∧ PairIn B E w' V U a (mkLK mvRq meRq k b) ∧ Wrote B E w w' := by
  obtain ⟨r, q, rfl, rfl, rfl, rfl, h5⟩ := h
  refine ((MarkF.snd markF_LRq kLPi) B E (r, q) w k h5 hl h0 (by show k + (advK mvRq (kLRq.strip q) : Int) ≤ _; omega)).mono ?_
  rintro e w' ⟨rfl, ⟨r', q'⟩, hc, hb, hs, ho, hw⟩
  obtain ⟨e1, e2⟩ := val_of_cells hc
  have hs1 : (kLPi.strip r', kLRq.strip q') = (kLPi.strip r, mkLK mvRq meRq k (kLRq.strip q)) := hs
  injection hs1 with s1 s2
  exact ⟨rfl, ⟨r', q', e1.symm, e2.symm, s1, s2, ho⟩, hw.wrote (fun g hg => ⟨(h5.lt g hg).1, (h5.lt g hg).2.1⟩)⟩
theorem implSatisfyP (V U : Value) (l : List Pit) (m : List ByteArray) (w : World) (h : kLPi.At w V l) (g : kN.At w U m) (hf : FitP l) (hm : bulk m ≤ 1200000) :
    Calls Try.prog 49 #[V, U] w fun e w' => ∃ v : Value × Value, e = .returned (.tuple #[v.1, v.2]) ∧ PairIn w.heap.size w'.heap.size w' v.1 v.2 (satP l m) (satR l m) ∧ Below w.heap.size w w' :=
  (implSatisfy V U l m w h g hf hm).mono fun e w' ⟨r, q, h1, h2, h3, h4, h5⟩ => ⟨(kLPi.val r, kLRq.val q), h1, ⟨r, q, rfl, rfl, h3, h4, h2⟩, h5⟩
theorem specSatisfyP (V U : Value) (l : List Pit) (m : List ByteArray) (w : World) (h : kLPi.At w V l) (g : kN.At w U m) (hf : FitP l) (hm : bulk m ≤ 1200000) :
    Calls Try.prog 48 #[V, U] w fun e w' => ∃ v : Value × Value, e = .returned (.tuple #[v.1, v.2]) ∧ PairIn w.heap.size w'.heap.size w' v.1 v.2 (satP l m) (satR l m) ∧ Below w.heap.size w w' :=
  (specSatisfy V U l m w h g hf hm).mono fun e w' ⟨r, q, h1, h2, h3, h4, h5⟩ => ⟨(kLPi.val r, kLRq.val q), h1, ⟨r, q, rfl, rfl, h3, h4, h2⟩, h5⟩
end Go.Proofs.Ytjphnlkdbhcblaa.Row
/- slices.Grow and slices.Concat on seen nonces. No conditions but that lengths fit. -/
namespace Go.Proofs.Ytjphnlkdbhcblaa.Row
open Go.ChangeShapes Go.WideShapes Go.ChangeAt Go.RowKit Go.Instr
set_option linter.unusedVariables false
set_option maxRecDepth 100000
def GivesSn (w : World) (L : List Snm) (e : Ending) (w' : World) : Prop := ∃ v, e = .returned v ∧ OwnK 38 kSn.cells 2 w.heap.size w' v L ∧ Below w.heap.size w w'
set_option maxHeartbeats 1000000 in
theorem growNilSn (n : Nat) (w : World) (hn : n ≤ 5000000) :
    Calls Try.prog 114 #[.slice none 0 0, .int .i64 n] w (GivesSn w []) := by
  by_cases h0 : 0 < n
  · obtain ⟨i0, hi, hz0, hz1, hz2⟩ := info_parts kindSn.elem
    have hrz : ∀ ty, (Builtin.append_ #[24, 3] ty #[.slice none 0 0, .int .i64 (n : Int)]).run Try.prog w =
        .ok (.slice (some ⟨w.heap.size, 0, none⟩) (0 + n) (grownCap w (0 + n) 0 38)) (w.drew.alloc (.cells (([] : List Value).toArray ++ Builtin.zeroCells (Value.agg #[.slice none 0 0, .int .i64 0]).cells n ++ Builtin.zeroCells (Value.agg #[.slice none 0 0, .int .i64 0]).cells (grownCap w (0 + n) 0 38 - (0 + n))) 38)) := fun ty => by
      have hfit := growslice_fits (need := 0 + n) (old := 0) (bytes := i0.bytes) (by omega) (by rw [hz2]; omega)
      exact Lib.run_append_grow_zeros w 24 3 ty 38 i0 (.agg #[.slice none 0 0, .int .i64 0]) .i64 .i64 Try.underlying24 Try.underlying3 hi hz0 none 0 0 [] (by rw [hz1]; exact run_firstCells_none w.drew 2 0 0 0) n h0 (by rw [hz1]; decide) (by omega) (by omega) (by rw [hz2]; omega) hfit
    have hGn : 0 + n ≤ grownCap w (0 + n) 0 38 := grownCap_ge w _ _ _
    have hG63 := grownCap_le_maxLen w (0 + n) 0 38 (by unfold maxLen; omega)
    obtain ⟨G, hG⟩ : ∃ G, G = grownCap w (0 + n) 0 38 := ⟨_, rfl⟩
    rw [← hG] at hrz hGn hG63
    have hown : OwnK 38 kSn.cells 2 w.heap.size ((w.alloc (.cells (Builtin.zeroCells #[.slice none 0 0, .int .i64 0] n ++ Builtin.zeroCells #[.slice none 0 0, .int .i64 0] (G - n)) 38)).drew) (.slice (some ⟨w.heap.size, 0, none⟩) 0 G) [] := by
      refine ⟨rfl, .inr ⟨w.heap.size, G, _, rfl, Nat.le_refl _, heap_alloc_new w _, Nat.zero_le _, hG63, ?_, by simp [flat]⟩⟩
      simp only [Array.size_append, size_zeroCells]
      simp; omega
    have HOWN := Lib.hid hown; have HR := Lib.hid hrz
    unfold maxLen at hG63
    clear hi hz0 hz1 hz2 hG hown hrz
    go_enter Try.func114, Try.ntmps114
    go_wp2_with (at_builtin; refine Lib.wpList_append_run _ rfl _ _ _ _ rfl _ _ rfl rfl _ _ (HR.out _) ?_)
    all_goals (go_ret; exact ⟨.slice (some ⟨w.heap.size, 0, none⟩) 0 G, rfl, HOWN.out, ((Below.refl _ _).alloc (Nat.le_refl _) _).drew⟩)
  · obtain rfl : n = 0 := by omega
    go_enter Try.func114, Try.ntmps114
    go_wp2_with fail
    go_ret
    exact ⟨_, rfl, OwnK.nil _ _ _ _ _, Below.refl _ _⟩
def catSn (ls : Nat → List Snm) : Nat → List Snm
  | 0 => []
  | k + 1 => catSn ls k ++ ls k
theorem catSn_mono (ls : Nat → List Snm) {k n : Nat} (h : k ≤ n) : (catSn ls k).length ≤ (catSn ls n).length := by
  induction n with
  | zero => obtain rfl : k = 0 := by omega
            exact Nat.le_refl _
  | succ n ih =>
    by_cases e : k = n + 1
    · subst e; exact Nat.le_refl _
    · have := ih (by omega)
      simp only [catSn, List.length_append]; omega
set_option maxHeartbeats 2000000 in
theorem concatSn (b : Nat) (vs : Nat → Value) (ls : Nat → List Snm) (n : Nat) (w : World) (hn : n ≤ 1000) (hc : ∀ j, j < n → w.cell? ⟨b, j, none⟩ = some (vs j)) (hh : ∀ j, j < n → HoldsK kSn.cells 2 w (vs j) (ls j)) (hlen : (catSn ls n).length ≤ 4000001) :
    Calls Try.prog 64 #[.slice (some ⟨b, 0, none⟩) n n] w (GivesSn w (catSn ls n)) := by
  have HC := Lib.hid hc; have HH := Lib.hid hh
  clear hc hh
  go_enter Try.func64, Try.ntmps64
  go_wp2_with fail
  go_loop [3, 11] (fun sv iv => ∃ k : Nat, k ≤ n ∧ iv = .int .i64 k ∧ sv = .int .i64 ((catSn ls k).length : Nat)) (fun _ iv => n - (intOf iv).toNat)
  case atStart => exact ⟨0, Nat.zero_le _, rfl, rfl⟩
  case round =>
    obtain ⟨k, hk, rfl, rfl⟩ := hrel
    by_cases hlt : k < n
    · have hcell := HC.out k hlt
      obtain ⟨x, cap, hv, hcap, -⟩ := (HH.out k hlt).shape
      rw [hv] at hcell
      have hm := catSn_mono ls (k := k + 1) (n := n) (by omega)
      have HS := Lib.hid (show (catSn ls (k + 1)).length = (catSn ls k).length + (ls k).length by simp [catSn])
      have hm2 : (catSn ls k).length + (ls k).length ≤ 4000001 := by rw [← HS.out]; omega
      obtain ⟨c, hcc⟩ : ∃ c, c = (catSn ls k).length := ⟨_, rfl⟩
      obtain ⟨d, hdd⟩ : ∃ d, d = (ls k).length := ⟨_, rfl⟩
      rw [← hcc, ← hdd] at HS hm2
      rw [← hcc]
      rw [← hdd] at hcell hcap
      clear hv hm hcc hdd
      go_wp2_with fail
      go_round
      case rel => exact ⟨k + 1, by omega, by go_num, by rw [HS.out]; go_num⟩
      case measure => simp [intOf]; omega
    · obtain rfl : k = n := by omega
      clear hlt
      have HG := Lib.hid (growNilSn (catSn ls k).length w (by omega))
      obtain ⟨c, hcc⟩ : ∃ c, c = (catSn ls k).length := ⟨_, rfl⟩
      have HL := Lib.hid hlen
      rw [← hcc] at HG ⊢
      clear hcc hlen
      go_wp2_with fail
      refine HG.out.mono ?_
      rintro e w1 ⟨v1, rfl, ho, hb⟩
      have HO := Lib.hid ho; have HB := Lib.hid hb
      clear ho hb
      go_wp2_with fail
      go_loopw [6, 27] (fun rv iv wr => ∃ j : Nat, j ≤ k ∧ iv = .int .i64 j ∧ Hid (OwnK 38 kSn.cells 2 w.heap.size wr rv (catSn ls j)) ∧ Hid (Below w.heap.size w wr)) (fun _ iv _ => k - (intOf iv).toNat)
      case atStart => exact ⟨0, Nat.zero_le _, rfl, HO, HB⟩
      case round =>
        obtain ⟨j, hj, rfl, hr, hbr⟩ := hrel
        by_cases hlt : j < k
        · have hcell := hbr.out.cell (cell_lt (HC.out j hlt))
          rw [HC.out j hlt] at hcell
          have HHJ := (HH.out j hlt).on hbr.out
          have hmono := catSn_mono ls (k := j + 1) (n := k) (by omega)
          have hsum : (catSn ls j).length + (ls j).length ≤ 4000001 := by
            have := HL.out
            simp only [catSn, List.length_append] at hmono; omega
          obtain ⟨x, cap, hv, hcap, hh⟩ := HHJ.shape
          rw [hv] at hcell
          have HHH := Lib.hid hh
          clear hv hmono HHJ hh
          go_wp2_with (at_builtin; refine wpList_appK kindSn (B := w.heap.size) (l := catSn ls j) (m := ls j) rfl _ _ rfl Try.underlying24 rfl rfl hr.out HHH.out (by omega) (by unfold maxLen; omega) hbr.out.size ?_)
          intro v2 w2 ho hg
          have HO2 := Lib.hid ho; have HB2 := Lib.hid (hbr.out.grown hg hbr.out.size (fun g hh => (hr.out.lt g hh).1))
          clear ho hg
          go_wp2_with fail
          go_roundw
          case rel => exact ⟨j + 1, by omega, by go_num, HO2, HB2⟩
          case measure => simp [intOf]; omega
        · obtain rfl : j = k := by omega
          clear hlt
          go_wp2_with fail
          go_ret
          exact ⟨_, rfl, hr.out, hbr.out⟩
end Go.Proofs.Ytjphnlkdbhcblaa.Row
/- AddSeenNonce, model and program. No conditions but that lengths fit. -/
namespace Go.Proofs.Ytjphnlkdbhcblaa.Row
open Go.ChangeShapes Go.WideShapes Go.ChangeAt Go.RowKit Go.Instr
set_option linter.unusedVariables false
set_option maxRecDepth 100000
theorem fit_snoc {l : List Snt} {n : List ByteArray} {k : Int} (h : bulkK wtSn l + (1 + bulk n) ≤ 1100000) : FitS (l ++ [(n, k)]) := by
  show bulkK wtSn (l ++ [(n, k)]) ≤ 1100000
  rw [bulkK_sumP, List.map_append, List.sum_append, List.length_append]
  rw [bulkK_sumP] at h
  have : (List.map wtSn [((n, k) : Snt)]).sum = bulk n := by simp [wtSn]
  rw [this]
  simp only [List.length_singleton]
  omega
theorem kLSn_of {w : World} {x : Option Addr} {n c : Nat} {L : List Snm} (h : HoldsK kSn.cells 2 w (.slice x n c) L) (hel : ∀ y ∈ L, kSn.holds w y) : kLSn.At w (.slice x n c) (L.map kSn.strip) := ⟨⟨x, n, c, L⟩, rfl, rfl, h, hel⟩
set_option maxRecDepth 100000 in
set_option maxHeartbeats 4000000 in
theorem rsn {Q : Exit → Act → World → Prop} {v1 v3 v5 v6 v7 v8 v9 v10 v11 v12 v13 v14 v15 v16 v17 v18 v19 v20 v21 : Value} {w : World} {p n0 c0 : Nat} {V : Value} {x0 : Option Addr} {l : List Snt} {nm : List ByteArray} {kk : Int} (H_l : Hid (kLSn.At w V l)) (HFL : Hid (FitS l)) (H_n : Hid (kN.At w (.agg #[.slice x0 n0 c0]) nm)) (HNB : Hid (bulk nm ≤ 1200000)) (K0 : Hid (w.cell? ⟨p, 0, none⟩ = some (.slice x0 n0 c0)))
  (hQ : ∀ (u8 u9 u10 u11 u12 u13 u14 u15 : Value) (x4 : Option Addr) (n4 c4 : Nat) (L4 : List Snm)  (wx : World), Hid (L4.map kSn.strip = l ++ [(nm, kk)]) → Hid (kLSn.Own w.heap.size wx.heap.size wx ⟨x4, n4, c4, L4⟩) → Below w.heap.size w wx → Q .normal ⟨#[V, v1, .int .i64 kk, v3, .pointer (some ⟨p, 0, none⟩), v5, v6, .slice x4 n4 c4, u8, u9, u10, u11, u12, u13, u14, u15, v16, v17, v18, v19, v20, v21], []⟩ wx) :
  (Code.region 1 #[⟨some 8, .move (.tmp 0), 24, "l13_pend.go:148", #[], none⟩,
   ⟨some 9, .call ⟨.value (.func 66), #[.tmp 8], #[24]⟩, 24, "l13_pend.go:148", #[⟨0, .data⟩], none⟩,
   ⟨some 10, .load 27 (.tmp 4), 27, "l13_pend.go:148", #[], none⟩,
   ⟨some 11, .call ⟨.value (.func 67), #[.tmp 10], #[27]⟩, 27, "l13_pend.go:148", #[⟨2, .data⟩, ⟨1, .chain⟩], none⟩,
   ⟨some 12, .move (.tmp 2), 3, "l13_pend.go:148", #[], none⟩,
   ⟨some 13, .build 38 #[(0, .tmp 11), (1, .tmp 12)], 38, "l13_pend.go:148", #[⟨3, .data⟩, ⟨4, .data⟩], none⟩,
   ⟨some 14, .buildSlice 24 1 #[(0, .tmp 13)], 24, "l13_pend.go:148", #[⟨5, .data⟩], none⟩,
   ⟨some 15, .call ⟨.builtin .append, #[.tmp 9, .tmp 14], #[24, 24]⟩, 24, "l13_pend.go:148", #[⟨1, .data⟩, ⟨6, .data⟩, ⟨3, .chain⟩], none⟩,
   ⟨some 7, .assign (.tmp 15), 24, "l13_pend.go:148", #[⟨7, .data⟩, ⟨7, .chain⟩, ⟨0, .phase⟩, ⟨1, .phase⟩, ⟨2, .phase⟩, ⟨3, .phase⟩, ⟨4, .phase⟩, ⟨5, .phase⟩, ⟨6, .phase⟩, ⟨7, .phase⟩], none⟩] true).wp Try.prog Q ⟨#[V, v1, .int .i64 kk, v3, .pointer (some ⟨p, 0, none⟩), v5, v6, v7, v8, v9, v10, v11, v12, v13, v14, v15, v16, v17, v18, v19, v20, v21], []⟩ w := by
 have HQ := Lib.hid hQ; clear hQ
 have hdr : Below w.heap.size w w.drew := (Below.refl _ _).drew
 have BB := Lib.hid hdr
 refine wp_region_noPanic ?_
 refine wp_region_held_drew (S := (fun w' => w'.cell? ⟨p, 0, none⟩ = some (.slice x0 n0 c0))) (by kernel_rfl) ?_ (fun hHeld => ?_)
 ·
  exact kc K0.out BB.out
 clear hdr
 generalize w.drew = wd at *
 refine wpAnyH_take (i := 0) (oi := ⟨some 8, .move (.tmp 0), 24, "l13_pend.go:148", #[], none⟩) (v := ?_) rfl (by kernel_rfl) (by kernel_rfl) (by kernel_rfl) (fun _ _ _ h => h) (Or.inl ⟨by rfl, ?_⟩) (by assumption) ?_
 rotate_left
 ·
  intro w' hSw; (try dsimp only at hSw); first | (go_simp; done) | (go_simp; with_reducible rfl)
 (try simp only [Act.put, Row.pB0, Row.pB1, Row.pB2])
 refine wpAnyH_take (i := 2) (oi := ⟨some 10, .load 27 (.tmp 4), 27, "l13_pend.go:148", #[], none⟩) (v := ?_) rfl (by kernel_rfl) (by kernel_rfl) (by kernel_rfl) (fun _ _ _ h => h) (Or.inl ⟨by rfl, ?_⟩) (by assumption) ?_
 rotate_left
 ·
  intro w' hSw; (try dsimp only at hSw); first | (go_simp; done) | (go_simp; with_reducible rfl)
 (try simp only [Act.put, Row.pB0, Row.pB1, Row.pB2])
 refine wpAnyH_take (i := 4) (oi := ⟨some 12, .move (.tmp 2), 3, "l13_pend.go:148", #[], none⟩) (v := ?_) rfl (by kernel_rfl) (by kernel_rfl) (by kernel_rfl) (fun _ _ _ h => h) (Or.inl ⟨by rfl, ?_⟩) (by assumption) ?_
 rotate_left
 ·
  intro w' hSw; (try dsimp only at hSw); first | (go_simp; done) | (go_simp; with_reducible rfl)
 (try simp only [Act.put, Row.pB0, Row.pB1, Row.pB2])
 refine wpAnyH_ready (rs := [1]) (by kernel_rfl) (by simp) ?_
 refine AllReadyH.cons (o := ⟨some 9, .call ⟨.value (.func 66), #[.tmp 8], #[24]⟩, 24, "l13_pend.go:148", #[⟨0, .data⟩], none⟩) rfl (fun K hK => ?_) AllReadyH.nil
 go_simp
 refine (sCopyS _ l _ (H_l.out.on BB.out) HFL.out).mono ?_
 rintro e wn1 ⟨U2, rfl, hi, hb⟩
 obtain ⟨⟨xu, nu, cu, Lu⟩, rfl, hsL, hi⟩ := hi.split
 rw [show kLSn.val (⟨xu, nu, cu, Lu⟩ : Rw Snm) = .slice xu nu cu from rfl]
 (first | have HDJ := Lib.hid (show ∀ g ∈ kN.blocks m1, g ∉ kLSn.blocks ⟨xu, nu, cu, Lu⟩ from fun g h1 h2 => by have h5 := (hi.lt g h2).1; have h6 := (ON.out.lt g h1).2.2; omega) | skip)
 have OL := Lib.hid (hi.mono BB.out.size (Nat.le_refl _)); have HSL := Lib.hid (show Lu.map kSn.strip = l from hsL)
 have HLL := Lib.hid (show Lu.length ≤ 1100000 from by have h5 := HFL.out.len; rw [← HSL.out, List.length_map] at h5; exact h5)
 clear hi hsL
 replace BB := Lib.hid (BB.out.trans (hb.mono BB.out.size))
 clear hb
 (try go_wp2_with fail)
 clear hHeld
 refine hK.out _ _ ?_ (fun hHeld => ?_)
 ·
  (try dsimp only); exact kc K0.out BB.out
 clear hK K
 (try simp only [Act.put, Row.pB0, Row.pB1, Row.pB2])
 refine wpAnyH_ready (rs := [3]) (by kernel_rfl) (by simp) ?_
 refine AllReadyH.cons (o := ⟨some 11, .call ⟨.value (.func 67), #[.tmp 10], #[27]⟩, 27, "l13_pend.go:148", #[⟨2, .data⟩, ⟨1, .chain⟩], none⟩) rfl (fun K hK => ?_) AllReadyH.nil
 go_simp
 refine (sCpyN (H_n.out.on BB.out) (Nat.le_trans HNB.out (by decide))).mono ?_
 rintro e wn2 ⟨U1, rfl, hi, hb⟩
 obtain ⟨m1, rfl, hs1, hi⟩ := hi.split
 obtain ⟨ya, ma, da, e1, -⟩ := kN_shapeA (Kd.at_of (k := kN) hi.holds)
 have hd1 : kN.cells m1 = [.slice ya ma da] := by injection e1 with e; exact congrArg Array.toList e
 rw [e1]
 (first | have HDJ := Lib.hid (show ∀ g ∈ kN.blocks m1, g ∉ kLSn.blocks ⟨xu, nu, cu, Lu⟩ from fun g h1 h2 => by have h5 := (hi.lt g h1).1; have h6 := (OL.out.lt g h2).2.2; omega) | skip)
 have ON := Lib.hid (hi.mono BB.out.size (Nat.le_refl _)); have HS1 := Lib.hid hs1; have HD1 := Lib.hid hd1
 clear hi hs1 hd1 e1
 replace OL := Lib.hid (OL.out.on hb)
 replace BB := Lib.hid (BB.out.trans (hb.mono BB.out.size))
 clear hb
 (try go_wp2_with fail)
 clear hHeld
 refine hK.out _ _ ?_ (fun hHeld => ?_)
 ·
  (try dsimp only); exact kc K0.out BB.out
 clear hK K
 (try simp only [Act.put, Row.pB0, Row.pB1, Row.pB2])
 refine wpAnyH_take (i := 5) (oi := ⟨some 13, .build 38 #[(0, .tmp 11), (1, .tmp 12)], 38, "l13_pend.go:148", #[⟨3, .data⟩, ⟨4, .data⟩], none⟩) (v := ?_) rfl (by kernel_rfl) (by kernel_rfl) (by kernel_rfl) (fun _ _ _ h => h) (Or.inl ⟨by rfl, ?_⟩) (by assumption) ?_
 rotate_left
 ·
  intro w' hSw; (try dsimp only at hSw); first | (go_simp; done) | (go_simp; with_reducible rfl)
 (try simp only [Act.put, Row.pB0, Row.pB1, Row.pB2])
 refine wpAnyH_ready (rs := [6]) (by kernel_rfl) (by simp) ?_
 refine AllReadyH.cons (o := ⟨some 14, .buildSlice 24 1 #[(0, .tmp 13)], 24, "l13_pend.go:148", #[⟨5, .data⟩], none⟩) rfl (fun K hK => ?_) AllReadyH.nil
 go_simp
 have hb : Below wn2.heap.size wn2 (wn2.alloc (.cells #[.slice ya ma da, .int .i64 (kk)] 38)) := (Below.refl _ _).alloc (Nat.le_refl _) _
 have HSO := Lib.hid (one_k (k := kSn) szSn_cells (e := 38) (W := wn2) (m := ((m1, kk) : Snm)) (cs := [.slice ya ma da, .int .i64 (kk)]) (by show kN.cells m1 ++ kInt.cells (kk) = _; rw [HD1.out]; rfl))
 have HMM := Lib.hid ((sn_join (u := kk) ON.out wn2.heap.size ON.out.top).on hb)
 replace OL := Lib.hid (OL.out.on hb)
 replace ON := Lib.hid (ON.out.on hb)
 replace BB := Lib.hid (BB.out.trans (hb.mono BB.out.size))
 clear hb
 generalize wn2.alloc (.cells #[.slice ya ma da, .int .i64 (kk)] 38) = wn3 at *
 clear hHeld
 refine hK.out _ _ ?_ (fun hHeld => ?_)
 ·
  (try dsimp only); exact kc K0.out BB.out
 clear hK K
 (try simp only [Act.put, Row.pB0, Row.pB1, Row.pB2])
 refine wpAnyH_ready (rs := [7]) (by kernel_rfl) (by simp) ?_
 refine AllReadyH.cons (o := ⟨some 15, .call ⟨.builtin .append, #[.tmp 9, .tmp 14], #[24, 24]⟩, 24, "l13_pend.go:148", #[⟨1, .data⟩, ⟨6, .data⟩, ⟨3, .chain⟩], none⟩) rfl (fun K hK => ?_) AllReadyH.nil
 refine step_appK kindSn (B := w.heap.size) (v := .slice xu nu cu) (l := Lu) (m := [((m1, kk) : Snm)]) rfl _ _ (by rfl) Try.underlying24 (by rfl) (by rfl) ?_ ?_ ?_ ?_ ?_ ?_
 ·
  exact OL.out.1.1
 ·
  exact HSO.out
 ·
  have h5 := HLL.out; simp; omega
 ·
  have h5 := HLL.out; unfold maxLen; simp; omega
 ·
  exact BB.out.size
 intro v4 wn4 ho4 hg4
 obtain ⟨x4, n4, c4, rfl, -, -, ho4⟩ := ho4.shapeN
 have HO4 := Lib.hid (Kd.push noRow_kSn (r := ⟨xu, nu, cu, Lu⟩) OL.out HMM.out (fun g h1 h2 => HDJ.out g (by rcases List.mem_append.1 (show g ∈ kN.blocks m1 ++ kInt.blocks kk from h1) with h | h; exact h; cases h) h2) ho4 hg4)
 replace BB := Lib.hid (BB.out.grown hg4 BB.out.size (fun g e => (OL.out.1.1.lt g e).1))
 clear ho4 hg4
 clear hHeld
 refine hK.out _ _ ?_ (fun hHeld => ?_)
 ·
  (try dsimp only); exact kc K0.out BB.out
 clear hK K
 (try simp only [Act.put, Row.pB0, Row.pB1, Row.pB2])
 refine wpAnyH_take (i := 8) (oi := ⟨some 7, .assign (.tmp 15), 24, "l13_pend.go:148", #[⟨7, .data⟩, ⟨7, .chain⟩, ⟨0, .phase⟩, ⟨1, .phase⟩, ⟨2, .phase⟩, ⟨3, .phase⟩, ⟨4, .phase⟩, ⟨5, .phase⟩, ⟨6, .phase⟩, ⟨7, .phase⟩], none⟩) (v := ?_) rfl (by kernel_rfl) (by kernel_rfl) (by kernel_rfl) (fun _ _ _ h => h) (Or.inl ⟨by rfl, ?_⟩) (by assumption) ?_
 rotate_left
 ·
  intro w' hSw; (try dsimp only at hSw); first | (go_simp; done) | (go_simp; with_reducible rfl)
 (try simp only [Act.put, Row.pB0, Row.pB1, Row.pB2])
 refine wpAnyH_done (by kernel_rfl) ?_ _
 exact NoPanic.normal (HQ.out _ _ _ _ _ _ _ _ x4 n4 c4 (Lu ++ [((m1, kk) : Snm)]) _ (Lib.hid (by rw [List.map_append, HSL.out]; show _ ++ [(kN.strip m1, kk)] = _; rw [HS1.out])) HO4 BB.out)
set_option maxHeartbeats 8000000 in
theorem specAddSeenNonce (V U : Value) (l : List Snt) (m : List ByteArray) (k : Int) (w : World) (h : kLSn.At w V l) (g : kN.At w U m) (hf : bulkK wtSn l + (1 + bulk m) ≤ 1100000) :
    Calls Try.prog 18 #[V, U, .int .i64 k] w fun e w' => ∃ U, e = .returned U ∧ kLSn.At w' U (seenS l m k) ∧ Below w.heap.size w w' := by
  obtain ⟨x, n, c, rfl, h⟩ := kLSn_shapeA h
  obtain ⟨xn, nn, cn, rfl, g⟩ := kN_shapeA g
  have hal := (Below.refl w.heap.size w).alloc (Nat.le_refl _) (.cells #[.slice xn nn cn] 27)
  have HX := Lib.hid (Ret.Blk.new w #[.slice xn nn cn] 27)
  have HH := Lib.hid (h.on hal); have HG := Lib.hid (g.on hal); have HB := Lib.hid hal
  have HF := Lib.hid (show FitS l from Nat.le_trans (Nat.le_add_right _ _) hf); have HM := Lib.hid (show bulk m ≤ 1200000 by omega)
  have HS0 := Lib.hid (show w.heap.size + 1 = (w.alloc (.cells #[.slice xn nn cn] 27)).heap.size by simp)
  have HFL := Lib.hid (show l.length ≤ 1100000 from Nat.le_trans (bulkK_len wtSn l) (by omega))
  clear h g hal hf
  go_enter Try.func18, Try.ntmps18
  go_wp2_with fail
  refine rsn (l := l) (nm := m) HH HF HG HM (Lib.hid (HX.out.cell 0)) ?_
  intro u8 u9 u10 u11 u12 u13 u14 u15 x4 n4 c4 L4 wx hs4 ho4 hbx
  have HB2 := Lib.hid (HB.out.trans (hbx.mono HB.out.size))
  have hl4 : L4.length = l.length + 1 := by have h5 := congrArg List.length hs4.out; rw [List.length_map, List.length_append] at h5; exact h5
  have hn4 : n4 = L4.length := ho4.out.1.1.holds.lenEq
  have hc4 : n4 ≤ c4 := by obtain ⟨x', n', cap', hv, hn', hc', -⟩ := ho4.out.1.1.holds.shapeN; cases hv; exact hc'
  have hz := HS0.out; have hfl := HFL.out
  rw [← hz] at ho4
  have hlen2 : ((l ++ [(m, k)]).length : Nat) = n4 := by rw [List.length_append, hn4, hl4]; rfl
  clear hbx HX HG HH hz
  by_cases h24 : 24 < n4
  · have t0 : decide ((24 : Int) < (n4 : Int)) = true := decide_eq_true (by omega)
    obtain ⟨gR, rfl, -, -, hg1, hg2⟩ := row_form ho4.out (j := 0) (by omega)
    have hd := HoldsK.drop szSn_cells (show HoldsK kSn.cells 2 wx (.slice (some ⟨gR, 0, none⟩) n4 c4) L4 from ho4.out.1.1.holds) (i := 1) (by omega)
    have HAT := Lib.hid (kLSn_of hd (fun y hy => Kd.Own.elOf ho4.out (List.mem_of_mem_drop hy)))
    have HR := Lib.hid (show (L4.drop 1).map kSn.strip = seenS l m k by unfold seenS; rw [if_pos (by rw [hlen2]; exact h24), List.map_drop, hs4.out])
    have hc41 : c4 ≠ 1 := by omega
    have hc42 : ¬ c4 = 1 := by omega
    have h1n : 1 ≤ n4 := by omega
    have h1c : 1 ≤ c4 := by omega
    clear hl4 hn4 hlen2 hd hg1 hg2
    go_wp2_with fail
    go_ret
    exact ⟨_, rfl, HR.out ▸ HAT.out, HB2.out⟩
  · have t0 : decide ((24 : Int) < (n4 : Int)) = false := decide_eq_false (by omega)
    have HR := Lib.hid (show L4.map kSn.strip = seenS l m k by unfold seenS; rw [if_neg (by rw [hlen2]; exact h24), hs4.out])
    clear hl4 hn4 hc4 hlen2
    go_wp2
    go_ret
    exact ⟨_, rfl, HR.out ▸ (show kLSn.At _ (.slice x4 n4 c4) (L4.map kSn.strip) from ho4.out.in.at), HB2.out⟩
end Go.Proofs.Ytjphnlkdbhcblaa.Row
/- AddSeenNonce, the program. No conditions but that lengths fit. -/
namespace Go.Proofs.Ytjphnlkdbhcblaa.Row
open Go.ChangeShapes Go.WideShapes Go.ChangeAt Go.RowKit Go.Instr
set_option linter.unusedVariables false
set_option maxRecDepth 100000
set_option maxHeartbeats 8000000 in
theorem implAddSeenNonce (V U : Value) (l : List Snt) (m : List ByteArray) (k : Int) (w : World) (h : kLSn.At w V l) (g : kN.At w U m) (hf : bulkK wtSn l + (1 + bulk m) ≤ 1100000) :
    Calls Try.prog 16 #[V, U, .int .i64 k] w fun e w' => ∃ U, e = .returned U ∧ kLSn.In w.heap.size w'.heap.size w' U (seenS l m k) ∧ Below w.heap.size w w' := by
  obtain ⟨x, n, c, L, rfl, hn, ht, hh, hel⟩ := kLSn_at h
  obtain ⟨xn, nn, cn, e9, g⟩ := kN_shapeA g
  subst e9
  obtain ⟨m1, e1, hs1, hm1⟩ := g
  have hd1 : kN.cells m1 = [.slice xn nn cn] := by injection e1 with e; exact (congrArg Array.toList e).symm
  have h0 := (Below.refl w.heap.size w).alloc (Nat.le_refl _) (.cells #[.slice xn nn cn] 27)
  have h1 := h0.alloc (by simp) (.cells #[.slice xn nn cn, .int .i64 k] 38)
  have h2 := h1.alloc (by simp; omega) (.cells #[.slice x n c, .slice (some ⟨w.heap.size + 1, 0, none⟩) 1 1] 24)
  have hx1 := one_kg (k := kSn) szSn_cells (e := 38) (W := (w.alloc (.cells #[.slice xn nn cn] 27))) (m := ((m1, k) : Snm)) (cs := [.slice xn nn cn, .int .i64 k]) (g := w.heap.size + 1) (by show kN.cells m1 ++ kInt.cells k = _; rw [hd1]; rfl) (by simp)
  have hb2 := (Below.refl ((w.alloc (.cells #[.slice xn nn cn] 27)).alloc (.cells #[.slice xn nn cn, .int .i64 k] 38)).heap.size ((w.alloc (.cells #[.slice xn nn cn] 27)).alloc (.cells #[.slice xn nn cn, .int .i64 k] 38))).alloc (Nat.le_refl _) (.cells #[.slice x n c, .slice (some ⟨w.heap.size + 1, 0, none⟩) 1 1] 24)
  have HX := Lib.hid ((Ret.Blk.new w #[.slice xn nn cn] 27))
  have HY := Lib.hid (Ret.Blk.new' (w := ((w.alloc (.cells #[.slice xn nn cn] 27)).alloc (.cells #[.slice xn nn cn, .int .i64 k] 38))) (n := w.heap.size + 2) #[.slice x n c, .slice (some ⟨w.heap.size + 1, 0, none⟩) 1 1] 24 (by simp))
  have hlen : L.length ≤ 1100000 := by rw [← show l.length = L.length by rw [← ht, List.length_map]]; exact Nat.le_trans (bulkK_len wtSn l) (by omega)
  have HC := Lib.hid (concatSn (w.heap.size + 2) (fun j => if j = 0 then .slice x n c else .slice (some ⟨w.heap.size + 1, 0, none⟩) 1 1) (fun j => if j = 0 then L else [((m1, k) : Snm)]) 2 (((w.alloc (.cells #[.slice xn nn cn] 27)).alloc (.cells #[.slice xn nn cn, .int .i64 k] 38)).alloc (.cells #[.slice x n c, .slice (some ⟨w.heap.size + 1, 0, none⟩) 1 1] 24)) (by decide)
    (fun j hj => by
      rcases (show j = 0 ∨ j = 1 by omega) with rfl | rfl
      · exact HY.out.cell 0
      · exact HY.out.cell 1)
    (fun j hj => by
      rcases (show j = 0 ∨ j = 1 by omega) with rfl | rfl
      · exact hh.on h2
      · exact hx1.on hb2)
    (by simp [catSn]; omega))
  have HEL := Lib.hid (fun y hy => kSn.holds_on (hel y hy) h2); have HM1 := Lib.hid (kN.holds_on hm1 h2); have HB := Lib.hid h2; have HT := Lib.hid ht; have HS1 := Lib.hid hs1
  have HFF := Lib.hid (fit_snoc (k := k) hf)
  have HSZ := Lib.hid (show (((w.alloc (.cells #[.slice xn nn cn] 27)).alloc (.cells #[.slice xn nn cn, .int .i64 k] 38)).alloc (.cells #[.slice x n c, .slice (some ⟨w.heap.size + 1, 0, none⟩) 1 1] 24)).heap.size = w.heap.size + 3 by simp)
  have HLN := Lib.hid (show l.length = L.length by rw [← ht, List.length_map])
  clear h g h0 h1 h2 hx1 hb2 hn ht hh hel e1 hs1 hm1 hd1 hf
  go_enter Try.func16, Try.ntmps16
  have q0 := HX.out.cell 0
  go_wp2_with fail
  refine HC.out.mono ?_
  rintro e w1 ⟨v1, rfl, ho1, hb1⟩
  obtain ⟨x1, n1, c1, rfl, -, -, ho1⟩ := ho1.shapeN
  have ho1' : OwnK 38 kSn.cells 2 (((w.alloc (.cells #[.slice xn nn cn] 27)).alloc (.cells #[.slice xn nn cn, .int .i64 k] 38)).alloc (.cells #[.slice x n c, .slice (some ⟨w.heap.size + 1, 0, none⟩) 1 1] 24)).heap.size w1 (.slice x1 n1 c1) (L ++ [((m1, k) : Snm)]) := by simpa [catSn] using ho1
  have HAT := Lib.hid (show kLSn.At w1 (.slice x1 n1 c1) (l ++ [(m, k)]) from by
    have h5 := kLSn_of ho1'.holds (fun y hy => by
      rcases List.mem_append.1 hy with h6 | h6
      · exact kSn.holds_on (HEL.out y h6) hb1
      · rw [List.mem_singleton.1 h6]; exact ⟨kN.holds_on HM1.out hb1, trivial⟩)
    rw [List.map_append, HT.out] at h5
    rw [show (l ++ [(m, k)]) = l ++ List.map kSn.strip [((m1, k) : Snm)] by rw [← HS1.out]; rfl]
    exact h5)
  have HB1 := Lib.hid (HB.out.trans (hb1.mono HB.out.size)); have HS2 := Lib.hid hb1.size
  clear ho1 ho1' hb1 HC HX HY q0
  go_wp2_with fail
  refine (iCopyS _ _ _ HAT.out HFF.out).mono ?_
  rintro e w2 ⟨U2, rfl, hi, hb2⟩
  obtain ⟨⟨xu, nu, cu, Lu⟩, rfl, hs, hi⟩ := hi.split
  rw [show kLSn.val (⟨xu, nu, cu, Lu⟩ : Rw Snm) = .slice xu nu cu from rfl]
  have HO := Lib.hid (hi.mono (B' := w.heap.size) (by have := HS2.out; have := HSZ.out; omega) (Nat.le_refl _)); have HS := Lib.hid (show Lu.map kSn.strip = l ++ [(m, k)] from hs)
  have HB2 := Lib.hid (HB1.out.trans (hb2.mono HB1.out.size))
  have hnu : nu = Lu.length := HO.out.1.1.holds.lenEq
  have hlu : Lu.length = l.length + 1 := by have h5 := congrArg List.length HS.out; rw [List.length_map, List.length_append] at h5; exact h5
  have hlen2 : ((l ++ [(m, k)]).length : Nat) = nu := by rw [List.length_append, hnu, hlu]; rfl
  have hn9 : Lu.length ≤ 1100001 := by have := HLN.out; omega
  clear hi hs hb2
  by_cases h24 : 24 < nu
  · have t0 : decide ((24 : Int) < (nu : Int)) = true := decide_eq_true (by omega)
    have hl9 : Lu.length ≤ 1100000 := by have := HFF.out.len; rw [List.length_append] at this; simp only [List.length_singleton] at this; omega
    have HD := Lib.hid (show Calls Try.prog 65 #[.slice xu nu cu, .int .i64 0, .int .i64 1] w2 _ from delOneSn w.heap.size ⟨xu, nu, cu, Lu⟩ 0 w2 HO.out (by show 0 < Lu.length; omega) hl9)
    have HR := Lib.hid (show (Lu.eraseIdx 0).map kSn.strip = seenS l m k by
      unfold seenS
      rw [if_pos (by rw [hlen2]; exact h24), ← HS.out, ← List.map_drop]
      congr 1
      cases Lu <;> rfl)
    have HNU := Lib.hid hnu
    clear hnu hlu hlen2 hn9 hl9
    go_wp2_with fail
    refine HD.out.mono ?_
    rintro e w3 ⟨r', rfl, ho3, he3, hg3, -⟩
    have HB3 := Lib.hid (HB2.out.grown hg3 HB2.out.size (fun g hg => (HO.out.1.1.lt g hg).1))
    have HO3 := Lib.hid ho3; have HE := Lib.hid he3
    clear ho3 he3 hg3 HD
    obtain ⟨x3, n3, c3, L3⟩ := r'
    go_wp2_with fail
    go_ret
    exact ⟨_, rfl, HR.out ▸ (show kLSn.In w.heap.size _ _ (.slice x3 n3 c3) ((Lu.eraseIdx 0).map kSn.strip) from (show Lu.eraseIdx 0 = L3 from HE.out.symm) ▸ HO3.out.in), HB3.out⟩
  · have t0 : decide ((24 : Int) < (nu : Int)) = false := decide_eq_false (by omega)
    have HR := Lib.hid (show Lu.map kSn.strip = seenS l m k by unfold seenS; rw [if_neg (by rw [hlen2]; exact h24), HS.out])
    clear hnu hlu hlen2 hn9
    go_wp2_with fail
    go_ret
    exact ⟨_, rfl, HR.out ▸ (show kLSn.In w.heap.size _ _ (.slice xu nu cu) (Lu.map kSn.strip) from HO.out.in), HB2.out⟩
end Go.Proofs.Ytjphnlkdbhcblaa.Row
/- A value that reads as something, in memory that nothing writes any more (a model's result that is no row of its own): at, on, wrote. For any kind. -/
namespace Go.Proofs.Ytjphnlkdbhcblaa.Row
open Go.ChangeShapes Go.WideShapes Go.ChangeAt Go.RowKit Go.Instr
set_option linter.unusedVariables false
section
variable {α M : Type} {k : Kd α M} {N B E : Nat} {w w' : World} {v : Value} {a : α}
def Kd.Far (k : Kd α M) (N : Nat) (w : World) (v : Value) (a : α) : Prop := ∃ w0, w0.heap.size = N ∧ k.At w0 v a ∧ Below N w0 w
theorem Kd.At.far (h : k.At w v a) : k.Far w.heap.size w v a := ⟨w, rfl, h, Below.refl _ _⟩
theorem Kd.Far.at (h : k.Far N w v a) : k.At w v a := by
  obtain ⟨w0, rfl, h, hb⟩ := h
  exact h.on hb
theorem Kd.Far.le (h : k.Far N w v a) : N ≤ w.heap.size := by
  obtain ⟨w0, rfl, -, hb⟩ := h
  exact hb.size
theorem Kd.Far.on (h : k.Far N w v a) (hb : Below w.heap.size w w') : k.Far N w' v a := by
  have hl := h.le
  obtain ⟨w0, e, h, h0⟩ := h
  exact ⟨w0, e, h, h0.trans (hb.mono hl)⟩
theorem Kd.Far.wrote (h : k.Far N w v a) (hw : Wrote B E w w') (hn : N ≤ B) : k.Far N w' v a := by
  have hl := h.le
  obtain ⟨w0, e, h, h0⟩ := h
  exact ⟨w0, e, h, hw.below h0 hl hn⟩
end
end Go.Proofs.Ytjphnlkdbhcblaa.Row
