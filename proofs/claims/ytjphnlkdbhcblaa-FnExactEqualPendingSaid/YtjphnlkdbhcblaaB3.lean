/- Contracts and mathematics, joined: PendW0, PendW1, PendS, PendW2, PendW, PendF, PendV, MarkK, ByK, MarkF, RequesterSM. No conditions but those that each states. -/
import Derived.WalkKit
import Derived.Deep.RegionHeld3
import Derived.Deep.RegionLaw
import Derived.Test.YtjphnlkdbhcblaaB2
import Derived.Test.YtjphnlkdbhcblaaB1
/- A region of the model's ValidPending. No conditions but that lengths fit. -/
namespace Go.Proofs.Ytjphnlkdbhcblaa.Row
open Go.ChangeShapes Go.WideShapes Go.ChangeAt Go.RowKit Go.Instr
set_option linter.unusedVariables false
set_option maxRecDepth 100000
set_option maxRecDepth 100000 in
set_option maxHeartbeats 4000000 in
theorem rvp0 {Q : Exit → Act → World → Prop} {v1 v2 v4 v5 v6 v7 v8 v9 v10 v11 v12 v13 v14 v15 v16 v17 v18 v19 v20 v21 v22 v23 v24 v25 v26 v27 v28 v29 v30 v31 v32 v33 v34 v35 v36 v37 v38 v39 v40 v41 v42 v43 v44 v45 v46 v47 v48 v49 v50 v51 v52 v53 v54 v55 v56 v57 v58 v59 : Value} {w : World} {b off n c k n0 c0 : Nat} {x0 : Option Addr}  {m : List ByteArray}    (hk : k < n) (hkc : k ≤ c) (hn : n ≤ 9000000) (HV : Hid (validN m = false)) (H_m : Hid (kN.At w (.agg #[.slice x0 n0 c0]) m)) (HMB : Hid (bulk m ≤ 1200000)) (K0 : Hid (w.cell? ⟨b, off + k * 3, none⟩ = some (.slice x0 n0 c0)))
  (hQ : ∀ (u10 u11 u12 u13 u14 u15 u16 u17 u18 u19 u20 u21 u22 u23 u24 u25 u26 u27 u28 u29 u30 u31 u32 u33 u34 u35 u36 u37 u38 u39 u40 u41 u42 u43 u44 u45 u46 u47 u48 u49 u50 u51 u52 u53 u54 u55 : Value)  (wx : World), Below w.heap.size w wx → Q .normal ⟨#[.slice (some ⟨b, off, none⟩) n c, v1, v2, .int .i64 k, v4, v5, v6, v7, v8, v9, u10, u11, u12, u13, u14, u15, u16, u17, u18, u19, u20, u21, u22, u23, u24, u25, u26, u27, u28, u29, u30, u31, u32, u33, u34, u35, u36, u37, u38, u39, u40, u41, u42, u43, u44, u45, u46, u47, u48, u49, u50, u51, u52, u53, u54, u55, .bool true, v57, v58, v59], []⟩ wx) :
  (Code.region 4 #[⟨some 10, .move (.tmp 0), 35, "l13_pend.go:25", #[], none⟩,
   ⟨some 11, .move (.tmp 3), 3, "l13_pend.go:25", #[], none⟩,
   ⟨some 12, .indexAddr 35 (.tmp 10) (.tmp 11), 0, "l13_pend.go:25", #[⟨0, .data⟩, ⟨1, .data⟩], none⟩,
   ⟨some 13, .fieldAddr 101 (.tmp 12) 0, 0, "l13_pend.go:25", #[⟨2, .data⟩], none⟩,
   ⟨some 14, .load 27 (.tmp 13), 27, "l13_pend.go:25", #[⟨3, .data⟩], none⟩,
   ⟨some 15, .call ⟨.value (.func 74), #[.tmp 14], #[27]⟩, 4, "l13_pend.go:25", #[⟨4, .data⟩], none⟩,
   ⟨some 16, .unOp UnOp.not 4 (.tmp 15), 4, "l13_pend.go:25", #[⟨5, .data⟩], none⟩,
   ⟨some 17, .move (.tmp 16), 4, "l13_pend.go:25", #[⟨6, .data⟩, ⟨5, .chain⟩], none⟩,
   ⟨some 18, .move (.tmp 0), 35, "l13_pend.go:25", #[⟨7, .guard⟩], some (7, false)⟩,
   ⟨some 19, .move (.tmp 3), 3, "l13_pend.go:25", #[⟨7, .guard⟩], some (7, false)⟩,
   ⟨some 20, .indexAddr 35 (.tmp 18) (.tmp 19), 0, "l13_pend.go:25", #[⟨8, .data⟩, ⟨9, .data⟩, ⟨7, .guard⟩], some (7, false)⟩,
   ⟨some 21, .fieldAddr 101 (.tmp 20) 0, 0, "l13_pend.go:25", #[⟨10, .data⟩, ⟨7, .guard⟩], some (7, false)⟩,
   ⟨some 22, .fieldAddr 27 (.tmp 21) 0, 0, "l13_pend.go:25", #[⟨11, .data⟩, ⟨7, .guard⟩], some (7, false)⟩,
   ⟨some 23, .load 25 (.tmp 22), 25, "l13_pend.go:25", #[⟨12, .data⟩, ⟨7, .guard⟩], some (7, false)⟩,
   ⟨some 24, .call ⟨.builtin .len, #[.tmp 23], #[25]⟩, 3, "l13_pend.go:25", #[⟨13, .data⟩, ⟨7, .guard⟩], some (7, false)⟩,
   ⟨some 25, .binOp BinOp.eql 3 (.tmp 24) (.const (Value.int IntKind.i64 0)) 3, 4, "l13_pend.go:25", #[⟨14, .data⟩, ⟨7, .guard⟩], some (7, false)⟩,
   ⟨some 26, .pick (.tmp 17) (.const (Value.bool true)) (.tmp 25), 4, "l13_pend.go:25", #[⟨7, .data⟩, ⟨15, .data⟩], none⟩,
   ⟨some 27, .move (.tmp 26), 4, "l13_pend.go:25", #[⟨16, .data⟩, ⟨7, .chain⟩], none⟩,
   ⟨some 28, .move (.tmp 0), 35, "l13_pend.go:25", #[⟨17, .guard⟩], some (17, false)⟩,
   ⟨some 29, .move (.tmp 3), 3, "l13_pend.go:25", #[⟨17, .guard⟩], some (17, false)⟩,
   ⟨some 30, .indexAddr 35 (.tmp 28) (.tmp 29), 0, "l13_pend.go:25", #[⟨18, .data⟩, ⟨19, .data⟩, ⟨17, .guard⟩], some (17, false)⟩,
   ⟨some 31, .fieldAddr 101 (.tmp 30) 1, 0, "l13_pend.go:25", #[⟨20, .data⟩, ⟨17, .guard⟩], some (17, false)⟩,
   ⟨some 32, .load 68 (.tmp 31), 68, "l13_pend.go:25", #[⟨21, .data⟩, ⟨17, .guard⟩], some (17, false)⟩,
   ⟨some 33, .call ⟨.value (.func 75), #[.tmp 32], #[68]⟩, 4, "l13_pend.go:25", #[⟨22, .data⟩, ⟨17, .chain⟩, ⟨17, .guard⟩], some (17, false)⟩,
   ⟨some 34, .unOp UnOp.not 4 (.tmp 33), 4, "l13_pend.go:25", #[⟨23, .data⟩, ⟨17, .guard⟩], some (17, false)⟩,
   ⟨some 35, .pick (.tmp 27) (.const (Value.bool true)) (.tmp 34), 4, "l13_pend.go:25", #[⟨17, .data⟩, ⟨24, .data⟩], none⟩,
   ⟨some 36, .move (.tmp 35), 4, "l13_pend.go:25", #[⟨25, .data⟩, ⟨23, .chain⟩], none⟩,
   ⟨some 37, .move (.tmp 0), 35, "l13_pend.go:25", #[⟨26, .guard⟩], some (26, false)⟩,
   ⟨some 38, .move (.tmp 3), 3, "l13_pend.go:25", #[⟨26, .guard⟩], some (26, false)⟩,
   ⟨some 39, .indexAddr 35 (.tmp 37) (.tmp 38), 0, "l13_pend.go:25", #[⟨27, .data⟩, ⟨28, .data⟩, ⟨26, .guard⟩], some (26, false)⟩,
   ⟨some 40, .fieldAddr 101 (.tmp 39) 2, 0, "l13_pend.go:25", #[⟨29, .data⟩, ⟨26, .guard⟩], some (26, false)⟩,
   ⟨some 41, .load 3 (.tmp 40), 3, "l13_pend.go:25", #[⟨30, .data⟩, ⟨26, .guard⟩], some (26, false)⟩,
   ⟨some 42, .call ⟨.value (.func 76), #[.tmp 41, .const (Value.int IntKind.i64 0), .const (Value.int IntKind.i64 100000)], #[3, 3, 3]⟩, 4, "l13_pend.go:25", #[⟨31, .data⟩, ⟨26, .chain⟩, ⟨26, .guard⟩], some (26, false)⟩,
   ⟨some 43, .unOp UnOp.not 4 (.tmp 42), 4, "l13_pend.go:25", #[⟨32, .data⟩, ⟨26, .guard⟩], some (26, false)⟩,
   ⟨some 44, .pick (.tmp 36) (.const (Value.bool true)) (.tmp 43), 4, "l13_pend.go:25", #[⟨26, .data⟩, ⟨33, .data⟩], none⟩,
   ⟨some 45, .move (.tmp 44), 4, "l13_pend.go:25", #[⟨34, .data⟩, ⟨32, .chain⟩], none⟩,
   ⟨some 46, .move (.tmp 0), 35, "l13_pend.go:25", #[⟨35, .guard⟩], some (35, false)⟩,
   ⟨some 47, .move (.tmp 3), 3, "l13_pend.go:25", #[⟨35, .guard⟩], some (35, false)⟩,
   ⟨some 48, .slice 35 (.tmp 46) none (some (.tmp 47)) none, 35, "l13_pend.go:25", #[⟨36, .data⟩, ⟨37, .data⟩, ⟨35, .guard⟩], some (35, false)⟩,
   ⟨some 49, .move (.tmp 0), 35, "l13_pend.go:25", #[⟨35, .guard⟩], some (35, false)⟩,
   ⟨some 50, .move (.tmp 3), 3, "l13_pend.go:25", #[⟨35, .guard⟩], some (35, false)⟩,
   ⟨some 51, .indexAddr 35 (.tmp 49) (.tmp 50), 0, "l13_pend.go:25", #[⟨39, .data⟩, ⟨40, .data⟩, ⟨35, .guard⟩], some (35, false)⟩,
   ⟨some 52, .fieldAddr 101 (.tmp 51) 0, 0, "l13_pend.go:25", #[⟨41, .data⟩, ⟨35, .guard⟩], some (35, false)⟩,
   ⟨some 53, .load 27 (.tmp 52), 27, "l13_pend.go:25", #[⟨42, .data⟩, ⟨35, .guard⟩], some (35, false)⟩,
   ⟨some 54, .call ⟨.value (.func 77), #[.tmp 48, .tmp 53], #[35, 27]⟩, 3, "l13_pend.go:25", #[⟨38, .data⟩, ⟨43, .data⟩, ⟨35, .chain⟩, ⟨35, .guard⟩], some (35, false)⟩,
   ⟨some 55, .binOp BinOp.geq 3 (.tmp 54) (.const (Value.int IntKind.i64 0)) 3, 4, "l13_pend.go:25", #[⟨44, .data⟩, ⟨35, .guard⟩], some (35, false)⟩,
   ⟨some 56, .pick (.tmp 45) (.const (Value.bool true)) (.tmp 55), 4, "l13_pend.go:25", #[⟨35, .data⟩, ⟨45, .data⟩], none⟩] true).wp Try.prog Q ⟨#[.slice (some ⟨b, off, none⟩) n c, v1, v2, .int .i64 k, v4, v5, v6, v7, v8, v9, v10, v11, v12, v13, v14, v15, v16, v17, v18, v19, v20, v21, v22, v23, v24, v25, v26, v27, v28, v29, v30, v31, v32, v33, v34, v35, v36, v37, v38, v39, v40, v41, v42, v43, v44, v45, v46, v47, v48, v49, v50, v51, v52, v53, v54, v55, v56, v57, v58, v59], []⟩ w := by
 have HQ := Lib.hid hQ; clear hQ
 have hdr : Below w.heap.size w w.drew := (Below.refl _ _).drew
 have BB := Lib.hid hdr
 refine wp_region_noPanic ?_
 refine wp_region_held_drew (S := (fun w' => w'.cell? ⟨b, off + k * 3, none⟩ = some (.slice x0 n0 c0))) (by kernel_rfl) ?_ (fun hHeld => ?_)
 ·
  exact kc K0.out BB.out
 clear hdr
 generalize w.drew = wd at *
 refine wpAnyH_take (i := 0) (oi := ⟨some 10, .move (.tmp 0), 35, "l13_pend.go:25", #[], none⟩) (v := ?_) rfl (by kernel_rfl) (by kernel_rfl) (by kernel_rfl) (fun _ _ _ h => h) (Or.inl ⟨by rfl, ?_⟩) (by assumption) ?_
 rotate_left
 ·
  intro w' hSw; (try dsimp only at hSw); first | (go_simp; done) | (go_simp; with_reducible rfl)
 (try simp only [Act.put, Row.pB0, Row.pB1, Row.pB2])
 refine wpAnyH_take (i := 1) (oi := ⟨some 11, .move (.tmp 3), 3, "l13_pend.go:25", #[], none⟩) (v := ?_) rfl (by kernel_rfl) (by kernel_rfl) (by kernel_rfl) (fun _ _ _ h => h) (Or.inl ⟨by rfl, ?_⟩) (by assumption) ?_
 rotate_left
 ·
  intro w' hSw; (try dsimp only at hSw); first | (go_simp; done) | (go_simp; with_reducible rfl)
 (try simp only [Act.put, Row.pB0, Row.pB1, Row.pB2])
 refine wpAnyH_take (i := 2) (oi := ⟨some 12, .indexAddr 35 (.tmp 10) (.tmp 11), 0, "l13_pend.go:25", #[⟨0, .data⟩, ⟨1, .data⟩], none⟩) (v := ?_) rfl (by kernel_rfl) (by kernel_rfl) (by kernel_rfl) (fun _ _ _ h => h) (Or.inl ⟨by rfl, ?_⟩) (by assumption) ?_
 rotate_left
 ·
  intro w' hSw; (try dsimp only at hSw); first | (go_simp; done) | (go_simp; with_reducible rfl)
 (try simp only [Act.put, Row.pB0, Row.pB1, Row.pB2])
 refine wpAnyH_take (i := 3) (oi := ⟨some 13, .fieldAddr 101 (.tmp 12) 0, 0, "l13_pend.go:25", #[⟨2, .data⟩], none⟩) (v := ?_) rfl (by kernel_rfl) (by kernel_rfl) (by kernel_rfl) (fun _ _ _ h => h) (Or.inl ⟨by rfl, ?_⟩) (by assumption) ?_
 rotate_left
 ·
  intro w' hSw; (try dsimp only at hSw); first | (go_simp; done) | (go_simp; with_reducible rfl)
 (try simp only [Act.put, Row.pB0, Row.pB1, Row.pB2])
 refine wpAnyH_take (i := 4) (oi := ⟨some 14, .load 27 (.tmp 13), 27, "l13_pend.go:25", #[⟨3, .data⟩], none⟩) (v := ?_) rfl (by kernel_rfl) (by kernel_rfl) (by kernel_rfl) (fun _ _ _ h => h) (Or.inl ⟨by rfl, ?_⟩) (by assumption) ?_
 rotate_left
 ·
  intro w' hSw; (try dsimp only at hSw); first | (go_simp; done) | (go_simp; with_reducible rfl)
 (try simp only [Act.put, Row.pB0, Row.pB1, Row.pB2])
 refine wpAnyH_ready (rs := [5]) (by kernel_rfl) (by simp) ?_
 refine AllReadyH.cons (o := ⟨some 15, .call ⟨.value (.func 74), #[.tmp 14], #[27]⟩, 4, "l13_pend.go:25", #[⟨4, .data⟩], none⟩) rfl (fun K hK => ?_) AllReadyH.nil
 go_simp
 refine (sValN false HV.out (H_m.out.on BB.out) (Nat.le_trans HMB.out (by decide))).mono ?_
 rintro e wn1 ⟨rfl, hb⟩
 replace BB := Lib.hid (BB.out.trans (hb.mono BB.out.size))
 clear hb
 (try go_wp2_with fail)
 clear hHeld
 refine hK.out _ _ ?_ (fun hHeld => ?_)
 ·
  (try dsimp only); exact kc K0.out BB.out
 clear hK K
 (try simp only [Act.put, Row.pB0, Row.pB1, Row.pB2])
 refine wpAnyH_take (i := 6) (oi := ⟨some 16, .unOp UnOp.not 4 (.tmp 15), 4, "l13_pend.go:25", #[⟨5, .data⟩], none⟩) (v := ?_) rfl (by kernel_rfl) (by kernel_rfl) (by kernel_rfl) (fun _ _ _ h => h) (Or.inl ⟨by rfl, ?_⟩) (by assumption) ?_
 rotate_left
 ·
  intro w' hSw; (try dsimp only at hSw); first | (go_simp; done) | (go_simp; with_reducible rfl)
 (try simp only [Act.put, Row.pB0, Row.pB1, Row.pB2])
 refine wpAnyH_take (i := 7) (oi := ⟨some 17, .move (.tmp 16), 4, "l13_pend.go:25", #[⟨6, .data⟩, ⟨5, .chain⟩], none⟩) (v := ?_) rfl (by kernel_rfl) (by kernel_rfl) (by kernel_rfl) (fun _ _ _ h => h) (Or.inl ⟨by rfl, ?_⟩) (by assumption) ?_
 rotate_left
 ·
  intro w' hSw; (try dsimp only at hSw); first | (go_simp; done) | (go_simp; with_reducible rfl)
 (try simp only [Act.put, Row.pB0, Row.pB1, Row.pB2])
 refine wpAnyH_take (i := 8) (oi := ⟨some 18, .move (.tmp 0), 35, "l13_pend.go:25", #[⟨7, .guard⟩], some (7, false)⟩) (v := undef) rfl (by kernel_rfl) (by kernel_rfl) (by kernel_rfl) (fun _ _ _ h => h) (Or.inr ⟨by rfl, rfl⟩) (by assumption) ?_
 (try simp only [Act.put, Row.pB0, Row.pB1, Row.pB2])
 refine wpAnyH_take (i := 9) (oi := ⟨some 19, .move (.tmp 3), 3, "l13_pend.go:25", #[⟨7, .guard⟩], some (7, false)⟩) (v := undef) rfl (by kernel_rfl) (by kernel_rfl) (by kernel_rfl) (fun _ _ _ h => h) (Or.inr ⟨by rfl, rfl⟩) (by assumption) ?_
 (try simp only [Act.put, Row.pB0, Row.pB1, Row.pB2])
 refine wpAnyH_take (i := 10) (oi := ⟨some 20, .indexAddr 35 (.tmp 18) (.tmp 19), 0, "l13_pend.go:25", #[⟨8, .data⟩, ⟨9, .data⟩, ⟨7, .guard⟩], some (7, false)⟩) (v := undef) rfl (by kernel_rfl) (by kernel_rfl) (by kernel_rfl) (fun _ _ _ h => h) (Or.inr ⟨by rfl, rfl⟩) (by assumption) ?_
 (try simp only [Act.put, Row.pB0, Row.pB1, Row.pB2])
 refine wpAnyH_take (i := 11) (oi := ⟨some 21, .fieldAddr 101 (.tmp 20) 0, 0, "l13_pend.go:25", #[⟨10, .data⟩, ⟨7, .guard⟩], some (7, false)⟩) (v := undef) rfl (by kernel_rfl) (by kernel_rfl) (by kernel_rfl) (fun _ _ _ h => h) (Or.inr ⟨by rfl, rfl⟩) (by assumption) ?_
 (try simp only [Act.put, Row.pB0, Row.pB1, Row.pB2])
 refine wpAnyH_take (i := 12) (oi := ⟨some 22, .fieldAddr 27 (.tmp 21) 0, 0, "l13_pend.go:25", #[⟨11, .data⟩, ⟨7, .guard⟩], some (7, false)⟩) (v := undef) rfl (by kernel_rfl) (by kernel_rfl) (by kernel_rfl) (fun _ _ _ h => h) (Or.inr ⟨by rfl, rfl⟩) (by assumption) ?_
 (try simp only [Act.put, Row.pB0, Row.pB1, Row.pB2])
 refine wpAnyH_take (i := 13) (oi := ⟨some 23, .load 25 (.tmp 22), 25, "l13_pend.go:25", #[⟨12, .data⟩, ⟨7, .guard⟩], some (7, false)⟩) (v := undef) rfl (by kernel_rfl) (by kernel_rfl) (by kernel_rfl) (fun _ _ _ h => h) (Or.inr ⟨by rfl, rfl⟩) (by assumption) ?_
 (try simp only [Act.put, Row.pB0, Row.pB1, Row.pB2])
 refine wpAnyH_take (i := 14) (oi := ⟨some 24, .call ⟨.builtin .len, #[.tmp 23], #[25]⟩, 3, "l13_pend.go:25", #[⟨13, .data⟩, ⟨7, .guard⟩], some (7, false)⟩) (v := undef) rfl (by kernel_rfl) (by kernel_rfl) (by kernel_rfl) (fun _ _ _ h => h) (Or.inr ⟨by rfl, rfl⟩) (by assumption) ?_
 (try simp only [Act.put, Row.pB0, Row.pB1, Row.pB2])
 refine wpAnyH_take (i := 15) (oi := ⟨some 25, .binOp BinOp.eql 3 (.tmp 24) (.const (Value.int IntKind.i64 0)) 3, 4, "l13_pend.go:25", #[⟨14, .data⟩, ⟨7, .guard⟩], some (7, false)⟩) (v := undef) rfl (by kernel_rfl) (by kernel_rfl) (by kernel_rfl) (fun _ _ _ h => h) (Or.inr ⟨by rfl, rfl⟩) (by assumption) ?_
 (try simp only [Act.put, Row.pB0, Row.pB1, Row.pB2])
 refine wpAnyH_take (i := 16) (oi := ⟨some 26, .pick (.tmp 17) (.const (Value.bool true)) (.tmp 25), 4, "l13_pend.go:25", #[⟨7, .data⟩, ⟨15, .data⟩], none⟩) (v := ?_) rfl (by kernel_rfl) (by kernel_rfl) (by kernel_rfl) (fun _ _ _ h => h) (Or.inl ⟨by rfl, ?_⟩) (by assumption) ?_
 rotate_left
 ·
  intro w' hSw; (try dsimp only at hSw); first | (go_simp; done) | (go_simp; with_reducible rfl)
 (try simp only [Act.put, Row.pB0, Row.pB1, Row.pB2])
 refine wpAnyH_take (i := 17) (oi := ⟨some 27, .move (.tmp 26), 4, "l13_pend.go:25", #[⟨16, .data⟩, ⟨7, .chain⟩], none⟩) (v := ?_) rfl (by kernel_rfl) (by kernel_rfl) (by kernel_rfl) (fun _ _ _ h => h) (Or.inl ⟨by rfl, ?_⟩) (by assumption) ?_
 rotate_left
 ·
  intro w' hSw; (try dsimp only at hSw); first | (go_simp; done) | (go_simp; with_reducible rfl)
 (try simp only [Act.put, Row.pB0, Row.pB1, Row.pB2])
 refine wpAnyH_take (i := 18) (oi := ⟨some 28, .move (.tmp 0), 35, "l13_pend.go:25", #[⟨17, .guard⟩], some (17, false)⟩) (v := undef) rfl (by kernel_rfl) (by kernel_rfl) (by kernel_rfl) (fun _ _ _ h => h) (Or.inr ⟨by rfl, rfl⟩) (by assumption) ?_
 (try simp only [Act.put, Row.pB0, Row.pB1, Row.pB2])
 refine wpAnyH_take (i := 19) (oi := ⟨some 29, .move (.tmp 3), 3, "l13_pend.go:25", #[⟨17, .guard⟩], some (17, false)⟩) (v := undef) rfl (by kernel_rfl) (by kernel_rfl) (by kernel_rfl) (fun _ _ _ h => h) (Or.inr ⟨by rfl, rfl⟩) (by assumption) ?_
 (try simp only [Act.put, Row.pB0, Row.pB1, Row.pB2])
 refine wpAnyH_take (i := 20) (oi := ⟨some 30, .indexAddr 35 (.tmp 28) (.tmp 29), 0, "l13_pend.go:25", #[⟨18, .data⟩, ⟨19, .data⟩, ⟨17, .guard⟩], some (17, false)⟩) (v := undef) rfl (by kernel_rfl) (by kernel_rfl) (by kernel_rfl) (fun _ _ _ h => h) (Or.inr ⟨by rfl, rfl⟩) (by assumption) ?_
 (try simp only [Act.put, Row.pB0, Row.pB1, Row.pB2])
 refine wpAnyH_take (i := 21) (oi := ⟨some 31, .fieldAddr 101 (.tmp 30) 1, 0, "l13_pend.go:25", #[⟨20, .data⟩, ⟨17, .guard⟩], some (17, false)⟩) (v := undef) rfl (by kernel_rfl) (by kernel_rfl) (by kernel_rfl) (fun _ _ _ h => h) (Or.inr ⟨by rfl, rfl⟩) (by assumption) ?_
 (try simp only [Act.put, Row.pB0, Row.pB1, Row.pB2])
 refine wpAnyH_take (i := 22) (oi := ⟨some 32, .load 68 (.tmp 31), 68, "l13_pend.go:25", #[⟨21, .data⟩, ⟨17, .guard⟩], some (17, false)⟩) (v := undef) rfl (by kernel_rfl) (by kernel_rfl) (by kernel_rfl) (fun _ _ _ h => h) (Or.inr ⟨by rfl, rfl⟩) (by assumption) ?_
 (try simp only [Act.put, Row.pB0, Row.pB1, Row.pB2])
 refine wpAnyH_take (i := 23) (oi := ⟨some 33, .call ⟨.value (.func 75), #[.tmp 32], #[68]⟩, 4, "l13_pend.go:25", #[⟨22, .data⟩, ⟨17, .chain⟩, ⟨17, .guard⟩], some (17, false)⟩) (v := undef) rfl (by kernel_rfl) (by kernel_rfl) (by kernel_rfl) (fun _ _ _ h => h) (Or.inr ⟨by rfl, rfl⟩) (by assumption) ?_
 (try simp only [Act.put, Row.pB0, Row.pB1, Row.pB2])
 refine wpAnyH_take (i := 24) (oi := ⟨some 34, .unOp UnOp.not 4 (.tmp 33), 4, "l13_pend.go:25", #[⟨23, .data⟩, ⟨17, .guard⟩], some (17, false)⟩) (v := undef) rfl (by kernel_rfl) (by kernel_rfl) (by kernel_rfl) (fun _ _ _ h => h) (Or.inr ⟨by rfl, rfl⟩) (by assumption) ?_
 (try simp only [Act.put, Row.pB0, Row.pB1, Row.pB2])
 refine wpAnyH_take (i := 25) (oi := ⟨some 35, .pick (.tmp 27) (.const (Value.bool true)) (.tmp 34), 4, "l13_pend.go:25", #[⟨17, .data⟩, ⟨24, .data⟩], none⟩) (v := ?_) rfl (by kernel_rfl) (by kernel_rfl) (by kernel_rfl) (fun _ _ _ h => h) (Or.inl ⟨by rfl, ?_⟩) (by assumption) ?_
 rotate_left
 ·
  intro w' hSw; (try dsimp only at hSw); first | (go_simp; done) | (go_simp; with_reducible rfl)
 (try simp only [Act.put, Row.pB0, Row.pB1, Row.pB2])
 refine wpAnyH_take (i := 26) (oi := ⟨some 36, .move (.tmp 35), 4, "l13_pend.go:25", #[⟨25, .data⟩, ⟨23, .chain⟩], none⟩) (v := ?_) rfl (by kernel_rfl) (by kernel_rfl) (by kernel_rfl) (fun _ _ _ h => h) (Or.inl ⟨by rfl, ?_⟩) (by assumption) ?_
 rotate_left
 ·
  intro w' hSw; (try dsimp only at hSw); first | (go_simp; done) | (go_simp; with_reducible rfl)
 (try simp only [Act.put, Row.pB0, Row.pB1, Row.pB2])
 refine wpAnyH_take (i := 27) (oi := ⟨some 37, .move (.tmp 0), 35, "l13_pend.go:25", #[⟨26, .guard⟩], some (26, false)⟩) (v := undef) rfl (by kernel_rfl) (by kernel_rfl) (by kernel_rfl) (fun _ _ _ h => h) (Or.inr ⟨by rfl, rfl⟩) (by assumption) ?_
 (try simp only [Act.put, Row.pB0, Row.pB1, Row.pB2])
 refine wpAnyH_take (i := 28) (oi := ⟨some 38, .move (.tmp 3), 3, "l13_pend.go:25", #[⟨26, .guard⟩], some (26, false)⟩) (v := undef) rfl (by kernel_rfl) (by kernel_rfl) (by kernel_rfl) (fun _ _ _ h => h) (Or.inr ⟨by rfl, rfl⟩) (by assumption) ?_
 (try simp only [Act.put, Row.pB0, Row.pB1, Row.pB2])
 refine wpAnyH_take (i := 29) (oi := ⟨some 39, .indexAddr 35 (.tmp 37) (.tmp 38), 0, "l13_pend.go:25", #[⟨27, .data⟩, ⟨28, .data⟩, ⟨26, .guard⟩], some (26, false)⟩) (v := undef) rfl (by kernel_rfl) (by kernel_rfl) (by kernel_rfl) (fun _ _ _ h => h) (Or.inr ⟨by rfl, rfl⟩) (by assumption) ?_
 (try simp only [Act.put, Row.pB0, Row.pB1, Row.pB2])
 refine wpAnyH_take (i := 30) (oi := ⟨some 40, .fieldAddr 101 (.tmp 39) 2, 0, "l13_pend.go:25", #[⟨29, .data⟩, ⟨26, .guard⟩], some (26, false)⟩) (v := undef) rfl (by kernel_rfl) (by kernel_rfl) (by kernel_rfl) (fun _ _ _ h => h) (Or.inr ⟨by rfl, rfl⟩) (by assumption) ?_
 (try simp only [Act.put, Row.pB0, Row.pB1, Row.pB2])
 refine wpAnyH_take (i := 31) (oi := ⟨some 41, .load 3 (.tmp 40), 3, "l13_pend.go:25", #[⟨30, .data⟩, ⟨26, .guard⟩], some (26, false)⟩) (v := undef) rfl (by kernel_rfl) (by kernel_rfl) (by kernel_rfl) (fun _ _ _ h => h) (Or.inr ⟨by rfl, rfl⟩) (by assumption) ?_
 (try simp only [Act.put, Row.pB0, Row.pB1, Row.pB2])
 refine wpAnyH_take (i := 32) (oi := ⟨some 42, .call ⟨.value (.func 76), #[.tmp 41, .const (Value.int IntKind.i64 0), .const (Value.int IntKind.i64 100000)], #[3, 3, 3]⟩, 4, "l13_pend.go:25", #[⟨31, .data⟩, ⟨26, .chain⟩, ⟨26, .guard⟩], some (26, false)⟩) (v := undef) rfl (by kernel_rfl) (by kernel_rfl) (by kernel_rfl) (fun _ _ _ h => h) (Or.inr ⟨by rfl, rfl⟩) (by assumption) ?_
 (try simp only [Act.put, Row.pB0, Row.pB1, Row.pB2])
 refine wpAnyH_take (i := 33) (oi := ⟨some 43, .unOp UnOp.not 4 (.tmp 42), 4, "l13_pend.go:25", #[⟨32, .data⟩, ⟨26, .guard⟩], some (26, false)⟩) (v := undef) rfl (by kernel_rfl) (by kernel_rfl) (by kernel_rfl) (fun _ _ _ h => h) (Or.inr ⟨by rfl, rfl⟩) (by assumption) ?_
 (try simp only [Act.put, Row.pB0, Row.pB1, Row.pB2])
 refine wpAnyH_take (i := 34) (oi := ⟨some 44, .pick (.tmp 36) (.const (Value.bool true)) (.tmp 43), 4, "l13_pend.go:25", #[⟨26, .data⟩, ⟨33, .data⟩], none⟩) (v := ?_) rfl (by kernel_rfl) (by kernel_rfl) (by kernel_rfl) (fun _ _ _ h => h) (Or.inl ⟨by rfl, ?_⟩) (by assumption) ?_
 rotate_left
 ·
  intro w' hSw; (try dsimp only at hSw); first | (go_simp; done) | (go_simp; with_reducible rfl)
 (try simp only [Act.put, Row.pB0, Row.pB1, Row.pB2])
 refine wpAnyH_take (i := 35) (oi := ⟨some 45, .move (.tmp 44), 4, "l13_pend.go:25", #[⟨34, .data⟩, ⟨32, .chain⟩], none⟩) (v := ?_) rfl (by kernel_rfl) (by kernel_rfl) (by kernel_rfl) (fun _ _ _ h => h) (Or.inl ⟨by rfl, ?_⟩) (by assumption) ?_
 rotate_left
 ·
  intro w' hSw; (try dsimp only at hSw); first | (go_simp; done) | (go_simp; with_reducible rfl)
 (try simp only [Act.put, Row.pB0, Row.pB1, Row.pB2])
 refine wpAnyH_take (i := 36) (oi := ⟨some 46, .move (.tmp 0), 35, "l13_pend.go:25", #[⟨35, .guard⟩], some (35, false)⟩) (v := undef) rfl (by kernel_rfl) (by kernel_rfl) (by kernel_rfl) (fun _ _ _ h => h) (Or.inr ⟨by rfl, rfl⟩) (by assumption) ?_
 (try simp only [Act.put, Row.pB0, Row.pB1, Row.pB2])
 refine wpAnyH_take (i := 37) (oi := ⟨some 47, .move (.tmp 3), 3, "l13_pend.go:25", #[⟨35, .guard⟩], some (35, false)⟩) (v := undef) rfl (by kernel_rfl) (by kernel_rfl) (by kernel_rfl) (fun _ _ _ h => h) (Or.inr ⟨by rfl, rfl⟩) (by assumption) ?_
 (try simp only [Act.put, Row.pB0, Row.pB1, Row.pB2])
 refine wpAnyH_take (i := 38) (oi := ⟨some 48, .slice 35 (.tmp 46) none (some (.tmp 47)) none, 35, "l13_pend.go:25", #[⟨36, .data⟩, ⟨37, .data⟩, ⟨35, .guard⟩], some (35, false)⟩) (v := undef) rfl (by kernel_rfl) (by kernel_rfl) (by kernel_rfl) (fun _ _ _ h => h) (Or.inr ⟨by rfl, rfl⟩) (by assumption) ?_
 (try simp only [Act.put, Row.pB0, Row.pB1, Row.pB2])
 refine wpAnyH_take (i := 39) (oi := ⟨some 49, .move (.tmp 0), 35, "l13_pend.go:25", #[⟨35, .guard⟩], some (35, false)⟩) (v := undef) rfl (by kernel_rfl) (by kernel_rfl) (by kernel_rfl) (fun _ _ _ h => h) (Or.inr ⟨by rfl, rfl⟩) (by assumption) ?_
 (try simp only [Act.put, Row.pB0, Row.pB1, Row.pB2])
 refine wpAnyH_take (i := 40) (oi := ⟨some 50, .move (.tmp 3), 3, "l13_pend.go:25", #[⟨35, .guard⟩], some (35, false)⟩) (v := undef) rfl (by kernel_rfl) (by kernel_rfl) (by kernel_rfl) (fun _ _ _ h => h) (Or.inr ⟨by rfl, rfl⟩) (by assumption) ?_
 (try simp only [Act.put, Row.pB0, Row.pB1, Row.pB2])
 refine wpAnyH_take (i := 41) (oi := ⟨some 51, .indexAddr 35 (.tmp 49) (.tmp 50), 0, "l13_pend.go:25", #[⟨39, .data⟩, ⟨40, .data⟩, ⟨35, .guard⟩], some (35, false)⟩) (v := undef) rfl (by kernel_rfl) (by kernel_rfl) (by kernel_rfl) (fun _ _ _ h => h) (Or.inr ⟨by rfl, rfl⟩) (by assumption) ?_
 (try simp only [Act.put, Row.pB0, Row.pB1, Row.pB2])
 refine wpAnyH_take (i := 42) (oi := ⟨some 52, .fieldAddr 101 (.tmp 51) 0, 0, "l13_pend.go:25", #[⟨41, .data⟩, ⟨35, .guard⟩], some (35, false)⟩) (v := undef) rfl (by kernel_rfl) (by kernel_rfl) (by kernel_rfl) (fun _ _ _ h => h) (Or.inr ⟨by rfl, rfl⟩) (by assumption) ?_
 (try simp only [Act.put, Row.pB0, Row.pB1, Row.pB2])
 refine wpAnyH_take (i := 43) (oi := ⟨some 53, .load 27 (.tmp 52), 27, "l13_pend.go:25", #[⟨42, .data⟩, ⟨35, .guard⟩], some (35, false)⟩) (v := undef) rfl (by kernel_rfl) (by kernel_rfl) (by kernel_rfl) (fun _ _ _ h => h) (Or.inr ⟨by rfl, rfl⟩) (by assumption) ?_
 (try simp only [Act.put, Row.pB0, Row.pB1, Row.pB2])
 refine wpAnyH_take (i := 44) (oi := ⟨some 54, .call ⟨.value (.func 77), #[.tmp 48, .tmp 53], #[35, 27]⟩, 3, "l13_pend.go:25", #[⟨38, .data⟩, ⟨43, .data⟩, ⟨35, .chain⟩, ⟨35, .guard⟩], some (35, false)⟩) (v := undef) rfl (by kernel_rfl) (by kernel_rfl) (by kernel_rfl) (fun _ _ _ h => h) (Or.inr ⟨by rfl, rfl⟩) (by assumption) ?_
 (try simp only [Act.put, Row.pB0, Row.pB1, Row.pB2])
 refine wpAnyH_take (i := 45) (oi := ⟨some 55, .binOp BinOp.geq 3 (.tmp 54) (.const (Value.int IntKind.i64 0)) 3, 4, "l13_pend.go:25", #[⟨44, .data⟩, ⟨35, .guard⟩], some (35, false)⟩) (v := undef) rfl (by kernel_rfl) (by kernel_rfl) (by kernel_rfl) (fun _ _ _ h => h) (Or.inr ⟨by rfl, rfl⟩) (by assumption) ?_
 (try simp only [Act.put, Row.pB0, Row.pB1, Row.pB2])
 refine wpAnyH_take (i := 46) (oi := ⟨some 56, .pick (.tmp 45) (.const (Value.bool true)) (.tmp 55), 4, "l13_pend.go:25", #[⟨35, .data⟩, ⟨45, .data⟩], none⟩) (v := ?_) rfl (by kernel_rfl) (by kernel_rfl) (by kernel_rfl) (fun _ _ _ h => h) (Or.inl ⟨by rfl, ?_⟩) (by assumption) ?_
 rotate_left
 ·
  intro w' hSw; (try dsimp only at hSw); first | (go_simp; done) | (go_simp; with_reducible rfl)
 (try simp only [Act.put, Row.pB0, Row.pB1, Row.pB2])
 refine wpAnyH_done (by kernel_rfl) ?_ _
 exact NoPanic.normal (HQ.out _ _ _ _ _ _ _ _ _ _ _ _ _ _ _ _ _ _ _ _ _ _ _ _ _ _ _ _ _ _ _ _ _ _ _ _ _ _ _ _ _ _ _ _ _ _  _  BB.out)
set_option maxRecDepth 100000 in
set_option maxHeartbeats 4000000 in
theorem rvp1 {Q : Exit → Act → World → Prop} {v1 v2 v4 v5 v6 v7 v8 v9 v10 v11 v12 v13 v14 v15 v16 v17 v18 v19 v20 v21 v22 v23 v24 v25 v26 v27 v28 v29 v30 v31 v32 v33 v34 v35 v36 v37 v38 v39 v40 v41 v42 v43 v44 v45 v46 v47 v48 v49 v50 v51 v52 v53 v54 v55 v56 v57 v58 v59 : Value} {w : World} {b off n c k n0 c0 : Nat} {x0 : Option Addr}  {m : List ByteArray}    (hk : k < n) (hkc : k ≤ c) (hn : n ≤ 9000000) (HV : Hid (validN m = true)) (H_m : Hid (kN.At w (.agg #[.slice x0 n0 c0]) m)) (HMB : Hid (bulk m ≤ 1200000)) (hn1 : ((n0 : Int) == 0) = true) (K0 : Hid (w.cell? ⟨b, off + k * 3, none⟩ = some (.slice x0 n0 c0)))
  (hQ : ∀ (u10 u11 u12 u13 u14 u15 u16 u17 u18 u19 u20 u21 u22 u23 u24 u25 u26 u27 u28 u29 u30 u31 u32 u33 u34 u35 u36 u37 u38 u39 u40 u41 u42 u43 u44 u45 u46 u47 u48 u49 u50 u51 u52 u53 u54 u55 : Value)  (wx : World), Below w.heap.size w wx → Q .normal ⟨#[.slice (some ⟨b, off, none⟩) n c, v1, v2, .int .i64 k, v4, v5, v6, v7, v8, v9, u10, u11, u12, u13, u14, u15, u16, u17, u18, u19, u20, u21, u22, u23, u24, u25, u26, u27, u28, u29, u30, u31, u32, u33, u34, u35, u36, u37, u38, u39, u40, u41, u42, u43, u44, u45, u46, u47, u48, u49, u50, u51, u52, u53, u54, u55, .bool true, v57, v58, v59], []⟩ wx) :
  (Code.region 4 #[⟨some 10, .move (.tmp 0), 35, "l13_pend.go:25", #[], none⟩,
   ⟨some 11, .move (.tmp 3), 3, "l13_pend.go:25", #[], none⟩,
   ⟨some 12, .indexAddr 35 (.tmp 10) (.tmp 11), 0, "l13_pend.go:25", #[⟨0, .data⟩, ⟨1, .data⟩], none⟩,
   ⟨some 13, .fieldAddr 101 (.tmp 12) 0, 0, "l13_pend.go:25", #[⟨2, .data⟩], none⟩,
   ⟨some 14, .load 27 (.tmp 13), 27, "l13_pend.go:25", #[⟨3, .data⟩], none⟩,
   ⟨some 15, .call ⟨.value (.func 74), #[.tmp 14], #[27]⟩, 4, "l13_pend.go:25", #[⟨4, .data⟩], none⟩,
   ⟨some 16, .unOp UnOp.not 4 (.tmp 15), 4, "l13_pend.go:25", #[⟨5, .data⟩], none⟩,
   ⟨some 17, .move (.tmp 16), 4, "l13_pend.go:25", #[⟨6, .data⟩, ⟨5, .chain⟩], none⟩,
   ⟨some 18, .move (.tmp 0), 35, "l13_pend.go:25", #[⟨7, .guard⟩], some (7, false)⟩,
   ⟨some 19, .move (.tmp 3), 3, "l13_pend.go:25", #[⟨7, .guard⟩], some (7, false)⟩,
   ⟨some 20, .indexAddr 35 (.tmp 18) (.tmp 19), 0, "l13_pend.go:25", #[⟨8, .data⟩, ⟨9, .data⟩, ⟨7, .guard⟩], some (7, false)⟩,
   ⟨some 21, .fieldAddr 101 (.tmp 20) 0, 0, "l13_pend.go:25", #[⟨10, .data⟩, ⟨7, .guard⟩], some (7, false)⟩,
   ⟨some 22, .fieldAddr 27 (.tmp 21) 0, 0, "l13_pend.go:25", #[⟨11, .data⟩, ⟨7, .guard⟩], some (7, false)⟩,
   ⟨some 23, .load 25 (.tmp 22), 25, "l13_pend.go:25", #[⟨12, .data⟩, ⟨7, .guard⟩], some (7, false)⟩,
   ⟨some 24, .call ⟨.builtin .len, #[.tmp 23], #[25]⟩, 3, "l13_pend.go:25", #[⟨13, .data⟩, ⟨7, .guard⟩], some (7, false)⟩,
   ⟨some 25, .binOp BinOp.eql 3 (.tmp 24) (.const (Value.int IntKind.i64 0)) 3, 4, "l13_pend.go:25", #[⟨14, .data⟩, ⟨7, .guard⟩], some (7, false)⟩,
   ⟨some 26, .pick (.tmp 17) (.const (Value.bool true)) (.tmp 25), 4, "l13_pend.go:25", #[⟨7, .data⟩, ⟨15, .data⟩], none⟩,
   ⟨some 27, .move (.tmp 26), 4, "l13_pend.go:25", #[⟨16, .data⟩, ⟨7, .chain⟩], none⟩,
   ⟨some 28, .move (.tmp 0), 35, "l13_pend.go:25", #[⟨17, .guard⟩], some (17, false)⟩,
   ⟨some 29, .move (.tmp 3), 3, "l13_pend.go:25", #[⟨17, .guard⟩], some (17, false)⟩,
   ⟨some 30, .indexAddr 35 (.tmp 28) (.tmp 29), 0, "l13_pend.go:25", #[⟨18, .data⟩, ⟨19, .data⟩, ⟨17, .guard⟩], some (17, false)⟩,
   ⟨some 31, .fieldAddr 101 (.tmp 30) 1, 0, "l13_pend.go:25", #[⟨20, .data⟩, ⟨17, .guard⟩], some (17, false)⟩,
   ⟨some 32, .load 68 (.tmp 31), 68, "l13_pend.go:25", #[⟨21, .data⟩, ⟨17, .guard⟩], some (17, false)⟩,
   ⟨some 33, .call ⟨.value (.func 75), #[.tmp 32], #[68]⟩, 4, "l13_pend.go:25", #[⟨22, .data⟩, ⟨17, .chain⟩, ⟨17, .guard⟩], some (17, false)⟩,
   ⟨some 34, .unOp UnOp.not 4 (.tmp 33), 4, "l13_pend.go:25", #[⟨23, .data⟩, ⟨17, .guard⟩], some (17, false)⟩,
   ⟨some 35, .pick (.tmp 27) (.const (Value.bool true)) (.tmp 34), 4, "l13_pend.go:25", #[⟨17, .data⟩, ⟨24, .data⟩], none⟩,
   ⟨some 36, .move (.tmp 35), 4, "l13_pend.go:25", #[⟨25, .data⟩, ⟨23, .chain⟩], none⟩,
   ⟨some 37, .move (.tmp 0), 35, "l13_pend.go:25", #[⟨26, .guard⟩], some (26, false)⟩,
   ⟨some 38, .move (.tmp 3), 3, "l13_pend.go:25", #[⟨26, .guard⟩], some (26, false)⟩,
   ⟨some 39, .indexAddr 35 (.tmp 37) (.tmp 38), 0, "l13_pend.go:25", #[⟨27, .data⟩, ⟨28, .data⟩, ⟨26, .guard⟩], some (26, false)⟩,
   ⟨some 40, .fieldAddr 101 (.tmp 39) 2, 0, "l13_pend.go:25", #[⟨29, .data⟩, ⟨26, .guard⟩], some (26, false)⟩,
   ⟨some 41, .load 3 (.tmp 40), 3, "l13_pend.go:25", #[⟨30, .data⟩, ⟨26, .guard⟩], some (26, false)⟩,
   ⟨some 42, .call ⟨.value (.func 76), #[.tmp 41, .const (Value.int IntKind.i64 0), .const (Value.int IntKind.i64 100000)], #[3, 3, 3]⟩, 4, "l13_pend.go:25", #[⟨31, .data⟩, ⟨26, .chain⟩, ⟨26, .guard⟩], some (26, false)⟩,
   ⟨some 43, .unOp UnOp.not 4 (.tmp 42), 4, "l13_pend.go:25", #[⟨32, .data⟩, ⟨26, .guard⟩], some (26, false)⟩,
   ⟨some 44, .pick (.tmp 36) (.const (Value.bool true)) (.tmp 43), 4, "l13_pend.go:25", #[⟨26, .data⟩, ⟨33, .data⟩], none⟩,
   ⟨some 45, .move (.tmp 44), 4, "l13_pend.go:25", #[⟨34, .data⟩, ⟨32, .chain⟩], none⟩,
   ⟨some 46, .move (.tmp 0), 35, "l13_pend.go:25", #[⟨35, .guard⟩], some (35, false)⟩,
   ⟨some 47, .move (.tmp 3), 3, "l13_pend.go:25", #[⟨35, .guard⟩], some (35, false)⟩,
   ⟨some 48, .slice 35 (.tmp 46) none (some (.tmp 47)) none, 35, "l13_pend.go:25", #[⟨36, .data⟩, ⟨37, .data⟩, ⟨35, .guard⟩], some (35, false)⟩,
   ⟨some 49, .move (.tmp 0), 35, "l13_pend.go:25", #[⟨35, .guard⟩], some (35, false)⟩,
   ⟨some 50, .move (.tmp 3), 3, "l13_pend.go:25", #[⟨35, .guard⟩], some (35, false)⟩,
   ⟨some 51, .indexAddr 35 (.tmp 49) (.tmp 50), 0, "l13_pend.go:25", #[⟨39, .data⟩, ⟨40, .data⟩, ⟨35, .guard⟩], some (35, false)⟩,
   ⟨some 52, .fieldAddr 101 (.tmp 51) 0, 0, "l13_pend.go:25", #[⟨41, .data⟩, ⟨35, .guard⟩], some (35, false)⟩,
   ⟨some 53, .load 27 (.tmp 52), 27, "l13_pend.go:25", #[⟨42, .data⟩, ⟨35, .guard⟩], some (35, false)⟩,
   ⟨some 54, .call ⟨.value (.func 77), #[.tmp 48, .tmp 53], #[35, 27]⟩, 3, "l13_pend.go:25", #[⟨38, .data⟩, ⟨43, .data⟩, ⟨35, .chain⟩, ⟨35, .guard⟩], some (35, false)⟩,
   ⟨some 55, .binOp BinOp.geq 3 (.tmp 54) (.const (Value.int IntKind.i64 0)) 3, 4, "l13_pend.go:25", #[⟨44, .data⟩, ⟨35, .guard⟩], some (35, false)⟩,
   ⟨some 56, .pick (.tmp 45) (.const (Value.bool true)) (.tmp 55), 4, "l13_pend.go:25", #[⟨35, .data⟩, ⟨45, .data⟩], none⟩] true).wp Try.prog Q ⟨#[.slice (some ⟨b, off, none⟩) n c, v1, v2, .int .i64 k, v4, v5, v6, v7, v8, v9, v10, v11, v12, v13, v14, v15, v16, v17, v18, v19, v20, v21, v22, v23, v24, v25, v26, v27, v28, v29, v30, v31, v32, v33, v34, v35, v36, v37, v38, v39, v40, v41, v42, v43, v44, v45, v46, v47, v48, v49, v50, v51, v52, v53, v54, v55, v56, v57, v58, v59], []⟩ w := by
 have HQ := Lib.hid hQ; clear hQ
 have hdr : Below w.heap.size w w.drew := (Below.refl _ _).drew
 have BB := Lib.hid hdr
 refine wp_region_noPanic ?_
 refine wp_region_held_drew (S := (fun w' => w'.cell? ⟨b, off + k * 3, none⟩ = some (.slice x0 n0 c0))) (by kernel_rfl) ?_ (fun hHeld => ?_)
 ·
  exact kc K0.out BB.out
 clear hdr
 generalize w.drew = wd at *
 refine wpAnyH_take (i := 0) (oi := ⟨some 10, .move (.tmp 0), 35, "l13_pend.go:25", #[], none⟩) (v := ?_) rfl (by kernel_rfl) (by kernel_rfl) (by kernel_rfl) (fun _ _ _ h => h) (Or.inl ⟨by rfl, ?_⟩) (by assumption) ?_
 rotate_left
 ·
  intro w' hSw; (try dsimp only at hSw); first | (go_simp; done) | (go_simp; with_reducible rfl)
 (try simp only [Act.put, Row.pB0, Row.pB1, Row.pB2])
 refine wpAnyH_take (i := 1) (oi := ⟨some 11, .move (.tmp 3), 3, "l13_pend.go:25", #[], none⟩) (v := ?_) rfl (by kernel_rfl) (by kernel_rfl) (by kernel_rfl) (fun _ _ _ h => h) (Or.inl ⟨by rfl, ?_⟩) (by assumption) ?_
 rotate_left
 ·
  intro w' hSw; (try dsimp only at hSw); first | (go_simp; done) | (go_simp; with_reducible rfl)
 (try simp only [Act.put, Row.pB0, Row.pB1, Row.pB2])
 refine wpAnyH_take (i := 2) (oi := ⟨some 12, .indexAddr 35 (.tmp 10) (.tmp 11), 0, "l13_pend.go:25", #[⟨0, .data⟩, ⟨1, .data⟩], none⟩) (v := ?_) rfl (by kernel_rfl) (by kernel_rfl) (by kernel_rfl) (fun _ _ _ h => h) (Or.inl ⟨by rfl, ?_⟩) (by assumption) ?_
 rotate_left
 ·
  intro w' hSw; (try dsimp only at hSw); first | (go_simp; done) | (go_simp; with_reducible rfl)
 (try simp only [Act.put, Row.pB0, Row.pB1, Row.pB2])
 refine wpAnyH_take (i := 3) (oi := ⟨some 13, .fieldAddr 101 (.tmp 12) 0, 0, "l13_pend.go:25", #[⟨2, .data⟩], none⟩) (v := ?_) rfl (by kernel_rfl) (by kernel_rfl) (by kernel_rfl) (fun _ _ _ h => h) (Or.inl ⟨by rfl, ?_⟩) (by assumption) ?_
 rotate_left
 ·
  intro w' hSw; (try dsimp only at hSw); first | (go_simp; done) | (go_simp; with_reducible rfl)
 (try simp only [Act.put, Row.pB0, Row.pB1, Row.pB2])
 refine wpAnyH_take (i := 4) (oi := ⟨some 14, .load 27 (.tmp 13), 27, "l13_pend.go:25", #[⟨3, .data⟩], none⟩) (v := ?_) rfl (by kernel_rfl) (by kernel_rfl) (by kernel_rfl) (fun _ _ _ h => h) (Or.inl ⟨by rfl, ?_⟩) (by assumption) ?_
 rotate_left
 ·
  intro w' hSw; (try dsimp only at hSw); first | (go_simp; done) | (go_simp; with_reducible rfl)
 (try simp only [Act.put, Row.pB0, Row.pB1, Row.pB2])
 refine wpAnyH_ready (rs := [5]) (by kernel_rfl) (by simp) ?_
 refine AllReadyH.cons (o := ⟨some 15, .call ⟨.value (.func 74), #[.tmp 14], #[27]⟩, 4, "l13_pend.go:25", #[⟨4, .data⟩], none⟩) rfl (fun K hK => ?_) AllReadyH.nil
 go_simp
 refine (sValN true HV.out (H_m.out.on BB.out) (Nat.le_trans HMB.out (by decide))).mono ?_
 rintro e wn1 ⟨rfl, hb⟩
 replace BB := Lib.hid (BB.out.trans (hb.mono BB.out.size))
 clear hb
 (try go_wp2_with fail)
 clear hHeld
 refine hK.out _ _ ?_ (fun hHeld => ?_)
 ·
  (try dsimp only); exact kc K0.out BB.out
 clear hK K
 (try simp only [Act.put, Row.pB0, Row.pB1, Row.pB2])
 refine wpAnyH_take (i := 6) (oi := ⟨some 16, .unOp UnOp.not 4 (.tmp 15), 4, "l13_pend.go:25", #[⟨5, .data⟩], none⟩) (v := ?_) rfl (by kernel_rfl) (by kernel_rfl) (by kernel_rfl) (fun _ _ _ h => h) (Or.inl ⟨by rfl, ?_⟩) (by assumption) ?_
 rotate_left
 ·
  intro w' hSw; (try dsimp only at hSw); first | (go_simp; done) | (go_simp; with_reducible rfl)
 (try simp only [Act.put, Row.pB0, Row.pB1, Row.pB2])
 refine wpAnyH_take (i := 7) (oi := ⟨some 17, .move (.tmp 16), 4, "l13_pend.go:25", #[⟨6, .data⟩, ⟨5, .chain⟩], none⟩) (v := ?_) rfl (by kernel_rfl) (by kernel_rfl) (by kernel_rfl) (fun _ _ _ h => h) (Or.inl ⟨by rfl, ?_⟩) (by assumption) ?_
 rotate_left
 ·
  intro w' hSw; (try dsimp only at hSw); first | (go_simp; done) | (go_simp; with_reducible rfl)
 (try simp only [Act.put, Row.pB0, Row.pB1, Row.pB2])
 refine wpAnyH_take (i := 8) (oi := ⟨some 18, .move (.tmp 0), 35, "l13_pend.go:25", #[⟨7, .guard⟩], some (7, false)⟩) (v := ?_) rfl (by kernel_rfl) (by kernel_rfl) (by kernel_rfl) (fun _ _ _ h => h) (Or.inl ⟨by rfl, ?_⟩) (by assumption) ?_
 rotate_left
 ·
  intro w' hSw; (try dsimp only at hSw); first | (go_simp; done) | (go_simp; with_reducible rfl)
 (try simp only [Act.put, Row.pB0, Row.pB1, Row.pB2])
 refine wpAnyH_take (i := 9) (oi := ⟨some 19, .move (.tmp 3), 3, "l13_pend.go:25", #[⟨7, .guard⟩], some (7, false)⟩) (v := ?_) rfl (by kernel_rfl) (by kernel_rfl) (by kernel_rfl) (fun _ _ _ h => h) (Or.inl ⟨by rfl, ?_⟩) (by assumption) ?_
 rotate_left
 ·
  intro w' hSw; (try dsimp only at hSw); first | (go_simp; done) | (go_simp; with_reducible rfl)
 (try simp only [Act.put, Row.pB0, Row.pB1, Row.pB2])
 refine wpAnyH_take (i := 10) (oi := ⟨some 20, .indexAddr 35 (.tmp 18) (.tmp 19), 0, "l13_pend.go:25", #[⟨8, .data⟩, ⟨9, .data⟩, ⟨7, .guard⟩], some (7, false)⟩) (v := ?_) rfl (by kernel_rfl) (by kernel_rfl) (by kernel_rfl) (fun _ _ _ h => h) (Or.inl ⟨by rfl, ?_⟩) (by assumption) ?_
 rotate_left
 ·
  intro w' hSw; (try dsimp only at hSw); first | (go_simp; done) | (go_simp; with_reducible rfl)
 (try simp only [Act.put, Row.pB0, Row.pB1, Row.pB2])
 refine wpAnyH_take (i := 11) (oi := ⟨some 21, .fieldAddr 101 (.tmp 20) 0, 0, "l13_pend.go:25", #[⟨10, .data⟩, ⟨7, .guard⟩], some (7, false)⟩) (v := ?_) rfl (by kernel_rfl) (by kernel_rfl) (by kernel_rfl) (fun _ _ _ h => h) (Or.inl ⟨by rfl, ?_⟩) (by assumption) ?_
 rotate_left
 ·
  intro w' hSw; (try dsimp only at hSw); first | (go_simp; done) | (go_simp; with_reducible rfl)
 (try simp only [Act.put, Row.pB0, Row.pB1, Row.pB2])
 refine wpAnyH_take (i := 12) (oi := ⟨some 22, .fieldAddr 27 (.tmp 21) 0, 0, "l13_pend.go:25", #[⟨11, .data⟩, ⟨7, .guard⟩], some (7, false)⟩) (v := ?_) rfl (by kernel_rfl) (by kernel_rfl) (by kernel_rfl) (fun _ _ _ h => h) (Or.inl ⟨by rfl, ?_⟩) (by assumption) ?_
 rotate_left
 ·
  intro w' hSw; (try dsimp only at hSw); first | (go_simp; done) | (go_simp; with_reducible rfl)
 (try simp only [Act.put, Row.pB0, Row.pB1, Row.pB2])
 refine wpAnyH_take (i := 13) (oi := ⟨some 23, .load 25 (.tmp 22), 25, "l13_pend.go:25", #[⟨12, .data⟩, ⟨7, .guard⟩], some (7, false)⟩) (v := ?_) rfl (by kernel_rfl) (by kernel_rfl) (by kernel_rfl) (fun _ _ _ h => h) (Or.inl ⟨by rfl, ?_⟩) (by assumption) ?_
 rotate_left
 ·
  intro w' hSw; (try dsimp only at hSw); first | (go_simp; done) | (go_simp; with_reducible rfl)
 (try simp only [Act.put, Row.pB0, Row.pB1, Row.pB2])
 refine wpAnyH_take (i := 14) (oi := ⟨some 24, .call ⟨.builtin .len, #[.tmp 23], #[25]⟩, 3, "l13_pend.go:25", #[⟨13, .data⟩, ⟨7, .guard⟩], some (7, false)⟩) (v := ?_) rfl (by kernel_rfl) (by kernel_rfl) (by kernel_rfl) (fun _ _ _ h => h) (Or.inl ⟨by rfl, ?_⟩) (by assumption) ?_
 rotate_left
 ·
  intro w' hSw; (try dsimp only at hSw); first | (go_simp; done) | (go_simp; with_reducible rfl)
 (try simp only [Act.put, Row.pB0, Row.pB1, Row.pB2])
 refine wpAnyH_take (i := 15) (oi := ⟨some 25, .binOp BinOp.eql 3 (.tmp 24) (.const (Value.int IntKind.i64 0)) 3, 4, "l13_pend.go:25", #[⟨14, .data⟩, ⟨7, .guard⟩], some (7, false)⟩) (v := ?_) rfl (by kernel_rfl) (by kernel_rfl) (by kernel_rfl) (fun _ _ _ h => h) (Or.inl ⟨by rfl, ?_⟩) (by assumption) ?_
 rotate_left
 ·
  intro w' hSw; (try dsimp only at hSw); first | (go_simp; done) | (go_simp; with_reducible rfl)
 (try simp only [Act.put, Row.pB0, Row.pB1, Row.pB2])
 refine wpAnyH_take (i := 16) (oi := ⟨some 26, .pick (.tmp 17) (.const (Value.bool true)) (.tmp 25), 4, "l13_pend.go:25", #[⟨7, .data⟩, ⟨15, .data⟩], none⟩) (v := ?_) rfl (by kernel_rfl) (by kernel_rfl) (by kernel_rfl) (fun _ _ _ h => h) (Or.inl ⟨by rfl, ?_⟩) (by assumption) ?_
 rotate_left
 ·
  intro w' hSw; (try dsimp only at hSw); first | (go_simp; done) | (go_simp; with_reducible rfl)
 (try simp only [Act.put, Row.pB0, Row.pB1, Row.pB2])
 refine wpAnyH_take (i := 17) (oi := ⟨some 27, .move (.tmp 26), 4, "l13_pend.go:25", #[⟨16, .data⟩, ⟨7, .chain⟩], none⟩) (v := ?_) rfl (by kernel_rfl) (by kernel_rfl) (by kernel_rfl) (fun _ _ _ h => h) (Or.inl ⟨by rfl, ?_⟩) (by assumption) ?_
 rotate_left
 ·
  intro w' hSw; (try dsimp only at hSw); first | (go_simp; done) | (go_simp; with_reducible rfl)
 (try simp only [Act.put, Row.pB0, Row.pB1, Row.pB2])
 refine wpAnyH_take (i := 18) (oi := ⟨some 28, .move (.tmp 0), 35, "l13_pend.go:25", #[⟨17, .guard⟩], some (17, false)⟩) (v := undef) rfl (by kernel_rfl) (by kernel_rfl) (by kernel_rfl) (fun _ _ _ h => h) (Or.inr ⟨by rfl, rfl⟩) (by assumption) ?_
 (try simp only [Act.put, Row.pB0, Row.pB1, Row.pB2])
 refine wpAnyH_take (i := 19) (oi := ⟨some 29, .move (.tmp 3), 3, "l13_pend.go:25", #[⟨17, .guard⟩], some (17, false)⟩) (v := undef) rfl (by kernel_rfl) (by kernel_rfl) (by kernel_rfl) (fun _ _ _ h => h) (Or.inr ⟨by rfl, rfl⟩) (by assumption) ?_
 (try simp only [Act.put, Row.pB0, Row.pB1, Row.pB2])
 refine wpAnyH_take (i := 20) (oi := ⟨some 30, .indexAddr 35 (.tmp 28) (.tmp 29), 0, "l13_pend.go:25", #[⟨18, .data⟩, ⟨19, .data⟩, ⟨17, .guard⟩], some (17, false)⟩) (v := undef) rfl (by kernel_rfl) (by kernel_rfl) (by kernel_rfl) (fun _ _ _ h => h) (Or.inr ⟨by rfl, rfl⟩) (by assumption) ?_
 (try simp only [Act.put, Row.pB0, Row.pB1, Row.pB2])
 refine wpAnyH_take (i := 21) (oi := ⟨some 31, .fieldAddr 101 (.tmp 30) 1, 0, "l13_pend.go:25", #[⟨20, .data⟩, ⟨17, .guard⟩], some (17, false)⟩) (v := undef) rfl (by kernel_rfl) (by kernel_rfl) (by kernel_rfl) (fun _ _ _ h => h) (Or.inr ⟨by rfl, rfl⟩) (by assumption) ?_
 (try simp only [Act.put, Row.pB0, Row.pB1, Row.pB2])
 refine wpAnyH_take (i := 22) (oi := ⟨some 32, .load 68 (.tmp 31), 68, "l13_pend.go:25", #[⟨21, .data⟩, ⟨17, .guard⟩], some (17, false)⟩) (v := undef) rfl (by kernel_rfl) (by kernel_rfl) (by kernel_rfl) (fun _ _ _ h => h) (Or.inr ⟨by rfl, rfl⟩) (by assumption) ?_
 (try simp only [Act.put, Row.pB0, Row.pB1, Row.pB2])
 refine wpAnyH_take (i := 23) (oi := ⟨some 33, .call ⟨.value (.func 75), #[.tmp 32], #[68]⟩, 4, "l13_pend.go:25", #[⟨22, .data⟩, ⟨17, .chain⟩, ⟨17, .guard⟩], some (17, false)⟩) (v := undef) rfl (by kernel_rfl) (by kernel_rfl) (by kernel_rfl) (fun _ _ _ h => h) (Or.inr ⟨by rfl, rfl⟩) (by assumption) ?_
 (try simp only [Act.put, Row.pB0, Row.pB1, Row.pB2])
 refine wpAnyH_take (i := 24) (oi := ⟨some 34, .unOp UnOp.not 4 (.tmp 33), 4, "l13_pend.go:25", #[⟨23, .data⟩, ⟨17, .guard⟩], some (17, false)⟩) (v := undef) rfl (by kernel_rfl) (by kernel_rfl) (by kernel_rfl) (fun _ _ _ h => h) (Or.inr ⟨by rfl, rfl⟩) (by assumption) ?_
 (try simp only [Act.put, Row.pB0, Row.pB1, Row.pB2])
 refine wpAnyH_take (i := 25) (oi := ⟨some 35, .pick (.tmp 27) (.const (Value.bool true)) (.tmp 34), 4, "l13_pend.go:25", #[⟨17, .data⟩, ⟨24, .data⟩], none⟩) (v := ?_) rfl (by kernel_rfl) (by kernel_rfl) (by kernel_rfl) (fun _ _ _ h => h) (Or.inl ⟨by rfl, ?_⟩) (by assumption) ?_
 rotate_left
 ·
  intro w' hSw; (try dsimp only at hSw); first | (go_simp; done) | (go_simp; with_reducible rfl)
 (try simp only [Act.put, Row.pB0, Row.pB1, Row.pB2])
 refine wpAnyH_take (i := 26) (oi := ⟨some 36, .move (.tmp 35), 4, "l13_pend.go:25", #[⟨25, .data⟩, ⟨23, .chain⟩], none⟩) (v := ?_) rfl (by kernel_rfl) (by kernel_rfl) (by kernel_rfl) (fun _ _ _ h => h) (Or.inl ⟨by rfl, ?_⟩) (by assumption) ?_
 rotate_left
 ·
  intro w' hSw; (try dsimp only at hSw); first | (go_simp; done) | (go_simp; with_reducible rfl)
 (try simp only [Act.put, Row.pB0, Row.pB1, Row.pB2])
 refine wpAnyH_take (i := 27) (oi := ⟨some 37, .move (.tmp 0), 35, "l13_pend.go:25", #[⟨26, .guard⟩], some (26, false)⟩) (v := undef) rfl (by kernel_rfl) (by kernel_rfl) (by kernel_rfl) (fun _ _ _ h => h) (Or.inr ⟨by rfl, rfl⟩) (by assumption) ?_
 (try simp only [Act.put, Row.pB0, Row.pB1, Row.pB2])
 refine wpAnyH_take (i := 28) (oi := ⟨some 38, .move (.tmp 3), 3, "l13_pend.go:25", #[⟨26, .guard⟩], some (26, false)⟩) (v := undef) rfl (by kernel_rfl) (by kernel_rfl) (by kernel_rfl) (fun _ _ _ h => h) (Or.inr ⟨by rfl, rfl⟩) (by assumption) ?_
 (try simp only [Act.put, Row.pB0, Row.pB1, Row.pB2])
 refine wpAnyH_take (i := 29) (oi := ⟨some 39, .indexAddr 35 (.tmp 37) (.tmp 38), 0, "l13_pend.go:25", #[⟨27, .data⟩, ⟨28, .data⟩, ⟨26, .guard⟩], some (26, false)⟩) (v := undef) rfl (by kernel_rfl) (by kernel_rfl) (by kernel_rfl) (fun _ _ _ h => h) (Or.inr ⟨by rfl, rfl⟩) (by assumption) ?_
 (try simp only [Act.put, Row.pB0, Row.pB1, Row.pB2])
 refine wpAnyH_take (i := 30) (oi := ⟨some 40, .fieldAddr 101 (.tmp 39) 2, 0, "l13_pend.go:25", #[⟨29, .data⟩, ⟨26, .guard⟩], some (26, false)⟩) (v := undef) rfl (by kernel_rfl) (by kernel_rfl) (by kernel_rfl) (fun _ _ _ h => h) (Or.inr ⟨by rfl, rfl⟩) (by assumption) ?_
 (try simp only [Act.put, Row.pB0, Row.pB1, Row.pB2])
 refine wpAnyH_take (i := 31) (oi := ⟨some 41, .load 3 (.tmp 40), 3, "l13_pend.go:25", #[⟨30, .data⟩, ⟨26, .guard⟩], some (26, false)⟩) (v := undef) rfl (by kernel_rfl) (by kernel_rfl) (by kernel_rfl) (fun _ _ _ h => h) (Or.inr ⟨by rfl, rfl⟩) (by assumption) ?_
 (try simp only [Act.put, Row.pB0, Row.pB1, Row.pB2])
 refine wpAnyH_take (i := 32) (oi := ⟨some 42, .call ⟨.value (.func 76), #[.tmp 41, .const (Value.int IntKind.i64 0), .const (Value.int IntKind.i64 100000)], #[3, 3, 3]⟩, 4, "l13_pend.go:25", #[⟨31, .data⟩, ⟨26, .chain⟩, ⟨26, .guard⟩], some (26, false)⟩) (v := undef) rfl (by kernel_rfl) (by kernel_rfl) (by kernel_rfl) (fun _ _ _ h => h) (Or.inr ⟨by rfl, rfl⟩) (by assumption) ?_
 (try simp only [Act.put, Row.pB0, Row.pB1, Row.pB2])
 refine wpAnyH_take (i := 33) (oi := ⟨some 43, .unOp UnOp.not 4 (.tmp 42), 4, "l13_pend.go:25", #[⟨32, .data⟩, ⟨26, .guard⟩], some (26, false)⟩) (v := undef) rfl (by kernel_rfl) (by kernel_rfl) (by kernel_rfl) (fun _ _ _ h => h) (Or.inr ⟨by rfl, rfl⟩) (by assumption) ?_
 (try simp only [Act.put, Row.pB0, Row.pB1, Row.pB2])
 refine wpAnyH_take (i := 34) (oi := ⟨some 44, .pick (.tmp 36) (.const (Value.bool true)) (.tmp 43), 4, "l13_pend.go:25", #[⟨26, .data⟩, ⟨33, .data⟩], none⟩) (v := ?_) rfl (by kernel_rfl) (by kernel_rfl) (by kernel_rfl) (fun _ _ _ h => h) (Or.inl ⟨by rfl, ?_⟩) (by assumption) ?_
 rotate_left
 ·
  intro w' hSw; (try dsimp only at hSw); first | (go_simp; done) | (go_simp; with_reducible rfl)
 (try simp only [Act.put, Row.pB0, Row.pB1, Row.pB2])
 refine wpAnyH_take (i := 35) (oi := ⟨some 45, .move (.tmp 44), 4, "l13_pend.go:25", #[⟨34, .data⟩, ⟨32, .chain⟩], none⟩) (v := ?_) rfl (by kernel_rfl) (by kernel_rfl) (by kernel_rfl) (fun _ _ _ h => h) (Or.inl ⟨by rfl, ?_⟩) (by assumption) ?_
 rotate_left
 ·
  intro w' hSw; (try dsimp only at hSw); first | (go_simp; done) | (go_simp; with_reducible rfl)
 (try simp only [Act.put, Row.pB0, Row.pB1, Row.pB2])
 refine wpAnyH_take (i := 36) (oi := ⟨some 46, .move (.tmp 0), 35, "l13_pend.go:25", #[⟨35, .guard⟩], some (35, false)⟩) (v := undef) rfl (by kernel_rfl) (by kernel_rfl) (by kernel_rfl) (fun _ _ _ h => h) (Or.inr ⟨by rfl, rfl⟩) (by assumption) ?_
 (try simp only [Act.put, Row.pB0, Row.pB1, Row.pB2])
 refine wpAnyH_take (i := 37) (oi := ⟨some 47, .move (.tmp 3), 3, "l13_pend.go:25", #[⟨35, .guard⟩], some (35, false)⟩) (v := undef) rfl (by kernel_rfl) (by kernel_rfl) (by kernel_rfl) (fun _ _ _ h => h) (Or.inr ⟨by rfl, rfl⟩) (by assumption) ?_
 (try simp only [Act.put, Row.pB0, Row.pB1, Row.pB2])
 refine wpAnyH_take (i := 38) (oi := ⟨some 48, .slice 35 (.tmp 46) none (some (.tmp 47)) none, 35, "l13_pend.go:25", #[⟨36, .data⟩, ⟨37, .data⟩, ⟨35, .guard⟩], some (35, false)⟩) (v := undef) rfl (by kernel_rfl) (by kernel_rfl) (by kernel_rfl) (fun _ _ _ h => h) (Or.inr ⟨by rfl, rfl⟩) (by assumption) ?_
 (try simp only [Act.put, Row.pB0, Row.pB1, Row.pB2])
 refine wpAnyH_take (i := 39) (oi := ⟨some 49, .move (.tmp 0), 35, "l13_pend.go:25", #[⟨35, .guard⟩], some (35, false)⟩) (v := undef) rfl (by kernel_rfl) (by kernel_rfl) (by kernel_rfl) (fun _ _ _ h => h) (Or.inr ⟨by rfl, rfl⟩) (by assumption) ?_
 (try simp only [Act.put, Row.pB0, Row.pB1, Row.pB2])
 refine wpAnyH_take (i := 40) (oi := ⟨some 50, .move (.tmp 3), 3, "l13_pend.go:25", #[⟨35, .guard⟩], some (35, false)⟩) (v := undef) rfl (by kernel_rfl) (by kernel_rfl) (by kernel_rfl) (fun _ _ _ h => h) (Or.inr ⟨by rfl, rfl⟩) (by assumption) ?_
 (try simp only [Act.put, Row.pB0, Row.pB1, Row.pB2])
 refine wpAnyH_take (i := 41) (oi := ⟨some 51, .indexAddr 35 (.tmp 49) (.tmp 50), 0, "l13_pend.go:25", #[⟨39, .data⟩, ⟨40, .data⟩, ⟨35, .guard⟩], some (35, false)⟩) (v := undef) rfl (by kernel_rfl) (by kernel_rfl) (by kernel_rfl) (fun _ _ _ h => h) (Or.inr ⟨by rfl, rfl⟩) (by assumption) ?_
 (try simp only [Act.put, Row.pB0, Row.pB1, Row.pB2])
 refine wpAnyH_take (i := 42) (oi := ⟨some 52, .fieldAddr 101 (.tmp 51) 0, 0, "l13_pend.go:25", #[⟨41, .data⟩, ⟨35, .guard⟩], some (35, false)⟩) (v := undef) rfl (by kernel_rfl) (by kernel_rfl) (by kernel_rfl) (fun _ _ _ h => h) (Or.inr ⟨by rfl, rfl⟩) (by assumption) ?_
 (try simp only [Act.put, Row.pB0, Row.pB1, Row.pB2])
 refine wpAnyH_take (i := 43) (oi := ⟨some 53, .load 27 (.tmp 52), 27, "l13_pend.go:25", #[⟨42, .data⟩, ⟨35, .guard⟩], some (35, false)⟩) (v := undef) rfl (by kernel_rfl) (by kernel_rfl) (by kernel_rfl) (fun _ _ _ h => h) (Or.inr ⟨by rfl, rfl⟩) (by assumption) ?_
 (try simp only [Act.put, Row.pB0, Row.pB1, Row.pB2])
 refine wpAnyH_take (i := 44) (oi := ⟨some 54, .call ⟨.value (.func 77), #[.tmp 48, .tmp 53], #[35, 27]⟩, 3, "l13_pend.go:25", #[⟨38, .data⟩, ⟨43, .data⟩, ⟨35, .chain⟩, ⟨35, .guard⟩], some (35, false)⟩) (v := undef) rfl (by kernel_rfl) (by kernel_rfl) (by kernel_rfl) (fun _ _ _ h => h) (Or.inr ⟨by rfl, rfl⟩) (by assumption) ?_
 (try simp only [Act.put, Row.pB0, Row.pB1, Row.pB2])
 refine wpAnyH_take (i := 45) (oi := ⟨some 55, .binOp BinOp.geq 3 (.tmp 54) (.const (Value.int IntKind.i64 0)) 3, 4, "l13_pend.go:25", #[⟨44, .data⟩, ⟨35, .guard⟩], some (35, false)⟩) (v := undef) rfl (by kernel_rfl) (by kernel_rfl) (by kernel_rfl) (fun _ _ _ h => h) (Or.inr ⟨by rfl, rfl⟩) (by assumption) ?_
 (try simp only [Act.put, Row.pB0, Row.pB1, Row.pB2])
 refine wpAnyH_take (i := 46) (oi := ⟨some 56, .pick (.tmp 45) (.const (Value.bool true)) (.tmp 55), 4, "l13_pend.go:25", #[⟨35, .data⟩, ⟨45, .data⟩], none⟩) (v := ?_) rfl (by kernel_rfl) (by kernel_rfl) (by kernel_rfl) (fun _ _ _ h => h) (Or.inl ⟨by rfl, ?_⟩) (by assumption) ?_
 rotate_left
 ·
  intro w' hSw; (try dsimp only at hSw); first | (go_simp; done) | (go_simp; with_reducible rfl)
 (try simp only [Act.put, Row.pB0, Row.pB1, Row.pB2])
 refine wpAnyH_done (by kernel_rfl) ?_ _
 exact NoPanic.normal (HQ.out _ _ _ _ _ _ _ _ _ _ _ _ _ _ _ _ _ _ _ _ _ _ _ _ _ _ _ _ _ _ _ _ _ _ _ _ _ _ _ _ _ _ _ _ _ _  _  BB.out)
set_option maxRecDepth 100000 in
set_option maxHeartbeats 4000000 in
theorem rvp2 {Q : Exit → Act → World → Prop} {v1 v2 v4 v5 v6 v7 v8 v9 v10 v11 v12 v13 v14 v15 v16 v17 v18 v19 v20 v21 v22 v23 v24 v25 v26 v27 v28 v29 v30 v31 v32 v33 v34 v35 v36 v37 v38 v39 v40 v41 v42 v43 v44 v45 v46 v47 v48 v49 v50 v51 v52 v53 v54 v55 v56 v57 v58 v59 : Value} {w : World} {b off n c k n0 c0 n1 c1 : Nat} {x0 x1 : Option Addr}  {m : List ByteArray} {rq : List Rqt}   (hk : k < n) (hkc : k ≤ c) (hn : n ≤ 9000000) (HV : Hid (validN m = true)) (H_m : Hid (kN.At w (.agg #[.slice x0 n0 c0]) m)) (HMB : Hid (bulk m ≤ 1200000)) (hn1 : ((n0 : Int) == 0) = false) (HYV : Hid (validQs rq = false)) (H_q : Hid (kLRq.At w (.slice x1 n1 c1) rq)) (HYB : Hid (rq.length ≤ 1200000)) (K0 : Hid (w.cell? ⟨b, off + k * 3, none⟩ = some (.slice x0 n0 c0))) (K1 : Hid (w.cell? ⟨b, off + k * 3 + 1, none⟩ = some (.slice x1 n1 c1)))
  (hQ : ∀ (u10 u11 u12 u13 u14 u15 u16 u17 u18 u19 u20 u21 u22 u23 u24 u25 u26 u27 u28 u29 u30 u31 u32 u33 u34 u35 u36 u37 u38 u39 u40 u41 u42 u43 u44 u45 u46 u47 u48 u49 u50 u51 u52 u53 u54 u55 : Value)  (wx : World), Below w.heap.size w wx → Q .normal ⟨#[.slice (some ⟨b, off, none⟩) n c, v1, v2, .int .i64 k, v4, v5, v6, v7, v8, v9, u10, u11, u12, u13, u14, u15, u16, u17, u18, u19, u20, u21, u22, u23, u24, u25, u26, u27, u28, u29, u30, u31, u32, u33, u34, u35, u36, u37, u38, u39, u40, u41, u42, u43, u44, u45, u46, u47, u48, u49, u50, u51, u52, u53, u54, u55, .bool true, v57, v58, v59], []⟩ wx) :
  (Code.region 4 #[⟨some 10, .move (.tmp 0), 35, "l13_pend.go:25", #[], none⟩,
   ⟨some 11, .move (.tmp 3), 3, "l13_pend.go:25", #[], none⟩,
   ⟨some 12, .indexAddr 35 (.tmp 10) (.tmp 11), 0, "l13_pend.go:25", #[⟨0, .data⟩, ⟨1, .data⟩], none⟩,
   ⟨some 13, .fieldAddr 101 (.tmp 12) 0, 0, "l13_pend.go:25", #[⟨2, .data⟩], none⟩,
   ⟨some 14, .load 27 (.tmp 13), 27, "l13_pend.go:25", #[⟨3, .data⟩], none⟩,
   ⟨some 15, .call ⟨.value (.func 74), #[.tmp 14], #[27]⟩, 4, "l13_pend.go:25", #[⟨4, .data⟩], none⟩,
   ⟨some 16, .unOp UnOp.not 4 (.tmp 15), 4, "l13_pend.go:25", #[⟨5, .data⟩], none⟩,
   ⟨some 17, .move (.tmp 16), 4, "l13_pend.go:25", #[⟨6, .data⟩, ⟨5, .chain⟩], none⟩,
   ⟨some 18, .move (.tmp 0), 35, "l13_pend.go:25", #[⟨7, .guard⟩], some (7, false)⟩,
   ⟨some 19, .move (.tmp 3), 3, "l13_pend.go:25", #[⟨7, .guard⟩], some (7, false)⟩,
   ⟨some 20, .indexAddr 35 (.tmp 18) (.tmp 19), 0, "l13_pend.go:25", #[⟨8, .data⟩, ⟨9, .data⟩, ⟨7, .guard⟩], some (7, false)⟩,
   ⟨some 21, .fieldAddr 101 (.tmp 20) 0, 0, "l13_pend.go:25", #[⟨10, .data⟩, ⟨7, .guard⟩], some (7, false)⟩,
   ⟨some 22, .fieldAddr 27 (.tmp 21) 0, 0, "l13_pend.go:25", #[⟨11, .data⟩, ⟨7, .guard⟩], some (7, false)⟩,
   ⟨some 23, .load 25 (.tmp 22), 25, "l13_pend.go:25", #[⟨12, .data⟩, ⟨7, .guard⟩], some (7, false)⟩,
   ⟨some 24, .call ⟨.builtin .len, #[.tmp 23], #[25]⟩, 3, "l13_pend.go:25", #[⟨13, .data⟩, ⟨7, .guard⟩], some (7, false)⟩,
   ⟨some 25, .binOp BinOp.eql 3 (.tmp 24) (.const (Value.int IntKind.i64 0)) 3, 4, "l13_pend.go:25", #[⟨14, .data⟩, ⟨7, .guard⟩], some (7, false)⟩,
   ⟨some 26, .pick (.tmp 17) (.const (Value.bool true)) (.tmp 25), 4, "l13_pend.go:25", #[⟨7, .data⟩, ⟨15, .data⟩], none⟩,
   ⟨some 27, .move (.tmp 26), 4, "l13_pend.go:25", #[⟨16, .data⟩, ⟨7, .chain⟩], none⟩,
   ⟨some 28, .move (.tmp 0), 35, "l13_pend.go:25", #[⟨17, .guard⟩], some (17, false)⟩,
   ⟨some 29, .move (.tmp 3), 3, "l13_pend.go:25", #[⟨17, .guard⟩], some (17, false)⟩,
   ⟨some 30, .indexAddr 35 (.tmp 28) (.tmp 29), 0, "l13_pend.go:25", #[⟨18, .data⟩, ⟨19, .data⟩, ⟨17, .guard⟩], some (17, false)⟩,
   ⟨some 31, .fieldAddr 101 (.tmp 30) 1, 0, "l13_pend.go:25", #[⟨20, .data⟩, ⟨17, .guard⟩], some (17, false)⟩,
   ⟨some 32, .load 68 (.tmp 31), 68, "l13_pend.go:25", #[⟨21, .data⟩, ⟨17, .guard⟩], some (17, false)⟩,
   ⟨some 33, .call ⟨.value (.func 75), #[.tmp 32], #[68]⟩, 4, "l13_pend.go:25", #[⟨22, .data⟩, ⟨17, .chain⟩, ⟨17, .guard⟩], some (17, false)⟩,
   ⟨some 34, .unOp UnOp.not 4 (.tmp 33), 4, "l13_pend.go:25", #[⟨23, .data⟩, ⟨17, .guard⟩], some (17, false)⟩,
   ⟨some 35, .pick (.tmp 27) (.const (Value.bool true)) (.tmp 34), 4, "l13_pend.go:25", #[⟨17, .data⟩, ⟨24, .data⟩], none⟩,
   ⟨some 36, .move (.tmp 35), 4, "l13_pend.go:25", #[⟨25, .data⟩, ⟨23, .chain⟩], none⟩,
   ⟨some 37, .move (.tmp 0), 35, "l13_pend.go:25", #[⟨26, .guard⟩], some (26, false)⟩,
   ⟨some 38, .move (.tmp 3), 3, "l13_pend.go:25", #[⟨26, .guard⟩], some (26, false)⟩,
   ⟨some 39, .indexAddr 35 (.tmp 37) (.tmp 38), 0, "l13_pend.go:25", #[⟨27, .data⟩, ⟨28, .data⟩, ⟨26, .guard⟩], some (26, false)⟩,
   ⟨some 40, .fieldAddr 101 (.tmp 39) 2, 0, "l13_pend.go:25", #[⟨29, .data⟩, ⟨26, .guard⟩], some (26, false)⟩,
   ⟨some 41, .load 3 (.tmp 40), 3, "l13_pend.go:25", #[⟨30, .data⟩, ⟨26, .guard⟩], some (26, false)⟩,
   ⟨some 42, .call ⟨.value (.func 76), #[.tmp 41, .const (Value.int IntKind.i64 0), .const (Value.int IntKind.i64 100000)], #[3, 3, 3]⟩, 4, "l13_pend.go:25", #[⟨31, .data⟩, ⟨26, .chain⟩, ⟨26, .guard⟩], some (26, false)⟩,
   ⟨some 43, .unOp UnOp.not 4 (.tmp 42), 4, "l13_pend.go:25", #[⟨32, .data⟩, ⟨26, .guard⟩], some (26, false)⟩,
   ⟨some 44, .pick (.tmp 36) (.const (Value.bool true)) (.tmp 43), 4, "l13_pend.go:25", #[⟨26, .data⟩, ⟨33, .data⟩], none⟩,
   ⟨some 45, .move (.tmp 44), 4, "l13_pend.go:25", #[⟨34, .data⟩, ⟨32, .chain⟩], none⟩,
   ⟨some 46, .move (.tmp 0), 35, "l13_pend.go:25", #[⟨35, .guard⟩], some (35, false)⟩,
   ⟨some 47, .move (.tmp 3), 3, "l13_pend.go:25", #[⟨35, .guard⟩], some (35, false)⟩,
   ⟨some 48, .slice 35 (.tmp 46) none (some (.tmp 47)) none, 35, "l13_pend.go:25", #[⟨36, .data⟩, ⟨37, .data⟩, ⟨35, .guard⟩], some (35, false)⟩,
   ⟨some 49, .move (.tmp 0), 35, "l13_pend.go:25", #[⟨35, .guard⟩], some (35, false)⟩,
   ⟨some 50, .move (.tmp 3), 3, "l13_pend.go:25", #[⟨35, .guard⟩], some (35, false)⟩,
   ⟨some 51, .indexAddr 35 (.tmp 49) (.tmp 50), 0, "l13_pend.go:25", #[⟨39, .data⟩, ⟨40, .data⟩, ⟨35, .guard⟩], some (35, false)⟩,
   ⟨some 52, .fieldAddr 101 (.tmp 51) 0, 0, "l13_pend.go:25", #[⟨41, .data⟩, ⟨35, .guard⟩], some (35, false)⟩,
   ⟨some 53, .load 27 (.tmp 52), 27, "l13_pend.go:25", #[⟨42, .data⟩, ⟨35, .guard⟩], some (35, false)⟩,
   ⟨some 54, .call ⟨.value (.func 77), #[.tmp 48, .tmp 53], #[35, 27]⟩, 3, "l13_pend.go:25", #[⟨38, .data⟩, ⟨43, .data⟩, ⟨35, .chain⟩, ⟨35, .guard⟩], some (35, false)⟩,
   ⟨some 55, .binOp BinOp.geq 3 (.tmp 54) (.const (Value.int IntKind.i64 0)) 3, 4, "l13_pend.go:25", #[⟨44, .data⟩, ⟨35, .guard⟩], some (35, false)⟩,
   ⟨some 56, .pick (.tmp 45) (.const (Value.bool true)) (.tmp 55), 4, "l13_pend.go:25", #[⟨35, .data⟩, ⟨45, .data⟩], none⟩] true).wp Try.prog Q ⟨#[.slice (some ⟨b, off, none⟩) n c, v1, v2, .int .i64 k, v4, v5, v6, v7, v8, v9, v10, v11, v12, v13, v14, v15, v16, v17, v18, v19, v20, v21, v22, v23, v24, v25, v26, v27, v28, v29, v30, v31, v32, v33, v34, v35, v36, v37, v38, v39, v40, v41, v42, v43, v44, v45, v46, v47, v48, v49, v50, v51, v52, v53, v54, v55, v56, v57, v58, v59], []⟩ w := by
 have HQ := Lib.hid hQ; clear hQ
 have hdr : Below w.heap.size w w.drew := (Below.refl _ _).drew
 have BB := Lib.hid hdr
 refine wp_region_noPanic ?_
 refine wp_region_held_drew (S := (fun w' => w'.cell? ⟨b, off + k * 3, none⟩ = some (.slice x0 n0 c0) ∧ w'.cell? ⟨b, off + k * 3 + 1, none⟩ = some (.slice x1 n1 c1))) (by kernel_rfl) ?_ (fun hHeld => ?_)
 ·
  exact ⟨kc K0.out BB.out, kc K1.out BB.out⟩
 clear hdr
 generalize w.drew = wd at *
 refine wpAnyH_take (i := 0) (oi := ⟨some 10, .move (.tmp 0), 35, "l13_pend.go:25", #[], none⟩) (v := ?_) rfl (by kernel_rfl) (by kernel_rfl) (by kernel_rfl) (fun _ _ _ h => h) (Or.inl ⟨by rfl, ?_⟩) (by assumption) ?_
 rotate_left
 ·
  intro w' hSw; (try dsimp only at hSw); first | (go_simp; done) | (go_simp; with_reducible rfl)
 (try simp only [Act.put, Row.pB0, Row.pB1, Row.pB2])
 refine wpAnyH_take (i := 1) (oi := ⟨some 11, .move (.tmp 3), 3, "l13_pend.go:25", #[], none⟩) (v := ?_) rfl (by kernel_rfl) (by kernel_rfl) (by kernel_rfl) (fun _ _ _ h => h) (Or.inl ⟨by rfl, ?_⟩) (by assumption) ?_
 rotate_left
 ·
  intro w' hSw; (try dsimp only at hSw); first | (go_simp; done) | (go_simp; with_reducible rfl)
 (try simp only [Act.put, Row.pB0, Row.pB1, Row.pB2])
 refine wpAnyH_take (i := 2) (oi := ⟨some 12, .indexAddr 35 (.tmp 10) (.tmp 11), 0, "l13_pend.go:25", #[⟨0, .data⟩, ⟨1, .data⟩], none⟩) (v := ?_) rfl (by kernel_rfl) (by kernel_rfl) (by kernel_rfl) (fun _ _ _ h => h) (Or.inl ⟨by rfl, ?_⟩) (by assumption) ?_
 rotate_left
 ·
  intro w' hSw; (try dsimp only at hSw); first | (go_simp; done) | (go_simp; with_reducible rfl)
 (try simp only [Act.put, Row.pB0, Row.pB1, Row.pB2])
 refine wpAnyH_take (i := 3) (oi := ⟨some 13, .fieldAddr 101 (.tmp 12) 0, 0, "l13_pend.go:25", #[⟨2, .data⟩], none⟩) (v := ?_) rfl (by kernel_rfl) (by kernel_rfl) (by kernel_rfl) (fun _ _ _ h => h) (Or.inl ⟨by rfl, ?_⟩) (by assumption) ?_
 rotate_left
 ·
  intro w' hSw; (try dsimp only at hSw); first | (go_simp; done) | (go_simp; with_reducible rfl)
 (try simp only [Act.put, Row.pB0, Row.pB1, Row.pB2])
 refine wpAnyH_take (i := 4) (oi := ⟨some 14, .load 27 (.tmp 13), 27, "l13_pend.go:25", #[⟨3, .data⟩], none⟩) (v := ?_) rfl (by kernel_rfl) (by kernel_rfl) (by kernel_rfl) (fun _ _ _ h => h) (Or.inl ⟨by rfl, ?_⟩) (by assumption) ?_
 rotate_left
 ·
  intro w' hSw; (try dsimp only at hSw); first | (go_simp; done) | (go_simp; with_reducible rfl)
 (try simp only [Act.put, Row.pB0, Row.pB1, Row.pB2])
 refine wpAnyH_ready (rs := [5]) (by kernel_rfl) (by simp) ?_
 refine AllReadyH.cons (o := ⟨some 15, .call ⟨.value (.func 74), #[.tmp 14], #[27]⟩, 4, "l13_pend.go:25", #[⟨4, .data⟩], none⟩) rfl (fun K hK => ?_) AllReadyH.nil
 go_simp
 refine (sValN true HV.out (H_m.out.on BB.out) (Nat.le_trans HMB.out (by decide))).mono ?_
 rintro e wn1 ⟨rfl, hb⟩
 replace BB := Lib.hid (BB.out.trans (hb.mono BB.out.size))
 clear hb
 (try go_wp2_with fail)
 clear hHeld
 refine hK.out _ _ ?_ (fun hHeld => ?_)
 ·
  (try dsimp only); exact ⟨kc K0.out BB.out, kc K1.out BB.out⟩
 clear hK K
 (try simp only [Act.put, Row.pB0, Row.pB1, Row.pB2])
 refine wpAnyH_take (i := 6) (oi := ⟨some 16, .unOp UnOp.not 4 (.tmp 15), 4, "l13_pend.go:25", #[⟨5, .data⟩], none⟩) (v := ?_) rfl (by kernel_rfl) (by kernel_rfl) (by kernel_rfl) (fun _ _ _ h => h) (Or.inl ⟨by rfl, ?_⟩) (by assumption) ?_
 rotate_left
 ·
  intro w' hSw; (try dsimp only at hSw); first | (go_simp; done) | (go_simp; with_reducible rfl)
 (try simp only [Act.put, Row.pB0, Row.pB1, Row.pB2])
 refine wpAnyH_take (i := 7) (oi := ⟨some 17, .move (.tmp 16), 4, "l13_pend.go:25", #[⟨6, .data⟩, ⟨5, .chain⟩], none⟩) (v := ?_) rfl (by kernel_rfl) (by kernel_rfl) (by kernel_rfl) (fun _ _ _ h => h) (Or.inl ⟨by rfl, ?_⟩) (by assumption) ?_
 rotate_left
 ·
  intro w' hSw; (try dsimp only at hSw); first | (go_simp; done) | (go_simp; with_reducible rfl)
 (try simp only [Act.put, Row.pB0, Row.pB1, Row.pB2])
 refine wpAnyH_take (i := 8) (oi := ⟨some 18, .move (.tmp 0), 35, "l13_pend.go:25", #[⟨7, .guard⟩], some (7, false)⟩) (v := ?_) rfl (by kernel_rfl) (by kernel_rfl) (by kernel_rfl) (fun _ _ _ h => h) (Or.inl ⟨by rfl, ?_⟩) (by assumption) ?_
 rotate_left
 ·
  intro w' hSw; (try dsimp only at hSw); first | (go_simp; done) | (go_simp; with_reducible rfl)
 (try simp only [Act.put, Row.pB0, Row.pB1, Row.pB2])
 refine wpAnyH_take (i := 9) (oi := ⟨some 19, .move (.tmp 3), 3, "l13_pend.go:25", #[⟨7, .guard⟩], some (7, false)⟩) (v := ?_) rfl (by kernel_rfl) (by kernel_rfl) (by kernel_rfl) (fun _ _ _ h => h) (Or.inl ⟨by rfl, ?_⟩) (by assumption) ?_
 rotate_left
 ·
  intro w' hSw; (try dsimp only at hSw); first | (go_simp; done) | (go_simp; with_reducible rfl)
 (try simp only [Act.put, Row.pB0, Row.pB1, Row.pB2])
 refine wpAnyH_take (i := 10) (oi := ⟨some 20, .indexAddr 35 (.tmp 18) (.tmp 19), 0, "l13_pend.go:25", #[⟨8, .data⟩, ⟨9, .data⟩, ⟨7, .guard⟩], some (7, false)⟩) (v := ?_) rfl (by kernel_rfl) (by kernel_rfl) (by kernel_rfl) (fun _ _ _ h => h) (Or.inl ⟨by rfl, ?_⟩) (by assumption) ?_
 rotate_left
 ·
  intro w' hSw; (try dsimp only at hSw); first | (go_simp; done) | (go_simp; with_reducible rfl)
 (try simp only [Act.put, Row.pB0, Row.pB1, Row.pB2])
 refine wpAnyH_take (i := 11) (oi := ⟨some 21, .fieldAddr 101 (.tmp 20) 0, 0, "l13_pend.go:25", #[⟨10, .data⟩, ⟨7, .guard⟩], some (7, false)⟩) (v := ?_) rfl (by kernel_rfl) (by kernel_rfl) (by kernel_rfl) (fun _ _ _ h => h) (Or.inl ⟨by rfl, ?_⟩) (by assumption) ?_
 rotate_left
 ·
  intro w' hSw; (try dsimp only at hSw); first | (go_simp; done) | (go_simp; with_reducible rfl)
 (try simp only [Act.put, Row.pB0, Row.pB1, Row.pB2])
 refine wpAnyH_take (i := 12) (oi := ⟨some 22, .fieldAddr 27 (.tmp 21) 0, 0, "l13_pend.go:25", #[⟨11, .data⟩, ⟨7, .guard⟩], some (7, false)⟩) (v := ?_) rfl (by kernel_rfl) (by kernel_rfl) (by kernel_rfl) (fun _ _ _ h => h) (Or.inl ⟨by rfl, ?_⟩) (by assumption) ?_
 rotate_left
 ·
  intro w' hSw; (try dsimp only at hSw); first | (go_simp; done) | (go_simp; with_reducible rfl)
 (try simp only [Act.put, Row.pB0, Row.pB1, Row.pB2])
 refine wpAnyH_take (i := 13) (oi := ⟨some 23, .load 25 (.tmp 22), 25, "l13_pend.go:25", #[⟨12, .data⟩, ⟨7, .guard⟩], some (7, false)⟩) (v := ?_) rfl (by kernel_rfl) (by kernel_rfl) (by kernel_rfl) (fun _ _ _ h => h) (Or.inl ⟨by rfl, ?_⟩) (by assumption) ?_
 rotate_left
 ·
  intro w' hSw; (try dsimp only at hSw); first | (go_simp; done) | (go_simp; with_reducible rfl)
 (try simp only [Act.put, Row.pB0, Row.pB1, Row.pB2])
 refine wpAnyH_take (i := 14) (oi := ⟨some 24, .call ⟨.builtin .len, #[.tmp 23], #[25]⟩, 3, "l13_pend.go:25", #[⟨13, .data⟩, ⟨7, .guard⟩], some (7, false)⟩) (v := ?_) rfl (by kernel_rfl) (by kernel_rfl) (by kernel_rfl) (fun _ _ _ h => h) (Or.inl ⟨by rfl, ?_⟩) (by assumption) ?_
 rotate_left
 ·
  intro w' hSw; (try dsimp only at hSw); first | (go_simp; done) | (go_simp; with_reducible rfl)
 (try simp only [Act.put, Row.pB0, Row.pB1, Row.pB2])
 refine wpAnyH_take (i := 15) (oi := ⟨some 25, .binOp BinOp.eql 3 (.tmp 24) (.const (Value.int IntKind.i64 0)) 3, 4, "l13_pend.go:25", #[⟨14, .data⟩, ⟨7, .guard⟩], some (7, false)⟩) (v := ?_) rfl (by kernel_rfl) (by kernel_rfl) (by kernel_rfl) (fun _ _ _ h => h) (Or.inl ⟨by rfl, ?_⟩) (by assumption) ?_
 rotate_left
 ·
  intro w' hSw; (try dsimp only at hSw); first | (go_simp; done) | (go_simp; with_reducible rfl)
 (try simp only [Act.put, Row.pB0, Row.pB1, Row.pB2])
 refine wpAnyH_take (i := 16) (oi := ⟨some 26, .pick (.tmp 17) (.const (Value.bool true)) (.tmp 25), 4, "l13_pend.go:25", #[⟨7, .data⟩, ⟨15, .data⟩], none⟩) (v := ?_) rfl (by kernel_rfl) (by kernel_rfl) (by kernel_rfl) (fun _ _ _ h => h) (Or.inl ⟨by rfl, ?_⟩) (by assumption) ?_
 rotate_left
 ·
  intro w' hSw; (try dsimp only at hSw); first | (go_simp; done) | (go_simp; with_reducible rfl)
 (try simp only [Act.put, Row.pB0, Row.pB1, Row.pB2])
 refine wpAnyH_take (i := 17) (oi := ⟨some 27, .move (.tmp 26), 4, "l13_pend.go:25", #[⟨16, .data⟩, ⟨7, .chain⟩], none⟩) (v := ?_) rfl (by kernel_rfl) (by kernel_rfl) (by kernel_rfl) (fun _ _ _ h => h) (Or.inl ⟨by rfl, ?_⟩) (by assumption) ?_
 rotate_left
 ·
  intro w' hSw; (try dsimp only at hSw); first | (go_simp; done) | (go_simp; with_reducible rfl)
 (try simp only [Act.put, Row.pB0, Row.pB1, Row.pB2])
 refine wpAnyH_take (i := 18) (oi := ⟨some 28, .move (.tmp 0), 35, "l13_pend.go:25", #[⟨17, .guard⟩], some (17, false)⟩) (v := ?_) rfl (by kernel_rfl) (by kernel_rfl) (by kernel_rfl) (fun _ _ _ h => h) (Or.inl ⟨by rfl, ?_⟩) (by assumption) ?_
 rotate_left
 ·
  intro w' hSw; (try dsimp only at hSw); first | (go_simp; done) | (go_simp; with_reducible rfl)
 (try simp only [Act.put, Row.pB0, Row.pB1, Row.pB2])
 refine wpAnyH_take (i := 19) (oi := ⟨some 29, .move (.tmp 3), 3, "l13_pend.go:25", #[⟨17, .guard⟩], some (17, false)⟩) (v := ?_) rfl (by kernel_rfl) (by kernel_rfl) (by kernel_rfl) (fun _ _ _ h => h) (Or.inl ⟨by rfl, ?_⟩) (by assumption) ?_
 rotate_left
 ·
  intro w' hSw; (try dsimp only at hSw); first | (go_simp; done) | (go_simp; with_reducible rfl)
 (try simp only [Act.put, Row.pB0, Row.pB1, Row.pB2])
 refine wpAnyH_take (i := 20) (oi := ⟨some 30, .indexAddr 35 (.tmp 28) (.tmp 29), 0, "l13_pend.go:25", #[⟨18, .data⟩, ⟨19, .data⟩, ⟨17, .guard⟩], some (17, false)⟩) (v := ?_) rfl (by kernel_rfl) (by kernel_rfl) (by kernel_rfl) (fun _ _ _ h => h) (Or.inl ⟨by rfl, ?_⟩) (by assumption) ?_
 rotate_left
 ·
  intro w' hSw; (try dsimp only at hSw); first | (go_simp; done) | (go_simp; with_reducible rfl)
 (try simp only [Act.put, Row.pB0, Row.pB1, Row.pB2])
 refine wpAnyH_take (i := 21) (oi := ⟨some 31, .fieldAddr 101 (.tmp 30) 1, 0, "l13_pend.go:25", #[⟨20, .data⟩, ⟨17, .guard⟩], some (17, false)⟩) (v := ?_) rfl (by kernel_rfl) (by kernel_rfl) (by kernel_rfl) (fun _ _ _ h => h) (Or.inl ⟨by rfl, ?_⟩) (by assumption) ?_
 rotate_left
 ·
  intro w' hSw; (try dsimp only at hSw); first | (go_simp; done) | (go_simp; with_reducible rfl)
 (try simp only [Act.put, Row.pB0, Row.pB1, Row.pB2])
 refine wpAnyH_take (i := 22) (oi := ⟨some 32, .load 68 (.tmp 31), 68, "l13_pend.go:25", #[⟨21, .data⟩, ⟨17, .guard⟩], some (17, false)⟩) (v := ?_) rfl (by kernel_rfl) (by kernel_rfl) (by kernel_rfl) (fun _ _ _ h => h) (Or.inl ⟨by rfl, ?_⟩) (by assumption) ?_
 rotate_left
 ·
  intro w' hSw; (try dsimp only at hSw); first | (go_simp; done) | (go_simp; with_reducible rfl)
 (try simp only [Act.put, Row.pB0, Row.pB1, Row.pB2])
 refine wpAnyH_ready (rs := [23]) (by kernel_rfl) (by simp) ?_
 refine AllReadyH.cons (o := ⟨some 33, .call ⟨.value (.func 75), #[.tmp 32], #[68]⟩, 4, "l13_pend.go:25", #[⟨22, .data⟩, ⟨17, .chain⟩, ⟨17, .guard⟩], some (17, false)⟩) rfl (fun K hK => ?_) AllReadyH.nil
 go_simp
 refine (sValidQ _ rq _ false HYV.out (H_q.out.on BB.out) (Nat.le_trans HYB.out (by decide))).mono ?_
 rintro e wn2 ⟨rfl, hb⟩
 replace BB := Lib.hid (BB.out.trans (hb.mono BB.out.size))
 clear hb
 (try go_wp2_with fail)
 clear hHeld
 refine hK.out _ _ ?_ (fun hHeld => ?_)
 ·
  (try dsimp only); exact ⟨kc K0.out BB.out, kc K1.out BB.out⟩
 clear hK K
 (try simp only [Act.put, Row.pB0, Row.pB1, Row.pB2])
 refine wpAnyH_take (i := 24) (oi := ⟨some 34, .unOp UnOp.not 4 (.tmp 33), 4, "l13_pend.go:25", #[⟨23, .data⟩, ⟨17, .guard⟩], some (17, false)⟩) (v := ?_) rfl (by kernel_rfl) (by kernel_rfl) (by kernel_rfl) (fun _ _ _ h => h) (Or.inl ⟨by rfl, ?_⟩) (by assumption) ?_
 rotate_left
 ·
  intro w' hSw; (try dsimp only at hSw); first | (go_simp; done) | (go_simp; with_reducible rfl)
 (try simp only [Act.put, Row.pB0, Row.pB1, Row.pB2])
 refine wpAnyH_take (i := 25) (oi := ⟨some 35, .pick (.tmp 27) (.const (Value.bool true)) (.tmp 34), 4, "l13_pend.go:25", #[⟨17, .data⟩, ⟨24, .data⟩], none⟩) (v := ?_) rfl (by kernel_rfl) (by kernel_rfl) (by kernel_rfl) (fun _ _ _ h => h) (Or.inl ⟨by rfl, ?_⟩) (by assumption) ?_
 rotate_left
 ·
  intro w' hSw; (try dsimp only at hSw); first | (go_simp; done) | (go_simp; with_reducible rfl)
 (try simp only [Act.put, Row.pB0, Row.pB1, Row.pB2])
 refine wpAnyH_take (i := 26) (oi := ⟨some 36, .move (.tmp 35), 4, "l13_pend.go:25", #[⟨25, .data⟩, ⟨23, .chain⟩], none⟩) (v := ?_) rfl (by kernel_rfl) (by kernel_rfl) (by kernel_rfl) (fun _ _ _ h => h) (Or.inl ⟨by rfl, ?_⟩) (by assumption) ?_
 rotate_left
 ·
  intro w' hSw; (try dsimp only at hSw); first | (go_simp; done) | (go_simp; with_reducible rfl)
 (try simp only [Act.put, Row.pB0, Row.pB1, Row.pB2])
 refine wpAnyH_take (i := 27) (oi := ⟨some 37, .move (.tmp 0), 35, "l13_pend.go:25", #[⟨26, .guard⟩], some (26, false)⟩) (v := undef) rfl (by kernel_rfl) (by kernel_rfl) (by kernel_rfl) (fun _ _ _ h => h) (Or.inr ⟨by rfl, rfl⟩) (by assumption) ?_
 (try simp only [Act.put, Row.pB0, Row.pB1, Row.pB2])
 refine wpAnyH_take (i := 28) (oi := ⟨some 38, .move (.tmp 3), 3, "l13_pend.go:25", #[⟨26, .guard⟩], some (26, false)⟩) (v := undef) rfl (by kernel_rfl) (by kernel_rfl) (by kernel_rfl) (fun _ _ _ h => h) (Or.inr ⟨by rfl, rfl⟩) (by assumption) ?_
 (try simp only [Act.put, Row.pB0, Row.pB1, Row.pB2])
 refine wpAnyH_take (i := 29) (oi := ⟨some 39, .indexAddr 35 (.tmp 37) (.tmp 38), 0, "l13_pend.go:25", #[⟨27, .data⟩, ⟨28, .data⟩, ⟨26, .guard⟩], some (26, false)⟩) (v := undef) rfl (by kernel_rfl) (by kernel_rfl) (by kernel_rfl) (fun _ _ _ h => h) (Or.inr ⟨by rfl, rfl⟩) (by assumption) ?_
 (try simp only [Act.put, Row.pB0, Row.pB1, Row.pB2])
 refine wpAnyH_take (i := 30) (oi := ⟨some 40, .fieldAddr 101 (.tmp 39) 2, 0, "l13_pend.go:25", #[⟨29, .data⟩, ⟨26, .guard⟩], some (26, false)⟩) (v := undef) rfl (by kernel_rfl) (by kernel_rfl) (by kernel_rfl) (fun _ _ _ h => h) (Or.inr ⟨by rfl, rfl⟩) (by assumption) ?_
 (try simp only [Act.put, Row.pB0, Row.pB1, Row.pB2])
 refine wpAnyH_take (i := 31) (oi := ⟨some 41, .load 3 (.tmp 40), 3, "l13_pend.go:25", #[⟨30, .data⟩, ⟨26, .guard⟩], some (26, false)⟩) (v := undef) rfl (by kernel_rfl) (by kernel_rfl) (by kernel_rfl) (fun _ _ _ h => h) (Or.inr ⟨by rfl, rfl⟩) (by assumption) ?_
 (try simp only [Act.put, Row.pB0, Row.pB1, Row.pB2])
 refine wpAnyH_take (i := 32) (oi := ⟨some 42, .call ⟨.value (.func 76), #[.tmp 41, .const (Value.int IntKind.i64 0), .const (Value.int IntKind.i64 100000)], #[3, 3, 3]⟩, 4, "l13_pend.go:25", #[⟨31, .data⟩, ⟨26, .chain⟩, ⟨26, .guard⟩], some (26, false)⟩) (v := undef) rfl (by kernel_rfl) (by kernel_rfl) (by kernel_rfl) (fun _ _ _ h => h) (Or.inr ⟨by rfl, rfl⟩) (by assumption) ?_
 (try simp only [Act.put, Row.pB0, Row.pB1, Row.pB2])
 refine wpAnyH_take (i := 33) (oi := ⟨some 43, .unOp UnOp.not 4 (.tmp 42), 4, "l13_pend.go:25", #[⟨32, .data⟩, ⟨26, .guard⟩], some (26, false)⟩) (v := undef) rfl (by kernel_rfl) (by kernel_rfl) (by kernel_rfl) (fun _ _ _ h => h) (Or.inr ⟨by rfl, rfl⟩) (by assumption) ?_
 (try simp only [Act.put, Row.pB0, Row.pB1, Row.pB2])
 refine wpAnyH_take (i := 34) (oi := ⟨some 44, .pick (.tmp 36) (.const (Value.bool true)) (.tmp 43), 4, "l13_pend.go:25", #[⟨26, .data⟩, ⟨33, .data⟩], none⟩) (v := ?_) rfl (by kernel_rfl) (by kernel_rfl) (by kernel_rfl) (fun _ _ _ h => h) (Or.inl ⟨by rfl, ?_⟩) (by assumption) ?_
 rotate_left
 ·
  intro w' hSw; (try dsimp only at hSw); first | (go_simp; done) | (go_simp; with_reducible rfl)
 (try simp only [Act.put, Row.pB0, Row.pB1, Row.pB2])
 refine wpAnyH_take (i := 35) (oi := ⟨some 45, .move (.tmp 44), 4, "l13_pend.go:25", #[⟨34, .data⟩, ⟨32, .chain⟩], none⟩) (v := ?_) rfl (by kernel_rfl) (by kernel_rfl) (by kernel_rfl) (fun _ _ _ h => h) (Or.inl ⟨by rfl, ?_⟩) (by assumption) ?_
 rotate_left
 ·
  intro w' hSw; (try dsimp only at hSw); first | (go_simp; done) | (go_simp; with_reducible rfl)
 (try simp only [Act.put, Row.pB0, Row.pB1, Row.pB2])
 refine wpAnyH_take (i := 36) (oi := ⟨some 46, .move (.tmp 0), 35, "l13_pend.go:25", #[⟨35, .guard⟩], some (35, false)⟩) (v := undef) rfl (by kernel_rfl) (by kernel_rfl) (by kernel_rfl) (fun _ _ _ h => h) (Or.inr ⟨by rfl, rfl⟩) (by assumption) ?_
 (try simp only [Act.put, Row.pB0, Row.pB1, Row.pB2])
 refine wpAnyH_take (i := 37) (oi := ⟨some 47, .move (.tmp 3), 3, "l13_pend.go:25", #[⟨35, .guard⟩], some (35, false)⟩) (v := undef) rfl (by kernel_rfl) (by kernel_rfl) (by kernel_rfl) (fun _ _ _ h => h) (Or.inr ⟨by rfl, rfl⟩) (by assumption) ?_
 (try simp only [Act.put, Row.pB0, Row.pB1, Row.pB2])
 refine wpAnyH_take (i := 38) (oi := ⟨some 48, .slice 35 (.tmp 46) none (some (.tmp 47)) none, 35, "l13_pend.go:25", #[⟨36, .data⟩, ⟨37, .data⟩, ⟨35, .guard⟩], some (35, false)⟩) (v := undef) rfl (by kernel_rfl) (by kernel_rfl) (by kernel_rfl) (fun _ _ _ h => h) (Or.inr ⟨by rfl, rfl⟩) (by assumption) ?_
 (try simp only [Act.put, Row.pB0, Row.pB1, Row.pB2])
 refine wpAnyH_take (i := 39) (oi := ⟨some 49, .move (.tmp 0), 35, "l13_pend.go:25", #[⟨35, .guard⟩], some (35, false)⟩) (v := undef) rfl (by kernel_rfl) (by kernel_rfl) (by kernel_rfl) (fun _ _ _ h => h) (Or.inr ⟨by rfl, rfl⟩) (by assumption) ?_
 (try simp only [Act.put, Row.pB0, Row.pB1, Row.pB2])
 refine wpAnyH_take (i := 40) (oi := ⟨some 50, .move (.tmp 3), 3, "l13_pend.go:25", #[⟨35, .guard⟩], some (35, false)⟩) (v := undef) rfl (by kernel_rfl) (by kernel_rfl) (by kernel_rfl) (fun _ _ _ h => h) (Or.inr ⟨by rfl, rfl⟩) (by assumption) ?_
 (try simp only [Act.put, Row.pB0, Row.pB1, Row.pB2])
 refine wpAnyH_take (i := 41) (oi := ⟨some 51, .indexAddr 35 (.tmp 49) (.tmp 50), 0, "l13_pend.go:25", #[⟨39, .data⟩, ⟨40, .data⟩, ⟨35, .guard⟩], some (35, false)⟩) (v := undef) rfl (by kernel_rfl) (by kernel_rfl) (by kernel_rfl) (fun _ _ _ h => h) (Or.inr ⟨by rfl, rfl⟩) (by assumption) ?_
 (try simp only [Act.put, Row.pB0, Row.pB1, Row.pB2])
 refine wpAnyH_take (i := 42) (oi := ⟨some 52, .fieldAddr 101 (.tmp 51) 0, 0, "l13_pend.go:25", #[⟨41, .data⟩, ⟨35, .guard⟩], some (35, false)⟩) (v := undef) rfl (by kernel_rfl) (by kernel_rfl) (by kernel_rfl) (fun _ _ _ h => h) (Or.inr ⟨by rfl, rfl⟩) (by assumption) ?_
 (try simp only [Act.put, Row.pB0, Row.pB1, Row.pB2])
 refine wpAnyH_take (i := 43) (oi := ⟨some 53, .load 27 (.tmp 52), 27, "l13_pend.go:25", #[⟨42, .data⟩, ⟨35, .guard⟩], some (35, false)⟩) (v := undef) rfl (by kernel_rfl) (by kernel_rfl) (by kernel_rfl) (fun _ _ _ h => h) (Or.inr ⟨by rfl, rfl⟩) (by assumption) ?_
 (try simp only [Act.put, Row.pB0, Row.pB1, Row.pB2])
 refine wpAnyH_take (i := 44) (oi := ⟨some 54, .call ⟨.value (.func 77), #[.tmp 48, .tmp 53], #[35, 27]⟩, 3, "l13_pend.go:25", #[⟨38, .data⟩, ⟨43, .data⟩, ⟨35, .chain⟩, ⟨35, .guard⟩], some (35, false)⟩) (v := undef) rfl (by kernel_rfl) (by kernel_rfl) (by kernel_rfl) (fun _ _ _ h => h) (Or.inr ⟨by rfl, rfl⟩) (by assumption) ?_
 (try simp only [Act.put, Row.pB0, Row.pB1, Row.pB2])
 refine wpAnyH_take (i := 45) (oi := ⟨some 55, .binOp BinOp.geq 3 (.tmp 54) (.const (Value.int IntKind.i64 0)) 3, 4, "l13_pend.go:25", #[⟨44, .data⟩, ⟨35, .guard⟩], some (35, false)⟩) (v := undef) rfl (by kernel_rfl) (by kernel_rfl) (by kernel_rfl) (fun _ _ _ h => h) (Or.inr ⟨by rfl, rfl⟩) (by assumption) ?_
 (try simp only [Act.put, Row.pB0, Row.pB1, Row.pB2])
 refine wpAnyH_take (i := 46) (oi := ⟨some 56, .pick (.tmp 45) (.const (Value.bool true)) (.tmp 55), 4, "l13_pend.go:25", #[⟨35, .data⟩, ⟨45, .data⟩], none⟩) (v := ?_) rfl (by kernel_rfl) (by kernel_rfl) (by kernel_rfl) (fun _ _ _ h => h) (Or.inl ⟨by rfl, ?_⟩) (by assumption) ?_
 rotate_left
 ·
  intro w' hSw; (try dsimp only at hSw); first | (go_simp; done) | (go_simp; with_reducible rfl)
 (try simp only [Act.put, Row.pB0, Row.pB1, Row.pB2])
 refine wpAnyH_done (by kernel_rfl) ?_ _
 exact NoPanic.normal (HQ.out _ _ _ _ _ _ _ _ _ _ _ _ _ _ _ _ _ _ _ _ _ _ _ _ _ _ _ _ _ _ _ _ _ _ _ _ _ _ _ _ _ _ _ _ _ _  _  BB.out)
end Go.Proofs.Ytjphnlkdbhcblaa.Row
/- A region of the model's ValidPending. No conditions but that lengths fit. -/
namespace Go.Proofs.Ytjphnlkdbhcblaa.Row
open Go.ChangeShapes Go.WideShapes Go.ChangeAt Go.RowKit Go.Instr
set_option linter.unusedVariables false
set_option maxRecDepth 100000
set_option maxRecDepth 100000 in
set_option maxHeartbeats 4000000 in
theorem rvp3 {Q : Exit → Act → World → Prop} {v1 v2 v4 v5 v6 v7 v8 v9 v10 v11 v12 v13 v14 v15 v16 v17 v18 v19 v20 v21 v22 v23 v24 v25 v26 v27 v28 v29 v30 v31 v32 v33 v34 v35 v36 v37 v38 v39 v40 v41 v42 v43 v44 v45 v46 v47 v48 v49 v50 v51 v52 v53 v54 v55 v56 v57 v58 v59 : Value} {w : World} {b off n c k n0 c0 n1 c1 : Nat} {x0 x1 : Option Addr} {ls : Int} {m : List ByteArray} {rq : List Rqt}   (hk : k < n) (hkc : k ≤ c) (hn : n ≤ 9000000) (HV : Hid (validN m = true)) (H_m : Hid (kN.At w (.agg #[.slice x0 n0 c0]) m)) (HMB : Hid (bulk m ≤ 1200000)) (hn1 : ((n0 : Int) == 0) = false) (HYV : Hid (validQs rq = true)) (H_q : Hid (kLRq.At w (.slice x1 n1 c1) rq)) (HYB : Hid (rq.length ≤ 1200000)) (HI : Hid (Num.inB ls 0 100000 = false)) (K0 : Hid (w.cell? ⟨b, off + k * 3, none⟩ = some (.slice x0 n0 c0))) (K1 : Hid (w.cell? ⟨b, off + k * 3 + 1, none⟩ = some (.slice x1 n1 c1))) (K2 : Hid (w.cell? ⟨b, off + k * 3 + 2, none⟩ = some (.int .i64 ls)))
  (hQ : ∀ (u10 u11 u12 u13 u14 u15 u16 u17 u18 u19 u20 u21 u22 u23 u24 u25 u26 u27 u28 u29 u30 u31 u32 u33 u34 u35 u36 u37 u38 u39 u40 u41 u42 u43 u44 u45 u46 u47 u48 u49 u50 u51 u52 u53 u54 u55 : Value)  (wx : World), Below w.heap.size w wx → Q .normal ⟨#[.slice (some ⟨b, off, none⟩) n c, v1, v2, .int .i64 k, v4, v5, v6, v7, v8, v9, u10, u11, u12, u13, u14, u15, u16, u17, u18, u19, u20, u21, u22, u23, u24, u25, u26, u27, u28, u29, u30, u31, u32, u33, u34, u35, u36, u37, u38, u39, u40, u41, u42, u43, u44, u45, u46, u47, u48, u49, u50, u51, u52, u53, u54, u55, .bool true, v57, v58, v59], []⟩ wx) :
  (Code.region 4 #[⟨some 10, .move (.tmp 0), 35, "l13_pend.go:25", #[], none⟩,
   ⟨some 11, .move (.tmp 3), 3, "l13_pend.go:25", #[], none⟩,
   ⟨some 12, .indexAddr 35 (.tmp 10) (.tmp 11), 0, "l13_pend.go:25", #[⟨0, .data⟩, ⟨1, .data⟩], none⟩,
   ⟨some 13, .fieldAddr 101 (.tmp 12) 0, 0, "l13_pend.go:25", #[⟨2, .data⟩], none⟩,
   ⟨some 14, .load 27 (.tmp 13), 27, "l13_pend.go:25", #[⟨3, .data⟩], none⟩,
   ⟨some 15, .call ⟨.value (.func 74), #[.tmp 14], #[27]⟩, 4, "l13_pend.go:25", #[⟨4, .data⟩], none⟩,
   ⟨some 16, .unOp UnOp.not 4 (.tmp 15), 4, "l13_pend.go:25", #[⟨5, .data⟩], none⟩,
   ⟨some 17, .move (.tmp 16), 4, "l13_pend.go:25", #[⟨6, .data⟩, ⟨5, .chain⟩], none⟩,
   ⟨some 18, .move (.tmp 0), 35, "l13_pend.go:25", #[⟨7, .guard⟩], some (7, false)⟩,
   ⟨some 19, .move (.tmp 3), 3, "l13_pend.go:25", #[⟨7, .guard⟩], some (7, false)⟩,
   ⟨some 20, .indexAddr 35 (.tmp 18) (.tmp 19), 0, "l13_pend.go:25", #[⟨8, .data⟩, ⟨9, .data⟩, ⟨7, .guard⟩], some (7, false)⟩,
   ⟨some 21, .fieldAddr 101 (.tmp 20) 0, 0, "l13_pend.go:25", #[⟨10, .data⟩, ⟨7, .guard⟩], some (7, false)⟩,
   ⟨some 22, .fieldAddr 27 (.tmp 21) 0, 0, "l13_pend.go:25", #[⟨11, .data⟩, ⟨7, .guard⟩], some (7, false)⟩,
   ⟨some 23, .load 25 (.tmp 22), 25, "l13_pend.go:25", #[⟨12, .data⟩, ⟨7, .guard⟩], some (7, false)⟩,
   ⟨some 24, .call ⟨.builtin .len, #[.tmp 23], #[25]⟩, 3, "l13_pend.go:25", #[⟨13, .data⟩, ⟨7, .guard⟩], some (7, false)⟩,
   ⟨some 25, .binOp BinOp.eql 3 (.tmp 24) (.const (Value.int IntKind.i64 0)) 3, 4, "l13_pend.go:25", #[⟨14, .data⟩, ⟨7, .guard⟩], some (7, false)⟩,
   ⟨some 26, .pick (.tmp 17) (.const (Value.bool true)) (.tmp 25), 4, "l13_pend.go:25", #[⟨7, .data⟩, ⟨15, .data⟩], none⟩,
   ⟨some 27, .move (.tmp 26), 4, "l13_pend.go:25", #[⟨16, .data⟩, ⟨7, .chain⟩], none⟩,
   ⟨some 28, .move (.tmp 0), 35, "l13_pend.go:25", #[⟨17, .guard⟩], some (17, false)⟩,
   ⟨some 29, .move (.tmp 3), 3, "l13_pend.go:25", #[⟨17, .guard⟩], some (17, false)⟩,
   ⟨some 30, .indexAddr 35 (.tmp 28) (.tmp 29), 0, "l13_pend.go:25", #[⟨18, .data⟩, ⟨19, .data⟩, ⟨17, .guard⟩], some (17, false)⟩,
   ⟨some 31, .fieldAddr 101 (.tmp 30) 1, 0, "l13_pend.go:25", #[⟨20, .data⟩, ⟨17, .guard⟩], some (17, false)⟩,
   ⟨some 32, .load 68 (.tmp 31), 68, "l13_pend.go:25", #[⟨21, .data⟩, ⟨17, .guard⟩], some (17, false)⟩,
   ⟨some 33, .call ⟨.value (.func 75), #[.tmp 32], #[68]⟩, 4, "l13_pend.go:25", #[⟨22, .data⟩, ⟨17, .chain⟩, ⟨17, .guard⟩], some (17, false)⟩,
   ⟨some 34, .unOp UnOp.not 4 (.tmp 33), 4, "l13_pend.go:25", #[⟨23, .data⟩, ⟨17, .guard⟩], some (17, false)⟩,
   ⟨some 35, .pick (.tmp 27) (.const (Value.bool true)) (.tmp 34), 4, "l13_pend.go:25", #[⟨17, .data⟩, ⟨24, .data⟩], none⟩,
   ⟨some 36, .move (.tmp 35), 4, "l13_pend.go:25", #[⟨25, .data⟩, ⟨23, .chain⟩], none⟩,
   ⟨some 37, .move (.tmp 0), 35, "l13_pend.go:25", #[⟨26, .guard⟩], some (26, false)⟩,
   ⟨some 38, .move (.tmp 3), 3, "l13_pend.go:25", #[⟨26, .guard⟩], some (26, false)⟩,
   ⟨some 39, .indexAddr 35 (.tmp 37) (.tmp 38), 0, "l13_pend.go:25", #[⟨27, .data⟩, ⟨28, .data⟩, ⟨26, .guard⟩], some (26, false)⟩,
   ⟨some 40, .fieldAddr 101 (.tmp 39) 2, 0, "l13_pend.go:25", #[⟨29, .data⟩, ⟨26, .guard⟩], some (26, false)⟩,
   ⟨some 41, .load 3 (.tmp 40), 3, "l13_pend.go:25", #[⟨30, .data⟩, ⟨26, .guard⟩], some (26, false)⟩,
   ⟨some 42, .call ⟨.value (.func 76), #[.tmp 41, .const (Value.int IntKind.i64 0), .const (Value.int IntKind.i64 100000)], #[3, 3, 3]⟩, 4, "l13_pend.go:25", #[⟨31, .data⟩, ⟨26, .chain⟩, ⟨26, .guard⟩], some (26, false)⟩,
   ⟨some 43, .unOp UnOp.not 4 (.tmp 42), 4, "l13_pend.go:25", #[⟨32, .data⟩, ⟨26, .guard⟩], some (26, false)⟩,
   ⟨some 44, .pick (.tmp 36) (.const (Value.bool true)) (.tmp 43), 4, "l13_pend.go:25", #[⟨26, .data⟩, ⟨33, .data⟩], none⟩,
   ⟨some 45, .move (.tmp 44), 4, "l13_pend.go:25", #[⟨34, .data⟩, ⟨32, .chain⟩], none⟩,
   ⟨some 46, .move (.tmp 0), 35, "l13_pend.go:25", #[⟨35, .guard⟩], some (35, false)⟩,
   ⟨some 47, .move (.tmp 3), 3, "l13_pend.go:25", #[⟨35, .guard⟩], some (35, false)⟩,
   ⟨some 48, .slice 35 (.tmp 46) none (some (.tmp 47)) none, 35, "l13_pend.go:25", #[⟨36, .data⟩, ⟨37, .data⟩, ⟨35, .guard⟩], some (35, false)⟩,
   ⟨some 49, .move (.tmp 0), 35, "l13_pend.go:25", #[⟨35, .guard⟩], some (35, false)⟩,
   ⟨some 50, .move (.tmp 3), 3, "l13_pend.go:25", #[⟨35, .guard⟩], some (35, false)⟩,
   ⟨some 51, .indexAddr 35 (.tmp 49) (.tmp 50), 0, "l13_pend.go:25", #[⟨39, .data⟩, ⟨40, .data⟩, ⟨35, .guard⟩], some (35, false)⟩,
   ⟨some 52, .fieldAddr 101 (.tmp 51) 0, 0, "l13_pend.go:25", #[⟨41, .data⟩, ⟨35, .guard⟩], some (35, false)⟩,
   ⟨some 53, .load 27 (.tmp 52), 27, "l13_pend.go:25", #[⟨42, .data⟩, ⟨35, .guard⟩], some (35, false)⟩,
   ⟨some 54, .call ⟨.value (.func 77), #[.tmp 48, .tmp 53], #[35, 27]⟩, 3, "l13_pend.go:25", #[⟨38, .data⟩, ⟨43, .data⟩, ⟨35, .chain⟩, ⟨35, .guard⟩], some (35, false)⟩,
   ⟨some 55, .binOp BinOp.geq 3 (.tmp 54) (.const (Value.int IntKind.i64 0)) 3, 4, "l13_pend.go:25", #[⟨44, .data⟩, ⟨35, .guard⟩], some (35, false)⟩,
   ⟨some 56, .pick (.tmp 45) (.const (Value.bool true)) (.tmp 55), 4, "l13_pend.go:25", #[⟨35, .data⟩, ⟨45, .data⟩], none⟩] true).wp Try.prog Q ⟨#[.slice (some ⟨b, off, none⟩) n c, v1, v2, .int .i64 k, v4, v5, v6, v7, v8, v9, v10, v11, v12, v13, v14, v15, v16, v17, v18, v19, v20, v21, v22, v23, v24, v25, v26, v27, v28, v29, v30, v31, v32, v33, v34, v35, v36, v37, v38, v39, v40, v41, v42, v43, v44, v45, v46, v47, v48, v49, v50, v51, v52, v53, v54, v55, v56, v57, v58, v59], []⟩ w := by
 have HQ := Lib.hid hQ; clear hQ
 have hdr : Below w.heap.size w w.drew := (Below.refl _ _).drew
 have BB := Lib.hid hdr
 refine wp_region_noPanic ?_
 refine wp_region_held_drew (S := (fun w' => w'.cell? ⟨b, off + k * 3, none⟩ = some (.slice x0 n0 c0) ∧ w'.cell? ⟨b, off + k * 3 + 1, none⟩ = some (.slice x1 n1 c1) ∧ w'.cell? ⟨b, off + k * 3 + 2, none⟩ = some (.int .i64 ls))) (by kernel_rfl) ?_ (fun hHeld => ?_)
 ·
  exact ⟨kc K0.out BB.out, kc K1.out BB.out, kc K2.out BB.out⟩
 clear hdr
 generalize w.drew = wd at *
 refine wpAnyH_take (i := 0) (oi := ⟨some 10, .move (.tmp 0), 35, "l13_pend.go:25", #[], none⟩) (v := ?_) rfl (by kernel_rfl) (by kernel_rfl) (by kernel_rfl) (fun _ _ _ h => h) (Or.inl ⟨by rfl, ?_⟩) (by assumption) ?_
 rotate_left
 ·
  intro w' hSw; (try dsimp only at hSw); first | (go_simp; done) | (go_simp; with_reducible rfl)
 (try simp only [Act.put, Row.pB0, Row.pB1, Row.pB2])
 refine wpAnyH_take (i := 1) (oi := ⟨some 11, .move (.tmp 3), 3, "l13_pend.go:25", #[], none⟩) (v := ?_) rfl (by kernel_rfl) (by kernel_rfl) (by kernel_rfl) (fun _ _ _ h => h) (Or.inl ⟨by rfl, ?_⟩) (by assumption) ?_
 rotate_left
 ·
  intro w' hSw; (try dsimp only at hSw); first | (go_simp; done) | (go_simp; with_reducible rfl)
 (try simp only [Act.put, Row.pB0, Row.pB1, Row.pB2])
 refine wpAnyH_take (i := 2) (oi := ⟨some 12, .indexAddr 35 (.tmp 10) (.tmp 11), 0, "l13_pend.go:25", #[⟨0, .data⟩, ⟨1, .data⟩], none⟩) (v := ?_) rfl (by kernel_rfl) (by kernel_rfl) (by kernel_rfl) (fun _ _ _ h => h) (Or.inl ⟨by rfl, ?_⟩) (by assumption) ?_
 rotate_left
 ·
  intro w' hSw; (try dsimp only at hSw); first | (go_simp; done) | (go_simp; with_reducible rfl)
 (try simp only [Act.put, Row.pB0, Row.pB1, Row.pB2])
 refine wpAnyH_take (i := 3) (oi := ⟨some 13, .fieldAddr 101 (.tmp 12) 0, 0, "l13_pend.go:25", #[⟨2, .data⟩], none⟩) (v := ?_) rfl (by kernel_rfl) (by kernel_rfl) (by kernel_rfl) (fun _ _ _ h => h) (Or.inl ⟨by rfl, ?_⟩) (by assumption) ?_
 rotate_left
 ·
  intro w' hSw; (try dsimp only at hSw); first | (go_simp; done) | (go_simp; with_reducible rfl)
 (try simp only [Act.put, Row.pB0, Row.pB1, Row.pB2])
 refine wpAnyH_take (i := 4) (oi := ⟨some 14, .load 27 (.tmp 13), 27, "l13_pend.go:25", #[⟨3, .data⟩], none⟩) (v := ?_) rfl (by kernel_rfl) (by kernel_rfl) (by kernel_rfl) (fun _ _ _ h => h) (Or.inl ⟨by rfl, ?_⟩) (by assumption) ?_
 rotate_left
 ·
  intro w' hSw; (try dsimp only at hSw); first | (go_simp; done) | (go_simp; with_reducible rfl)
 (try simp only [Act.put, Row.pB0, Row.pB1, Row.pB2])
 refine wpAnyH_ready (rs := [5]) (by kernel_rfl) (by simp) ?_
 refine AllReadyH.cons (o := ⟨some 15, .call ⟨.value (.func 74), #[.tmp 14], #[27]⟩, 4, "l13_pend.go:25", #[⟨4, .data⟩], none⟩) rfl (fun K hK => ?_) AllReadyH.nil
 go_simp
 refine (sValN true HV.out (H_m.out.on BB.out) (Nat.le_trans HMB.out (by decide))).mono ?_
 rintro e wn1 ⟨rfl, hb⟩
 replace BB := Lib.hid (BB.out.trans (hb.mono BB.out.size))
 clear hb
 (try go_wp2_with fail)
 clear hHeld
 refine hK.out _ _ ?_ (fun hHeld => ?_)
 ·
  (try dsimp only); exact ⟨kc K0.out BB.out, kc K1.out BB.out, kc K2.out BB.out⟩
 clear hK K
 (try simp only [Act.put, Row.pB0, Row.pB1, Row.pB2])
 refine wpAnyH_take (i := 6) (oi := ⟨some 16, .unOp UnOp.not 4 (.tmp 15), 4, "l13_pend.go:25", #[⟨5, .data⟩], none⟩) (v := ?_) rfl (by kernel_rfl) (by kernel_rfl) (by kernel_rfl) (fun _ _ _ h => h) (Or.inl ⟨by rfl, ?_⟩) (by assumption) ?_
 rotate_left
 ·
  intro w' hSw; (try dsimp only at hSw); first | (go_simp; done) | (go_simp; with_reducible rfl)
 (try simp only [Act.put, Row.pB0, Row.pB1, Row.pB2])
 refine wpAnyH_take (i := 7) (oi := ⟨some 17, .move (.tmp 16), 4, "l13_pend.go:25", #[⟨6, .data⟩, ⟨5, .chain⟩], none⟩) (v := ?_) rfl (by kernel_rfl) (by kernel_rfl) (by kernel_rfl) (fun _ _ _ h => h) (Or.inl ⟨by rfl, ?_⟩) (by assumption) ?_
 rotate_left
 ·
  intro w' hSw; (try dsimp only at hSw); first | (go_simp; done) | (go_simp; with_reducible rfl)
 (try simp only [Act.put, Row.pB0, Row.pB1, Row.pB2])
 refine wpAnyH_take (i := 8) (oi := ⟨some 18, .move (.tmp 0), 35, "l13_pend.go:25", #[⟨7, .guard⟩], some (7, false)⟩) (v := ?_) rfl (by kernel_rfl) (by kernel_rfl) (by kernel_rfl) (fun _ _ _ h => h) (Or.inl ⟨by rfl, ?_⟩) (by assumption) ?_
 rotate_left
 ·
  intro w' hSw; (try dsimp only at hSw); first | (go_simp; done) | (go_simp; with_reducible rfl)
 (try simp only [Act.put, Row.pB0, Row.pB1, Row.pB2])
 refine wpAnyH_take (i := 9) (oi := ⟨some 19, .move (.tmp 3), 3, "l13_pend.go:25", #[⟨7, .guard⟩], some (7, false)⟩) (v := ?_) rfl (by kernel_rfl) (by kernel_rfl) (by kernel_rfl) (fun _ _ _ h => h) (Or.inl ⟨by rfl, ?_⟩) (by assumption) ?_
 rotate_left
 ·
  intro w' hSw; (try dsimp only at hSw); first | (go_simp; done) | (go_simp; with_reducible rfl)
 (try simp only [Act.put, Row.pB0, Row.pB1, Row.pB2])
 refine wpAnyH_take (i := 10) (oi := ⟨some 20, .indexAddr 35 (.tmp 18) (.tmp 19), 0, "l13_pend.go:25", #[⟨8, .data⟩, ⟨9, .data⟩, ⟨7, .guard⟩], some (7, false)⟩) (v := ?_) rfl (by kernel_rfl) (by kernel_rfl) (by kernel_rfl) (fun _ _ _ h => h) (Or.inl ⟨by rfl, ?_⟩) (by assumption) ?_
 rotate_left
 ·
  intro w' hSw; (try dsimp only at hSw); first | (go_simp; done) | (go_simp; with_reducible rfl)
 (try simp only [Act.put, Row.pB0, Row.pB1, Row.pB2])
 refine wpAnyH_take (i := 11) (oi := ⟨some 21, .fieldAddr 101 (.tmp 20) 0, 0, "l13_pend.go:25", #[⟨10, .data⟩, ⟨7, .guard⟩], some (7, false)⟩) (v := ?_) rfl (by kernel_rfl) (by kernel_rfl) (by kernel_rfl) (fun _ _ _ h => h) (Or.inl ⟨by rfl, ?_⟩) (by assumption) ?_
 rotate_left
 ·
  intro w' hSw; (try dsimp only at hSw); first | (go_simp; done) | (go_simp; with_reducible rfl)
 (try simp only [Act.put, Row.pB0, Row.pB1, Row.pB2])
 refine wpAnyH_take (i := 12) (oi := ⟨some 22, .fieldAddr 27 (.tmp 21) 0, 0, "l13_pend.go:25", #[⟨11, .data⟩, ⟨7, .guard⟩], some (7, false)⟩) (v := ?_) rfl (by kernel_rfl) (by kernel_rfl) (by kernel_rfl) (fun _ _ _ h => h) (Or.inl ⟨by rfl, ?_⟩) (by assumption) ?_
 rotate_left
 ·
  intro w' hSw; (try dsimp only at hSw); first | (go_simp; done) | (go_simp; with_reducible rfl)
 (try simp only [Act.put, Row.pB0, Row.pB1, Row.pB2])
 refine wpAnyH_take (i := 13) (oi := ⟨some 23, .load 25 (.tmp 22), 25, "l13_pend.go:25", #[⟨12, .data⟩, ⟨7, .guard⟩], some (7, false)⟩) (v := ?_) rfl (by kernel_rfl) (by kernel_rfl) (by kernel_rfl) (fun _ _ _ h => h) (Or.inl ⟨by rfl, ?_⟩) (by assumption) ?_
 rotate_left
 ·
  intro w' hSw; (try dsimp only at hSw); first | (go_simp; done) | (go_simp; with_reducible rfl)
 (try simp only [Act.put, Row.pB0, Row.pB1, Row.pB2])
 refine wpAnyH_take (i := 14) (oi := ⟨some 24, .call ⟨.builtin .len, #[.tmp 23], #[25]⟩, 3, "l13_pend.go:25", #[⟨13, .data⟩, ⟨7, .guard⟩], some (7, false)⟩) (v := ?_) rfl (by kernel_rfl) (by kernel_rfl) (by kernel_rfl) (fun _ _ _ h => h) (Or.inl ⟨by rfl, ?_⟩) (by assumption) ?_
 rotate_left
 ·
  intro w' hSw; (try dsimp only at hSw); first | (go_simp; done) | (go_simp; with_reducible rfl)
 (try simp only [Act.put, Row.pB0, Row.pB1, Row.pB2])
 refine wpAnyH_take (i := 15) (oi := ⟨some 25, .binOp BinOp.eql 3 (.tmp 24) (.const (Value.int IntKind.i64 0)) 3, 4, "l13_pend.go:25", #[⟨14, .data⟩, ⟨7, .guard⟩], some (7, false)⟩) (v := ?_) rfl (by kernel_rfl) (by kernel_rfl) (by kernel_rfl) (fun _ _ _ h => h) (Or.inl ⟨by rfl, ?_⟩) (by assumption) ?_
 rotate_left
 ·
  intro w' hSw; (try dsimp only at hSw); first | (go_simp; done) | (go_simp; with_reducible rfl)
 (try simp only [Act.put, Row.pB0, Row.pB1, Row.pB2])
 refine wpAnyH_take (i := 16) (oi := ⟨some 26, .pick (.tmp 17) (.const (Value.bool true)) (.tmp 25), 4, "l13_pend.go:25", #[⟨7, .data⟩, ⟨15, .data⟩], none⟩) (v := ?_) rfl (by kernel_rfl) (by kernel_rfl) (by kernel_rfl) (fun _ _ _ h => h) (Or.inl ⟨by rfl, ?_⟩) (by assumption) ?_
 rotate_left
 ·
  intro w' hSw; (try dsimp only at hSw); first | (go_simp; done) | (go_simp; with_reducible rfl)
 (try simp only [Act.put, Row.pB0, Row.pB1, Row.pB2])
 refine wpAnyH_take (i := 17) (oi := ⟨some 27, .move (.tmp 26), 4, "l13_pend.go:25", #[⟨16, .data⟩, ⟨7, .chain⟩], none⟩) (v := ?_) rfl (by kernel_rfl) (by kernel_rfl) (by kernel_rfl) (fun _ _ _ h => h) (Or.inl ⟨by rfl, ?_⟩) (by assumption) ?_
 rotate_left
 ·
  intro w' hSw; (try dsimp only at hSw); first | (go_simp; done) | (go_simp; with_reducible rfl)
 (try simp only [Act.put, Row.pB0, Row.pB1, Row.pB2])
 refine wpAnyH_take (i := 18) (oi := ⟨some 28, .move (.tmp 0), 35, "l13_pend.go:25", #[⟨17, .guard⟩], some (17, false)⟩) (v := ?_) rfl (by kernel_rfl) (by kernel_rfl) (by kernel_rfl) (fun _ _ _ h => h) (Or.inl ⟨by rfl, ?_⟩) (by assumption) ?_
 rotate_left
 ·
  intro w' hSw; (try dsimp only at hSw); first | (go_simp; done) | (go_simp; with_reducible rfl)
 (try simp only [Act.put, Row.pB0, Row.pB1, Row.pB2])
 refine wpAnyH_take (i := 19) (oi := ⟨some 29, .move (.tmp 3), 3, "l13_pend.go:25", #[⟨17, .guard⟩], some (17, false)⟩) (v := ?_) rfl (by kernel_rfl) (by kernel_rfl) (by kernel_rfl) (fun _ _ _ h => h) (Or.inl ⟨by rfl, ?_⟩) (by assumption) ?_
 rotate_left
 ·
  intro w' hSw; (try dsimp only at hSw); first | (go_simp; done) | (go_simp; with_reducible rfl)
 (try simp only [Act.put, Row.pB0, Row.pB1, Row.pB2])
 refine wpAnyH_take (i := 20) (oi := ⟨some 30, .indexAddr 35 (.tmp 28) (.tmp 29), 0, "l13_pend.go:25", #[⟨18, .data⟩, ⟨19, .data⟩, ⟨17, .guard⟩], some (17, false)⟩) (v := ?_) rfl (by kernel_rfl) (by kernel_rfl) (by kernel_rfl) (fun _ _ _ h => h) (Or.inl ⟨by rfl, ?_⟩) (by assumption) ?_
 rotate_left
 ·
  intro w' hSw; (try dsimp only at hSw); first | (go_simp; done) | (go_simp; with_reducible rfl)
 (try simp only [Act.put, Row.pB0, Row.pB1, Row.pB2])
 refine wpAnyH_take (i := 21) (oi := ⟨some 31, .fieldAddr 101 (.tmp 30) 1, 0, "l13_pend.go:25", #[⟨20, .data⟩, ⟨17, .guard⟩], some (17, false)⟩) (v := ?_) rfl (by kernel_rfl) (by kernel_rfl) (by kernel_rfl) (fun _ _ _ h => h) (Or.inl ⟨by rfl, ?_⟩) (by assumption) ?_
 rotate_left
 ·
  intro w' hSw; (try dsimp only at hSw); first | (go_simp; done) | (go_simp; with_reducible rfl)
 (try simp only [Act.put, Row.pB0, Row.pB1, Row.pB2])
 refine wpAnyH_take (i := 22) (oi := ⟨some 32, .load 68 (.tmp 31), 68, "l13_pend.go:25", #[⟨21, .data⟩, ⟨17, .guard⟩], some (17, false)⟩) (v := ?_) rfl (by kernel_rfl) (by kernel_rfl) (by kernel_rfl) (fun _ _ _ h => h) (Or.inl ⟨by rfl, ?_⟩) (by assumption) ?_
 rotate_left
 ·
  intro w' hSw; (try dsimp only at hSw); first | (go_simp; done) | (go_simp; with_reducible rfl)
 (try simp only [Act.put, Row.pB0, Row.pB1, Row.pB2])
 refine wpAnyH_ready (rs := [23]) (by kernel_rfl) (by simp) ?_
 refine AllReadyH.cons (o := ⟨some 33, .call ⟨.value (.func 75), #[.tmp 32], #[68]⟩, 4, "l13_pend.go:25", #[⟨22, .data⟩, ⟨17, .chain⟩, ⟨17, .guard⟩], some (17, false)⟩) rfl (fun K hK => ?_) AllReadyH.nil
 go_simp
 refine (sValidQ _ rq _ true HYV.out (H_q.out.on BB.out) (Nat.le_trans HYB.out (by decide))).mono ?_
 rintro e wn2 ⟨rfl, hb⟩
 replace BB := Lib.hid (BB.out.trans (hb.mono BB.out.size))
 clear hb
 (try go_wp2_with fail)
 clear hHeld
 refine hK.out _ _ ?_ (fun hHeld => ?_)
 ·
  (try dsimp only); exact ⟨kc K0.out BB.out, kc K1.out BB.out, kc K2.out BB.out⟩
 clear hK K
 (try simp only [Act.put, Row.pB0, Row.pB1, Row.pB2])
 refine wpAnyH_take (i := 24) (oi := ⟨some 34, .unOp UnOp.not 4 (.tmp 33), 4, "l13_pend.go:25", #[⟨23, .data⟩, ⟨17, .guard⟩], some (17, false)⟩) (v := ?_) rfl (by kernel_rfl) (by kernel_rfl) (by kernel_rfl) (fun _ _ _ h => h) (Or.inl ⟨by rfl, ?_⟩) (by assumption) ?_
 rotate_left
 ·
  intro w' hSw; (try dsimp only at hSw); first | (go_simp; done) | (go_simp; with_reducible rfl)
 (try simp only [Act.put, Row.pB0, Row.pB1, Row.pB2])
 refine wpAnyH_take (i := 25) (oi := ⟨some 35, .pick (.tmp 27) (.const (Value.bool true)) (.tmp 34), 4, "l13_pend.go:25", #[⟨17, .data⟩, ⟨24, .data⟩], none⟩) (v := ?_) rfl (by kernel_rfl) (by kernel_rfl) (by kernel_rfl) (fun _ _ _ h => h) (Or.inl ⟨by rfl, ?_⟩) (by assumption) ?_
 rotate_left
 ·
  intro w' hSw; (try dsimp only at hSw); first | (go_simp; done) | (go_simp; with_reducible rfl)
 (try simp only [Act.put, Row.pB0, Row.pB1, Row.pB2])
 refine wpAnyH_take (i := 26) (oi := ⟨some 36, .move (.tmp 35), 4, "l13_pend.go:25", #[⟨25, .data⟩, ⟨23, .chain⟩], none⟩) (v := ?_) rfl (by kernel_rfl) (by kernel_rfl) (by kernel_rfl) (fun _ _ _ h => h) (Or.inl ⟨by rfl, ?_⟩) (by assumption) ?_
 rotate_left
 ·
  intro w' hSw; (try dsimp only at hSw); first | (go_simp; done) | (go_simp; with_reducible rfl)
 (try simp only [Act.put, Row.pB0, Row.pB1, Row.pB2])
 refine wpAnyH_take (i := 27) (oi := ⟨some 37, .move (.tmp 0), 35, "l13_pend.go:25", #[⟨26, .guard⟩], some (26, false)⟩) (v := ?_) rfl (by kernel_rfl) (by kernel_rfl) (by kernel_rfl) (fun _ _ _ h => h) (Or.inl ⟨by rfl, ?_⟩) (by assumption) ?_
 rotate_left
 ·
  intro w' hSw; (try dsimp only at hSw); first | (go_simp; done) | (go_simp; with_reducible rfl)
 (try simp only [Act.put, Row.pB0, Row.pB1, Row.pB2])
 refine wpAnyH_take (i := 28) (oi := ⟨some 38, .move (.tmp 3), 3, "l13_pend.go:25", #[⟨26, .guard⟩], some (26, false)⟩) (v := ?_) rfl (by kernel_rfl) (by kernel_rfl) (by kernel_rfl) (fun _ _ _ h => h) (Or.inl ⟨by rfl, ?_⟩) (by assumption) ?_
 rotate_left
 ·
  intro w' hSw; (try dsimp only at hSw); first | (go_simp; done) | (go_simp; with_reducible rfl)
 (try simp only [Act.put, Row.pB0, Row.pB1, Row.pB2])
 refine wpAnyH_take (i := 29) (oi := ⟨some 39, .indexAddr 35 (.tmp 37) (.tmp 38), 0, "l13_pend.go:25", #[⟨27, .data⟩, ⟨28, .data⟩, ⟨26, .guard⟩], some (26, false)⟩) (v := ?_) rfl (by kernel_rfl) (by kernel_rfl) (by kernel_rfl) (fun _ _ _ h => h) (Or.inl ⟨by rfl, ?_⟩) (by assumption) ?_
 rotate_left
 ·
  intro w' hSw; (try dsimp only at hSw); first | (go_simp; done) | (go_simp; with_reducible rfl)
 (try simp only [Act.put, Row.pB0, Row.pB1, Row.pB2])
 refine wpAnyH_take (i := 30) (oi := ⟨some 40, .fieldAddr 101 (.tmp 39) 2, 0, "l13_pend.go:25", #[⟨29, .data⟩, ⟨26, .guard⟩], some (26, false)⟩) (v := ?_) rfl (by kernel_rfl) (by kernel_rfl) (by kernel_rfl) (fun _ _ _ h => h) (Or.inl ⟨by rfl, ?_⟩) (by assumption) ?_
 rotate_left
 ·
  intro w' hSw; (try dsimp only at hSw); first | (go_simp; done) | (go_simp; with_reducible rfl)
 (try simp only [Act.put, Row.pB0, Row.pB1, Row.pB2])
 refine wpAnyH_take (i := 31) (oi := ⟨some 41, .load 3 (.tmp 40), 3, "l13_pend.go:25", #[⟨30, .data⟩, ⟨26, .guard⟩], some (26, false)⟩) (v := ?_) rfl (by kernel_rfl) (by kernel_rfl) (by kernel_rfl) (fun _ _ _ h => h) (Or.inl ⟨by rfl, ?_⟩) (by assumption) ?_
 rotate_left
 ·
  intro w' hSw; (try dsimp only at hSw); first | (go_simp; done) | (go_simp; with_reducible rfl)
 (try simp only [Act.put, Row.pB0, Row.pB1, Row.pB2])
 refine wpAnyH_ready (rs := [32]) (by kernel_rfl) (by simp) ?_
 refine AllReadyH.cons (o := ⟨some 42, .call ⟨.value (.func 76), #[.tmp 41, .const (Value.int IntKind.i64 0), .const (Value.int IntKind.i64 100000)], #[3, 3, 3]⟩, 4, "l13_pend.go:25", #[⟨31, .data⟩, ⟨26, .chain⟩, ⟨26, .guard⟩], some (26, false)⟩) rfl (fun K hK => ?_) AllReadyH.nil
 go_simp
 refine (sInP false HI.out).mono ?_
 rintro e wn3 ⟨rfl, hb⟩
 replace BB := Lib.hid (BB.out.trans (hb.mono BB.out.size))
 clear hb
 (try go_wp2_with fail)
 clear hHeld
 refine hK.out _ _ ?_ (fun hHeld => ?_)
 ·
  (try dsimp only); exact ⟨kc K0.out BB.out, kc K1.out BB.out, kc K2.out BB.out⟩
 clear hK K
 (try simp only [Act.put, Row.pB0, Row.pB1, Row.pB2])
 refine wpAnyH_take (i := 33) (oi := ⟨some 43, .unOp UnOp.not 4 (.tmp 42), 4, "l13_pend.go:25", #[⟨32, .data⟩, ⟨26, .guard⟩], some (26, false)⟩) (v := ?_) rfl (by kernel_rfl) (by kernel_rfl) (by kernel_rfl) (fun _ _ _ h => h) (Or.inl ⟨by rfl, ?_⟩) (by assumption) ?_
 rotate_left
 ·
  intro w' hSw; (try dsimp only at hSw); first | (go_simp; done) | (go_simp; with_reducible rfl)
 (try simp only [Act.put, Row.pB0, Row.pB1, Row.pB2])
 refine wpAnyH_take (i := 34) (oi := ⟨some 44, .pick (.tmp 36) (.const (Value.bool true)) (.tmp 43), 4, "l13_pend.go:25", #[⟨26, .data⟩, ⟨33, .data⟩], none⟩) (v := ?_) rfl (by kernel_rfl) (by kernel_rfl) (by kernel_rfl) (fun _ _ _ h => h) (Or.inl ⟨by rfl, ?_⟩) (by assumption) ?_
 rotate_left
 ·
  intro w' hSw; (try dsimp only at hSw); first | (go_simp; done) | (go_simp; with_reducible rfl)
 (try simp only [Act.put, Row.pB0, Row.pB1, Row.pB2])
 refine wpAnyH_take (i := 35) (oi := ⟨some 45, .move (.tmp 44), 4, "l13_pend.go:25", #[⟨34, .data⟩, ⟨32, .chain⟩], none⟩) (v := ?_) rfl (by kernel_rfl) (by kernel_rfl) (by kernel_rfl) (fun _ _ _ h => h) (Or.inl ⟨by rfl, ?_⟩) (by assumption) ?_
 rotate_left
 ·
  intro w' hSw; (try dsimp only at hSw); first | (go_simp; done) | (go_simp; with_reducible rfl)
 (try simp only [Act.put, Row.pB0, Row.pB1, Row.pB2])
 refine wpAnyH_take (i := 36) (oi := ⟨some 46, .move (.tmp 0), 35, "l13_pend.go:25", #[⟨35, .guard⟩], some (35, false)⟩) (v := undef) rfl (by kernel_rfl) (by kernel_rfl) (by kernel_rfl) (fun _ _ _ h => h) (Or.inr ⟨by rfl, rfl⟩) (by assumption) ?_
 (try simp only [Act.put, Row.pB0, Row.pB1, Row.pB2])
 refine wpAnyH_take (i := 37) (oi := ⟨some 47, .move (.tmp 3), 3, "l13_pend.go:25", #[⟨35, .guard⟩], some (35, false)⟩) (v := undef) rfl (by kernel_rfl) (by kernel_rfl) (by kernel_rfl) (fun _ _ _ h => h) (Or.inr ⟨by rfl, rfl⟩) (by assumption) ?_
 (try simp only [Act.put, Row.pB0, Row.pB1, Row.pB2])
 refine wpAnyH_take (i := 38) (oi := ⟨some 48, .slice 35 (.tmp 46) none (some (.tmp 47)) none, 35, "l13_pend.go:25", #[⟨36, .data⟩, ⟨37, .data⟩, ⟨35, .guard⟩], some (35, false)⟩) (v := undef) rfl (by kernel_rfl) (by kernel_rfl) (by kernel_rfl) (fun _ _ _ h => h) (Or.inr ⟨by rfl, rfl⟩) (by assumption) ?_
 (try simp only [Act.put, Row.pB0, Row.pB1, Row.pB2])
 refine wpAnyH_take (i := 39) (oi := ⟨some 49, .move (.tmp 0), 35, "l13_pend.go:25", #[⟨35, .guard⟩], some (35, false)⟩) (v := undef) rfl (by kernel_rfl) (by kernel_rfl) (by kernel_rfl) (fun _ _ _ h => h) (Or.inr ⟨by rfl, rfl⟩) (by assumption) ?_
 (try simp only [Act.put, Row.pB0, Row.pB1, Row.pB2])
 refine wpAnyH_take (i := 40) (oi := ⟨some 50, .move (.tmp 3), 3, "l13_pend.go:25", #[⟨35, .guard⟩], some (35, false)⟩) (v := undef) rfl (by kernel_rfl) (by kernel_rfl) (by kernel_rfl) (fun _ _ _ h => h) (Or.inr ⟨by rfl, rfl⟩) (by assumption) ?_
 (try simp only [Act.put, Row.pB0, Row.pB1, Row.pB2])
 refine wpAnyH_take (i := 41) (oi := ⟨some 51, .indexAddr 35 (.tmp 49) (.tmp 50), 0, "l13_pend.go:25", #[⟨39, .data⟩, ⟨40, .data⟩, ⟨35, .guard⟩], some (35, false)⟩) (v := undef) rfl (by kernel_rfl) (by kernel_rfl) (by kernel_rfl) (fun _ _ _ h => h) (Or.inr ⟨by rfl, rfl⟩) (by assumption) ?_
 (try simp only [Act.put, Row.pB0, Row.pB1, Row.pB2])
 refine wpAnyH_take (i := 42) (oi := ⟨some 52, .fieldAddr 101 (.tmp 51) 0, 0, "l13_pend.go:25", #[⟨41, .data⟩, ⟨35, .guard⟩], some (35, false)⟩) (v := undef) rfl (by kernel_rfl) (by kernel_rfl) (by kernel_rfl) (fun _ _ _ h => h) (Or.inr ⟨by rfl, rfl⟩) (by assumption) ?_
 (try simp only [Act.put, Row.pB0, Row.pB1, Row.pB2])
 refine wpAnyH_take (i := 43) (oi := ⟨some 53, .load 27 (.tmp 52), 27, "l13_pend.go:25", #[⟨42, .data⟩, ⟨35, .guard⟩], some (35, false)⟩) (v := undef) rfl (by kernel_rfl) (by kernel_rfl) (by kernel_rfl) (fun _ _ _ h => h) (Or.inr ⟨by rfl, rfl⟩) (by assumption) ?_
 (try simp only [Act.put, Row.pB0, Row.pB1, Row.pB2])
 refine wpAnyH_take (i := 44) (oi := ⟨some 54, .call ⟨.value (.func 77), #[.tmp 48, .tmp 53], #[35, 27]⟩, 3, "l13_pend.go:25", #[⟨38, .data⟩, ⟨43, .data⟩, ⟨35, .chain⟩, ⟨35, .guard⟩], some (35, false)⟩) (v := undef) rfl (by kernel_rfl) (by kernel_rfl) (by kernel_rfl) (fun _ _ _ h => h) (Or.inr ⟨by rfl, rfl⟩) (by assumption) ?_
 (try simp only [Act.put, Row.pB0, Row.pB1, Row.pB2])
 refine wpAnyH_take (i := 45) (oi := ⟨some 55, .binOp BinOp.geq 3 (.tmp 54) (.const (Value.int IntKind.i64 0)) 3, 4, "l13_pend.go:25", #[⟨44, .data⟩, ⟨35, .guard⟩], some (35, false)⟩) (v := undef) rfl (by kernel_rfl) (by kernel_rfl) (by kernel_rfl) (fun _ _ _ h => h) (Or.inr ⟨by rfl, rfl⟩) (by assumption) ?_
 (try simp only [Act.put, Row.pB0, Row.pB1, Row.pB2])
 refine wpAnyH_take (i := 46) (oi := ⟨some 56, .pick (.tmp 45) (.const (Value.bool true)) (.tmp 55), 4, "l13_pend.go:25", #[⟨35, .data⟩, ⟨45, .data⟩], none⟩) (v := ?_) rfl (by kernel_rfl) (by kernel_rfl) (by kernel_rfl) (fun _ _ _ h => h) (Or.inl ⟨by rfl, ?_⟩) (by assumption) ?_
 rotate_left
 ·
  intro w' hSw; (try dsimp only at hSw); first | (go_simp; done) | (go_simp; with_reducible rfl)
 (try simp only [Act.put, Row.pB0, Row.pB1, Row.pB2])
 refine wpAnyH_done (by kernel_rfl) ?_ _
 exact NoPanic.normal (HQ.out _ _ _ _ _ _ _ _ _ _ _ _ _ _ _ _ _ _ _ _ _ _ _ _ _ _ _ _ _ _ _ _ _ _ _ _ _ _ _ _ _ _ _ _ _ _  _  BB.out)
end Go.Proofs.Ytjphnlkdbhcblaa.Row
/- The model finds a pending interest: l13Find, HasPending, LastSentAt. No conditions but that lengths fit. -/
namespace Go.Proofs.Ytjphnlkdbhcblaa.Row
open Go.ChangeShapes Go.WideShapes Go.ChangeAt Go.RowKit Go.Instr
set_option linter.unusedVariables false
set_option maxRecDepth 100000
set_option maxRecDepth 100000 in
set_option maxHeartbeats 4000000 in
theorem rfp {Q : Exit → Act → World → Prop} {v1 v2 v4 v6 v7 v8 v9 v10 v11 v12 v13 v14 v15 v16 v17 v18 v19 : Value} {w : World} {b off n c g k na ca : Nat} {xa : Option Addr} {a m : List ByteArray} {z : Bool} {xn : Option Addr} {nn cn : Nat} (hk : k < n) (hkc : k ≤ c) (hn : n ≤ 9000000) (HZ : Hid (decide (a = m) = z)) (H_a : Hid (kN.At w (.agg #[.slice xa na ca]) a)) (H_m : Hid (kN.At w (.agg #[.slice xn nn cn]) m)) (HAB : Hid (bulk a ≤ 1200000)) (HMB : Hid (bulk m ≤ 1200000)) (K0 : Hid (w.cell? ⟨g, 0, none⟩ = some (.slice xn nn cn))) (K1 : Hid (w.cell? ⟨b, off + k * 3, none⟩ = some (.slice xa na ca)))
  (hQ : ∀ (u12 u13 u14 u15 u16 u17 : Value)  (wx : World), Below w.heap.size w wx → Q .normal ⟨#[.slice (some ⟨b, off, none⟩) n c, v1, v2, .pointer (some ⟨g, 0, none⟩), v4, .int .i64 k, v6, v7, v8, v9, v10, v11, u12, u13, u14, u15, u16, u17, .bool z, v19], []⟩ wx) :
  (Code.region 4 #[⟨some 12, .move (.tmp 0), 35, "l13_pend.go:7", #[], none⟩,
   ⟨some 13, .move (.tmp 5), 3, "l13_pend.go:7", #[], none⟩,
   ⟨some 14, .indexAddr 35 (.tmp 12) (.tmp 13), 0, "l13_pend.go:7", #[⟨0, .data⟩, ⟨1, .data⟩], none⟩,
   ⟨some 15, .fieldAddr 101 (.tmp 14) 0, 0, "l13_pend.go:7", #[⟨2, .data⟩], none⟩,
   ⟨some 16, .load 27 (.tmp 15), 27, "l13_pend.go:7", #[⟨3, .data⟩], none⟩,
   ⟨some 17, .load 27 (.tmp 3), 27, "l13_pend.go:7", #[], none⟩,
   ⟨some 18, .call ⟨.value (.func 83), #[.tmp 16, .tmp 17], #[27, 27]⟩, 4, "l13_pend.go:7", #[⟨4, .data⟩, ⟨5, .data⟩], none⟩] true).wp Try.prog Q ⟨#[.slice (some ⟨b, off, none⟩) n c, v1, v2, .pointer (some ⟨g, 0, none⟩), v4, .int .i64 k, v6, v7, v8, v9, v10, v11, v12, v13, v14, v15, v16, v17, v18, v19], []⟩ w := by
 have HQ := Lib.hid hQ; clear hQ
 have hdr : Below w.heap.size w w.drew := (Below.refl _ _).drew
 have BB := Lib.hid hdr
 refine wp_region_noPanic ?_
 refine wp_region_held_drew (S := (fun w' => w'.cell? ⟨g, 0, none⟩ = some (.slice xn nn cn) ∧ w'.cell? ⟨b, off + k * 3, none⟩ = some (.slice xa na ca))) (by kernel_rfl) ?_ (fun hHeld => ?_)
 ·
  exact ⟨kc K0.out BB.out, kc K1.out BB.out⟩
 clear hdr
 generalize w.drew = wd at *
 refine wpAnyH_take (i := 0) (oi := ⟨some 12, .move (.tmp 0), 35, "l13_pend.go:7", #[], none⟩) (v := ?_) rfl (by kernel_rfl) (by kernel_rfl) (by kernel_rfl) (fun _ _ _ h => h) (Or.inl ⟨by rfl, ?_⟩) (by assumption) ?_
 rotate_left
 ·
  intro w' hSw; (try dsimp only at hSw); first | (go_simp; done) | (go_simp; with_reducible rfl)
 (try simp only [Act.put, Row.pB0, Row.pB1, Row.pB2])
 refine wpAnyH_take (i := 1) (oi := ⟨some 13, .move (.tmp 5), 3, "l13_pend.go:7", #[], none⟩) (v := ?_) rfl (by kernel_rfl) (by kernel_rfl) (by kernel_rfl) (fun _ _ _ h => h) (Or.inl ⟨by rfl, ?_⟩) (by assumption) ?_
 rotate_left
 ·
  intro w' hSw; (try dsimp only at hSw); first | (go_simp; done) | (go_simp; with_reducible rfl)
 (try simp only [Act.put, Row.pB0, Row.pB1, Row.pB2])
 refine wpAnyH_take (i := 2) (oi := ⟨some 14, .indexAddr 35 (.tmp 12) (.tmp 13), 0, "l13_pend.go:7", #[⟨0, .data⟩, ⟨1, .data⟩], none⟩) (v := ?_) rfl (by kernel_rfl) (by kernel_rfl) (by kernel_rfl) (fun _ _ _ h => h) (Or.inl ⟨by rfl, ?_⟩) (by assumption) ?_
 rotate_left
 ·
  intro w' hSw; (try dsimp only at hSw); first | (go_simp; done) | (go_simp; with_reducible rfl)
 (try simp only [Act.put, Row.pB0, Row.pB1, Row.pB2])
 refine wpAnyH_take (i := 3) (oi := ⟨some 15, .fieldAddr 101 (.tmp 14) 0, 0, "l13_pend.go:7", #[⟨2, .data⟩], none⟩) (v := ?_) rfl (by kernel_rfl) (by kernel_rfl) (by kernel_rfl) (fun _ _ _ h => h) (Or.inl ⟨by rfl, ?_⟩) (by assumption) ?_
 rotate_left
 ·
  intro w' hSw; (try dsimp only at hSw); first | (go_simp; done) | (go_simp; with_reducible rfl)
 (try simp only [Act.put, Row.pB0, Row.pB1, Row.pB2])
 refine wpAnyH_take (i := 4) (oi := ⟨some 16, .load 27 (.tmp 15), 27, "l13_pend.go:7", #[⟨3, .data⟩], none⟩) (v := ?_) rfl (by kernel_rfl) (by kernel_rfl) (by kernel_rfl) (fun _ _ _ h => h) (Or.inl ⟨by rfl, ?_⟩) (by assumption) ?_
 rotate_left
 ·
  intro w' hSw; (try dsimp only at hSw); first | (go_simp; done) | (go_simp; with_reducible rfl)
 (try simp only [Act.put, Row.pB0, Row.pB1, Row.pB2])
 refine wpAnyH_take (i := 5) (oi := ⟨some 17, .load 27 (.tmp 3), 27, "l13_pend.go:7", #[], none⟩) (v := ?_) rfl (by kernel_rfl) (by kernel_rfl) (by kernel_rfl) (fun _ _ _ h => h) (Or.inl ⟨by rfl, ?_⟩) (by assumption) ?_
 rotate_left
 ·
  intro w' hSw; (try dsimp only at hSw); first | (go_simp; done) | (go_simp; with_reducible rfl)
 (try simp only [Act.put, Row.pB0, Row.pB1, Row.pB2])
 refine wpAnyH_ready (rs := [6]) (by kernel_rfl) (by simp) ?_
 refine AllReadyH.cons (o := ⟨some 18, .call ⟨.value (.func 83), #[.tmp 16, .tmp 17], #[27, 27]⟩, 4, "l13_pend.go:7", #[⟨4, .data⟩, ⟨5, .data⟩], none⟩) rfl (fun K hK => ?_) AllReadyH.nil
 go_simp
 refine (sEqK z HZ.out (H_a.out.on BB.out) (H_m.out.on BB.out) (Nat.le_trans HAB.out (by decide)) (Nat.le_trans HMB.out (by decide))).mono ?_
 rintro e wn1 ⟨rfl, hb⟩
 replace BB := Lib.hid (BB.out.trans (hb.mono BB.out.size))
 clear hb
 (try go_wp2_with fail)
 clear hHeld
 refine hK.out _ _ ?_ (fun hHeld => ?_)
 ·
  (try dsimp only); exact ⟨kc K0.out BB.out, kc K1.out BB.out⟩
 clear hK K
 (try simp only [Act.put, Row.pB0, Row.pB1, Row.pB2])
 refine wpAnyH_done (by kernel_rfl) ?_ _
 exact NoPanic.normal (HQ.out _ _ _ _ _ _  _  BB.out)
set_option maxHeartbeats 4000000 in
theorem sFindP (V U : Value) (l : List Pit) (m : List ByteArray) (w : World) (z : Int) (hz : ixL (isP m) l = z) (h : kLPi.At w V l) (g : kN.At w U m) (hl : l.length ≤ 9000000) (hp : ∀ x ∈ l, wtPi x ≤ 1200000) (hm : bulk m ≤ 1200000) :
    Calls Try.prog 77 #[V, U] w fun e w' => e = .returned (.int .i64 z) ∧ Below w.heap.size w w' := by
  obtain ⟨x, n, cx, L, rfl, hn, ht, hh, hel⟩ := kLPi_at h
  have hlen : l.length = n := by rw [← ht, List.length_map]; exact hn.symm
  rw [hlen] at hl
  have hcap : n ≤ cx := by obtain ⟨x', n', cap', hv, hn', hc', -⟩ := hh.shapeN; cases hv; exact hc'
  obtain ⟨xn, nn, cn, rfl, g⟩ := kN_shapeA g
  have b1 := (Below.refl w.heap.size w).alloc (Nat.le_refl _) (.cells #[.slice xn nn cn] 27)
  have HX := Lib.hid (Ret.Blk.new w #[.slice xn nn cn] 27)
  have HG := Lib.hid (g.on b1); have HB := Lib.hid b1; have HZ := Lib.hid hz; have HM := Lib.hid hm
  have HN := Lib.hid hn; have HT := Lib.hid ht; have HH := Lib.hid hh; have HEL := Lib.hid hel; have HLEN := Lib.hid hlen; have HP := Lib.hid hp
  clear b1 g hz hm hn ht hh hel hlen hp h
  go_enter Try.func77, Try.ntmps77
  go_wp2
  go_loopw [5] (fun iv wr => ∃ i : Nat, i ≤ n ∧ iv = .int .i64 i ∧ Hid (noL (isP m) l i) ∧ Hid (Ret.Blk wr w.heap.size #[.slice xn nn cn] 27) ∧ Hid (kN.At wr (.agg #[.slice xn nn cn]) m) ∧ Hid (Below w.heap.size w wr)) (fun iv _ => n - (intOf iv).toNat)
  case atStart => exact ⟨0, Nat.zero_le _, rfl, Lib.hid (noL_zero _ _), HX, HG, HB⟩
  case round =>
    obtain ⟨k, hk, rfl, ha, hx, hg, hb⟩ := hrel
    by_cases hlt : k < n
    · have hlen := HN.out
      obtain ⟨b, off, y0, m0, d0, y1, m1, d1, rfl, -, hc0, hc1, hc2, hA⟩ := kLPi_elem (HH.out.on hb.out) (fun y hy => kPi.holds_on (HEL.out y hy) hb.out) (j := k) (by omega)
      have hpt : nth l k = kPi.strip (nth L k) := by rw [← HT.out, nth_map _ (by omega)]
      have hps := HP.out (nth l k) (nth_mem (by have := HLEN.out; omega))
      rw [← hpt] at hA hc2
      obtain ⟨hNM, hRQ⟩ := kPi_parts hA
      have HA := Lib.hid hA; have HNM := Lib.hid hNM; have HRQ := Lib.hid hRQ; have HPS := Lib.hid hps; have HPN := Lib.hid (show bulk (nth l k).1 ≤ 1200000 from (wtPi_lens hps).1); have HPR := Lib.hid (show (nth l k).2.1.length ≤ 1200000 from (wtPi_lens hps).2)
      have H0 := Lib.hid hc0; have H1 := Lib.hid hc1; have H2 := Lib.hid hc2
      clear hlen hpt hps hA hNM hRQ
      obtain ⟨q, hq⟩ : ∃ q, decide ((nth l k).1 = m) = q := ⟨_, rfl⟩
      have HQ := Lib.hid hq; clear hq hc0 hc1 hc2
      go_wp2_with fail
      refine rfp hlt (by omega) hl HQ HNM hg HPN HM (Lib.hid (hx.out.cell 0)) H0 ?_
      intro u12 u13 u14 u15 u16 u17 wx hbx
      have hx2 := Lib.hid (hx.out.on hbx); have hg2 := Lib.hid (hg.out.on hbx); have hb2 := Lib.hid (hb.out.trans (hbx.mono hb.out.size))
      clear hbx
      cases q with
      | true =>
        have HV := Lib.hid (show z = (k : Int) from HZ.out.symm.trans (ixL_at (by have := HLEN.out; omega) ha.out HQ.out))
        go_wp2
        go_ret
        exact ⟨ret_int HV.out.symm, hb2.out⟩
      | false =>
        have HA2 := Lib.hid (noL_succ ha.out HQ.out)
        go_wp2
        go_roundw
        case rel => exact ⟨k + 1, by omega, by go_num, HA2, hx2, hg2, hb2⟩
        case measure => simp [intOf]; omega
    · obtain rfl : k = n := by omega
      have HV := Lib.hid (show z = -1 from HZ.out.symm.trans (ixL_none (by rw [HLEN.out]; exact ha.out)))
      clear hlt
      go_wp2
      go_ret
      exact ⟨ret_int HV.out.symm, hb.out⟩
set_option maxHeartbeats 2000000 in
theorem specHasPending (V U : Value) (l : List Pit) (m : List ByteArray) (w : World) (z : Bool) (hz : hasPd l m = z) (h : kLPi.At w V l) (g : kN.At w U m) (hl : FitP l) (hm : bulk m ≤ 1200000) :
    Calls Try.prog 34 #[V, U] w fun e w' => e = .returned (.bool z) ∧ Below w.heap.size w w' := by
  obtain ⟨x, n, c, rfl, h⟩ := kLPi_shapeA h
  obtain ⟨xn, nn, cn, rfl, g⟩ := kN_shapeA g
  have hal := (Below.refl w.heap.size w).alloc (Nat.le_refl _) (.cells #[.slice xn nn cn] 27)
  obtain ⟨r, hr⟩ : ∃ r, ixL (isP m) l = r := ⟨_, rfl⟩
  unfold hasPd at hz
  rw [hr] at hz
  have HX := Lib.hid (Ret.Blk.new w #[.slice xn nn cn] 27)
  have HH := Lib.hid (h.on hal); have HG := Lib.hid (g.on hal); have HB := Lib.hid hal; have HL := Lib.hid hl; have HZ := Lib.hid hz; have HR := Lib.hid hr
  clear h g hz hal hl hr
  go_enter Try.func34, Try.ntmps34
  have q0 := HX.out.cell 0
  go_wp2_with fail
  refine (sFindP _ _ l m _ r HR.out HH.out HG.out HL.out.len9 HL.out.each hm).mono ?_
  rintro e w1 ⟨rfl, hb⟩
  have HB2 := Lib.hid (HB.out.trans (hb.mono HB.out.size))
  clear hb q0
  go_wp2
  go_ret
  exact ⟨ret_bool HZ.out, HB2.out⟩
set_option maxHeartbeats 4000000 in
theorem specLastSentAt (V U : Value) (l : List Pit) (m : List ByteArray) (w : World) (z : Int) (hz : lastP l m = z) (h : kLPi.At w V l) (g : kN.At w U m) (hl : FitP l) (hm : bulk m ≤ 1200000) :
    Calls Try.prog 43 #[V, U] w fun e w' => e = .returned (.int .i64 z) ∧ Below w.heap.size w w' := by
  obtain ⟨x, n, c, L, rfl, hn, ht, hh, hel⟩ := kLPi_at h
  obtain ⟨xn, nn, cn, rfl, g⟩ := kN_shapeA g
  have hal := (Below.refl w.heap.size w).alloc (Nat.le_refl _) (.cells #[.slice xn nn cn] 27)
  obtain ⟨r, hr⟩ : ∃ r, ixL (isP m) l = r := ⟨_, rfl⟩
  have hlen : l.length = n := by rw [← ht, List.length_map]; exact hn.symm
  have hcap : n ≤ c := by obtain ⟨x', n', cap', hv, hn', hc', -⟩ := hh.shapeN; cases hv; exact hc'
  have HX := Lib.hid (Ret.Blk.new w #[.slice xn nn cn] 27)
  have HAT := Lib.hid (h.on hal); have HG := Lib.hid (g.on hal); have HB := Lib.hid hal; have HL := Lib.hid hl; have HZ := Lib.hid hz; have HR := Lib.hid hr
  have HN := Lib.hid hn; have HT := Lib.hid ht; have HH := Lib.hid hh; have HEL := Lib.hid hel; have HLEN := Lib.hid hlen
  clear h g hz hal hl hr hn ht hh hel hlen
  go_enter Try.func43, Try.ntmps43
  have q0 := HX.out.cell 0
  go_wp2_with fail
  refine (sFindP _ _ l m _ r HR.out HAT.out HG.out HL.out.len9 HL.out.each hm).mono ?_
  rintro e w1 ⟨rfl, hb⟩
  have HB2 := Lib.hid (HB.out.trans (hb.mono HB.out.size))
  clear hb q0
  rcases ixL_cases (isP m) l with ⟨e1, -⟩ | ⟨k, hk, e1, -, -⟩
  · have HV := Lib.hid (show 0 = z from by rw [← HZ.out]; unfold lastP; rw [if_neg (by omega)])
    obtain rfl : r = -1 := by rw [← HR.out]; exact e1
    clear e1
    go_wp2
    go_ret
    exact ⟨ret_int HV.out, HB2.out⟩
  · have HV := Lib.hid (show (nth l k).2.2 = z from by rw [← HZ.out]; unfold lastP; rw [if_pos (by omega), e1]; simp)
    obtain rfl : r = (k : Int) := by rw [← HR.out]; exact e1
    have hk2 : k < n := by have := HLEN.out; omega
    have hl9 := HL.out.len
    have hln := HLEN.out
    rw [hln] at hl9
    obtain ⟨b, off, y0, m0, d0, y1, m1, d1, rfl, -, hc0, hc1, hc2, hA⟩ := kLPi_elem (HH.out.on HB2.out) (fun y hy => kPi.holds_on (HEL.out y hy) HB2.out) (j := k) (by have := HN.out; omega)
    have hpt : nth l k = kPi.strip (nth L k) := by rw [← HT.out, nth_map _ (by have := HN.out; omega)]
    rw [← hpt] at hc2
    clear e1 hA hpt hk hln
    go_wp2
    go_ret
    exact ⟨ret_int HV.out, HB2.out⟩
end Go.Proofs.Ytjphnlkdbhcblaa.Row
/- A region of the model's ValidPending. No conditions but that lengths fit. -/
namespace Go.Proofs.Ytjphnlkdbhcblaa.Row
open Go.ChangeShapes Go.WideShapes Go.ChangeAt Go.RowKit Go.Instr
set_option linter.unusedVariables false
set_option maxRecDepth 100000
set_option maxRecDepth 100000 in
set_option maxHeartbeats 4000000 in
theorem rvp4 {Q : Exit → Act → World → Prop} {v1 v2 v4 v5 v6 v7 v8 v9 v10 v11 v12 v13 v14 v15 v16 v17 v18 v19 v20 v21 v22 v23 v24 v25 v26 v27 v28 v29 v30 v31 v32 v33 v34 v35 v36 v37 v38 v39 v40 v41 v42 v43 v44 v45 v46 v47 v48 v49 v50 v51 v52 v53 v54 v55 v56 v57 v58 v59 : Value} {w : World} {b off n c k n0 c0 n1 c1 : Nat} {x0 x1 : Option Addr} {ls : Int} {m : List ByteArray} {rq : List Rqt} {l : List Pit} {r : Int} (hk : k < n) (hkc : k ≤ c) (hn : n ≤ 9000000) (HV : Hid (validN m = true)) (H_m : Hid (kN.At w (.agg #[.slice x0 n0 c0]) m)) (HMB : Hid (bulk m ≤ 1200000)) (hn1 : ((n0 : Int) == 0) = false) (HYV : Hid (validQs rq = true)) (H_q : Hid (kLRq.At w (.slice x1 n1 c1) rq)) (HYB : Hid (rq.length ≤ 1200000)) (HI : Hid (Num.inB ls 0 100000 = true)) (HR : Hid (ixL (isP m) (l.take k) = r)) (H_l : Hid (kLPi.At w (.slice (some ⟨b, off, none⟩) k c) (l.take k))) (HLL : Hid ((l.take k).length ≤ 9000000)) (HLP : Hid (∀ x ∈ l.take k, wtPi x ≤ 1200000)) (K0 : Hid (w.cell? ⟨b, off + k * 3, none⟩ = some (.slice x0 n0 c0))) (K1 : Hid (w.cell? ⟨b, off + k * 3 + 1, none⟩ = some (.slice x1 n1 c1))) (K2 : Hid (w.cell? ⟨b, off + k * 3 + 2, none⟩ = some (.int .i64 ls)))
  (hQ : ∀ (u10 u11 u12 u13 u14 u15 u16 u17 u18 u19 u20 u21 u22 u23 u24 u25 u26 u27 u28 u29 u30 u31 u32 u33 u34 u35 u36 u37 u38 u39 u40 u41 u42 u43 u44 u45 u46 u47 u48 u49 u50 u51 u52 u53 u54 u55 : Value)  (wx : World), Below w.heap.size w wx → Q .normal ⟨#[.slice (some ⟨b, off, none⟩) n c, v1, v2, .int .i64 k, v4, v5, v6, v7, v8, v9, u10, u11, u12, u13, u14, u15, u16, u17, u18, u19, u20, u21, u22, u23, u24, u25, u26, u27, u28, u29, u30, u31, u32, u33, u34, u35, u36, u37, u38, u39, u40, u41, u42, u43, u44, u45, u46, u47, u48, u49, u50, u51, u52, u53, u54, u55, .bool (decide (0 ≤ r)), v57, v58, v59], []⟩ wx) :
  (Code.region 4 #[⟨some 10, .move (.tmp 0), 35, "l13_pend.go:25", #[], none⟩,
   ⟨some 11, .move (.tmp 3), 3, "l13_pend.go:25", #[], none⟩,
   ⟨some 12, .indexAddr 35 (.tmp 10) (.tmp 11), 0, "l13_pend.go:25", #[⟨0, .data⟩, ⟨1, .data⟩], none⟩,
   ⟨some 13, .fieldAddr 101 (.tmp 12) 0, 0, "l13_pend.go:25", #[⟨2, .data⟩], none⟩,
   ⟨some 14, .load 27 (.tmp 13), 27, "l13_pend.go:25", #[⟨3, .data⟩], none⟩,
   ⟨some 15, .call ⟨.value (.func 74), #[.tmp 14], #[27]⟩, 4, "l13_pend.go:25", #[⟨4, .data⟩], none⟩,
   ⟨some 16, .unOp UnOp.not 4 (.tmp 15), 4, "l13_pend.go:25", #[⟨5, .data⟩], none⟩,
   ⟨some 17, .move (.tmp 16), 4, "l13_pend.go:25", #[⟨6, .data⟩, ⟨5, .chain⟩], none⟩,
   ⟨some 18, .move (.tmp 0), 35, "l13_pend.go:25", #[⟨7, .guard⟩], some (7, false)⟩,
   ⟨some 19, .move (.tmp 3), 3, "l13_pend.go:25", #[⟨7, .guard⟩], some (7, false)⟩,
   ⟨some 20, .indexAddr 35 (.tmp 18) (.tmp 19), 0, "l13_pend.go:25", #[⟨8, .data⟩, ⟨9, .data⟩, ⟨7, .guard⟩], some (7, false)⟩,
   ⟨some 21, .fieldAddr 101 (.tmp 20) 0, 0, "l13_pend.go:25", #[⟨10, .data⟩, ⟨7, .guard⟩], some (7, false)⟩,
   ⟨some 22, .fieldAddr 27 (.tmp 21) 0, 0, "l13_pend.go:25", #[⟨11, .data⟩, ⟨7, .guard⟩], some (7, false)⟩,
   ⟨some 23, .load 25 (.tmp 22), 25, "l13_pend.go:25", #[⟨12, .data⟩, ⟨7, .guard⟩], some (7, false)⟩,
   ⟨some 24, .call ⟨.builtin .len, #[.tmp 23], #[25]⟩, 3, "l13_pend.go:25", #[⟨13, .data⟩, ⟨7, .guard⟩], some (7, false)⟩,
   ⟨some 25, .binOp BinOp.eql 3 (.tmp 24) (.const (Value.int IntKind.i64 0)) 3, 4, "l13_pend.go:25", #[⟨14, .data⟩, ⟨7, .guard⟩], some (7, false)⟩,
   ⟨some 26, .pick (.tmp 17) (.const (Value.bool true)) (.tmp 25), 4, "l13_pend.go:25", #[⟨7, .data⟩, ⟨15, .data⟩], none⟩,
   ⟨some 27, .move (.tmp 26), 4, "l13_pend.go:25", #[⟨16, .data⟩, ⟨7, .chain⟩], none⟩,
   ⟨some 28, .move (.tmp 0), 35, "l13_pend.go:25", #[⟨17, .guard⟩], some (17, false)⟩,
   ⟨some 29, .move (.tmp 3), 3, "l13_pend.go:25", #[⟨17, .guard⟩], some (17, false)⟩,
   ⟨some 30, .indexAddr 35 (.tmp 28) (.tmp 29), 0, "l13_pend.go:25", #[⟨18, .data⟩, ⟨19, .data⟩, ⟨17, .guard⟩], some (17, false)⟩,
   ⟨some 31, .fieldAddr 101 (.tmp 30) 1, 0, "l13_pend.go:25", #[⟨20, .data⟩, ⟨17, .guard⟩], some (17, false)⟩,
   ⟨some 32, .load 68 (.tmp 31), 68, "l13_pend.go:25", #[⟨21, .data⟩, ⟨17, .guard⟩], some (17, false)⟩,
   ⟨some 33, .call ⟨.value (.func 75), #[.tmp 32], #[68]⟩, 4, "l13_pend.go:25", #[⟨22, .data⟩, ⟨17, .chain⟩, ⟨17, .guard⟩], some (17, false)⟩,
   ⟨some 34, .unOp UnOp.not 4 (.tmp 33), 4, "l13_pend.go:25", #[⟨23, .data⟩, ⟨17, .guard⟩], some (17, false)⟩,
   ⟨some 35, .pick (.tmp 27) (.const (Value.bool true)) (.tmp 34), 4, "l13_pend.go:25", #[⟨17, .data⟩, ⟨24, .data⟩], none⟩,
   ⟨some 36, .move (.tmp 35), 4, "l13_pend.go:25", #[⟨25, .data⟩, ⟨23, .chain⟩], none⟩,
   ⟨some 37, .move (.tmp 0), 35, "l13_pend.go:25", #[⟨26, .guard⟩], some (26, false)⟩,
   ⟨some 38, .move (.tmp 3), 3, "l13_pend.go:25", #[⟨26, .guard⟩], some (26, false)⟩,
   ⟨some 39, .indexAddr 35 (.tmp 37) (.tmp 38), 0, "l13_pend.go:25", #[⟨27, .data⟩, ⟨28, .data⟩, ⟨26, .guard⟩], some (26, false)⟩,
   ⟨some 40, .fieldAddr 101 (.tmp 39) 2, 0, "l13_pend.go:25", #[⟨29, .data⟩, ⟨26, .guard⟩], some (26, false)⟩,
   ⟨some 41, .load 3 (.tmp 40), 3, "l13_pend.go:25", #[⟨30, .data⟩, ⟨26, .guard⟩], some (26, false)⟩,
   ⟨some 42, .call ⟨.value (.func 76), #[.tmp 41, .const (Value.int IntKind.i64 0), .const (Value.int IntKind.i64 100000)], #[3, 3, 3]⟩, 4, "l13_pend.go:25", #[⟨31, .data⟩, ⟨26, .chain⟩, ⟨26, .guard⟩], some (26, false)⟩,
   ⟨some 43, .unOp UnOp.not 4 (.tmp 42), 4, "l13_pend.go:25", #[⟨32, .data⟩, ⟨26, .guard⟩], some (26, false)⟩,
   ⟨some 44, .pick (.tmp 36) (.const (Value.bool true)) (.tmp 43), 4, "l13_pend.go:25", #[⟨26, .data⟩, ⟨33, .data⟩], none⟩,
   ⟨some 45, .move (.tmp 44), 4, "l13_pend.go:25", #[⟨34, .data⟩, ⟨32, .chain⟩], none⟩,
   ⟨some 46, .move (.tmp 0), 35, "l13_pend.go:25", #[⟨35, .guard⟩], some (35, false)⟩,
   ⟨some 47, .move (.tmp 3), 3, "l13_pend.go:25", #[⟨35, .guard⟩], some (35, false)⟩,
   ⟨some 48, .slice 35 (.tmp 46) none (some (.tmp 47)) none, 35, "l13_pend.go:25", #[⟨36, .data⟩, ⟨37, .data⟩, ⟨35, .guard⟩], some (35, false)⟩,
   ⟨some 49, .move (.tmp 0), 35, "l13_pend.go:25", #[⟨35, .guard⟩], some (35, false)⟩,
   ⟨some 50, .move (.tmp 3), 3, "l13_pend.go:25", #[⟨35, .guard⟩], some (35, false)⟩,
   ⟨some 51, .indexAddr 35 (.tmp 49) (.tmp 50), 0, "l13_pend.go:25", #[⟨39, .data⟩, ⟨40, .data⟩, ⟨35, .guard⟩], some (35, false)⟩,
   ⟨some 52, .fieldAddr 101 (.tmp 51) 0, 0, "l13_pend.go:25", #[⟨41, .data⟩, ⟨35, .guard⟩], some (35, false)⟩,
   ⟨some 53, .load 27 (.tmp 52), 27, "l13_pend.go:25", #[⟨42, .data⟩, ⟨35, .guard⟩], some (35, false)⟩,
   ⟨some 54, .call ⟨.value (.func 77), #[.tmp 48, .tmp 53], #[35, 27]⟩, 3, "l13_pend.go:25", #[⟨38, .data⟩, ⟨43, .data⟩, ⟨35, .chain⟩, ⟨35, .guard⟩], some (35, false)⟩,
   ⟨some 55, .binOp BinOp.geq 3 (.tmp 54) (.const (Value.int IntKind.i64 0)) 3, 4, "l13_pend.go:25", #[⟨44, .data⟩, ⟨35, .guard⟩], some (35, false)⟩,
   ⟨some 56, .pick (.tmp 45) (.const (Value.bool true)) (.tmp 55), 4, "l13_pend.go:25", #[⟨35, .data⟩, ⟨45, .data⟩], none⟩] true).wp Try.prog Q ⟨#[.slice (some ⟨b, off, none⟩) n c, v1, v2, .int .i64 k, v4, v5, v6, v7, v8, v9, v10, v11, v12, v13, v14, v15, v16, v17, v18, v19, v20, v21, v22, v23, v24, v25, v26, v27, v28, v29, v30, v31, v32, v33, v34, v35, v36, v37, v38, v39, v40, v41, v42, v43, v44, v45, v46, v47, v48, v49, v50, v51, v52, v53, v54, v55, v56, v57, v58, v59], []⟩ w := by
 have HQ := Lib.hid hQ; clear hQ
 have hdr : Below w.heap.size w w.drew := (Below.refl _ _).drew
 have BB := Lib.hid hdr
 refine wp_region_noPanic ?_
 refine wp_region_held_drew (S := (fun w' => w'.cell? ⟨b, off + k * 3, none⟩ = some (.slice x0 n0 c0) ∧ w'.cell? ⟨b, off + k * 3 + 1, none⟩ = some (.slice x1 n1 c1) ∧ w'.cell? ⟨b, off + k * 3 + 2, none⟩ = some (.int .i64 ls))) (by kernel_rfl) ?_ (fun hHeld => ?_)
 ·
  exact ⟨kc K0.out BB.out, kc K1.out BB.out, kc K2.out BB.out⟩
 clear hdr
 generalize w.drew = wd at *
 refine wpAnyH_take (i := 0) (oi := ⟨some 10, .move (.tmp 0), 35, "l13_pend.go:25", #[], none⟩) (v := ?_) rfl (by kernel_rfl) (by kernel_rfl) (by kernel_rfl) (fun _ _ _ h => h) (Or.inl ⟨by rfl, ?_⟩) (by assumption) ?_
 rotate_left
 ·
  intro w' hSw; (try dsimp only at hSw); first | (go_simp; done) | (go_simp; with_reducible rfl)
 (try simp only [Act.put, Row.pB0, Row.pB1, Row.pB2])
 refine wpAnyH_take (i := 1) (oi := ⟨some 11, .move (.tmp 3), 3, "l13_pend.go:25", #[], none⟩) (v := ?_) rfl (by kernel_rfl) (by kernel_rfl) (by kernel_rfl) (fun _ _ _ h => h) (Or.inl ⟨by rfl, ?_⟩) (by assumption) ?_
 rotate_left
 ·
  intro w' hSw; (try dsimp only at hSw); first | (go_simp; done) | (go_simp; with_reducible rfl)
 (try simp only [Act.put, Row.pB0, Row.pB1, Row.pB2])
 refine wpAnyH_take (i := 2) (oi := ⟨some 12, .indexAddr 35 (.tmp 10) (.tmp 11), 0, "l13_pend.go:25", #[⟨0, .data⟩, ⟨1, .data⟩], none⟩) (v := ?_) rfl (by kernel_rfl) (by kernel_rfl) (by kernel_rfl) (fun _ _ _ h => h) (Or.inl ⟨by rfl, ?_⟩) (by assumption) ?_
 rotate_left
 ·
  intro w' hSw; (try dsimp only at hSw); first | (go_simp; done) | (go_simp; with_reducible rfl)
 (try simp only [Act.put, Row.pB0, Row.pB1, Row.pB2])
 refine wpAnyH_take (i := 3) (oi := ⟨some 13, .fieldAddr 101 (.tmp 12) 0, 0, "l13_pend.go:25", #[⟨2, .data⟩], none⟩) (v := ?_) rfl (by kernel_rfl) (by kernel_rfl) (by kernel_rfl) (fun _ _ _ h => h) (Or.inl ⟨by rfl, ?_⟩) (by assumption) ?_
 rotate_left
 ·
  intro w' hSw; (try dsimp only at hSw); first | (go_simp; done) | (go_simp; with_reducible rfl)
 (try simp only [Act.put, Row.pB0, Row.pB1, Row.pB2])
 refine wpAnyH_take (i := 4) (oi := ⟨some 14, .load 27 (.tmp 13), 27, "l13_pend.go:25", #[⟨3, .data⟩], none⟩) (v := ?_) rfl (by kernel_rfl) (by kernel_rfl) (by kernel_rfl) (fun _ _ _ h => h) (Or.inl ⟨by rfl, ?_⟩) (by assumption) ?_
 rotate_left
 ·
  intro w' hSw; (try dsimp only at hSw); first | (go_simp; done) | (go_simp; with_reducible rfl)
 (try simp only [Act.put, Row.pB0, Row.pB1, Row.pB2])
 refine wpAnyH_ready (rs := [5]) (by kernel_rfl) (by simp) ?_
 refine AllReadyH.cons (o := ⟨some 15, .call ⟨.value (.func 74), #[.tmp 14], #[27]⟩, 4, "l13_pend.go:25", #[⟨4, .data⟩], none⟩) rfl (fun K hK => ?_) AllReadyH.nil
 go_simp
 refine (sValN true HV.out (H_m.out.on BB.out) (Nat.le_trans HMB.out (by decide))).mono ?_
 rintro e wn1 ⟨rfl, hb⟩
 replace BB := Lib.hid (BB.out.trans (hb.mono BB.out.size))
 clear hb
 (try go_wp2_with fail)
 clear hHeld
 refine hK.out _ _ ?_ (fun hHeld => ?_)
 ·
  (try dsimp only); exact ⟨kc K0.out BB.out, kc K1.out BB.out, kc K2.out BB.out⟩
 clear hK K
 (try simp only [Act.put, Row.pB0, Row.pB1, Row.pB2])
 refine wpAnyH_take (i := 6) (oi := ⟨some 16, .unOp UnOp.not 4 (.tmp 15), 4, "l13_pend.go:25", #[⟨5, .data⟩], none⟩) (v := ?_) rfl (by kernel_rfl) (by kernel_rfl) (by kernel_rfl) (fun _ _ _ h => h) (Or.inl ⟨by rfl, ?_⟩) (by assumption) ?_
 rotate_left
 ·
  intro w' hSw; (try dsimp only at hSw); first | (go_simp; done) | (go_simp; with_reducible rfl)
 (try simp only [Act.put, Row.pB0, Row.pB1, Row.pB2])
 refine wpAnyH_take (i := 7) (oi := ⟨some 17, .move (.tmp 16), 4, "l13_pend.go:25", #[⟨6, .data⟩, ⟨5, .chain⟩], none⟩) (v := ?_) rfl (by kernel_rfl) (by kernel_rfl) (by kernel_rfl) (fun _ _ _ h => h) (Or.inl ⟨by rfl, ?_⟩) (by assumption) ?_
 rotate_left
 ·
  intro w' hSw; (try dsimp only at hSw); first | (go_simp; done) | (go_simp; with_reducible rfl)
 (try simp only [Act.put, Row.pB0, Row.pB1, Row.pB2])
 refine wpAnyH_take (i := 8) (oi := ⟨some 18, .move (.tmp 0), 35, "l13_pend.go:25", #[⟨7, .guard⟩], some (7, false)⟩) (v := ?_) rfl (by kernel_rfl) (by kernel_rfl) (by kernel_rfl) (fun _ _ _ h => h) (Or.inl ⟨by rfl, ?_⟩) (by assumption) ?_
 rotate_left
 ·
  intro w' hSw; (try dsimp only at hSw); first | (go_simp; done) | (go_simp; with_reducible rfl)
 (try simp only [Act.put, Row.pB0, Row.pB1, Row.pB2])
 refine wpAnyH_take (i := 9) (oi := ⟨some 19, .move (.tmp 3), 3, "l13_pend.go:25", #[⟨7, .guard⟩], some (7, false)⟩) (v := ?_) rfl (by kernel_rfl) (by kernel_rfl) (by kernel_rfl) (fun _ _ _ h => h) (Or.inl ⟨by rfl, ?_⟩) (by assumption) ?_
 rotate_left
 ·
  intro w' hSw; (try dsimp only at hSw); first | (go_simp; done) | (go_simp; with_reducible rfl)
 (try simp only [Act.put, Row.pB0, Row.pB1, Row.pB2])
 refine wpAnyH_take (i := 10) (oi := ⟨some 20, .indexAddr 35 (.tmp 18) (.tmp 19), 0, "l13_pend.go:25", #[⟨8, .data⟩, ⟨9, .data⟩, ⟨7, .guard⟩], some (7, false)⟩) (v := ?_) rfl (by kernel_rfl) (by kernel_rfl) (by kernel_rfl) (fun _ _ _ h => h) (Or.inl ⟨by rfl, ?_⟩) (by assumption) ?_
 rotate_left
 ·
  intro w' hSw; (try dsimp only at hSw); first | (go_simp; done) | (go_simp; with_reducible rfl)
 (try simp only [Act.put, Row.pB0, Row.pB1, Row.pB2])
 refine wpAnyH_take (i := 11) (oi := ⟨some 21, .fieldAddr 101 (.tmp 20) 0, 0, "l13_pend.go:25", #[⟨10, .data⟩, ⟨7, .guard⟩], some (7, false)⟩) (v := ?_) rfl (by kernel_rfl) (by kernel_rfl) (by kernel_rfl) (fun _ _ _ h => h) (Or.inl ⟨by rfl, ?_⟩) (by assumption) ?_
 rotate_left
 ·
  intro w' hSw; (try dsimp only at hSw); first | (go_simp; done) | (go_simp; with_reducible rfl)
 (try simp only [Act.put, Row.pB0, Row.pB1, Row.pB2])
 refine wpAnyH_take (i := 12) (oi := ⟨some 22, .fieldAddr 27 (.tmp 21) 0, 0, "l13_pend.go:25", #[⟨11, .data⟩, ⟨7, .guard⟩], some (7, false)⟩) (v := ?_) rfl (by kernel_rfl) (by kernel_rfl) (by kernel_rfl) (fun _ _ _ h => h) (Or.inl ⟨by rfl, ?_⟩) (by assumption) ?_
 rotate_left
 ·
  intro w' hSw; (try dsimp only at hSw); first | (go_simp; done) | (go_simp; with_reducible rfl)
 (try simp only [Act.put, Row.pB0, Row.pB1, Row.pB2])
 refine wpAnyH_take (i := 13) (oi := ⟨some 23, .load 25 (.tmp 22), 25, "l13_pend.go:25", #[⟨12, .data⟩, ⟨7, .guard⟩], some (7, false)⟩) (v := ?_) rfl (by kernel_rfl) (by kernel_rfl) (by kernel_rfl) (fun _ _ _ h => h) (Or.inl ⟨by rfl, ?_⟩) (by assumption) ?_
 rotate_left
 ·
  intro w' hSw; (try dsimp only at hSw); first | (go_simp; done) | (go_simp; with_reducible rfl)
 (try simp only [Act.put, Row.pB0, Row.pB1, Row.pB2])
 refine wpAnyH_take (i := 14) (oi := ⟨some 24, .call ⟨.builtin .len, #[.tmp 23], #[25]⟩, 3, "l13_pend.go:25", #[⟨13, .data⟩, ⟨7, .guard⟩], some (7, false)⟩) (v := ?_) rfl (by kernel_rfl) (by kernel_rfl) (by kernel_rfl) (fun _ _ _ h => h) (Or.inl ⟨by rfl, ?_⟩) (by assumption) ?_
 rotate_left
 ·
  intro w' hSw; (try dsimp only at hSw); first | (go_simp; done) | (go_simp; with_reducible rfl)
 (try simp only [Act.put, Row.pB0, Row.pB1, Row.pB2])
 refine wpAnyH_take (i := 15) (oi := ⟨some 25, .binOp BinOp.eql 3 (.tmp 24) (.const (Value.int IntKind.i64 0)) 3, 4, "l13_pend.go:25", #[⟨14, .data⟩, ⟨7, .guard⟩], some (7, false)⟩) (v := ?_) rfl (by kernel_rfl) (by kernel_rfl) (by kernel_rfl) (fun _ _ _ h => h) (Or.inl ⟨by rfl, ?_⟩) (by assumption) ?_
 rotate_left
 ·
  intro w' hSw; (try dsimp only at hSw); first | (go_simp; done) | (go_simp; with_reducible rfl)
 (try simp only [Act.put, Row.pB0, Row.pB1, Row.pB2])
 refine wpAnyH_take (i := 16) (oi := ⟨some 26, .pick (.tmp 17) (.const (Value.bool true)) (.tmp 25), 4, "l13_pend.go:25", #[⟨7, .data⟩, ⟨15, .data⟩], none⟩) (v := ?_) rfl (by kernel_rfl) (by kernel_rfl) (by kernel_rfl) (fun _ _ _ h => h) (Or.inl ⟨by rfl, ?_⟩) (by assumption) ?_
 rotate_left
 ·
  intro w' hSw; (try dsimp only at hSw); first | (go_simp; done) | (go_simp; with_reducible rfl)
 (try simp only [Act.put, Row.pB0, Row.pB1, Row.pB2])
 refine wpAnyH_take (i := 17) (oi := ⟨some 27, .move (.tmp 26), 4, "l13_pend.go:25", #[⟨16, .data⟩, ⟨7, .chain⟩], none⟩) (v := ?_) rfl (by kernel_rfl) (by kernel_rfl) (by kernel_rfl) (fun _ _ _ h => h) (Or.inl ⟨by rfl, ?_⟩) (by assumption) ?_
 rotate_left
 ·
  intro w' hSw; (try dsimp only at hSw); first | (go_simp; done) | (go_simp; with_reducible rfl)
 (try simp only [Act.put, Row.pB0, Row.pB1, Row.pB2])
 refine wpAnyH_take (i := 18) (oi := ⟨some 28, .move (.tmp 0), 35, "l13_pend.go:25", #[⟨17, .guard⟩], some (17, false)⟩) (v := ?_) rfl (by kernel_rfl) (by kernel_rfl) (by kernel_rfl) (fun _ _ _ h => h) (Or.inl ⟨by rfl, ?_⟩) (by assumption) ?_
 rotate_left
 ·
  intro w' hSw; (try dsimp only at hSw); first | (go_simp; done) | (go_simp; with_reducible rfl)
 (try simp only [Act.put, Row.pB0, Row.pB1, Row.pB2])
 refine wpAnyH_take (i := 19) (oi := ⟨some 29, .move (.tmp 3), 3, "l13_pend.go:25", #[⟨17, .guard⟩], some (17, false)⟩) (v := ?_) rfl (by kernel_rfl) (by kernel_rfl) (by kernel_rfl) (fun _ _ _ h => h) (Or.inl ⟨by rfl, ?_⟩) (by assumption) ?_
 rotate_left
 ·
  intro w' hSw; (try dsimp only at hSw); first | (go_simp; done) | (go_simp; with_reducible rfl)
 (try simp only [Act.put, Row.pB0, Row.pB1, Row.pB2])
 refine wpAnyH_take (i := 20) (oi := ⟨some 30, .indexAddr 35 (.tmp 28) (.tmp 29), 0, "l13_pend.go:25", #[⟨18, .data⟩, ⟨19, .data⟩, ⟨17, .guard⟩], some (17, false)⟩) (v := ?_) rfl (by kernel_rfl) (by kernel_rfl) (by kernel_rfl) (fun _ _ _ h => h) (Or.inl ⟨by rfl, ?_⟩) (by assumption) ?_
 rotate_left
 ·
  intro w' hSw; (try dsimp only at hSw); first | (go_simp; done) | (go_simp; with_reducible rfl)
 (try simp only [Act.put, Row.pB0, Row.pB1, Row.pB2])
 refine wpAnyH_take (i := 21) (oi := ⟨some 31, .fieldAddr 101 (.tmp 30) 1, 0, "l13_pend.go:25", #[⟨20, .data⟩, ⟨17, .guard⟩], some (17, false)⟩) (v := ?_) rfl (by kernel_rfl) (by kernel_rfl) (by kernel_rfl) (fun _ _ _ h => h) (Or.inl ⟨by rfl, ?_⟩) (by assumption) ?_
 rotate_left
 ·
  intro w' hSw; (try dsimp only at hSw); first | (go_simp; done) | (go_simp; with_reducible rfl)
 (try simp only [Act.put, Row.pB0, Row.pB1, Row.pB2])
 refine wpAnyH_take (i := 22) (oi := ⟨some 32, .load 68 (.tmp 31), 68, "l13_pend.go:25", #[⟨21, .data⟩, ⟨17, .guard⟩], some (17, false)⟩) (v := ?_) rfl (by kernel_rfl) (by kernel_rfl) (by kernel_rfl) (fun _ _ _ h => h) (Or.inl ⟨by rfl, ?_⟩) (by assumption) ?_
 rotate_left
 ·
  intro w' hSw; (try dsimp only at hSw); first | (go_simp; done) | (go_simp; with_reducible rfl)
 (try simp only [Act.put, Row.pB0, Row.pB1, Row.pB2])
 refine wpAnyH_ready (rs := [23]) (by kernel_rfl) (by simp) ?_
 refine AllReadyH.cons (o := ⟨some 33, .call ⟨.value (.func 75), #[.tmp 32], #[68]⟩, 4, "l13_pend.go:25", #[⟨22, .data⟩, ⟨17, .chain⟩, ⟨17, .guard⟩], some (17, false)⟩) rfl (fun K hK => ?_) AllReadyH.nil
 go_simp
 refine (sValidQ _ rq _ true HYV.out (H_q.out.on BB.out) (Nat.le_trans HYB.out (by decide))).mono ?_
 rintro e wn2 ⟨rfl, hb⟩
 replace BB := Lib.hid (BB.out.trans (hb.mono BB.out.size))
 clear hb
 (try go_wp2_with fail)
 clear hHeld
 refine hK.out _ _ ?_ (fun hHeld => ?_)
 ·
  (try dsimp only); exact ⟨kc K0.out BB.out, kc K1.out BB.out, kc K2.out BB.out⟩
 clear hK K
 (try simp only [Act.put, Row.pB0, Row.pB1, Row.pB2])
 refine wpAnyH_take (i := 24) (oi := ⟨some 34, .unOp UnOp.not 4 (.tmp 33), 4, "l13_pend.go:25", #[⟨23, .data⟩, ⟨17, .guard⟩], some (17, false)⟩) (v := ?_) rfl (by kernel_rfl) (by kernel_rfl) (by kernel_rfl) (fun _ _ _ h => h) (Or.inl ⟨by rfl, ?_⟩) (by assumption) ?_
 rotate_left
 ·
  intro w' hSw; (try dsimp only at hSw); first | (go_simp; done) | (go_simp; with_reducible rfl)
 (try simp only [Act.put, Row.pB0, Row.pB1, Row.pB2])
 refine wpAnyH_take (i := 25) (oi := ⟨some 35, .pick (.tmp 27) (.const (Value.bool true)) (.tmp 34), 4, "l13_pend.go:25", #[⟨17, .data⟩, ⟨24, .data⟩], none⟩) (v := ?_) rfl (by kernel_rfl) (by kernel_rfl) (by kernel_rfl) (fun _ _ _ h => h) (Or.inl ⟨by rfl, ?_⟩) (by assumption) ?_
 rotate_left
 ·
  intro w' hSw; (try dsimp only at hSw); first | (go_simp; done) | (go_simp; with_reducible rfl)
 (try simp only [Act.put, Row.pB0, Row.pB1, Row.pB2])
 refine wpAnyH_take (i := 26) (oi := ⟨some 36, .move (.tmp 35), 4, "l13_pend.go:25", #[⟨25, .data⟩, ⟨23, .chain⟩], none⟩) (v := ?_) rfl (by kernel_rfl) (by kernel_rfl) (by kernel_rfl) (fun _ _ _ h => h) (Or.inl ⟨by rfl, ?_⟩) (by assumption) ?_
 rotate_left
 ·
  intro w' hSw; (try dsimp only at hSw); first | (go_simp; done) | (go_simp; with_reducible rfl)
 (try simp only [Act.put, Row.pB0, Row.pB1, Row.pB2])
 refine wpAnyH_take (i := 27) (oi := ⟨some 37, .move (.tmp 0), 35, "l13_pend.go:25", #[⟨26, .guard⟩], some (26, false)⟩) (v := ?_) rfl (by kernel_rfl) (by kernel_rfl) (by kernel_rfl) (fun _ _ _ h => h) (Or.inl ⟨by rfl, ?_⟩) (by assumption) ?_
 rotate_left
 ·
  intro w' hSw; (try dsimp only at hSw); first | (go_simp; done) | (go_simp; with_reducible rfl)
 (try simp only [Act.put, Row.pB0, Row.pB1, Row.pB2])
 refine wpAnyH_take (i := 28) (oi := ⟨some 38, .move (.tmp 3), 3, "l13_pend.go:25", #[⟨26, .guard⟩], some (26, false)⟩) (v := ?_) rfl (by kernel_rfl) (by kernel_rfl) (by kernel_rfl) (fun _ _ _ h => h) (Or.inl ⟨by rfl, ?_⟩) (by assumption) ?_
 rotate_left
 ·
  intro w' hSw; (try dsimp only at hSw); first | (go_simp; done) | (go_simp; with_reducible rfl)
 (try simp only [Act.put, Row.pB0, Row.pB1, Row.pB2])
 refine wpAnyH_take (i := 29) (oi := ⟨some 39, .indexAddr 35 (.tmp 37) (.tmp 38), 0, "l13_pend.go:25", #[⟨27, .data⟩, ⟨28, .data⟩, ⟨26, .guard⟩], some (26, false)⟩) (v := ?_) rfl (by kernel_rfl) (by kernel_rfl) (by kernel_rfl) (fun _ _ _ h => h) (Or.inl ⟨by rfl, ?_⟩) (by assumption) ?_
 rotate_left
 ·
  intro w' hSw; (try dsimp only at hSw); first | (go_simp; done) | (go_simp; with_reducible rfl)
 (try simp only [Act.put, Row.pB0, Row.pB1, Row.pB2])
 refine wpAnyH_take (i := 30) (oi := ⟨some 40, .fieldAddr 101 (.tmp 39) 2, 0, "l13_pend.go:25", #[⟨29, .data⟩, ⟨26, .guard⟩], some (26, false)⟩) (v := ?_) rfl (by kernel_rfl) (by kernel_rfl) (by kernel_rfl) (fun _ _ _ h => h) (Or.inl ⟨by rfl, ?_⟩) (by assumption) ?_
 rotate_left
 ·
  intro w' hSw; (try dsimp only at hSw); first | (go_simp; done) | (go_simp; with_reducible rfl)
 (try simp only [Act.put, Row.pB0, Row.pB1, Row.pB2])
 refine wpAnyH_take (i := 31) (oi := ⟨some 41, .load 3 (.tmp 40), 3, "l13_pend.go:25", #[⟨30, .data⟩, ⟨26, .guard⟩], some (26, false)⟩) (v := ?_) rfl (by kernel_rfl) (by kernel_rfl) (by kernel_rfl) (fun _ _ _ h => h) (Or.inl ⟨by rfl, ?_⟩) (by assumption) ?_
 rotate_left
 ·
  intro w' hSw; (try dsimp only at hSw); first | (go_simp; done) | (go_simp; with_reducible rfl)
 (try simp only [Act.put, Row.pB0, Row.pB1, Row.pB2])
 refine wpAnyH_ready (rs := [32]) (by kernel_rfl) (by simp) ?_
 refine AllReadyH.cons (o := ⟨some 42, .call ⟨.value (.func 76), #[.tmp 41, .const (Value.int IntKind.i64 0), .const (Value.int IntKind.i64 100000)], #[3, 3, 3]⟩, 4, "l13_pend.go:25", #[⟨31, .data⟩, ⟨26, .chain⟩, ⟨26, .guard⟩], some (26, false)⟩) rfl (fun K hK => ?_) AllReadyH.nil
 go_simp
 refine (sInP true HI.out).mono ?_
 rintro e wn3 ⟨rfl, hb⟩
 replace BB := Lib.hid (BB.out.trans (hb.mono BB.out.size))
 clear hb
 (try go_wp2_with fail)
 clear hHeld
 refine hK.out _ _ ?_ (fun hHeld => ?_)
 ·
  (try dsimp only); exact ⟨kc K0.out BB.out, kc K1.out BB.out, kc K2.out BB.out⟩
 clear hK K
 (try simp only [Act.put, Row.pB0, Row.pB1, Row.pB2])
 refine wpAnyH_take (i := 33) (oi := ⟨some 43, .unOp UnOp.not 4 (.tmp 42), 4, "l13_pend.go:25", #[⟨32, .data⟩, ⟨26, .guard⟩], some (26, false)⟩) (v := ?_) rfl (by kernel_rfl) (by kernel_rfl) (by kernel_rfl) (fun _ _ _ h => h) (Or.inl ⟨by rfl, ?_⟩) (by assumption) ?_
 rotate_left
 ·
  intro w' hSw; (try dsimp only at hSw); first | (go_simp; done) | (go_simp; with_reducible rfl)
 (try simp only [Act.put, Row.pB0, Row.pB1, Row.pB2])
 refine wpAnyH_take (i := 34) (oi := ⟨some 44, .pick (.tmp 36) (.const (Value.bool true)) (.tmp 43), 4, "l13_pend.go:25", #[⟨26, .data⟩, ⟨33, .data⟩], none⟩) (v := ?_) rfl (by kernel_rfl) (by kernel_rfl) (by kernel_rfl) (fun _ _ _ h => h) (Or.inl ⟨by rfl, ?_⟩) (by assumption) ?_
 rotate_left
 ·
  intro w' hSw; (try dsimp only at hSw); first | (go_simp; done) | (go_simp; with_reducible rfl)
 (try simp only [Act.put, Row.pB0, Row.pB1, Row.pB2])
 refine wpAnyH_take (i := 35) (oi := ⟨some 45, .move (.tmp 44), 4, "l13_pend.go:25", #[⟨34, .data⟩, ⟨32, .chain⟩], none⟩) (v := ?_) rfl (by kernel_rfl) (by kernel_rfl) (by kernel_rfl) (fun _ _ _ h => h) (Or.inl ⟨by rfl, ?_⟩) (by assumption) ?_
 rotate_left
 ·
  intro w' hSw; (try dsimp only at hSw); first | (go_simp; done) | (go_simp; with_reducible rfl)
 (try simp only [Act.put, Row.pB0, Row.pB1, Row.pB2])
 refine wpAnyH_take (i := 36) (oi := ⟨some 46, .move (.tmp 0), 35, "l13_pend.go:25", #[⟨35, .guard⟩], some (35, false)⟩) (v := ?_) rfl (by kernel_rfl) (by kernel_rfl) (by kernel_rfl) (fun _ _ _ h => h) (Or.inl ⟨by rfl, ?_⟩) (by assumption) ?_
 rotate_left
 ·
  intro w' hSw; (try dsimp only at hSw); first | (go_simp; done) | (go_simp; with_reducible rfl)
 (try simp only [Act.put, Row.pB0, Row.pB1, Row.pB2])
 refine wpAnyH_take (i := 37) (oi := ⟨some 47, .move (.tmp 3), 3, "l13_pend.go:25", #[⟨35, .guard⟩], some (35, false)⟩) (v := ?_) rfl (by kernel_rfl) (by kernel_rfl) (by kernel_rfl) (fun _ _ _ h => h) (Or.inl ⟨by rfl, ?_⟩) (by assumption) ?_
 rotate_left
 ·
  intro w' hSw; (try dsimp only at hSw); first | (go_simp; done) | (go_simp; with_reducible rfl)
 (try simp only [Act.put, Row.pB0, Row.pB1, Row.pB2])
 refine wpAnyH_take (i := 38) (oi := ⟨some 48, .slice 35 (.tmp 46) none (some (.tmp 47)) none, 35, "l13_pend.go:25", #[⟨36, .data⟩, ⟨37, .data⟩, ⟨35, .guard⟩], some (35, false)⟩) (v := ?_) rfl (by kernel_rfl) (by kernel_rfl) (by kernel_rfl) (fun _ _ _ h => h) (Or.inl ⟨by rfl, ?_⟩) (by assumption) ?_
 rotate_left
 ·
  intro w' hSw; (try dsimp only at hSw); first | (go_simp; done) | (go_simp; with_reducible rfl)
 (try simp only [Act.put, Row.pB0, Row.pB1, Row.pB2])
 refine wpAnyH_take (i := 39) (oi := ⟨some 49, .move (.tmp 0), 35, "l13_pend.go:25", #[⟨35, .guard⟩], some (35, false)⟩) (v := ?_) rfl (by kernel_rfl) (by kernel_rfl) (by kernel_rfl) (fun _ _ _ h => h) (Or.inl ⟨by rfl, ?_⟩) (by assumption) ?_
 rotate_left
 ·
  intro w' hSw; (try dsimp only at hSw); first | (go_simp; done) | (go_simp; with_reducible rfl)
 (try simp only [Act.put, Row.pB0, Row.pB1, Row.pB2])
 refine wpAnyH_take (i := 40) (oi := ⟨some 50, .move (.tmp 3), 3, "l13_pend.go:25", #[⟨35, .guard⟩], some (35, false)⟩) (v := ?_) rfl (by kernel_rfl) (by kernel_rfl) (by kernel_rfl) (fun _ _ _ h => h) (Or.inl ⟨by rfl, ?_⟩) (by assumption) ?_
 rotate_left
 ·
  intro w' hSw; (try dsimp only at hSw); first | (go_simp; done) | (go_simp; with_reducible rfl)
 (try simp only [Act.put, Row.pB0, Row.pB1, Row.pB2])
 refine wpAnyH_take (i := 41) (oi := ⟨some 51, .indexAddr 35 (.tmp 49) (.tmp 50), 0, "l13_pend.go:25", #[⟨39, .data⟩, ⟨40, .data⟩, ⟨35, .guard⟩], some (35, false)⟩) (v := ?_) rfl (by kernel_rfl) (by kernel_rfl) (by kernel_rfl) (fun _ _ _ h => h) (Or.inl ⟨by rfl, ?_⟩) (by assumption) ?_
 rotate_left
 ·
  intro w' hSw; (try dsimp only at hSw); first | (go_simp; done) | (go_simp; with_reducible rfl)
 (try simp only [Act.put, Row.pB0, Row.pB1, Row.pB2])
 refine wpAnyH_take (i := 42) (oi := ⟨some 52, .fieldAddr 101 (.tmp 51) 0, 0, "l13_pend.go:25", #[⟨41, .data⟩, ⟨35, .guard⟩], some (35, false)⟩) (v := ?_) rfl (by kernel_rfl) (by kernel_rfl) (by kernel_rfl) (fun _ _ _ h => h) (Or.inl ⟨by rfl, ?_⟩) (by assumption) ?_
 rotate_left
 ·
  intro w' hSw; (try dsimp only at hSw); first | (go_simp; done) | (go_simp; with_reducible rfl)
 (try simp only [Act.put, Row.pB0, Row.pB1, Row.pB2])
 refine wpAnyH_take (i := 43) (oi := ⟨some 53, .load 27 (.tmp 52), 27, "l13_pend.go:25", #[⟨42, .data⟩, ⟨35, .guard⟩], some (35, false)⟩) (v := ?_) rfl (by kernel_rfl) (by kernel_rfl) (by kernel_rfl) (fun _ _ _ h => h) (Or.inl ⟨by rfl, ?_⟩) (by assumption) ?_
 rotate_left
 ·
  intro w' hSw; (try dsimp only at hSw); first | (go_simp; done) | (go_simp; with_reducible rfl)
 (try simp only [Act.put, Row.pB0, Row.pB1, Row.pB2])
 refine wpAnyH_ready (rs := [44]) (by kernel_rfl) (by simp) ?_
 refine AllReadyH.cons (o := ⟨some 54, .call ⟨.value (.func 77), #[.tmp 48, .tmp 53], #[35, 27]⟩, 3, "l13_pend.go:25", #[⟨38, .data⟩, ⟨43, .data⟩, ⟨35, .chain⟩, ⟨35, .guard⟩], some (35, false)⟩) rfl (fun K hK => ?_) AllReadyH.nil
 go_simp
 refine (sFindP _ _ (l.take k) m _ r HR.out (H_l.out.on BB.out) (H_m.out.on BB.out) HLL.out HLP.out HMB.out).mono ?_
 rintro e wn4 ⟨rfl, hb⟩
 replace BB := Lib.hid (BB.out.trans (hb.mono BB.out.size))
 clear hb
 (try go_wp2_with fail)
 clear hHeld
 refine hK.out _ _ ?_ (fun hHeld => ?_)
 ·
  (try dsimp only); exact ⟨kc K0.out BB.out, kc K1.out BB.out, kc K2.out BB.out⟩
 clear hK K
 (try simp only [Act.put, Row.pB0, Row.pB1, Row.pB2])
 refine wpAnyH_take (i := 45) (oi := ⟨some 55, .binOp BinOp.geq 3 (.tmp 54) (.const (Value.int IntKind.i64 0)) 3, 4, "l13_pend.go:25", #[⟨44, .data⟩, ⟨35, .guard⟩], some (35, false)⟩) (v := ?_) rfl (by kernel_rfl) (by kernel_rfl) (by kernel_rfl) (fun _ _ _ h => h) (Or.inl ⟨by rfl, ?_⟩) (by assumption) ?_
 rotate_left
 ·
  intro w' hSw; (try dsimp only at hSw); first | (go_simp; done) | (go_simp; with_reducible rfl)
 (try simp only [Act.put, Row.pB0, Row.pB1, Row.pB2])
 refine wpAnyH_take (i := 46) (oi := ⟨some 56, .pick (.tmp 45) (.const (Value.bool true)) (.tmp 55), 4, "l13_pend.go:25", #[⟨35, .data⟩, ⟨45, .data⟩], none⟩) (v := ?_) rfl (by kernel_rfl) (by kernel_rfl) (by kernel_rfl) (fun _ _ _ h => h) (Or.inl ⟨by rfl, ?_⟩) (by assumption) ?_
 rotate_left
 ·
  intro w' hSw; (try dsimp only at hSw); first | (go_simp; done) | (go_simp; with_reducible rfl)
 (try simp only [Act.put, Row.pB0, Row.pB1, Row.pB2])
 refine wpAnyH_done (by kernel_rfl) ?_ _
 exact NoPanic.normal (HQ.out _ _ _ _ _ _ _ _ _ _ _ _ _ _ _ _ _ _ _ _ _ _ _ _ _ _ _ _ _ _ _ _ _ _ _ _ _ _ _ _ _ _ _ _ _ _  _  BB.out)
end Go.Proofs.Ytjphnlkdbhcblaa.Row
/- The model: ValidPending. No conditions but that lengths fit. -/
namespace Go.Proofs.Ytjphnlkdbhcblaa.Row
open Go.ChangeShapes Go.WideShapes Go.ChangeAt Go.RowKit Go.Instr
set_option linter.unusedVariables false
set_option maxRecDepth 100000
set_option maxHeartbeats 4000000 in
theorem specValidPending (V : Value) (l : List Pit) (w : World) (z : Bool) (hz : validPs l = z) (h : kLPi.At w V l) (hf : FitP l) :
    Calls Try.prog 22 #[V] w fun e w' => e = .returned (.bool z) ∧ Below w.heap.size w w' := by
  have hl := hf.len9
  have hp := hf.each
  have hz2 := hz
  unfold validPs at hz2
  have HAT0 := Lib.hid h
  obtain ⟨x, n, cx, L, rfl, hn, ht, hh, hel⟩ := kLPi_at h
  have hlen : l.length = n := by rw [← ht, List.length_map]; exact hn.symm
  rw [hlen] at hl
  have hcap : n ≤ cx := by obtain ⟨x', n', cap', hv, hn', hc', -⟩ := hh.shapeN; cases hv; exact hc'
  rw [hlen] at hz2
  have HZ := Lib.hid hz2
  have HN := Lib.hid hn; have HT := Lib.hid ht; have HH := Lib.hid hh; have HEL := Lib.hid hel; have HLEN := Lib.hid hlen; have HP := Lib.hid hp
  clear hn ht hh hel hlen hp h hz hz2
  go_enter Try.func22, Try.ntmps22
  go_wp2
  go_loopw [3] (fun iv wr => ∃ i : Nat, i ≤ n ∧ iv = .int .i64 i ∧ Hid (vldP l i = true) ∧ Hid (Below w.heap.size w wr)) (fun iv _ => n - (intOf iv).toNat)
  case atStart => exact ⟨0, Nat.zero_le _, rfl, Lib.hid rfl, Lib.hid (Below.refl _ _)⟩
  case round =>
    obtain ⟨k, hk, rfl, ha, hb⟩ := hrel
    by_cases hlt : k < n
    · have hlen := HN.out
      obtain ⟨b, off, y0, m0, d0, y1, m1, d1, rfl, -, hc0, hc1, hc2, hA⟩ := kLPi_elem (HH.out.on hb.out) (fun y hy => kPi.holds_on (HEL.out y hy) hb.out) (j := k) (by omega)
      have hpt : nth l k = kPi.strip (nth L k) := by rw [← HT.out, nth_map _ (by omega)]
      have hps := HP.out (nth l k) (nth_mem (by have := HLEN.out; omega))
      rw [← hpt] at hA hc2
      obtain ⟨hNM, hRQ⟩ := kPi_parts hA
      have HA := Lib.hid hA; have HNM := Lib.hid hNM; have HRQ := Lib.hid hRQ; have HPS := Lib.hid hps; have HPN := Lib.hid (show bulk (nth l k).1 ≤ 1200000 from (wtPi_lens hps).1); have HPR := Lib.hid (show (nth l k).2.1.length ≤ 1200000 from (wtPi_lens hps).2)
      have H0 := Lib.hid hc0; have H1 := Lib.hid hc1; have H2 := Lib.hid hc2
      clear hlen hpt hps hA hNM hRQ
      have HATL := Lib.hid (HAT0.out.on hb.out)
      have HL0 := Lib.hid (kN_lenP HNM.out)
      have HTK := Lib.hid (kLPi_take (k := k) HATL.out (by have := HLEN.out; omega))
      have HTL := Lib.hid (show (l.take k).length ≤ 9000000 by rw [List.length_take]; omega)
      have HTP := Lib.hid (fun x hx => HP.out x (List.mem_of_mem_take hx) : ∀ x ∈ l.take k, wtPi x ≤ 1200000)
      obtain ⟨q1, hq1⟩ : ∃ q, validN (nth l k).1 = q := ⟨_, rfl⟩
      obtain ⟨q2, hq2⟩ : ∃ q, validQs (nth l k).2.1 = q := ⟨_, rfl⟩
      obtain ⟨q3, hq3⟩ : ∃ q, Num.inB (nth l k).2.2 0 100000 = q := ⟨_, rfl⟩
      obtain ⟨r, hr⟩ : ∃ r, ixL (isP (nth l k).1) (l.take k) = r := ⟨_, rfl⟩
      have HQ1 := Lib.hid hq1; have HQ2 := Lib.hid hq2; have HQ3 := Lib.hid hq3; have HR := Lib.hid hr
      clear hq1 hq2 hq3 hr hc0 hc1 hc2
      go_wp2_with fail
      cases q1 with
      | false =>
        refine rvp0 hlt (by omega) hl HQ1 HNM HPN H0 ?_
        intro u10 u11 u12 u13 u14 u15 u16 u17 u18 u19 u20 u21 u22 u23 u24 u25 u26 u27 u28 u29 u30 u31 u32 u33 u34 u35 u36 u37 u38 u39 u40 u41 u42 u43 u44 u45 u46 u47 u48 u49 u50 u51 u52 u53 u54 u55 wx hbx
        have HB3 := Lib.hid (hb.out.trans (hbx.mono hb.out.size))
        have HE : Hid (z = false) := Lib.hid (by rw [← HZ.out, vldP_le (k := k + 1) (by unfold vldP validI; simp [HQ1.out]) (by omega)]; rfl)
        clear hbx
        go_wp2
        go_ret
        exact ⟨ret_bool HE.out.symm, HB3.out⟩
      | true =>
        by_cases h0 : (m0 : Int) = 0
        · refine rvp1 hlt (by omega) hl HQ1 HNM HPN (by simpa using h0) H0 ?_
          intro u10 u11 u12 u13 u14 u15 u16 u17 u18 u19 u20 u21 u22 u23 u24 u25 u26 u27 u28 u29 u30 u31 u32 u33 u34 u35 u36 u37 u38 u39 u40 u41 u42 u43 u44 u45 u46 u47 u48 u49 u50 u51 u52 u53 u54 u55 wx hbx
          have HL9 : Hid ((nth l k).1.length = 0) := Lib.hid (by have := HL0.out; omega)
          clear h0
          have HB3 := Lib.hid (hb.out.trans (hbx.mono hb.out.size))
          have HE : Hid (z = false) := Lib.hid (by rw [← HZ.out, vldP_le (k := k + 1) (by unfold vldP validI; simp [HL9.out]) (by omega)]; rfl)
          clear hbx
          go_wp2
          go_ret
          exact ⟨ret_bool HE.out.symm, HB3.out⟩
        · cases q2 with
          | false =>
            refine rvp2 hlt (by omega) hl HQ1 HNM HPN (by simpa using h0) HQ2 HRQ HPR H0 H1 ?_
            intro u10 u11 u12 u13 u14 u15 u16 u17 u18 u19 u20 u21 u22 u23 u24 u25 u26 u27 u28 u29 u30 u31 u32 u33 u34 u35 u36 u37 u38 u39 u40 u41 u42 u43 u44 u45 u46 u47 u48 u49 u50 u51 u52 u53 u54 u55 wx hbx
            clear h0
            have HB3 := Lib.hid (hb.out.trans (hbx.mono hb.out.size))
            have HE : Hid (z = false) := Lib.hid (by rw [← HZ.out, vldP_le (k := k + 1) (by unfold vldP validI; simp [HQ2.out]) (by omega)]; rfl)
            clear hbx
            go_wp2
            go_ret
            exact ⟨ret_bool HE.out.symm, HB3.out⟩
          | true =>
            cases q3 with
            | false =>
              refine rvp3 hlt (by omega) hl HQ1 HNM HPN (by simpa using h0) HQ2 HRQ HPR HQ3 H0 H1 H2 ?_
              intro u10 u11 u12 u13 u14 u15 u16 u17 u18 u19 u20 u21 u22 u23 u24 u25 u26 u27 u28 u29 u30 u31 u32 u33 u34 u35 u36 u37 u38 u39 u40 u41 u42 u43 u44 u45 u46 u47 u48 u49 u50 u51 u52 u53 u54 u55 wx hbx
              clear h0
              have HB3 := Lib.hid (hb.out.trans (hbx.mono hb.out.size))
              have HE : Hid (z = false) := Lib.hid (by rw [← HZ.out, vldP_le (k := k + 1) (by unfold vldP validI; simp [HQ3.out]) (by omega)]; rfl)
              clear hbx
              go_wp2
              go_ret
              exact ⟨ret_bool HE.out.symm, HB3.out⟩
            | true =>
              refine rvp4 (l := l) hlt (by omega) hl HQ1 HNM HPN (by simpa using h0) HQ2 HRQ HPR HQ3 HR HTK HTL HTP H0 H1 H2 ?_
              intro u10 u11 u12 u13 u14 u15 u16 u17 u18 u19 u20 u21 u22 u23 u24 u25 u26 u27 u28 u29 u30 u31 u32 u33 u34 u35 u36 u37 u38 u39 u40 u41 u42 u43 u44 u45 u46 u47 u48 u49 u50 u51 u52 u53 u54 u55 wx hbx
              have hb2 := Lib.hid (hb.out.trans (hbx.mono hb.out.size))
              have HL9 : Hid (0 < (nth l k).1.length) := Lib.hid (by have := HL0.out; omega)
              clear hbx h0
              by_cases h0 : 0 ≤ r
              · have t0 : decide (0 ≤ r) = true := decide_eq_true h0
                have HE : Hid (z = false) := Lib.hid (by
                  rw [← HZ.out, vldP_le (k := k + 1) (by unfold vldP; rw [anyP_find, HR.out, t0]; simp) (by omega)]; rfl)
                go_wp2
                go_ret
                exact ⟨ret_bool HE.out.symm, hb2.out⟩
              · have t0 : decide (0 ≤ r) = false := decide_eq_false h0
                have HA2 : Hid (vldP l (k + 1) = true) := Lib.hid (by unfold vldP validI; rw [ha.out, anyP_find, HR.out, t0]; simp [HQ1.out, HQ2.out, HQ3.out, HL9.out])
                go_wp2
                go_roundw
                case rel => exact ⟨k + 1, by omega, by go_num, HA2, hb2⟩
                case measure => simp [intOf]; omega
    · obtain rfl : k = n := by omega
      have HE : Hid (decide ((k : Int) ≤ 12) = z) := Lib.hid (by rw [← HZ.out, ha.out, Bool.true_and]; exact decide_eq_decide.2 (by omega))
      clear hlt
      go_wp2
      go_ret
      exact ⟨ret_bool HE.out, hb.out⟩
end Go.Proofs.Ytjphnlkdbhcblaa.Row
/- The program finds a pending interest: pendingIndex, HasPending, LastSentAt. No conditions but that lengths fit. -/
namespace Go.Proofs.Ytjphnlkdbhcblaa.Row
open Go.ChangeShapes Go.WideShapes Go.ChangeAt Go.RowKit Go.Instr
set_option linter.unusedVariables false
set_option maxRecDepth 100000
set_option maxHeartbeats 2000000 in
theorem indexP1 (b0 : Addr) (p : Pit → Bool) (ok : Pit → Prop) (v : Value) (l : List Pit) (w : World) (z : Int) (hz : ixL p l = z) (h : kLPi.At w v l) (hl : l.length ≤ 9000000) (hp : ∀ x ∈ l, ok x) (hc : ClosK Try.prog kPi 124 #[.pointer (some b0)] p ok w) :
    Calls Try.prog 123 #[v, .func (.func 124) #[] #[.pointer (some b0)]] w fun e w' => e = .returned (.int .i64 z) ∧ Below w.heap.size w w' := by
  obtain ⟨x, n, cx, L, rfl, hn, ht, hh, hel⟩ := kLPi_at h
  have hlen : l.length = n := by rw [← ht, List.length_map]; exact hn.symm
  rw [hlen] at hl
  have hcap : n ≤ cx := by obtain ⟨x', n', cap', hv, hn', hc', -⟩ := hh.shapeN; cases hv; exact hc'
  have HN := Lib.hid hn; have HT := Lib.hid ht; have HH := Lib.hid hh; have HEL := Lib.hid hel; have HLEN := Lib.hid hlen; have HP := Lib.hid hp; have HC := Lib.hid hc; have HZ := Lib.hid hz
  clear hn h hh hc hp ht hel hlen hz
  go_enter Try.func123, Try.ntmps123
  go_wp2
  go_loopw [8] (fun iv wr => ∃ i : Nat, i ≤ n ∧ iv = .int .i64 i ∧ Hid (noL p l i) ∧ Hid (Below w.heap.size w wr)) (fun iv _ => n - (intOf iv).toNat)
  case atStart => exact ⟨0, Nat.zero_le _, rfl, Lib.hid (noL_zero _ _), Lib.hid (Below.refl _ _)⟩
  case round =>
    obtain ⟨k, hk, rfl, ha, hb⟩ := hrel
    by_cases hlt : k < n
    · have hlen := HN.out
      obtain ⟨b, off, y0, m0, d0, y1, m1, d1, rfl, -, hc0, hc1, hc2, hA⟩ := kLPi_elem (HH.out.on hb.out) (fun y hy => kPi.holds_on (HEL.out y hy) hb.out) (j := k) (by omega)
      have hpt : nth l k = kPi.strip (nth L k) := by rw [← HT.out, nth_map _ (by omega)]
      have hps := HP.out (nth l k) (nth_mem (by have := HLEN.out; omega))
      rw [hpt] at hps
      obtain ⟨q, hq⟩ : ∃ q, p (kPi.strip (nth L k)) = q := ⟨_, rfl⟩
      have HCL := HC.out _ _ wr hb.out hA hps
      rw [hq] at HCL
      rw [← hpt] at hq
      replace HCL := Lib.hid HCL
      have HQ := Lib.hid hq
      clear hlen hpt hps hA hq
      go_wp2_with fail
      refine HCL.out.mono ?_
      rintro e w2 ⟨rfl, hb2⟩
      have HB2 := Lib.hid (hb.out.trans (hb2.mono hb.out.size))
      clear hb2 hc0 hc1 hc2 HCL
      cases q with
      | true =>
        have HV := Lib.hid (show z = (k : Int) from HZ.out.symm.trans (ixL_at (by have := HLEN.out; omega) ha.out HQ.out))
        go_wp2
        go_ret
        exact ⟨ret_int HV.out.symm, HB2.out⟩
      | false =>
        have HA := Lib.hid (noL_succ ha.out HQ.out)
        go_wp2
        go_roundw
        case rel => exact ⟨k + 1, by omega, by go_num, HA, HB2⟩
        case measure => simp [intOf]; omega
    · obtain rfl : k = n := by omega
      have HV := Lib.hid (show z = -1 from HZ.out.symm.trans (ixL_none (by rw [HLEN.out]; exact ha.out)))
      clear hlt
      go_wp2
      go_ret
      exact ⟨ret_int HV.out.symm, hb.out⟩
theorem clos_pi (g : Nat) (m : List ByteArray) (w : World) {xn : Option Addr} {nn cn : Nat} (hg : w.cell? ⟨g, 0, none⟩ = some (.slice xn nn cn)) (h : kN.At w (.agg #[.slice xn nn cn]) m) (hm : bulk m ≤ 1200000) :
    ClosK Try.prog kPi 124 #[.pointer (some ⟨g, 0, none⟩)] (isP m) (fun x => wtPi x ≤ 1200000) w := by
  intro x V w1 hb hA hx
  obtain ⟨x0, n0, c0, x1, n1, c1, rfl, hA⟩ := kPi_shapeA hA
  obtain ⟨hN, -⟩ := kPi_parts hA
  have hg1 := kc hg hb
  have HX := Lib.hid (Ret.Blk.new w1 #[.slice x0 n0 c0, .slice x1 n1 c1, .int .i64 x.2.2] 101)
  have hal := (Below.refl w1.heap.size w1).alloc (Nat.le_refl _) (.cells #[.slice x0 n0 c0, .slice x1 n1 c1, .int .i64 x.2.2] 101)
  have HG := Lib.hid (kc hg1 hal)
  have HN := Lib.hid (hN.on hal); have HM := Lib.hid ((h.on hb).on hal); have HB := Lib.hid hal
  have l1 := (wtPi_lens hx).1
  obtain ⟨q, hq⟩ : ∃ q, decide (x.1 = m) = q := ⟨_, rfl⟩
  have HQ := Lib.hid hq
  unfold isP
  rw [hq]
  clear hal hN hA hg1 hg h hb hq
  go_enter Try.func124, Try.ntmps124
  have q0 := HX.out.cell 0
  have g0 := HG.out
  go_wp2_with fail
  refine (iEqK q HQ.out HN.out HM.out (by omega) (by omega)).mono ?_
  rintro e w2 ⟨rfl, hb2⟩
  have HB2 := Lib.hid (HB.out.trans (hb2.mono HB.out.size))
  clear hb2
  go_wp2
  go_ret
  exact ⟨rfl, HB2.out⟩
set_option maxHeartbeats 2000000 in
theorem pIndex (V U : Value) (l : List Pit) (m : List ByteArray) (w : World) (z : Int) (hz : ixL (isP m) l = z) (h : kLPi.At w V l) (g : kN.At w U m) (hl : l.length ≤ 9000000) (hp : ∀ x ∈ l, wtPi x ≤ 1200000) (hm : bulk m ≤ 1200000) :
    Calls Try.prog 80 #[V, U] w fun e w' => e = .returned (.int .i64 z) ∧ Below w.heap.size w w' := by
  obtain ⟨x, n, c, rfl, h⟩ := kLPi_shapeA h
  obtain ⟨xn, nn, cn, rfl, g⟩ := kN_shapeA g
  have hal := (Below.refl w.heap.size w).alloc (Nat.le_refl _) (.cells #[.slice xn nn cn] 27)
  have HH := Lib.hid (h.on hal); have HB := Lib.hid hal; have HP := Lib.hid hp; have HZ := Lib.hid hz
  have HC := Lib.hid (clos_pi w.heap.size m (w.alloc (.cells #[.slice xn nn cn] 27)) ((Ret.Blk.new w #[.slice xn nn cn] 27).cell 0) (g.on hal) hm)
  have hmf : ∀ (fn : Fn) (first cap : Array Value) (w : World), (Instr.makeFunc fn first cap).run Try.prog w = .ok (.func fn first cap) w := fun _ _ _ _ => rfl
  clear h g hp hz hal
  go_enter Try.func80, Try.ntmps80
  go_wp2_with fail
  refine (indexP1 _ (isP m) _ _ l _ z HZ.out HH.out hl HP.out HC.out).mono ?_
  rintro e w1 ⟨rfl, hb⟩
  have HB2 := Lib.hid (HB.out.trans (hb.mono HB.out.size))
  clear hb
  go_wp2
  go_ret
  exact ⟨rfl, HB2.out⟩
set_option maxHeartbeats 2000000 in
theorem implHasPending (V U : Value) (l : List Pit) (m : List ByteArray) (w : World) (z : Bool) (hz : hasPd l m = z) (h : kLPi.At w V l) (g : kN.At w U m) (hl : FitP l) (hm : bulk m ≤ 1200000) :
    Calls Try.prog 36 #[V, U] w fun e w' => e = .returned (.bool z) ∧ Below w.heap.size w w' := by
  obtain ⟨x, n, c, rfl, h⟩ := kLPi_shapeA h
  obtain ⟨xn, nn, cn, rfl, g⟩ := kN_shapeA g
  have hal := (Below.refl w.heap.size w).alloc (Nat.le_refl _) (.cells #[.slice xn nn cn] 27)
  obtain ⟨r, hr⟩ : ∃ r, ixL (isP m) l = r := ⟨_, rfl⟩
  unfold hasPd at hz
  rw [hr] at hz
  have HX := Lib.hid (Ret.Blk.new w #[.slice xn nn cn] 27)
  have HH := Lib.hid (h.on hal); have HG := Lib.hid (g.on hal); have HB := Lib.hid hal; have HL := Lib.hid hl; have HZ := Lib.hid hz; have HR := Lib.hid hr
  clear h g hz hal hl hr
  go_enter Try.func36, Try.ntmps36
  have q0 := HX.out.cell 0
  go_wp2_with fail
  refine (pIndex _ _ l m _ r HR.out HH.out HG.out HL.out.len9 HL.out.each hm).mono ?_
  rintro e w1 ⟨rfl, hb⟩
  have HB2 := Lib.hid (HB.out.trans (hb.mono HB.out.size))
  clear hb q0
  go_wp2
  go_ret
  exact ⟨ret_bool HZ.out, HB2.out⟩
set_option maxHeartbeats 4000000 in
theorem implLastSentAt (V U : Value) (l : List Pit) (m : List ByteArray) (w : World) (z : Int) (hz : lastP l m = z) (h : kLPi.At w V l) (g : kN.At w U m) (hl : FitP l) (hm : bulk m ≤ 1200000) :
    Calls Try.prog 44 #[V, U] w fun e w' => e = .returned (.int .i64 z) ∧ Below w.heap.size w w' := by
  obtain ⟨x, n, c, L, rfl, hn, ht, hh, hel⟩ := kLPi_at h
  obtain ⟨xn, nn, cn, rfl, g⟩ := kN_shapeA g
  have hal := (Below.refl w.heap.size w).alloc (Nat.le_refl _) (.cells #[.slice xn nn cn] 27)
  obtain ⟨r, hr⟩ : ∃ r, ixL (isP m) l = r := ⟨_, rfl⟩
  have hlen : l.length = n := by rw [← ht, List.length_map]; exact hn.symm
  have hcap : n ≤ c := by obtain ⟨x', n', cap', hv, hn', hc', -⟩ := hh.shapeN; cases hv; exact hc'
  have HX := Lib.hid (Ret.Blk.new w #[.slice xn nn cn] 27)
  have HAT := Lib.hid (h.on hal); have HG := Lib.hid (g.on hal); have HB := Lib.hid hal; have HL := Lib.hid hl; have HZ := Lib.hid hz; have HR := Lib.hid hr
  have HN := Lib.hid hn; have HT := Lib.hid ht; have HH := Lib.hid hh; have HEL := Lib.hid hel; have HLEN := Lib.hid hlen
  clear h g hz hal hl hr hn ht hh hel hlen
  go_enter Try.func44, Try.ntmps44
  have q0 := HX.out.cell 0
  go_wp2_with fail
  refine (pIndex _ _ l m _ r HR.out HAT.out HG.out HL.out.len9 HL.out.each hm).mono ?_
  rintro e w1 ⟨rfl, hb⟩
  have HB2 := Lib.hid (HB.out.trans (hb.mono HB.out.size))
  clear hb q0
  rcases ixL_cases (isP m) l with ⟨e1, -⟩ | ⟨k, hk, e1, -, -⟩
  · have HV := Lib.hid (show 0 = z from by rw [← HZ.out]; unfold lastP; rw [if_neg (by omega)])
    obtain rfl : r = -1 := by rw [← HR.out]; exact e1
    clear e1
    go_wp2
    go_ret
    exact ⟨ret_int HV.out, HB2.out⟩
  · have HV := Lib.hid (show (nth l k).2.2 = z from by rw [← HZ.out]; unfold lastP; rw [if_pos (by omega), e1]; simp)
    obtain rfl : r = (k : Int) := by rw [← HR.out]; exact e1
    have hk2 : k < n := by have := HLEN.out; omega
    have hl9 := HL.out.len
    have hln := HLEN.out
    rw [hln] at hl9
    obtain ⟨b, off, y0, m0, d0, y1, m1, d1, rfl, -, hc0, hc1, hc2, hA⟩ := kLPi_elem (HH.out.on HB2.out) (fun y hy => kPi.holds_on (HEL.out y hy) HB2.out) (j := k) (by have := HN.out; omega)
    have hpt : nth l k = kPi.strip (nth L k) := by rw [← HT.out, nth_map _ (by have := HN.out; omega)]
    rw [← hpt] at hc2
    clear e1 hA hpt hk hln
    go_wp2
    go_ret
    exact ⟨ret_int HV.out, HB2.out⟩
end Go.Proofs.Ytjphnlkdbhcblaa.Row
/- The program: validRequesters, validPendingInterest, ValidPending. No conditions but that lengths fit. -/
namespace Go.Proofs.Ytjphnlkdbhcblaa.Row
open Go.ChangeShapes Go.WideShapes Go.ChangeAt Go.RowKit Go.Instr
set_option linter.unusedVariables false
set_option maxRecDepth 100000
set_option maxRecDepth 100000 in
set_option maxHeartbeats 4000000 in
theorem rrq0 {Q : Exit → Act → World → Prop} {v1 v2 v5 v6 v7 v8 v9 v10 v11 v12 v13 v14 v15 v16 v17 v18 v19 v20 v21 v22 v23 v24 v25 v26 v27 v28 v29 v30 v31 v32 v33 v34 v35 : Value} {w : World} {b off n c g : Nat} 
  (hQ : ∀ (u22 u23 u24 u25 u26 u27 u28 u29 u30 u31 u32 u33 : Value)  (wx : World), Below w.heap.size w wx → Q .normal ⟨#[.slice (some ⟨b, off, none⟩) n c, v1, v2, .int .i64 (0 : Nat), .pointer (some ⟨g, 0, none⟩), v5, v6, v7, v8, v9, v10, v11, v12, v13, v14, v15, v16, v17, v18, v19, v20, v21, u22, u23, u24, u25, u26, u27, u28, u29, u30, u31, u32, u33, .bool false, v35], []⟩ wx) :
  (Code.region 6 #[⟨some 22, .move (.tmp 3), 3, "l13_pend.go:53", #[], none⟩,
   ⟨some 23, .binOp BinOp.gtr 3 (.tmp 22) (.const (Value.int IntKind.i64 0)) 3, 4, "l13_pend.go:53", #[⟨0, .data⟩], none⟩,
   ⟨some 24, .move (.tmp 23), 4, "l13_pend.go:53", #[⟨1, .data⟩], none⟩,
   ⟨some 25, .move (.tmp 0), 68, "l13_pend.go:53", #[⟨2, .guard⟩], some (2, true)⟩,
   ⟨some 26, .move (.tmp 3), 3, "l13_pend.go:53", #[⟨2, .guard⟩], some (2, true)⟩,
   ⟨some 27, .binOp BinOp.sub 3 (.tmp 26) (.const (Value.int IntKind.i64 1)) 3, 3, "l13_pend.go:53", #[⟨4, .data⟩, ⟨2, .guard⟩], some (2, true)⟩,
   ⟨some 28, .indexAddr 68 (.tmp 25) (.tmp 27), 0, "l13_pend.go:53", #[⟨3, .data⟩, ⟨5, .data⟩, ⟨2, .guard⟩], some (2, true)⟩,
   ⟨some 29, .fieldAddr 91 (.tmp 28) 0, 0, "l13_pend.go:53", #[⟨6, .data⟩, ⟨2, .guard⟩], some (2, true)⟩,
   ⟨some 30, .load 3 (.tmp 29), 3, "l13_pend.go:53", #[⟨7, .data⟩, ⟨2, .guard⟩], some (2, true)⟩,
   ⟨some 31, .fieldAddr 91 (.tmp 4) 0, 0, "l13_pend.go:53", #[⟨2, .guard⟩], some (2, true)⟩,
   ⟨some 32, .load 3 (.tmp 31), 3, "l13_pend.go:53", #[⟨9, .data⟩, ⟨2, .guard⟩], some (2, true)⟩,
   ⟨some 33, .binOp BinOp.geq 3 (.tmp 30) (.tmp 32) 3, 4, "l13_pend.go:53", #[⟨8, .data⟩, ⟨10, .data⟩, ⟨2, .guard⟩], some (2, true)⟩,
   ⟨some 34, .pick (.tmp 24) (.tmp 33) (.const (Value.bool false)), 4, "l13_pend.go:53", #[⟨2, .data⟩, ⟨11, .data⟩], none⟩] true).wp Try.prog Q ⟨#[.slice (some ⟨b, off, none⟩) n c, v1, v2, .int .i64 (0 : Nat), .pointer (some ⟨g, 0, none⟩), v5, v6, v7, v8, v9, v10, v11, v12, v13, v14, v15, v16, v17, v18, v19, v20, v21, v22, v23, v24, v25, v26, v27, v28, v29, v30, v31, v32, v33, v34, v35], []⟩ w := by
 have HQ := Lib.hid hQ; clear hQ
 have hdr : Below w.heap.size w w.drew := (Below.refl _ _).drew
 have BB := Lib.hid hdr
 refine wp_region_noPanic ?_
 refine wp_region_held_drew (S := (fun w' => True)) (by kernel_rfl) ?_ (fun hHeld => ?_)
 ·
  trivial
 clear hdr
 generalize w.drew = wd at *
 refine wpAnyH_take (i := 0) (oi := ⟨some 22, .move (.tmp 3), 3, "l13_pend.go:53", #[], none⟩) (v := ?_) rfl (by kernel_rfl) (by kernel_rfl) (by kernel_rfl) (fun _ _ _ h => h) (Or.inl ⟨by rfl, ?_⟩) (by assumption) ?_
 rotate_left
 ·
  intro w' hSw; (try dsimp only at hSw); first | (go_simp; done) | (go_simp; with_reducible rfl)
 (try simp only [Act.put, Row.pB0, Row.pB1, Row.pB2])
 refine wpAnyH_take (i := 1) (oi := ⟨some 23, .binOp BinOp.gtr 3 (.tmp 22) (.const (Value.int IntKind.i64 0)) 3, 4, "l13_pend.go:53", #[⟨0, .data⟩], none⟩) (v := ?_) rfl (by kernel_rfl) (by kernel_rfl) (by kernel_rfl) (fun _ _ _ h => h) (Or.inl ⟨by rfl, ?_⟩) (by assumption) ?_
 rotate_left
 ·
  intro w' hSw; (try dsimp only at hSw); first | (go_simp; done) | (go_simp; with_reducible rfl)
 (try simp only [Act.put, Row.pB0, Row.pB1, Row.pB2])
 refine wpAnyH_take (i := 2) (oi := ⟨some 24, .move (.tmp 23), 4, "l13_pend.go:53", #[⟨1, .data⟩], none⟩) (v := ?_) rfl (by kernel_rfl) (by kernel_rfl) (by kernel_rfl) (fun _ _ _ h => h) (Or.inl ⟨by rfl, ?_⟩) (by assumption) ?_
 rotate_left
 ·
  intro w' hSw; (try dsimp only at hSw); first | (go_simp; done) | (go_simp; with_reducible rfl)
 (try simp only [Act.put, Row.pB0, Row.pB1, Row.pB2])
 refine wpAnyH_take (i := 3) (oi := ⟨some 25, .move (.tmp 0), 68, "l13_pend.go:53", #[⟨2, .guard⟩], some (2, true)⟩) (v := undef) rfl (by kernel_rfl) (by kernel_rfl) (by kernel_rfl) (fun _ _ _ h => h) (Or.inr ⟨by rfl, rfl⟩) (by assumption) ?_
 (try simp only [Act.put, Row.pB0, Row.pB1, Row.pB2])
 refine wpAnyH_take (i := 4) (oi := ⟨some 26, .move (.tmp 3), 3, "l13_pend.go:53", #[⟨2, .guard⟩], some (2, true)⟩) (v := undef) rfl (by kernel_rfl) (by kernel_rfl) (by kernel_rfl) (fun _ _ _ h => h) (Or.inr ⟨by rfl, rfl⟩) (by assumption) ?_
 (try simp only [Act.put, Row.pB0, Row.pB1, Row.pB2])
 refine wpAnyH_take (i := 5) (oi := ⟨some 27, .binOp BinOp.sub 3 (.tmp 26) (.const (Value.int IntKind.i64 1)) 3, 3, "l13_pend.go:53", #[⟨4, .data⟩, ⟨2, .guard⟩], some (2, true)⟩) (v := undef) rfl (by kernel_rfl) (by kernel_rfl) (by kernel_rfl) (fun _ _ _ h => h) (Or.inr ⟨by rfl, rfl⟩) (by assumption) ?_
 (try simp only [Act.put, Row.pB0, Row.pB1, Row.pB2])
 refine wpAnyH_take (i := 6) (oi := ⟨some 28, .indexAddr 68 (.tmp 25) (.tmp 27), 0, "l13_pend.go:53", #[⟨3, .data⟩, ⟨5, .data⟩, ⟨2, .guard⟩], some (2, true)⟩) (v := undef) rfl (by kernel_rfl) (by kernel_rfl) (by kernel_rfl) (fun _ _ _ h => h) (Or.inr ⟨by rfl, rfl⟩) (by assumption) ?_
 (try simp only [Act.put, Row.pB0, Row.pB1, Row.pB2])
 refine wpAnyH_take (i := 7) (oi := ⟨some 29, .fieldAddr 91 (.tmp 28) 0, 0, "l13_pend.go:53", #[⟨6, .data⟩, ⟨2, .guard⟩], some (2, true)⟩) (v := undef) rfl (by kernel_rfl) (by kernel_rfl) (by kernel_rfl) (fun _ _ _ h => h) (Or.inr ⟨by rfl, rfl⟩) (by assumption) ?_
 (try simp only [Act.put, Row.pB0, Row.pB1, Row.pB2])
 refine wpAnyH_take (i := 8) (oi := ⟨some 30, .load 3 (.tmp 29), 3, "l13_pend.go:53", #[⟨7, .data⟩, ⟨2, .guard⟩], some (2, true)⟩) (v := undef) rfl (by kernel_rfl) (by kernel_rfl) (by kernel_rfl) (fun _ _ _ h => h) (Or.inr ⟨by rfl, rfl⟩) (by assumption) ?_
 (try simp only [Act.put, Row.pB0, Row.pB1, Row.pB2])
 refine wpAnyH_take (i := 9) (oi := ⟨some 31, .fieldAddr 91 (.tmp 4) 0, 0, "l13_pend.go:53", #[⟨2, .guard⟩], some (2, true)⟩) (v := undef) rfl (by kernel_rfl) (by kernel_rfl) (by kernel_rfl) (fun _ _ _ h => h) (Or.inr ⟨by rfl, rfl⟩) (by assumption) ?_
 (try simp only [Act.put, Row.pB0, Row.pB1, Row.pB2])
 refine wpAnyH_take (i := 10) (oi := ⟨some 32, .load 3 (.tmp 31), 3, "l13_pend.go:53", #[⟨9, .data⟩, ⟨2, .guard⟩], some (2, true)⟩) (v := undef) rfl (by kernel_rfl) (by kernel_rfl) (by kernel_rfl) (fun _ _ _ h => h) (Or.inr ⟨by rfl, rfl⟩) (by assumption) ?_
 (try simp only [Act.put, Row.pB0, Row.pB1, Row.pB2])
 refine wpAnyH_take (i := 11) (oi := ⟨some 33, .binOp BinOp.geq 3 (.tmp 30) (.tmp 32) 3, 4, "l13_pend.go:53", #[⟨8, .data⟩, ⟨10, .data⟩, ⟨2, .guard⟩], some (2, true)⟩) (v := undef) rfl (by kernel_rfl) (by kernel_rfl) (by kernel_rfl) (fun _ _ _ h => h) (Or.inr ⟨by rfl, rfl⟩) (by assumption) ?_
 (try simp only [Act.put, Row.pB0, Row.pB1, Row.pB2])
 refine wpAnyH_take (i := 12) (oi := ⟨some 34, .pick (.tmp 24) (.tmp 33) (.const (Value.bool false)), 4, "l13_pend.go:53", #[⟨2, .data⟩, ⟨11, .data⟩], none⟩) (v := ?_) rfl (by kernel_rfl) (by kernel_rfl) (by kernel_rfl) (fun _ _ _ h => h) (Or.inl ⟨by rfl, ?_⟩) (by assumption) ?_
 rotate_left
 ·
  intro w' hSw; (try dsimp only at hSw); first | (go_simp; done) | (go_simp; with_reducible rfl)
 (try simp only [Act.put, Row.pB0, Row.pB1, Row.pB2])
 refine wpAnyH_done (by kernel_rfl) ?_ _
 exact NoPanic.normal (HQ.out _ _ _ _ _ _ _ _ _ _ _ _  _  BB.out)
set_option maxRecDepth 100000 in
set_option maxHeartbeats 4000000 in
theorem rrq1 {Q : Exit → Act → World → Prop} {v1 v2 v5 v6 v7 v8 v9 v10 v11 v12 v13 v14 v15 v16 v17 v18 v19 v20 v21 v22 v23 v24 v25 v26 v27 v28 v29 v30 v31 v32 v33 v34 v35 : Value} {w : World} {b off n c g k : Nat} {f1 f2 : Int} (hk : k < n) (hk1 : k - 1 < n) (hk0 : 0 < k) (hw : IntKind.i64.wrap ((k : Int) - 1) = ((k - 1 : Nat) : Int)) (ht : decide (0 < (k : Int)) = true) (hkc : k ≤ c) (hn : n ≤ 9000000) (K0 : Hid (w.cell? ⟨b, off + (k - 1) * 3, none⟩ = some (.int .i64 f1))) (K1 : Hid (w.cell? ⟨g, 0, none⟩ = some (.int .i64 f2)))
  (hQ : ∀ (u22 u23 u24 u25 u26 u27 u28 u29 u30 u31 u32 u33 : Value)  (wx : World), Below w.heap.size w wx → Q .normal ⟨#[.slice (some ⟨b, off, none⟩) n c, v1, v2, .int .i64 k, .pointer (some ⟨g, 0, none⟩), v5, v6, v7, v8, v9, v10, v11, v12, v13, v14, v15, v16, v17, v18, v19, v20, v21, u22, u23, u24, u25, u26, u27, u28, u29, u30, u31, u32, u33, .bool (decide (f2 ≤ f1)), v35], []⟩ wx) :
  (Code.region 6 #[⟨some 22, .move (.tmp 3), 3, "l13_pend.go:53", #[], none⟩,
   ⟨some 23, .binOp BinOp.gtr 3 (.tmp 22) (.const (Value.int IntKind.i64 0)) 3, 4, "l13_pend.go:53", #[⟨0, .data⟩], none⟩,
   ⟨some 24, .move (.tmp 23), 4, "l13_pend.go:53", #[⟨1, .data⟩], none⟩,
   ⟨some 25, .move (.tmp 0), 68, "l13_pend.go:53", #[⟨2, .guard⟩], some (2, true)⟩,
   ⟨some 26, .move (.tmp 3), 3, "l13_pend.go:53", #[⟨2, .guard⟩], some (2, true)⟩,
   ⟨some 27, .binOp BinOp.sub 3 (.tmp 26) (.const (Value.int IntKind.i64 1)) 3, 3, "l13_pend.go:53", #[⟨4, .data⟩, ⟨2, .guard⟩], some (2, true)⟩,
   ⟨some 28, .indexAddr 68 (.tmp 25) (.tmp 27), 0, "l13_pend.go:53", #[⟨3, .data⟩, ⟨5, .data⟩, ⟨2, .guard⟩], some (2, true)⟩,
   ⟨some 29, .fieldAddr 91 (.tmp 28) 0, 0, "l13_pend.go:53", #[⟨6, .data⟩, ⟨2, .guard⟩], some (2, true)⟩,
   ⟨some 30, .load 3 (.tmp 29), 3, "l13_pend.go:53", #[⟨7, .data⟩, ⟨2, .guard⟩], some (2, true)⟩,
   ⟨some 31, .fieldAddr 91 (.tmp 4) 0, 0, "l13_pend.go:53", #[⟨2, .guard⟩], some (2, true)⟩,
   ⟨some 32, .load 3 (.tmp 31), 3, "l13_pend.go:53", #[⟨9, .data⟩, ⟨2, .guard⟩], some (2, true)⟩,
   ⟨some 33, .binOp BinOp.geq 3 (.tmp 30) (.tmp 32) 3, 4, "l13_pend.go:53", #[⟨8, .data⟩, ⟨10, .data⟩, ⟨2, .guard⟩], some (2, true)⟩,
   ⟨some 34, .pick (.tmp 24) (.tmp 33) (.const (Value.bool false)), 4, "l13_pend.go:53", #[⟨2, .data⟩, ⟨11, .data⟩], none⟩] true).wp Try.prog Q ⟨#[.slice (some ⟨b, off, none⟩) n c, v1, v2, .int .i64 k, .pointer (some ⟨g, 0, none⟩), v5, v6, v7, v8, v9, v10, v11, v12, v13, v14, v15, v16, v17, v18, v19, v20, v21, v22, v23, v24, v25, v26, v27, v28, v29, v30, v31, v32, v33, v34, v35], []⟩ w := by
 have HQ := Lib.hid hQ; clear hQ
 have hdr : Below w.heap.size w w.drew := (Below.refl _ _).drew
 have BB := Lib.hid hdr
 refine wp_region_noPanic ?_
 refine wp_region_held_drew (S := (fun w' => w'.cell? ⟨b, off + (k - 1) * 3, none⟩ = some (.int .i64 f1) ∧ w'.cell? ⟨g, 0, none⟩ = some (.int .i64 f2))) (by kernel_rfl) ?_ (fun hHeld => ?_)
 ·
  exact ⟨kc K0.out BB.out, kc K1.out BB.out⟩
 clear hdr
 generalize w.drew = wd at *
 refine wpAnyH_take (i := 0) (oi := ⟨some 22, .move (.tmp 3), 3, "l13_pend.go:53", #[], none⟩) (v := ?_) rfl (by kernel_rfl) (by kernel_rfl) (by kernel_rfl) (fun _ _ _ h => h) (Or.inl ⟨by rfl, ?_⟩) (by assumption) ?_
 rotate_left
 ·
  intro w' hSw; (try dsimp only at hSw); first | (go_simp; done) | (go_simp; with_reducible rfl)
 (try simp only [Act.put, Row.pB0, Row.pB1, Row.pB2])
 refine wpAnyH_take (i := 1) (oi := ⟨some 23, .binOp BinOp.gtr 3 (.tmp 22) (.const (Value.int IntKind.i64 0)) 3, 4, "l13_pend.go:53", #[⟨0, .data⟩], none⟩) (v := ?_) rfl (by kernel_rfl) (by kernel_rfl) (by kernel_rfl) (fun _ _ _ h => h) (Or.inl ⟨by rfl, ?_⟩) (by assumption) ?_
 rotate_left
 ·
  intro w' hSw; (try dsimp only at hSw); first | (go_simp; done) | (go_simp; with_reducible rfl)
 (try simp only [Act.put, Row.pB0, Row.pB1, Row.pB2])
 refine wpAnyH_take (i := 2) (oi := ⟨some 24, .move (.tmp 23), 4, "l13_pend.go:53", #[⟨1, .data⟩], none⟩) (v := ?_) rfl (by kernel_rfl) (by kernel_rfl) (by kernel_rfl) (fun _ _ _ h => h) (Or.inl ⟨by rfl, ?_⟩) (by assumption) ?_
 rotate_left
 ·
  intro w' hSw; (try dsimp only at hSw); first | (go_simp; done) | (go_simp; with_reducible rfl)
 (try simp only [Act.put, Row.pB0, Row.pB1, Row.pB2])
 refine wpAnyH_take (i := 3) (oi := ⟨some 25, .move (.tmp 0), 68, "l13_pend.go:53", #[⟨2, .guard⟩], some (2, true)⟩) (v := ?_) rfl (by kernel_rfl) (by kernel_rfl) (by kernel_rfl) (fun _ _ _ h => h) (Or.inl ⟨by rfl, ?_⟩) (by assumption) ?_
 rotate_left
 ·
  intro w' hSw; (try dsimp only at hSw); first | (go_simp; done) | (go_simp; with_reducible rfl)
 (try simp only [Act.put, Row.pB0, Row.pB1, Row.pB2])
 refine wpAnyH_take (i := 4) (oi := ⟨some 26, .move (.tmp 3), 3, "l13_pend.go:53", #[⟨2, .guard⟩], some (2, true)⟩) (v := ?_) rfl (by kernel_rfl) (by kernel_rfl) (by kernel_rfl) (fun _ _ _ h => h) (Or.inl ⟨by rfl, ?_⟩) (by assumption) ?_
 rotate_left
 ·
  intro w' hSw; (try dsimp only at hSw); first | (go_simp; done) | (go_simp; with_reducible rfl)
 (try simp only [Act.put, Row.pB0, Row.pB1, Row.pB2])
 refine wpAnyH_take (i := 5) (oi := ⟨some 27, .binOp BinOp.sub 3 (.tmp 26) (.const (Value.int IntKind.i64 1)) 3, 3, "l13_pend.go:53", #[⟨4, .data⟩, ⟨2, .guard⟩], some (2, true)⟩) (v := ?_) rfl (by kernel_rfl) (by kernel_rfl) (by kernel_rfl) (fun _ _ _ h => h) (Or.inl ⟨by rfl, ?_⟩) (by assumption) ?_
 rotate_left
 ·
  intro w' hSw; (try dsimp only at hSw); first | (go_simp; done) | (go_simp; with_reducible rfl)
 (try simp only [Act.put, Row.pB0, Row.pB1, Row.pB2])
 refine wpAnyH_take (i := 6) (oi := ⟨some 28, .indexAddr 68 (.tmp 25) (.tmp 27), 0, "l13_pend.go:53", #[⟨3, .data⟩, ⟨5, .data⟩, ⟨2, .guard⟩], some (2, true)⟩) (v := ?_) rfl (by kernel_rfl) (by kernel_rfl) (by kernel_rfl) (fun _ _ _ h => h) (Or.inl ⟨by rfl, ?_⟩) (by assumption) ?_
 rotate_left
 ·
  intro w' hSw; (try dsimp only at hSw); first | (go_simp; done) | (go_simp; with_reducible rfl)
 (try simp only [Act.put, Row.pB0, Row.pB1, Row.pB2])
 refine wpAnyH_take (i := 7) (oi := ⟨some 29, .fieldAddr 91 (.tmp 28) 0, 0, "l13_pend.go:53", #[⟨6, .data⟩, ⟨2, .guard⟩], some (2, true)⟩) (v := ?_) rfl (by kernel_rfl) (by kernel_rfl) (by kernel_rfl) (fun _ _ _ h => h) (Or.inl ⟨by rfl, ?_⟩) (by assumption) ?_
 rotate_left
 ·
  intro w' hSw; (try dsimp only at hSw); first | (go_simp; done) | (go_simp; with_reducible rfl)
 (try simp only [Act.put, Row.pB0, Row.pB1, Row.pB2])
 refine wpAnyH_take (i := 8) (oi := ⟨some 30, .load 3 (.tmp 29), 3, "l13_pend.go:53", #[⟨7, .data⟩, ⟨2, .guard⟩], some (2, true)⟩) (v := ?_) rfl (by kernel_rfl) (by kernel_rfl) (by kernel_rfl) (fun _ _ _ h => h) (Or.inl ⟨by rfl, ?_⟩) (by assumption) ?_
 rotate_left
 ·
  intro w' hSw; (try dsimp only at hSw); first | (go_simp; done) | (go_simp; with_reducible rfl)
 (try simp only [Act.put, Row.pB0, Row.pB1, Row.pB2])
 refine wpAnyH_take (i := 9) (oi := ⟨some 31, .fieldAddr 91 (.tmp 4) 0, 0, "l13_pend.go:53", #[⟨2, .guard⟩], some (2, true)⟩) (v := ?_) rfl (by kernel_rfl) (by kernel_rfl) (by kernel_rfl) (fun _ _ _ h => h) (Or.inl ⟨by rfl, ?_⟩) (by assumption) ?_
 rotate_left
 ·
  intro w' hSw; (try dsimp only at hSw); first | (go_simp; done) | (go_simp; with_reducible rfl)
 (try simp only [Act.put, Row.pB0, Row.pB1, Row.pB2])
 refine wpAnyH_take (i := 10) (oi := ⟨some 32, .load 3 (.tmp 31), 3, "l13_pend.go:53", #[⟨9, .data⟩, ⟨2, .guard⟩], some (2, true)⟩) (v := ?_) rfl (by kernel_rfl) (by kernel_rfl) (by kernel_rfl) (fun _ _ _ h => h) (Or.inl ⟨by rfl, ?_⟩) (by assumption) ?_
 rotate_left
 ·
  intro w' hSw; (try dsimp only at hSw); first | (go_simp; done) | (go_simp; with_reducible rfl)
 (try simp only [Act.put, Row.pB0, Row.pB1, Row.pB2])
 refine wpAnyH_take (i := 11) (oi := ⟨some 33, .binOp BinOp.geq 3 (.tmp 30) (.tmp 32) 3, 4, "l13_pend.go:53", #[⟨8, .data⟩, ⟨10, .data⟩, ⟨2, .guard⟩], some (2, true)⟩) (v := ?_) rfl (by kernel_rfl) (by kernel_rfl) (by kernel_rfl) (fun _ _ _ h => h) (Or.inl ⟨by rfl, ?_⟩) (by assumption) ?_
 rotate_left
 ·
  intro w' hSw; (try dsimp only at hSw); first | (go_simp; done) | (go_simp; with_reducible rfl)
 (try simp only [Act.put, Row.pB0, Row.pB1, Row.pB2])
 refine wpAnyH_take (i := 12) (oi := ⟨some 34, .pick (.tmp 24) (.tmp 33) (.const (Value.bool false)), 4, "l13_pend.go:53", #[⟨2, .data⟩, ⟨11, .data⟩], none⟩) (v := ?_) rfl (by kernel_rfl) (by kernel_rfl) (by kernel_rfl) (fun _ _ _ h => h) (Or.inl ⟨by rfl, ?_⟩) (by assumption) ?_
 rotate_left
 ·
  intro w' hSw; (try dsimp only at hSw); first | (go_simp; done) | (go_simp; with_reducible rfl)
 (try simp only [Act.put, Row.pB0, Row.pB1, Row.pB2])
 refine wpAnyH_done (by kernel_rfl) ?_ _
 exact NoPanic.normal (HQ.out _ _ _ _ _ _ _ _ _ _ _ _  _  BB.out)
set_option maxHeartbeats 4000000 in
theorem iValidQ (V : Value) (l : List Rqt) (w : World) (z : Bool) (hz : validQ l l.length = z) (h : kLRq.At w V l) (hl : l.length ≤ 9000000) :
    Calls Try.prog 122 #[V] w fun e w' => e = .returned (.bool z) ∧ Below w.heap.size w w' := by
  obtain ⟨x, n, cx, L, rfl, hn, ht, hh, hel⟩ := kLRq_at h
  have hlen : l.length = n := by rw [← ht, List.length_map]; exact hn.symm
  rw [hlen] at hl
  have hcap : n ≤ cx := by obtain ⟨x', n', cap', hv, hn', hc', -⟩ := hh.shapeN; cases hv; exact hc'
  have HN := Lib.hid hn; have HT := Lib.hid ht; have HH := Lib.hid hh; have HEL := Lib.hid hel; have HLEN := Lib.hid hlen; have HZ := Lib.hid hz
  clear hn ht hh hel hlen hz h
  go_enter Try.func122, Try.ntmps122
  go_wp2
  go_loopw [7] (fun iv wr => ∃ i : Nat, i ≤ n ∧ iv = .int .i64 i ∧ Hid (validQ l i = true) ∧ Hid (Below w.heap.size w wr)) (fun iv _ => n - (intOf iv).toNat)
  case atStart => exact ⟨0, Nat.zero_le _, rfl, Lib.hid rfl, Lib.hid (Below.refl _ _)⟩
  case round =>
    obtain ⟨k, hk, rfl, ha, hb⟩ := hrel
    by_cases hlt : k < n
    · have hlen := HN.out
      obtain ⟨b, off, rfl, -, hc0, hc1, hc2, hA⟩ := kLRq_elem (HH.out.on hb.out) (fun y hy => kRq.holds_on (HEL.out y hy) hb.out) (j := k) (by omega)
      have hpt : nth l k = kRq.strip (nth L k) := by rw [← HT.out, nth_map _ (by omega)]
      rw [← hpt] at hc0 hc1 hc2
      obtain ⟨f, u, x, hr⟩ : ∃ f u x, nth l k = (f, u, x) := ⟨_, _, _, rfl⟩
      rw [hr] at hc0 hc1 hc2
      obtain ⟨q1, hq1⟩ : ∃ q1, Num.inB f 0 6 = q1 := ⟨_, rfl⟩
      obtain ⟨q2, hq2⟩ : ∃ q2, Num.inB u 0 1000000 = q2 := ⟨_, rfl⟩
      have HQ1 := Lib.hid hq1; have HQ2 := Lib.hid hq2; have HR := Lib.hid hr
      have hal := (Below.refl wr.heap.size wr).alloc (Nat.le_refl _) (.cells #[.int .i64 f, .int .i64 u, .int .i64 x] 91)
      have HX := Lib.hid (Ret.Blk.new wr #[.int .i64 f, .int .i64 u, .int .i64 x] 91)
      have HBA := Lib.hid (hb.out.trans (hal.mono hb.out.size))
      have HK : 0 < k → Hid ((wr.alloc (.cells #[.int .i64 f, .int .i64 u, .int .i64 x] 91)).cell? ⟨b, off + (k - 1) * 3, none⟩ = some (.int .i64 (nth l (k - 1)).1)) := fun h0 => by
        obtain ⟨b', off', e9, -, p0, -, -, -⟩ := kLRq_elem (HH.out.on HBA.out) (fun y hy => kRq.holds_on (HEL.out y hy) HBA.out) (j := k - 1) (by omega)
        cases e9
        rw [← show nth l (k - 1) = kRq.strip (nth L (k - 1)) by rw [← HT.out, nth_map _ (by omega)]] at p0
        exact Lib.hid p0
      have HKK := Lib.hid HK
      clear hlen hpt hA hr hq1 hq2 hal HK
      simp only at hc0 hc1 hc2
      go_wp2_with fail
      refine (iInP q1 HQ1.out).mono ?_
      rintro e w1 ⟨rfl, hb1⟩
      have HB1 := Lib.hid (HBA.out.trans (hb1.mono HBA.out.size)); have HX1 := Lib.hid (HX.out.on hb1)
      have HK1 := Lib.hid hb1
      clear hb1 hc0 hc1 hc2
      cases q1 with
      | false =>
        have HE : Hid (z = false) := Lib.hid (by rw [← HZ.out, HLEN.out]; exact validQ_le (k := k + 1) (by unfold validQ; rw [HR.out]; simp [HQ1.out]) (by omega))
        go_wp2
        go_ret
        exact ⟨ret_bool HE.out.symm, HB1.out⟩
      | true =>
        have x1 : w1.cell? ⟨wr.heap.size, 1, none⟩ = some (.int .i64 u) := HX1.out.cell 1
        go_wp2_with fail
        refine (iInP q2 HQ2.out).mono ?_
        rintro e w2 ⟨rfl, hb2⟩
        have HB2 := Lib.hid (HB1.out.trans (hb2.mono HB1.out.size)); have HX2 := Lib.hid (HX1.out.on hb2)
        have HK2 := Lib.hid (HK1.out.trans (hb2.mono HK1.out.size))
        clear hb2 x1
        cases q2 with
        | false =>
          have HE : Hid (z = false) := Lib.hid (by rw [← HZ.out, HLEN.out]; exact validQ_le (k := k + 1) (by unfold validQ; rw [HR.out]; simp [HQ2.out]) (by omega))
          go_wp2
          go_ret
          exact ⟨ret_bool HE.out.symm, HB2.out⟩
        | true =>
          by_cases hk0 : k = 0
          · subst hk0
            have HA2 : Hid (validQ l (0 + 1) = true) := Lib.hid (by unfold validQ; rw [ha.out, HR.out]; simp [HQ1.out, HQ2.out])
            go_wp2_with fail
            refine rrq0 ?_
            intro u22 u23 u24 u25 u26 u27 u28 u29 u30 u31 u32 u33 wx hbx
            have HB3 := Lib.hid (HB2.out.trans (hbx.mono HB2.out.size))
            clear hbx
            go_wp2
            go_roundw
            case rel => exact ⟨0 + 1, by omega, by go_num, HA2, HB3⟩
            case measure => simp [intOf]; omega
          · have hkp : 0 < k := by omega
            have KP := HKK.out hkp
            have hw : IntKind.i64.wrap ((k : Int) - 1) = ((k - 1 : Nat) : Int) := by rw [IntKind.wrap_i64]; omega
            have hdt : decide (0 < (k : Int)) = true := decide_eq_true (by omega)
            obtain ⟨f1, hf1⟩ : ∃ f1, (nth l (k - 1)).1 = f1 := ⟨_, rfl⟩
            rw [hf1] at KP
            have HF1 := Lib.hid hf1
            clear hf1
            obtain ⟨q3, hq3⟩ : ∃ q3, decide (f ≤ f1) = q3 := ⟨_, rfl⟩
            have HQ3 := Lib.hid hq3
            go_wp2_with fail
            refine rrq1 (f1 := f1) (f2 := f) hlt (by omega) hkp hw hdt (by omega) hl (Lib.hid ((HK2.out.cell (Ret.cell_lt KP.out)).trans KP.out)) (Lib.hid (HX2.out.cell 0)) ?_
            intro u22 u23 u24 u25 u26 u27 u28 u29 u30 u31 u32 u33 wx hbx
            have HB3 := Lib.hid (HB2.out.trans (hbx.mono HB2.out.size))
            rw [hq3]
            clear hbx hq3
            cases q3 with
            | true =>
              have HE : Hid (z = false) := Lib.hid (by
                rw [← HZ.out, HLEN.out]
                refine validQ_le (k := k + 1) ?_ (by omega)
                have h5 := of_decide_eq_true HQ3.out
                unfold validQ
                rw [HR.out, HF1.out]
                simp [hk0]
                intro _ _ _
                omega)
              go_wp2
              go_ret
              exact ⟨ret_bool HE.out.symm, HB3.out⟩
            | false =>
              have HA2 : Hid (validQ l (k + 1) = true) := Lib.hid (by
                have h5 := of_decide_eq_false HQ3.out
                unfold validQ
                rw [ha.out, HR.out, HF1.out]
                simp [HQ1.out, HQ2.out]
                omega)
              go_wp2
              go_roundw
              case rel => exact ⟨k + 1, by omega, by go_num, HA2, HB3⟩
              case measure => simp [intOf]; omega
    · obtain rfl : k = n := by omega
      have HE : Hid (z = true) := Lib.hid (by rw [← HZ.out, HLEN.out]; exact ha.out)
      clear hlt
      go_wp2
      go_ret
      exact ⟨ret_bool HE.out.symm, hb.out⟩
set_option maxHeartbeats 4000000 in
theorem iValidI (V : Value) (x : Pit) (w : World) (z : Bool) (hz : validI x = z) (h : kPi.At w V x) (hp : wtPi x ≤ 1200000) :
    Calls Try.prog 79 #[V] w fun e w' => e = .returned (.bool z) ∧ Below w.heap.size w w' := by
  obtain ⟨x0, n0, c0, x1, n1, c1, rfl, h⟩ := kPi_shapeA h
  obtain ⟨hN, hR⟩ := kPi_parts h
  obtain ⟨p1, p2⟩ := wtPi_lens hp
  have hn0 : x.1.length = n0 := kN_lenP hN
  have hn1 : x.2.1.length = n1 := (kLRq_len hR).symm
  obtain ⟨nm, rq, ls⟩ := x
  dsimp only at hN hR hn0 hn1 p1 p2 ⊢
  have p3 : nm.length ≤ 1200000 := Nat.le_trans (bulk_len nm) p1
  have hal := (Below.refl w.heap.size w).alloc (Nat.le_refl _) (.cells #[.slice x0 n0 c0, .slice x1 n1 c1, .int .i64 ls] 101)
  have HX := Lib.hid (Ret.Blk.new w #[.slice x0 n0 c0, .slice x1 n1 c1, .int .i64 ls] 101)
  have HB := Lib.hid hal; have GN := Lib.hid (hN.on hal); have GR := Lib.hid (hR.on hal)
  obtain ⟨q1, hq1⟩ : ∃ q, validN nm = q := ⟨_, rfl⟩
  obtain ⟨q4, hq4⟩ : ∃ q, validQ rq rq.length = q := ⟨_, rfl⟩
  obtain ⟨q5, hq5⟩ : ∃ q, Num.inB ls 0 100000 = q := ⟨_, rfl⟩
  have HZ : Hid ((q1 && (decide (0 < n0) && ((q4 && decide (0 < n1)) && q5))) = z) := Lib.hid (by rw [← hz, ← hq1, ← hq4, ← hq5, ← hn0, ← hn1]; rfl)
  have HQ1 := Lib.hid hq1; have HQ4 := Lib.hid hq4; have HQ5 := Lib.hid hq5
  rw [hn0] at p3
  have p4 := p2
  rw [hn1] at p4
  clear hq1 hq4 hq5 hz hn0 hn1 hN hR h hp hal
  go_enter Try.func79, Try.ntmps79
  have x0_ := HX.out.cell 0
  go_wp2_with fail
  clear x0_
  refine (iValN q1 HQ1.out GN.out (by omega)).mono ?_
  rintro e w1 ⟨rfl, hb1⟩
  have HX1 := Lib.hid (HX.out.on hb1)
  replace HB := Lib.hid (HB.out.trans (hb1.mono HB.out.size)); replace GR := Lib.hid (GR.out.on hb1); clear hb1
  cases q1 with
  | false =>
    have HE : Hid (z = false) := Lib.hid (by rw [← HZ.out]; rfl)
    go_wp2
    go_ret
    exact ⟨ret_bool HE.out.symm, HB.out⟩
  | true =>
    have x0_ : w1.cell? ⟨w.heap.size, 0, none⟩ = some (.slice x0 n0 c0) := HX1.out.cell 0
    by_cases h0 : 0 < n0
    · have x1_ : w1.cell? ⟨w.heap.size, 1, none⟩ = some (.slice x1 n1 c1) := HX1.out.cell 1
      by_cases h1 : 0 < n1
      · have t0 : decide (0 < (n0 : Int)) = true := decide_eq_true (by omega)
        have t1 : decide (0 < (n1 : Int)) = true := decide_eq_true (by omega)
        have HZ2 : Hid ((q4 && q5) = z) := Lib.hid (by rw [← HZ.out, decide_eq_true h0, decide_eq_true h1]; simp)
        go_wp2_with fail
        clear x0_ x1_
        refine (iValidQ _ rq _ q4 HQ4.out GR.out (by omega)).mono ?_
        rintro e w2 ⟨rfl, hb2⟩
        have HX2 := Lib.hid (HX1.out.on hb2)
        replace HB := Lib.hid (HB.out.trans (hb2.mono HB.out.size)); clear hb2
        cases q4 with
        | false =>
          have HE : Hid (z = false) := Lib.hid (by rw [← HZ2.out]; rfl)
          go_wp2
          go_ret
          exact ⟨ret_bool HE.out.symm, HB.out⟩
        | true =>
          have x2_ : w2.cell? ⟨w.heap.size, 2, none⟩ = some (.int .i64 ls) := HX2.out.cell 2
          go_wp2_with fail
          clear x2_
          refine (iInP q5 HQ5.out).mono ?_
          rintro e w3 ⟨rfl, hb3⟩
          have HE : Hid (z = q5) := Lib.hid (by rw [← HZ2.out]; simp)
          replace HB := Lib.hid (HB.out.trans (hb3.mono HB.out.size)); clear hb3
          go_wp2
          go_ret
          exact ⟨ret_bool HE.out.symm, HB.out⟩
      · have t0 : decide (0 < (n0 : Int)) = true := decide_eq_true (by omega)
        have t1 : decide (0 < (n1 : Int)) = false := decide_eq_false (by omega)
        have HE : Hid (z = false) := Lib.hid (by rw [← HZ.out, decide_eq_false h1]; simp)
        go_wp2
        go_ret
        exact ⟨ret_bool HE.out.symm, HB.out⟩
    · have t0 : decide (0 < (n0 : Int)) = false := decide_eq_false (by omega)
      have HE : Hid (z = false) := Lib.hid (by rw [← HZ.out, decide_eq_false h0]; simp)
      go_wp2
      go_ret
      exact ⟨ret_bool HE.out.symm, HB.out⟩
set_option maxHeartbeats 4000000 in
theorem implValidPending (V : Value) (l : List Pit) (w : World) (z : Bool) (hz : validPs l = z) (h : kLPi.At w V l) (hf : FitP l) :
    Calls Try.prog 24 #[V] w fun e w' => e = .returned (.bool z) ∧ Below w.heap.size w w' := by
  have hl := hf.len9
  have hp := hf.each
  have hz2 := hz
  unfold validPs at hz2
  have HAT0 := Lib.hid h
  obtain ⟨x, n, cx, L, rfl, hn, ht, hh, hel⟩ := kLPi_at h
  have hlen : l.length = n := by rw [← ht, List.length_map]; exact hn.symm
  rw [hlen] at hl
  have hcap : n ≤ cx := by obtain ⟨x', n', cap', hv, hn', hc', -⟩ := hh.shapeN; cases hv; exact hc'
  rw [hlen] at hz2
  have HZ := Lib.hid hz2
  have HN := Lib.hid hn; have HT := Lib.hid ht; have HH := Lib.hid hh; have HEL := Lib.hid hel; have HLEN := Lib.hid hlen; have HP := Lib.hid hp
  by_cases h12 : n ≤ 12
  · have t12 : decide ((12 : Int) < (n : Int)) = false := decide_eq_false (by omega)
    have HZ1 : Hid (vldP l n = z) := Lib.hid (by rw [← HZ.out, decide_eq_true (by omega)]; simp)
    clear hn ht hh hel hlen hp h hz hz2
    go_enter Try.func24, Try.ntmps24
    go_wp2
    go_loopw [10] (fun iv wr => ∃ i : Nat, i ≤ n ∧ iv = .int .i64 i ∧ Hid (vldP l i = true) ∧ Hid (Below w.heap.size w wr)) (fun iv _ => n - (intOf iv).toNat)
    case atStart => exact ⟨0, Nat.zero_le _, rfl, Lib.hid rfl, Lib.hid (Below.refl _ _)⟩
    case round =>
      obtain ⟨k, hk, rfl, ha, hb⟩ := hrel
      by_cases hlt : k < n
      · have hlen := HN.out
        obtain ⟨b, off, y0, m0, d0, y1, m1, d1, rfl, -, hc0, hc1, hc2, hA⟩ := kLPi_elem (HH.out.on hb.out) (fun y hy => kPi.holds_on (HEL.out y hy) hb.out) (j := k) (by omega)
        have hpt : nth l k = kPi.strip (nth L k) := by rw [← HT.out, nth_map _ (by omega)]
        have hps := HP.out (nth l k) (nth_mem (by have := HLEN.out; omega))
        rw [← hpt] at hA hc2
        obtain ⟨hNM, hRQ⟩ := kPi_parts hA
        have HA := Lib.hid hA; have HNM := Lib.hid hNM; have HRQ := Lib.hid hRQ; have HPS := Lib.hid hps; have HPN := Lib.hid (show bulk (nth l k).1 ≤ 1200000 from (wtPi_lens hps).1); have HPR := Lib.hid (show (nth l k).2.1.length ≤ 1200000 from (wtPi_lens hps).2)
        have H0 := Lib.hid hc0; have H1 := Lib.hid hc1; have H2 := Lib.hid hc2
        clear hlen hpt hps hA hNM hRQ
        have HATL := Lib.hid (HAT0.out.on hb.out)
        obtain ⟨q1, hq1⟩ : ∃ q1, validI (nth l k) = q1 := ⟨_, rfl⟩
        obtain ⟨r, hr⟩ : ∃ r, ixL (isP (nth l k).1) l = r := ⟨_, rfl⟩
        obtain ⟨ls, hls⟩ : ∃ ls, (nth l k).2.2 = ls := ⟨_, rfl⟩
        rw [hls] at HA H2 hc2
        have HQ1 := Lib.hid hq1; have HR := Lib.hid hr
        have hal := (Below.refl wr.heap.size wr).alloc (Nat.le_refl _) (.cells #[.slice y0 m0 d0, .slice y1 m1 d1, .int .i64 ls] 101)
        have HX := Lib.hid (Ret.Blk.new wr #[.slice y0 m0 d0, .slice y1 m1 d1, .int .i64 ls] 101)
        have HAA := Lib.hid (HA.out.on hal); have HNA := Lib.hid (HNM.out.on hal); have HTA := Lib.hid (HATL.out.on hal)
        replace hb := Lib.hid (hb.out.trans (hal.mono hb.out.size))
        clear hq1 hr hls hal
        go_wp2_with fail
        refine (iValidI _ (nth l k) _ q1 HQ1.out HAA.out HPS.out).mono ?_
        rintro e w1 ⟨rfl, hb1⟩
        have HX1 := Lib.hid (HX.out.on hb1); have HN1 := Lib.hid (HNA.out.on hb1); have HT1 := Lib.hid (HTA.out.on hb1)
        replace hb := Lib.hid (hb.out.trans (hb1.mono hb.out.size))
        clear hb1 hc0 hc1 hc2
        cases q1 with
        | false =>
          have HE : Hid (z = false) := Lib.hid (by rw [← HZ1.out]; exact vldP_le (k := k + 1) (by unfold vldP; rw [HQ1.out]; simp) (by omega))
          go_wp2
          go_ret
          exact ⟨ret_bool HE.out.symm, hb.out⟩
        | true =>
          have e0 : w1.cell? ⟨wr.heap.size, 0, none⟩ = some (.slice y0 m0 d0) := HX1.out.cell 0
          go_wp2_with fail
          refine (pIndex _ _ l (nth l k).1 _ r HR.out HT1.out HN1.out (by have := HLEN.out; omega) HP.out HPN.out).mono ?_
          rintro e w2 ⟨rfl, hb2⟩
          replace hb := Lib.hid (hb.out.trans (hb2.mono hb.out.size))
          clear hb2 e0
          have HTK := Lib.hid (ixP_take (n := (nth l k).1) (l := l) (k := k) (by have := HLEN.out; omega) rfl)
          by_cases h0 : r < (k : Int)
          · have t0 : decide (r < (k : Int)) = true := decide_eq_true h0
            have HE : Hid (z = false) := Lib.hid (by
              rw [← HZ1.out]
              refine vldP_le (k := k + 1) ?_ (by omega)
              unfold vldP
              rw [← HTK.out, HR.out, t0]
              simp)
            clear h0
            go_wp2
            go_ret
            exact ⟨ret_bool HE.out.symm, hb.out⟩
          · have t0 : decide (r < (k : Int)) = false := decide_eq_false h0
            have HA2 : Hid (vldP l (k + 1) = true) := Lib.hid (by unfold vldP; rw [← HTK.out, HR.out, t0, ha.out, HQ1.out]; rfl)
            clear h0
            go_wp2
            go_roundw
            case rel => exact ⟨k + 1, by omega, by go_num, HA2, hb⟩
            case measure => simp [intOf]; omega
      · obtain rfl : k = n := by omega
        have HE : Hid (z = true) := Lib.hid (by rw [← HZ1.out]; exact ha.out)
        clear hlt
        go_wp2
        go_ret
        exact ⟨ret_bool HE.out.symm, hb.out⟩
  · have t12 : decide ((12 : Int) < (n : Int)) = true := decide_eq_true (by omega)
    have HE : Hid (z = false) := Lib.hid (by rw [← HZ.out, decide_eq_false (by omega)]; simp)
    clear hn ht hh hel hlen hp h hz hz2
    go_enter Try.func24, Try.ntmps24
    go_wp2
    go_ret
    exact ⟨ret_bool HE.out.symm, Below.refl _ _⟩
end Go.Proofs.Ytjphnlkdbhcblaa.Row
/- Lists of elements of a kind, marked part by part: what a part's marking leaves of the list. For any kind and any program. No conditions. -/
namespace Go.Proofs.Ytjphnlkdbhcblaa.Row
open Go.ChangeShapes Go.WideShapes Go.ChangeAt Go.RowKit Go.Instr
set_option linter.unusedVariables false
set_option linter.unusedSectionVars false
set_option maxRecDepth 100000
section
variable {α M β N : Type} [Inhabited M] {k : Kd α M} {l : Kd β N} {B E : Nat} {w w' : World} {P : Program}
def MarkF (P : Program) (k : Kd α M) (fn : FuncId) (arg : M → Value) (adv : α → Nat) (mk : Int → α → α) : Prop :=
  ∀ (B E : Nat) (x : M) (w : World) (q : Int), k.Own B E w x → adv (k.strip x) ≤ 100000000 → 0 ≤ q → q + (adv (k.strip x) : Int) ≤ 100000000000 →
    Calls P fn #[arg x, .int .i64 q] w fun e w' => e = .returned (.int .i64 (q + (adv (k.strip x) : Int))) ∧ ∃ x', k.cells x' = k.cells x ∧ k.blocks x' = k.blocks x ∧ k.strip x' = mk q (k.strip x) ∧ k.Own B E w' x' ∧ WroteBy (k.blocks x) w w'
theorem MarkF.fst {fn : FuncId} {arg : M → Value} {adv : α → Nat} {mk : Int → α → α} (h : MarkF P k fn arg adv mk) (l : Kd β N) : MarkF P (k.pair l) fn (fun x => arg x.1) (fun a => adv a.1) (fun q a => (mk q a.1, a.2)) := by
  intro B E x w q ho hl h0 h1
  obtain ⟨m, n⟩ := x
  obtain ⟨o1, o2, hd⟩ := ho.parts
  refine (h B E m w q o1 hl h0 h1).mono ?_
  rintro e w' ⟨rfl, m', c, b, s, o, hw⟩
  refine ⟨rfl, (m', n), ?_, ?_, ?_, ?_, ?_⟩
  · show k.cells m' ++ l.cells n = k.cells m ++ l.cells n
    rw [c]
  · show k.blocks m' ++ l.blocks n = k.blocks m ++ l.blocks n
    rw [b]
  · show (k.strip m', l.strip n) = (mk q (k.strip m), l.strip n)
    rw [s]
  · exact Kd.Own.join o (hw.own o2 (fun g hg hg2 => hd g hg2 hg)) (by rw [b]; exact hd)
  · exact hw.more (fun g hg => List.mem_append_left _ hg)
theorem MarkF.snd {fn : FuncId} {arg : N → Value} {adv : β → Nat} {mk : Int → β → β} (h : MarkF P l fn arg adv mk) (k : Kd α M) : MarkF P (k.pair l) fn (fun x => arg x.2) (fun a => adv a.2) (fun q a => (a.1, mk q a.2)) := by
  intro B E x w q ho hl h0 h1
  obtain ⟨m, n⟩ := x
  obtain ⟨o1, o2, hd⟩ := ho.parts
  refine (h B E n w q o2 hl h0 h1).mono ?_
  rintro e w' ⟨rfl, n', c, b, s, o, hw⟩
  refine ⟨rfl, (m, n'), ?_, ?_, ?_, ?_, ?_⟩
  · show k.cells m ++ l.cells n' = k.cells m ++ l.cells n
    rw [c]
  · show k.blocks m ++ l.blocks n' = k.blocks m ++ l.blocks n
    rw [b]
  · show (k.strip m, l.strip n') = (k.strip m, mk q (l.strip n))
    rw [s]
  · exact Kd.Own.join (hw.own o1 (fun g hg hg2 => hd g hg hg2)) o (by rw [b]; exact hd)
  · exact hw.more (fun g hg => List.mem_append_right _ hg)
theorem flat_disj {γ : Type} {f : γ → List Nat} {L : List γ} (h : (L.flatMap f).Nodup) {i j : Nat} (hi : i < L.length) (hj : j < L.length) (hne : i ≠ j) : ∀ q ∈ f L[i], q ∉ f L[j] := by
  have h2 := (List.pairwise_flatMap.1 h).2
  have h3 := List.pairwise_iff_getElem.1 h2
  intro q hq hq2
  rcases Nat.lt_or_gt_of_ne hne with hl | hl
  · exact h3 i j hi hj hl q hq q hq2 rfl
  · exact h3 j i hj hi hl q hq2 q hq rfl
theorem flatB_one {γ : Type} {f : γ → List Nat} {L : List γ} (h : (L.flatMap f).Nodup) {j : Nat} (hj : j < L.length) : (f L[j]).Nodup :=
  (List.pairwise_flatMap.1 h).1 _ (List.getElem_mem hj)
theorem flatMap_set {γ δ : Type} {f : γ → List δ} {L : List γ} {j : Nat} (hj : j < L.length) {y : γ} (e : f y = f L[j]) : (L.set j y).flatMap f = L.flatMap f := by
  rw [List.flatMap_def, List.flatMap_def, List.map_set]
  congr 1
  have : f y = (L.map f)[j]'(by simpa using hj) := by simp [e]
  rw [this, List.set_getElem_self]
variable {e : TypeId} {ad : Option Addr} {n cap j : Nat} {L : List M}
theorem Kd.Own.row (h : (k.slice e).Own B E w ⟨ad, n, cap, L⟩) : OwnK e k.cells k.size B w (.slice ad n cap) L := h.1.1
theorem Kd.Own.apart (h : (k.slice e).Own B E w ⟨ad, n, cap, L⟩) : (L.flatMap k.blocks).Nodup ∧ ∀ g, (Value.slice ad n cap).ownBlock = some g → g ∉ L.flatMap k.blocks := by
  have h2 : ((Value.slice ad n cap).ownBlock.toList ++ L.flatMap k.blocks).Nodup := h.2.1
  have h3 := List.nodup_append.1 h2
  exact ⟨h3.2.1, fun g hg hg2 => h3.2.2 g (by simp [hg]) g hg2 rfl⟩
theorem Kd.Own.elem (h : (k.slice e).Own B E w ⟨ad, n, cap, L⟩) (hj : j < L.length) : k.Own B E w (nth L j) := by
  rw [nth_eq hj]
  refine ⟨h.1.2 _ (List.getElem_mem hj), flatB_one h.apart.1 hj, fun g hg => h.2.2 g ?_⟩
  exact List.mem_append_right _ (List.mem_flatMap.2 ⟨_, List.getElem_mem hj, hg⟩)
theorem Kd.Own.part (h : (k.slice e).Own B E w ⟨ad, n, cap, L⟩) (hj : j < L.length) {x' : M} (hc : k.cells x' = k.cells (nth L j)) (hb : k.blocks x' = k.blocks (nth L j)) (ho : k.Own B E w' x') (hw : WroteBy (k.blocks (nth L j)) w w') :
    (k.slice e).Own B E w' ⟨ad, n, cap, L.set j x'⟩ ∧ WroteBy (L.flatMap k.blocks) w w' := by
  rw [nth_eq hj] at hc hb hw
  obtain ⟨hnd, hrow⟩ := h.apart
  have hfb := flatMap_set hj hb
  have hfc : Row.flat k.cells (L.set j x') = Row.flat k.cells L := by
    unfold Row.flat
    exact flatMap_set hj hc
  refine ⟨⟨⟨?_, fun y hy => ?_⟩, ?_, ?_⟩, hw.more (fun g hg => List.mem_flatMap.2 ⟨_, List.getElem_mem hj, hg⟩)⟩
  · have hk : OwnK e k.cells k.size B w' (.slice ad n cap) L := ownK_keep h.row (fun g hg => hw.block g (h.row.lt g hg).2 (fun hg2 => hrow g hg (List.mem_flatMap.2 ⟨_, List.getElem_mem hj, hg2⟩)))
    show OwnK e k.cells k.size B w' (.slice ad n cap) (L.set j x')
    unfold OwnK at hk ⊢
    rw [List.length_set, hfc]
    exact hk
  · obtain ⟨i, hi, rfl⟩ := List.getElem_of_mem (show y ∈ L.set j x' from hy)
    have hi2 : i < L.length := by simpa using hi
    by_cases e1 : j = i
    · subst e1
      rw [List.getElem_set_self]
      exact ho.1
    · rw [List.getElem_set_ne e1]
      refine k.own_keep (h.1.2 _ (List.getElem_mem hi2)) (fun g hg => hw.block g (k.own_lt (h.1.2 _ (List.getElem_mem hi2)) g hg).2 (fun hg2 => flat_disj hnd hi2 hj (fun e2 => e1 e2.symm) g hg hg2))
  · show ((Value.slice ad n cap).ownBlock.toList ++ (L.set j x').flatMap k.blocks).Nodup
    rw [hfb]
    exact h.2.1
  · intro g hg
    have hg2 : g ∈ (Value.slice ad n cap).ownBlock.toList ++ (L.set j x').flatMap k.blocks := hg
    rw [hfb] at hg2
    exact h.2.2 g hg2
theorem Kd.Own.put {g : Nat} (h : (k.slice e).Own B E w ⟨some ⟨g, 0, none⟩, n, cap, L⟩) (hn : n = L.length) (hj : j < L.length) {i : Nat} (hi : i < k.size) {u : Value} {x' : M} (hc : k.cells x' = (k.cells (nth L j)).set i u) (hb : k.blocks x' = k.blocks (nth L j)) (ho : ∀ {W : World}, k.own B W (nth L j) → k.own B W x') :
    (k.slice e).Own B E (w.setCell ⟨g, j * k.size + i, none⟩ u) ⟨some ⟨g, 0, none⟩, n, cap, L.set j x'⟩ ∧ w.grownBy (w.setCell ⟨g, j * k.size + i, none⟩ u) (some g) := by
  obtain ⟨a1, a2⟩ := ownK_store (fun m => k.len m) h.row hn hj hi hc
  obtain ⟨hnd, hrow⟩ := h.apart
  have hg0 := hrow g rfl
  have hfb := flatMap_set (f := k.blocks) hj (by rw [hb, nth_eq hj])
  have keep : ∀ {y : M}, y ∈ L → k.own B (w.setCell ⟨g, j * k.size + i, none⟩ u) y := fun {y} hy => k.own_keep (h.1.2 y hy) (fun q hq => a2.block q (k.own_lt (h.1.2 y hy) q hq).2 (fun e1 => hg0 (by cases e1; exact List.mem_flatMap.2 ⟨y, hy, hq⟩)))
  refine ⟨⟨⟨a1, fun y hy => ?_⟩, ?_, ?_⟩, a2⟩
  · rcases List.mem_or_eq_of_mem_set (show y ∈ L.set j x' from hy) with hy | rfl
    · exact keep hy
    · exact ho (keep (nth_mem hj))
  · show ((Value.slice (some ⟨g, 0, none⟩) n cap).ownBlock.toList ++ (L.set j x').flatMap k.blocks).Nodup
    rw [hfb]
    exact h.2.1
  · intro q hq
    have hg2 : q ∈ (Value.slice (some ⟨g, 0, none⟩) n cap).ownBlock.toList ++ (L.set j x').flatMap k.blocks := hq
    rw [hfb] at hg2
    exact h.2.2 q hg2
end
section
variable {α : Type} [Inhabited α] (a : α → Nat) (f : Int → α → α)
def advK : List α → Nat
  | [] => 0
  | x :: r => a x + advK r
def mkLK (q : Int) : List α → List α
  | [] => []
  | x :: r => f q x :: mkLK (q + (a x : Int)) r
theorem advK_append : ∀ (l m : List α), advK a (l ++ m) = advK a l + advK a m
  | [], m => by simp [advK]
  | x :: l, m => by simp [advK, advK_append l m]; omega
theorem advK_take {l : List α} {j : Nat} (h : j < l.length) : advK a (l.take (j + 1)) = advK a (l.take j) + a (nth l j) := by
  rw [List.take_succ_eq_append_getElem h, advK_append, nth_eq h]; simp [advK]
theorem advK_take_le (l : List α) (j : Nat) : advK a (l.take j) ≤ advK a l := by
  have := advK_append a (l.take j) (l.drop j)
  rw [List.take_append_drop] at this; omega
theorem mkLK_append (q : Int) : ∀ (l m : List α), mkLK a f q (l ++ m) = mkLK a f q l ++ mkLK a f (q + (advK a l : Int)) m
  | [], m => by simp [mkLK, advK]
  | x :: l, m => by
    simp only [List.cons_append, mkLK, advK, mkLK_append _ l m]
    congr 3
    simp; omega
theorem mkLK_length (q : Int) : ∀ l : List α, (mkLK a f q l).length = l.length
  | [] => rfl
  | x :: r => by simp [mkLK, mkLK_length _ r]
theorem mkLK_take (q : Int) {l : List α} {j : Nat} (h : j < l.length) : mkLK a f q (l.take (j + 1)) = mkLK a f q (l.take j) ++ [f (q + (advK a (l.take j) : Int)) (nth l j)] := by
  rw [List.take_succ_eq_append_getElem h, mkLK_append, nth_eq h]; rfl
theorem mkLK_at (q : Int) {l : List α} {j : Nat} (h : j < l.length) : nth (mkLK a f q l) j = f (q + (advK a (l.take j) : Int)) (nth l j) := by
  have e := mkLK_append a f q (l.take (j + 1)) (l.drop (j + 1))
  rw [List.take_append_drop, mkLK_take a f q h] at e
  have h2 : (mkLK a f q (l.take j)).length = j := by rw [mkLK_length, List.length_take]; omega
  rw [e]
  simp only [nth, List.getD]
  rw [List.append_assoc, List.getElem?_append_right (by omega), h2]
  simp
end
end Go.Proofs.Ytjphnlkdbhcblaa.Row
/- Slices of bytes in the words of kinds: sz, to, eq, mark, held. No conditions but that lengths fit. -/
namespace Go.Proofs.Ytjphnlkdbhcblaa.Row
open Go.ChangeShapes Go.WideShapes Go.ChangeAt Go.RowKit Go.Instr
set_option linter.unusedVariables false
set_option maxRecDepth 100000
def okB (l : List Int) : Prop := l.length ≤ 9223372036854775807
end Go.Proofs.Ytjphnlkdbhcblaa.Row
/- Names and bytes as parts that are marked; an element of a list, step by step. No conditions but that lengths fit. -/
namespace Go.Proofs.Ytjphnlkdbhcblaa.Row
open Go.ChangeShapes Go.WideShapes Go.ChangeAt Go.RowKit Go.Instr
set_option linter.unusedVariables false
set_option linter.unusedSectionVars false
set_option maxRecDepth 100000
theorem markF_N : MarkF Try.prog kN 97 (fun m => m.v) (fun l => l.length) (fun q l => marks markT q l.length) := by
  intro B E m w k h hl h0 h1
  have ho := kN_own1 h.1
  rw [kN_strip] at hl h1 ⊢
  refine (markStringS B m.v m.els w k ho hl h0 (by omega)).mono ?_
  rintro e w' ⟨a, b, c⟩
  refine ⟨a, ⟨m.ad, m.n, m.cap, marks markT k m.els.length⟩, rfl, by rw [kN_blocks, kN_blocks]; rfl, by rw [kN_strip], ⟨kN_own2 b, ?_, ?_⟩, WroteBy.of c (fun g hg => by rw [kN_blocks]; simp [hg])⟩
  · have := h.2.1
    rw [kN_blocks] at this ⊢
    exact this
  · have := h.2.2
    rw [kN_blocks] at this ⊢
    exact this
section
variable {α M : Type} [Inhabited M] {k : Kd α M} {B E : Nat} {w w' : World} {e : TypeId} {ad : Option Addr} {n cap j g : Nat} {Z : List M} {x x' : M}
theorem nth_set9 {γ : Type} [Inhabited γ] {Z : List γ} {j : Nat} (hj : j < Z.length) (x : γ) : nth (Z.set j x) j = x := by
  rw [nth_eq (by simpa using hj), List.getElem_set_self]
theorem set_nth9 {γ : Type} [Inhabited γ] {Z : List γ} {j : Nat} (hj : j < Z.length) : Z.set j (nth Z j) = Z := by
  rw [nth_eq hj, List.set_getElem_self]
theorem Kd.Own.elem9 (h : (k.slice e).Own B E w ⟨ad, n, cap, Z.set j x⟩) (hj : j < Z.length) : k.Own B E w x := by
  have := Kd.Own.elem h (j := j) (by simpa using hj)
  rwa [nth_set9 hj] at this
theorem Kd.Own.part9 (h : (k.slice e).Own B E w ⟨ad, n, cap, Z.set j x⟩) (hj : j < Z.length) (hc : k.cells x' = k.cells x) (hb : k.blocks x' = k.blocks x) (ho : k.Own B E w' x') (hw : WroteBy (k.blocks x) w w') :
    (k.slice e).Own B E w' ⟨ad, n, cap, Z.set j x'⟩ := by
  have := (Kd.Own.part h (j := j) (by simpa using hj) (x' := x') (by rw [nth_set9 hj]; exact hc) (by rw [nth_set9 hj]; exact hb) ho (by rw [nth_set9 hj]; exact hw)).1
  rwa [List.set_set] at this
theorem Kd.Own.put9 (h : (k.slice e).Own B E w ⟨some ⟨g, 0, none⟩, n, cap, Z.set j x⟩) (hn : n = Z.length) (hj : j < Z.length) {i : Nat} (hi : i < k.size) {u : Value} (hc : k.cells x' = (k.cells x).set i u) (hb : k.blocks x' = k.blocks x) (ho : ∀ {W : World}, k.own B W x → k.own B W x') :
    (k.slice e).Own B E (w.setCell ⟨g, j * k.size + i, none⟩ u) ⟨some ⟨g, 0, none⟩, n, cap, Z.set j x'⟩ := by
  have := (Kd.Own.put h (j := j) (by simpa using hn) (by simpa using hj) hi (u := u) (x' := x') (by rw [nth_set9 hj]; exact hc) (by rw [nth_set9 hj]; exact hb) (by rw [nth_set9 hj]; exact ho)).1
  rwa [List.set_set] at this
theorem Kd.Own.cell9 (h : (k.slice e).Own B E w ⟨some ⟨g, 0, none⟩, n, cap, Z.set j x⟩) (hn : n = Z.length) (hj : j < Z.length) {i : Nat} (hi : i < k.size) : w.cell? ⟨g, j * k.size + i, none⟩ = (k.cells x)[i]? ∧ w.frozen? ⟨g, j * k.size + i, none⟩ = false := by
  have := ownK_cell (fun m => k.len m) h.row (by simpa using hn) (j := j) (by simpa using hj) hi
  rwa [nth_set9 hj] at this
theorem nth_over {γ : Type} [Inhabited γ] {M L : List γ} {j : Nat} (hm : M.length = j) (hj : j < L.length) : nth (M ++ L.drop j) j = nth L j := by
  simp only [nth, List.getD]
  rw [List.getElem?_append_right (by rw [hm]; exact Nat.le_refl _), hm]
  simp
theorem set_over {γ : Type} [Inhabited γ] {M L : List γ} {j : Nat} (hm : M.length = j) (hj : j < L.length) (x : γ) : (M ++ L.drop j).set j x = M ++ [x] ++ L.drop (j + 1) := by
  have hd : L.drop j = nth L j :: L.drop (j + 1) := by rw [nth_eq hj, List.getElem_cons_drop]
  rw [List.set_append_right _ _ (by rw [hm]; exact Nat.le_refl _), hm, Nat.sub_self, hd, List.set_cons_zero, List.append_assoc]
  rfl
end
end Go.Proofs.Ytjphnlkdbhcblaa.Row
/- Lists of Requester: marked and looked at. No conditions but that lengths fit. -/
namespace Go.Proofs.Ytjphnlkdbhcblaa.Row
open Go.ChangeShapes Go.WideShapes Go.ChangeAt Go.RowKit Go.Instr
set_option linter.unusedVariables false
set_option maxRecDepth 100000
def mvRq (z : Rqt) : Nat := 3
def meRq (q : Int) (z : Rqt) : Rqt := (q, q + 1, q + 1 + 1)
set_option maxHeartbeats 4000000 in
theorem markRequesterSK (B E : Nat) (m : Rw Rqm) (w : World) (k : Int) (h : kLRq.Own B E w m) (hl : advK mvRq (kLRq.strip m) ≤ 100000000) (h0 : 0 ≤ k) (h1 : k + (advK mvRq (kLRq.strip m) : Int) ≤ 100000000000) :
    Calls Try.prog 51 #[kLRq.val m, .int .i64 k] w fun e w' => e = .returned (.int .i64 (k + (advK mvRq (kLRq.strip m) : Int))) ∧ ∃ m', kLRq.val m' = kLRq.val m ∧ kLRq.blocks m' = kLRq.blocks m ∧ kLRq.strip m' = mkLK mvRq meRq k (kLRq.strip m) ∧ kLRq.Own B E w' m' ∧ WroteBy (kLRq.blocks m) w w' := by
  obtain ⟨ad, n, cap, L⟩ := m
  replace h : (kRq.slice 91).Own B E w ⟨ad, n, cap, L⟩ := h
  replace hl : advK mvRq (L.map kRq.strip) ≤ 100000000 := hl
  replace h1 : k + (advK mvRq (L.map kRq.strip) : Int) ≤ 100000000000 := h1
  show Calls Try.prog 51 #[.slice ad n cap, .int .i64 k] w fun e w' => e = .returned (.int .i64 (k + (advK mvRq (L.map kRq.strip) : Int))) ∧ ∃ m' : Rw Rqm, Rw.v m' = .slice ad n cap ∧ (kRq.slice 91).blocks m' = (kRq.slice 91).blocks ⟨ad, n, cap, L⟩ ∧ m'.els.map kRq.strip = mkLK mvRq meRq k (L.map kRq.strip) ∧ (kRq.slice 91).Own B E w' m' ∧ WroteBy ((kRq.slice 91).blocks ⟨ad, n, cap, L⟩) w w'
  rcases h.row.form with ⟨hv, hL⟩ | ⟨g, cap', hv, g1, g2, g3, g4⟩
  · cases hv
    subst hL
    have H := Lib.hid h; clear h
    go_enter Try.func51, Try.ntmps51
    go_wp2
    refine wp_loop_rounds 1 ?_
    rw [rounds_succ]
    go_wp2
    go_ret
    exact ⟨ret_int (by simp [advK]), ⟨⟨none, 0, 0, []⟩, rfl, rfl, rfl, H.out, WroteBy.refl _ _⟩⟩
  · cases hv
    have HROWLT := g2
    obtain ⟨n, hn⟩ : ∃ n, n = L.length := ⟨_, rfl⟩
    rw [← hn] at h g3 ⊢
    obtain ⟨l, hl9⟩ : ∃ l, L.map kRq.strip = l := ⟨_, rfl⟩
    rw [hl9] at hl h1 ⊢
    have hll : l.length = n := by rw [← hl9, List.length_map, hn]
    obtain ⟨bs, hbs⟩ : ∃ bs, (kRq.slice 91).blocks ⟨some ⟨g, 0, none⟩, n, cap, L⟩ = bs := ⟨_, rfl⟩
    have hgb : g ∈ bs := by rw [← hbs]; exact List.mem_append_left _ (by simp [Value.ownBlock, Rw.v])
    have heb : ∀ x ∈ L, ∀ q ∈ kRq.blocks x, q ∈ bs := fun x hx q hq => by rw [← hbs]; exact List.mem_append_right _ (List.mem_flatMap.2 ⟨x, hx, hq⟩)
    have hmaxl : n ≤ 140737488351232 ∨ True := Or.inr trivial
    have hn2 : n ≤ maxLen := by rw [hn]; exact h.row.len
    unfold maxLen at hn2
    rw [hbs]
    have HN := Lib.hid hn; have HT := Lib.hid hl9; have HLL := Lib.hid hll; have HBS := Lib.hid hbs; have HGB := Lib.hid hgb; have HEB := Lib.hid heb
    have HST := Lib.hid (fun j (hj : j < n) => advK_take mvRq (l := l) (j := j) (by rw [hll]; exact hj))
    have HLE := Lib.hid (fun j => advK_take_le mvRq l j)
    have HB : Hid ((kRq.slice 91).Own B E w ⟨some ⟨g, 0, none⟩, n, cap, [] ++ L.drop 0⟩) := Lib.hid (by simpa using h)
    clear hn h hl9 hll hbs hgb heb hmaxl
    go_enter Try.func51, Try.ntmps51
    go_wp2
    go_loopw [1, 5] (fun kv i wr => ∃ j : Nat, j ≤ n ∧ i = .int .i64 j ∧ ∃ p : Int, kv = .int .i64 p ∧ 0 ≤ p ∧ p ≤ 100000000000 ∧ Hid (p = k + (advK mvRq (l.take j) : Int)) ∧ ∃ M : List Rqm, Hid (M.length = j) ∧ Hid (M.map kRq.strip = mkLK mvRq meRq k (l.take j)) ∧ Hid (M.map kRq.blocks = (L.take j).map kRq.blocks) ∧ Hid ((kRq.slice 91).Own B E wr ⟨some ⟨g, 0, none⟩, n, cap, M ++ L.drop j⟩) ∧ Hid (WroteBy bs w wr)) (fun _ i _ => n - (intOf i).toNat)
    case atStart => exact ⟨0, Nat.zero_le _, rfl, k, rfl, h0, by omega, Lib.hid (by simp [advK]), [], Lib.hid rfl, Lib.hid (by simp [mkLK]), Lib.hid rfl, HB, Lib.hid (WroteBy.refl _ _)⟩
    case round =>
      obtain ⟨j, hj, rfl, p, rfl, hp0, hp1, HP, M, HM1, HM2, HM3, HO, HW⟩ := hrel
      by_cases hlt : j < n
      · have hjL : j < L.length := by have := HN.out; omega
        obtain ⟨x0, hx0⟩ : ∃ x, nth L j = x := ⟨_, rfl⟩
        obtain ⟨Z, hZ⟩ : ∃ Z, M ++ L.drop j = Z := ⟨_, rfl⟩
        have hZl : n = Z.length := by rw [← hZ, List.length_append, HM1.out, List.length_drop]; have := HN.out; omega
        have hjZ : j < Z.length := by omega
        have hx9 : nth Z j = x0 := by rw [← hZ, nth_over HM1.out hjL, hx0]
        have ho := HO.out
        rw [hZ, ← set_nth9 hjZ, hx9] at ho
        have hst := HST.out j hlt
        rw [show nth l j = kRq.strip x0 by rw [← HT.out, nth_map _ hjL, hx0]] at hst
        have hle := HLE.out (j + 1)
        have hxb := HEB.out x0 (by rw [← hx0]; exact nth_mem hjL)
        have hmv : mvRq (kRq.strip x0) = 3 := by rfl
        rw [hmv] at hst
        have hp := HP.out
        have btot : p + ((3 : Nat) : Int) ≤ 100000000000 := by omega
        have HX0 := Lib.hid hx0; have HZ := Lib.hid hZ; have HZL := Lib.hid hZl; have HJZ := Lib.hid hjZ; have HO0 := Lib.hid ho; have HSTP := Lib.hid hst; have HXB := Lib.hid hxb; have HJL := Lib.hid hjL; have HMV := Lib.hid hmv
        have HW0 := HW
        clear hx0 hZ hZl hjZ hx9 ho hst hle hxb hp hjL hmv 
        have c0 : wr.cell? ⟨g, j * 3, none⟩ = some (.int .i64 x0.1) := (HO0.out.cell9 HZL.out HJZ.out (i := 0) (by decide)).1; have t0 : wr.frozen? ⟨g, j * 3, none⟩ = false := (HO0.out.cell9 HZL.out HJZ.out (i := 0) (by decide)).2
        have c1 : wr.cell? ⟨g, j * 3 + 1, none⟩ = some (.int .i64 x0.2.1) := (HO0.out.cell9 HZL.out HJZ.out (i := 1) (by decide)).1; have t1 : wr.frozen? ⟨g, j * 3 + 1, none⟩ = false := (HO0.out.cell9 HZL.out HJZ.out (i := 1) (by decide)).2
        have c2 : wr.cell? ⟨g, j * 3 + 2, none⟩ = some (.int .i64 x0.2.2) := (HO0.out.cell9 HZL.out HJZ.out (i := 2) (by decide)).1; have t2 : wr.frozen? ⟨g, j * 3 + 2, none⟩ = false := (HO0.out.cell9 HZL.out HJZ.out (i := 2) (by decide)).2
        have HOF : Hid ((kRq.slice 91).Own B E (((wr.setCell ⟨g, j * 3, none⟩ (.int .i64 (p))).setCell ⟨g, j * 3 + 1, none⟩ (.int .i64 (p + 1))).setCell ⟨g, j * 3 + 2, none⟩ (.int .i64 (p + 1 + 1))) ⟨some ⟨g, 0, none⟩, n, cap, Z.set j (p, p + 1, p + 1 + 1)⟩) := Lib.hid (Kd.Own.put9 (x' := ((p, p + 1, p + 1 + 1) : Rqm)) (Kd.Own.put9 (x' := ((p, p + 1, x0.2.2) : Rqm)) (Kd.Own.put9 (x' := ((p, x0.2.1, x0.2.2) : Rqm)) HO0.out HZL.out HJZ.out (i := 0) (by decide) (u := .int .i64 (p)) rfl rfl (fun h => h)) HZL.out HJZ.out (i := 1) (by decide) (u := .int .i64 (p + 1)) rfl rfl (fun h => h)) HZL.out HJZ.out (i := 2) (by decide) (u := .int .i64 (p + 1 + 1)) rfl rfl (fun h => h))
        have HWF : Hid (WroteBy bs w (((wr.setCell ⟨g, j * 3, none⟩ (.int .i64 (p))).setCell ⟨g, j * 3 + 1, none⟩ (.int .i64 (p + 1))).setCell ⟨g, j * 3 + 2, none⟩ (.int .i64 (p + 1 + 1)))) := Lib.hid (((HW0.out.trans (WroteBy.of (Ret.grownBy_set wr ⟨g, j * 3, none⟩ (.int .i64 (p))) (fun q hq => by cases hq; exact HGB.out))).trans (WroteBy.of (Ret.grownBy_set (wr.setCell ⟨g, j * 3, none⟩ (.int .i64 (p))) ⟨g, j * 3 + 1, none⟩ (.int .i64 (p + 1))) (fun q hq => by cases hq; exact HGB.out))).trans (WroteBy.of (Ret.grownBy_set ((wr.setCell ⟨g, j * 3, none⟩ (.int .i64 (p))).setCell ⟨g, j * 3 + 1, none⟩ (.int .i64 (p + 1))) ⟨g, j * 3 + 2, none⟩ (.int .i64 (p + 1 + 1))) (fun q hq => by cases hq; exact HGB.out)))
        have HSF : Hid (kRq.strip (p, p + 1, p + 1 + 1) = meRq p (kRq.strip x0)) := Lib.hid rfl
        have HBF : Hid (kRq.blocks (p, p + 1, p + 1 + 1) = kRq.blocks x0) := Lib.hid (show _ = _ from rfl)
        clear HO0 HW0  
        go_wp2_with fail
        go_roundw
        case rel =>
          refine ⟨j + 1, by omega, by go_num, p + 1 + 1 + 1, by go_num, by omega, by omega, Lib.hid ?_, M ++ [(p, p + 1, p + 1 + 1)], Lib.hid ?_, Lib.hid ?_, Lib.hid ?_, Lib.hid ?_, HWF⟩
          · rw [HSTP.out, HP.out]; omega
          · simp [HM1.out]
          · rw [List.map_append, HM2.out, mkLK_take _ _ _ (by rw [HLL.out]; exact hlt), show nth l j = kRq.strip x0 by rw [← HT.out, nth_map _ HJL.out, HX0.out], ← HP.out, ← HSF.out]
            rfl
          · rw [List.map_append, HM3.out, List.take_succ_eq_append_getElem HJL.out, List.map_append, ← nth_eq HJL.out, HX0.out]
            simp only [List.map_cons, List.map_nil]
            rw [HBF.out]
          · have h9 := HOF.out
            rw [← HZ.out, set_over HM1.out HJL.out] at h9
            exact h9
        case measure => simp [intOf]; omega
      · obtain rfl : j = n := by omega
        clear hlt
        go_wp2
        go_ret
        have hn := HN.out
        have hp := HP.out
        have e1 : l.take j = l := List.take_of_length_le (by rw [HLL.out]; exact Nat.le_refl _)
        have e2 : L.take j = L := List.take_of_length_le (by omega)
        have e3 : L.drop j = [] := List.drop_eq_nil_of_le (by omega)
        have hh := HO.out
        have hm2 := HM2.out
        have hm3 := HM3.out
        rw [e1] at hp hm2
        rw [e2] at hm3
        rw [e3, List.append_nil] at hh
        refine ⟨ret_int hp, ⟨some ⟨g, 0, none⟩, j, cap, M⟩, rfl, ?_, hm2, hh, HW.out⟩
        rw [← HBS.out]
        show _ ++ M.flatMap kRq.blocks = _ ++ L.flatMap kRq.blocks
        rw [List.flatMap_def, List.flatMap_def, hm3]
        rfl
set_option maxHeartbeats 4000000 in
theorem heldRequesterSK (V : Value) (l : List Rqt) (w : World) (k : Int) (h : kLRq.At w V (mkLK mvRq meRq k l)) (hl : advK mvRq l ≤ 100000000) (hlen : l.length ≤ 100000000) (h0 : 0 ≤ k) (h1 : k + (advK mvRq l : Int) ≤ 100000000000) :
    Calls Try.prog 52 #[V, .int .i64 k] w fun e w' => e = .returned (.int .i64 (k + (advK mvRq l : Int))) ∧ Below w.heap.size w w' := by
  obtain ⟨ad, n, cap, L, rfl, hn, hL, hh, hel⟩ := kLRq_at h
  have hll : l.length = n := by have := congrArg List.length hL; rw [List.length_map, mkLK_length] at this; omega
  rw [hll] at hlen
  have HN := Lib.hid hn; have HT := Lib.hid hL; have HH := Lib.hid hh; have HEL := Lib.hid hel; have HLL := Lib.hid hll
  have HST := Lib.hid (fun j (hj : j < n) => advK_take mvRq (l := l) (j := j) (by rw [hll]; exact hj))
  have HLE := Lib.hid (fun j => advK_take_le mvRq l j)
  clear h hn hL hh hel hll
  go_enter Try.func52, Try.ntmps52
  go_wp2
  go_loopw [1, 5] (fun kv i wr => ∃ j : Nat, j ≤ n ∧ i = .int .i64 j ∧ ∃ p : Int, kv = .int .i64 p ∧ 0 ≤ p ∧ p ≤ 100000000000 ∧ Hid (p = k + (advK mvRq (l.take j) : Int)) ∧ Hid (Below w.heap.size w wr)) (fun _ i _ => n - (intOf i).toNat)
  case atStart => exact ⟨0, Nat.zero_le _, rfl, k, rfl, h0, by omega, Lib.hid (by simp [advK]), Lib.hid (Below.refl _ _)⟩
  case round =>
    obtain ⟨j, hj, rfl, p, rfl, hp0, hp1, HP, hb⟩ := hrel
    by_cases hlt : j < n
    · have hn := HN.out
      obtain ⟨b, off, rfl, -, hc0, hc1, hc2, ha⟩ := kLRq_elem (HH.out.on hb.out) (fun y hy => kRq.holds_on (HEL.out y hy) hb.out) (j := j) (by omega)
      have hme : kRq.strip (nth L j) = meRq p (nth l j) := by rw [← nth_map kRq.strip (by omega), HT.out, mkLK_at _ _ _ (by rw [HLL.out]; exact hlt), ← HP.out]
      rw [hme] at ha hc0 hc1 hc2
      have hst := HST.out j hlt
      have hle := HLE.out (j + 1)
      obtain ⟨z, hz⟩ : ∃ z, nth l j = z := ⟨_, rfl⟩
      rw [hz] at ha hst hc0 hc1 hc2
      obtain e9 := kRq_at ha
      cases e9
      have hmv : mvRq z = 3 := by rfl
      rw [hmv] at hst
      have hp := HP.out
      have HC0 := Lib.hid (show wr.cell? ⟨b, off + j * 3, none⟩ = some (.int .i64 (p)) from by have h8 := hc0; simp only [meRq, ] at h8; exact h8)
      have HC1 := Lib.hid (show wr.cell? ⟨b, off + j * 3 + 1, none⟩ = some (.int .i64 (p + 1)) from by have h8 := hc1; simp only [meRq, ] at h8; exact h8)
      have HC2 := Lib.hid (show wr.cell? ⟨b, off + j * 3 + 2, none⟩ = some (.int .i64 (p + 1 + 1)) from by have h8 := hc2; simp only [meRq, ] at h8; exact h8)
      have btot : p + ((3 : Nat) : Int) ≤ 100000000000 := by omega
      have HSTP := Lib.hid hst
      clear hn ha hme hst hle hmv hp hz hc0 hc1 hc2   
      have c09 : wr.cell? ⟨b, off + j * 3, none⟩ = some (.int .i64 (p)) := HC0.out
      have c19 : wr.cell? ⟨b, off + j * 3 + 1, none⟩ = some (.int .i64 (p + 1)) := HC1.out
      have c29 : wr.cell? ⟨b, off + j * 3 + 2, none⟩ = some (.int .i64 (p + 1 + 1)) := HC2.out
      go_wp2_with fail
      go_roundw
      case rel => exact ⟨j + 1, by omega, by go_num, p + 1 + 1 + 1, by go_num, by omega, by omega, Lib.hid (by rw [HSTP.out, HP.out]; omega), hb⟩
      case measure => simp [intOf]; omega
    · obtain rfl : j = n := by omega
      clear hlt
      go_wp2
      go_ret
      have hp := HP.out
      rw [show l.take j = l from List.take_of_length_le (by rw [HLL.out]; exact Nat.le_refl _)] at hp
      exact ⟨ret_int hp, hb.out⟩
theorem markF_LRq : MarkF Try.prog kLRq 51 (fun m => m.v) (fun l => advK mvRq l) (fun q l => mkLK mvRq meRq q l) := by
  intro B E m w k h hl h0 h1
  refine (markRequesterSK B E m w k h hl h0 h1).mono ?_
  rintro e w' ⟨a, m', hv, hb, hs, ho, hw⟩
  exact ⟨a, m', (show [kLRq.val m'] = [kLRq.val m] by rw [hv]), hb, hs, ho, hw⟩
theorem lenAdvRq : ∀ l : List Rqt, l.length ≤ advK mvRq l
  | [] => Nat.le_refl _
  | x :: r => by
    have h := lenAdvRq r
    have h2 : 1 ≤ mvRq x := by unfold mvRq; omega
    simp only [advK, List.length_cons]
    omega
theorem heldRequesterSA (V : Value) (l : List Rqt) (w : World) (k : Int) (a : Nat) (ha : advK mvRq l = a) (h : kLRq.At w V (mkLK mvRq meRq k l)) (hl : a ≤ 100000000) (h0 : 0 ≤ k) (h1 : k + (a : Int) ≤ 100000000000) :
    Calls Try.prog 52 #[V, .int .i64 k] w fun e w' => e = .returned (.int .i64 (k + (a : Int))) ∧ Below w.heap.size w w' := by
  subst ha
  exact heldRequesterSK V l w k h hl (Nat.le_trans (lenAdvRq l) hl) h0 h1
end Go.Proofs.Ytjphnlkdbhcblaa.Row
