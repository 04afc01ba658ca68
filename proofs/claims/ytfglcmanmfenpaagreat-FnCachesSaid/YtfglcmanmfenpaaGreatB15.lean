/- Contracts and mathematics, joined: CacheA. No conditions but those that each states. -/
import Derived.WalkKit
import Derived.Deep.RegionHeld3
import Derived.Test.YtfglcmanmfenpaaGreatB14
/- laws.sameCache: content stores compared. No conditions but that lengths fit. -/
namespace Go.Proofs.YtfglcmanmfenpaaGreat.Row
open Go.ChangeShapes Go.WideShapes Go.ChangeAt Go.RowKit Go.Instr
set_option linter.unusedVariables false
set_option maxRecDepth 100000
theorem sameZ {w : World} {V U : Value} {x y : Dzt} (q : Bool) (hq : decide (x = y) = q) (h : kDz.At w V x) (g : kDz.At w U y) (hn : inDz x) (gn : inDz y) (hl : wtDz x ≤ 9000000) (hm : wtDz y ≤ 9000000) :
    Calls Tryz.prog 15 #[V, U] w fun e w' => e = .returned (.bool q) ∧ Below w.heap.size w w' := by
  obtain ⟨a, b, c, rfl, h9⟩ := kD_at (kD_ofZ h)
  obtain ⟨a2, b2, c2, rfl, g9⟩ := kD_at (kD_ofZ g)
  obtain ⟨-, l1, l2, -, l3⟩ := wtDz_lens x hl
  obtain ⟨-, m1, m2, -, m3⟩ := wtDz_lens y hm
  exact sameThing a b c a2 b2 c2 x y w q hq h9 g9 hn.byt gn.byt l1 l2 l3 m1 m2 m3
set_option maxRecDepth 100000 in
set_option maxHeartbeats 4000000 in
theorem rsc0 {Q : Exit → Act → World → Prop} {v0 v1 v4 v6 v7 v8 v9 v10 v11 v12 v13 v14 v15 v16 v17 v18 v19 v20 v21 v22 v23 v24 v25 v26 v27 v28 v29 v30 v31 v32 v33 v34 v35 v36 v37 v38 v39 v40 v41 v42 v43 v44 v45 v46 v47 v48 v49 v50 v51 v52 v53 v54 v55 : Value} {w : World} {b off n c b' off' n' c' g g' k : Nat} {u1 u2 : Int} (hk : k < n) (hk2 : k < n') (hkc : k ≤ c) (hkc2 : k ≤ c') (hn : n ≤ 9000000) (hne : (u1 != u2) = true) (K1 : Hid (w.cell? ⟨g, 1, none⟩ = some (.slice (some ⟨b, off, none⟩) n c))) (K2 : Hid (w.cell? ⟨g', 1, none⟩ = some (.slice (some ⟨b', off', none⟩) n' c'))) (U1 : Hid (w.cell? ⟨b, off + k * 6 + 5, none⟩ = some (.int .i64 u1))) (U2 : Hid (w.cell? ⟨b', off' + k * 6 + 5, none⟩ = some (.int .i64 u2)))
  (hQ : ∀ (u27 u28 u29 u30 u31 u32 u33 u34 u35 u36 u37 u38 u39 u40 u41 u42 u43 u44 u45 u46 u47 u48 u49 u50 u51 u52 u53 u54 : Value)  (wx : World), Below w.heap.size w wx → Q .normal ⟨#[v0, v1, .pointer (some ⟨g, 0, none⟩), .pointer (some ⟨g', 0, none⟩), v4, .int .i64 k, v6, v7, v8, v9, v10, v11, v12, v13, v14, v15, v16, v17, v18, v19, v20, v21, v22, v23, v24, v25, v26, u27, u28, u29, u30, u31, u32, u33, u34, u35, u36, u37, u38, u39, u40, u41, u42, u43, u44, u45, u46, u47, u48, u49, u50, u51, u52, u53, u54, .bool true], []⟩ wx) :
  (Code.region 6 #[⟨some 27, .fieldAddr 26 (.tmp 2) 1, 0, "laws.go:128", #[], none⟩,
   ⟨some 28, .load 24 (.tmp 27), 24, "laws.go:128", #[⟨0, .data⟩], none⟩,
   ⟨some 29, .move (.tmp 5), 3, "laws.go:128", #[], none⟩,
   ⟨some 30, .indexAddr 24 (.tmp 28) (.tmp 29), 0, "laws.go:128", #[⟨1, .data⟩, ⟨2, .data⟩], none⟩,
   ⟨some 31, .fieldAddr 64 (.tmp 30) 1, 0, "laws.go:128", #[⟨3, .data⟩], none⟩,
   ⟨some 32, .load 3 (.tmp 31), 3, "laws.go:128", #[⟨4, .data⟩], none⟩,
   ⟨some 33, .fieldAddr 26 (.tmp 3) 1, 0, "laws.go:128", #[], none⟩,
   ⟨some 34, .load 24 (.tmp 33), 24, "laws.go:128", #[⟨6, .data⟩], none⟩,
   ⟨some 35, .move (.tmp 5), 3, "laws.go:128", #[], none⟩,
   ⟨some 36, .indexAddr 24 (.tmp 34) (.tmp 35), 0, "laws.go:128", #[⟨7, .data⟩, ⟨8, .data⟩], none⟩,
   ⟨some 37, .fieldAddr 64 (.tmp 36) 1, 0, "laws.go:128", #[⟨9, .data⟩], none⟩,
   ⟨some 38, .load 3 (.tmp 37), 3, "laws.go:128", #[⟨10, .data⟩], none⟩,
   ⟨some 39, .binOp BinOp.neq 3 (.tmp 32) (.tmp 38) 3, 4, "laws.go:128", #[⟨5, .data⟩, ⟨11, .data⟩], none⟩,
   ⟨some 40, .move (.tmp 39), 4, "laws.go:128", #[⟨12, .data⟩], none⟩,
   ⟨some 41, .fieldAddr 26 (.tmp 2) 1, 0, "laws.go:128", #[⟨13, .guard⟩], some (13, false)⟩,
   ⟨some 42, .load 24 (.tmp 41), 24, "laws.go:128", #[⟨14, .data⟩, ⟨13, .guard⟩], some (13, false)⟩,
   ⟨some 43, .move (.tmp 5), 3, "laws.go:128", #[⟨13, .guard⟩], some (13, false)⟩,
   ⟨some 44, .indexAddr 24 (.tmp 42) (.tmp 43), 0, "laws.go:128", #[⟨15, .data⟩, ⟨16, .data⟩, ⟨13, .guard⟩], some (13, false)⟩,
   ⟨some 45, .fieldAddr 64 (.tmp 44) 0, 0, "laws.go:128", #[⟨17, .data⟩, ⟨13, .guard⟩], some (13, false)⟩,
   ⟨some 46, .load 31 (.tmp 45), 31, "laws.go:128", #[⟨18, .data⟩, ⟨13, .guard⟩], some (13, false)⟩,
   ⟨some 47, .fieldAddr 26 (.tmp 3) 1, 0, "laws.go:128", #[⟨13, .guard⟩], some (13, false)⟩,
   ⟨some 48, .load 24 (.tmp 47), 24, "laws.go:128", #[⟨20, .data⟩, ⟨13, .guard⟩], some (13, false)⟩,
   ⟨some 49, .move (.tmp 5), 3, "laws.go:128", #[⟨13, .guard⟩], some (13, false)⟩,
   ⟨some 50, .indexAddr 24 (.tmp 48) (.tmp 49), 0, "laws.go:128", #[⟨21, .data⟩, ⟨22, .data⟩, ⟨13, .guard⟩], some (13, false)⟩,
   ⟨some 51, .fieldAddr 64 (.tmp 50) 0, 0, "laws.go:128", #[⟨23, .data⟩, ⟨13, .guard⟩], some (13, false)⟩,
   ⟨some 52, .load 31 (.tmp 51), 31, "laws.go:128", #[⟨24, .data⟩, ⟨13, .guard⟩], some (13, false)⟩,
   ⟨some 53, .call ⟨.value (.func 15), #[.tmp 46, .tmp 52], #[31, 31]⟩, 4, "laws.go:128", #[⟨19, .data⟩, ⟨25, .data⟩, ⟨13, .chain⟩, ⟨13, .guard⟩], some (13, false)⟩,
   ⟨some 54, .unOp UnOp.not 4 (.tmp 53), 4, "laws.go:128", #[⟨26, .data⟩, ⟨13, .guard⟩], some (13, false)⟩,
   ⟨some 55, .pick (.tmp 40) (.const (Value.bool true)) (.tmp 54), 4, "laws.go:128", #[⟨13, .data⟩, ⟨27, .data⟩], none⟩] true).wp Tryz.prog Q ⟨#[v0, v1, .pointer (some ⟨g, 0, none⟩), .pointer (some ⟨g', 0, none⟩), v4, .int .i64 k, v6, v7, v8, v9, v10, v11, v12, v13, v14, v15, v16, v17, v18, v19, v20, v21, v22, v23, v24, v25, v26, v27, v28, v29, v30, v31, v32, v33, v34, v35, v36, v37, v38, v39, v40, v41, v42, v43, v44, v45, v46, v47, v48, v49, v50, v51, v52, v53, v54, v55], []⟩ w := by
 have HQ := Lib.hid hQ; clear hQ
 have hdr : Below w.heap.size w w.drew := (Below.refl _ _).drew
 have BB := Lib.hid hdr
 refine wp_region_noPanic ?_
 refine wp_region_held_drew (S := (fun w' => w'.cell? ⟨g, 1, none⟩ = some (.slice (some ⟨b, off, none⟩) n c) ∧ w'.cell? ⟨g', 1, none⟩ = some (.slice (some ⟨b', off', none⟩) n' c') ∧ w'.cell? ⟨b, off + k * 6 + 5, none⟩ = some (.int .i64 u1) ∧ w'.cell? ⟨b', off' + k * 6 + 5, none⟩ = some (.int .i64 u2))) (by kernel_rfl) ?_ (fun hHeld => ?_)
 ·
  exact ⟨kc K1.out BB.out, kc K2.out BB.out, kc U1.out BB.out, kc U2.out BB.out⟩
 clear hdr
 generalize w.drew = wd at *
 refine wpAnyH_take (i := 0) (oi := ⟨some 27, .fieldAddr 26 (.tmp 2) 1, 0, "laws.go:128", #[], none⟩) (v := ?_) rfl (by kernel_rfl) (by kernel_rfl) (by kernel_rfl) (fun _ _ _ h => h) (Or.inl ⟨by rfl, ?_⟩) (by assumption) ?_
 rotate_left
 ·
  intro w' hSw; (try dsimp only at hSw); first | (go_simp; done) | (go_simp; with_reducible rfl)
 (try simp only [Act.put, Row.pB0, Row.pB1, Row.pB2])
 refine wpAnyH_take (i := 1) (oi := ⟨some 28, .load 24 (.tmp 27), 24, "laws.go:128", #[⟨0, .data⟩], none⟩) (v := ?_) rfl (by kernel_rfl) (by kernel_rfl) (by kernel_rfl) (fun _ _ _ h => h) (Or.inl ⟨by rfl, ?_⟩) (by assumption) ?_
 rotate_left
 ·
  intro w' hSw; (try dsimp only at hSw); first | (go_simp; done) | (go_simp; with_reducible rfl)
 (try simp only [Act.put, Row.pB0, Row.pB1, Row.pB2])
 refine wpAnyH_take (i := 2) (oi := ⟨some 29, .move (.tmp 5), 3, "laws.go:128", #[], none⟩) (v := ?_) rfl (by kernel_rfl) (by kernel_rfl) (by kernel_rfl) (fun _ _ _ h => h) (Or.inl ⟨by rfl, ?_⟩) (by assumption) ?_
 rotate_left
 ·
  intro w' hSw; (try dsimp only at hSw); first | (go_simp; done) | (go_simp; with_reducible rfl)
 (try simp only [Act.put, Row.pB0, Row.pB1, Row.pB2])
 refine wpAnyH_take (i := 3) (oi := ⟨some 30, .indexAddr 24 (.tmp 28) (.tmp 29), 0, "laws.go:128", #[⟨1, .data⟩, ⟨2, .data⟩], none⟩) (v := ?_) rfl (by kernel_rfl) (by kernel_rfl) (by kernel_rfl) (fun _ _ _ h => h) (Or.inl ⟨by rfl, ?_⟩) (by assumption) ?_
 rotate_left
 ·
  intro w' hSw; (try dsimp only at hSw); first | (go_simp; done) | (go_simp; with_reducible rfl)
 (try simp only [Act.put, Row.pB0, Row.pB1, Row.pB2])
 refine wpAnyH_take (i := 4) (oi := ⟨some 31, .fieldAddr 64 (.tmp 30) 1, 0, "laws.go:128", #[⟨3, .data⟩], none⟩) (v := ?_) rfl (by kernel_rfl) (by kernel_rfl) (by kernel_rfl) (fun _ _ _ h => h) (Or.inl ⟨by rfl, ?_⟩) (by assumption) ?_
 rotate_left
 ·
  intro w' hSw; (try dsimp only at hSw); first | (go_simp; done) | (go_simp; with_reducible rfl)
 (try simp only [Act.put, Row.pB0, Row.pB1, Row.pB2])
 refine wpAnyH_take (i := 5) (oi := ⟨some 32, .load 3 (.tmp 31), 3, "laws.go:128", #[⟨4, .data⟩], none⟩) (v := ?_) rfl (by kernel_rfl) (by kernel_rfl) (by kernel_rfl) (fun _ _ _ h => h) (Or.inl ⟨by rfl, ?_⟩) (by assumption) ?_
 rotate_left
 ·
  intro w' hSw; (try dsimp only at hSw); first | (go_simp; done) | (go_simp; with_reducible rfl)
 (try simp only [Act.put, Row.pB0, Row.pB1, Row.pB2])
 refine wpAnyH_take (i := 6) (oi := ⟨some 33, .fieldAddr 26 (.tmp 3) 1, 0, "laws.go:128", #[], none⟩) (v := ?_) rfl (by kernel_rfl) (by kernel_rfl) (by kernel_rfl) (fun _ _ _ h => h) (Or.inl ⟨by rfl, ?_⟩) (by assumption) ?_
 rotate_left
 ·
  intro w' hSw; (try dsimp only at hSw); first | (go_simp; done) | (go_simp; with_reducible rfl)
 (try simp only [Act.put, Row.pB0, Row.pB1, Row.pB2])
 refine wpAnyH_take (i := 7) (oi := ⟨some 34, .load 24 (.tmp 33), 24, "laws.go:128", #[⟨6, .data⟩], none⟩) (v := ?_) rfl (by kernel_rfl) (by kernel_rfl) (by kernel_rfl) (fun _ _ _ h => h) (Or.inl ⟨by rfl, ?_⟩) (by assumption) ?_
 rotate_left
 ·
  intro w' hSw; (try dsimp only at hSw); first | (go_simp; done) | (go_simp; with_reducible rfl)
 (try simp only [Act.put, Row.pB0, Row.pB1, Row.pB2])
 refine wpAnyH_take (i := 8) (oi := ⟨some 35, .move (.tmp 5), 3, "laws.go:128", #[], none⟩) (v := ?_) rfl (by kernel_rfl) (by kernel_rfl) (by kernel_rfl) (fun _ _ _ h => h) (Or.inl ⟨by rfl, ?_⟩) (by assumption) ?_
 rotate_left
 ·
  intro w' hSw; (try dsimp only at hSw); first | (go_simp; done) | (go_simp; with_reducible rfl)
 (try simp only [Act.put, Row.pB0, Row.pB1, Row.pB2])
 refine wpAnyH_take (i := 9) (oi := ⟨some 36, .indexAddr 24 (.tmp 34) (.tmp 35), 0, "laws.go:128", #[⟨7, .data⟩, ⟨8, .data⟩], none⟩) (v := ?_) rfl (by kernel_rfl) (by kernel_rfl) (by kernel_rfl) (fun _ _ _ h => h) (Or.inl ⟨by rfl, ?_⟩) (by assumption) ?_
 rotate_left
 ·
  intro w' hSw; (try dsimp only at hSw); first | (go_simp; done) | (go_simp; with_reducible rfl)
 (try simp only [Act.put, Row.pB0, Row.pB1, Row.pB2])
 refine wpAnyH_take (i := 10) (oi := ⟨some 37, .fieldAddr 64 (.tmp 36) 1, 0, "laws.go:128", #[⟨9, .data⟩], none⟩) (v := ?_) rfl (by kernel_rfl) (by kernel_rfl) (by kernel_rfl) (fun _ _ _ h => h) (Or.inl ⟨by rfl, ?_⟩) (by assumption) ?_
 rotate_left
 ·
  intro w' hSw; (try dsimp only at hSw); first | (go_simp; done) | (go_simp; with_reducible rfl)
 (try simp only [Act.put, Row.pB0, Row.pB1, Row.pB2])
 refine wpAnyH_take (i := 11) (oi := ⟨some 38, .load 3 (.tmp 37), 3, "laws.go:128", #[⟨10, .data⟩], none⟩) (v := ?_) rfl (by kernel_rfl) (by kernel_rfl) (by kernel_rfl) (fun _ _ _ h => h) (Or.inl ⟨by rfl, ?_⟩) (by assumption) ?_
 rotate_left
 ·
  intro w' hSw; (try dsimp only at hSw); first | (go_simp; done) | (go_simp; with_reducible rfl)
 (try simp only [Act.put, Row.pB0, Row.pB1, Row.pB2])
 refine wpAnyH_take (i := 12) (oi := ⟨some 39, .binOp BinOp.neq 3 (.tmp 32) (.tmp 38) 3, 4, "laws.go:128", #[⟨5, .data⟩, ⟨11, .data⟩], none⟩) (v := ?_) rfl (by kernel_rfl) (by kernel_rfl) (by kernel_rfl) (fun _ _ _ h => h) (Or.inl ⟨by rfl, ?_⟩) (by assumption) ?_
 rotate_left
 ·
  intro w' hSw; (try dsimp only at hSw); first | (go_simp; done) | (go_simp; with_reducible rfl)
 (try simp only [Act.put, Row.pB0, Row.pB1, Row.pB2])
 refine wpAnyH_take (i := 13) (oi := ⟨some 40, .move (.tmp 39), 4, "laws.go:128", #[⟨12, .data⟩], none⟩) (v := ?_) rfl (by kernel_rfl) (by kernel_rfl) (by kernel_rfl) (fun _ _ _ h => h) (Or.inl ⟨by rfl, ?_⟩) (by assumption) ?_
 rotate_left
 ·
  intro w' hSw; (try dsimp only at hSw); first | (go_simp; done) | (go_simp; with_reducible rfl)
 (try simp only [Act.put, Row.pB0, Row.pB1, Row.pB2])
 refine wpAnyH_take (i := 14) (oi := ⟨some 41, .fieldAddr 26 (.tmp 2) 1, 0, "laws.go:128", #[⟨13, .guard⟩], some (13, false)⟩) (v := undef) rfl (by kernel_rfl) (by kernel_rfl) (by kernel_rfl) (fun _ _ _ h => h) (Or.inr ⟨by rfl, rfl⟩) (by assumption) ?_
 (try simp only [Act.put, Row.pB0, Row.pB1, Row.pB2])
 refine wpAnyH_take (i := 15) (oi := ⟨some 42, .load 24 (.tmp 41), 24, "laws.go:128", #[⟨14, .data⟩, ⟨13, .guard⟩], some (13, false)⟩) (v := undef) rfl (by kernel_rfl) (by kernel_rfl) (by kernel_rfl) (fun _ _ _ h => h) (Or.inr ⟨by rfl, rfl⟩) (by assumption) ?_
 (try simp only [Act.put, Row.pB0, Row.pB1, Row.pB2])
 refine wpAnyH_take (i := 16) (oi := ⟨some 43, .move (.tmp 5), 3, "laws.go:128", #[⟨13, .guard⟩], some (13, false)⟩) (v := undef) rfl (by kernel_rfl) (by kernel_rfl) (by kernel_rfl) (fun _ _ _ h => h) (Or.inr ⟨by rfl, rfl⟩) (by assumption) ?_
 (try simp only [Act.put, Row.pB0, Row.pB1, Row.pB2])
 refine wpAnyH_take (i := 17) (oi := ⟨some 44, .indexAddr 24 (.tmp 42) (.tmp 43), 0, "laws.go:128", #[⟨15, .data⟩, ⟨16, .data⟩, ⟨13, .guard⟩], some (13, false)⟩) (v := undef) rfl (by kernel_rfl) (by kernel_rfl) (by kernel_rfl) (fun _ _ _ h => h) (Or.inr ⟨by rfl, rfl⟩) (by assumption) ?_
 (try simp only [Act.put, Row.pB0, Row.pB1, Row.pB2])
 refine wpAnyH_take (i := 18) (oi := ⟨some 45, .fieldAddr 64 (.tmp 44) 0, 0, "laws.go:128", #[⟨17, .data⟩, ⟨13, .guard⟩], some (13, false)⟩) (v := undef) rfl (by kernel_rfl) (by kernel_rfl) (by kernel_rfl) (fun _ _ _ h => h) (Or.inr ⟨by rfl, rfl⟩) (by assumption) ?_
 (try simp only [Act.put, Row.pB0, Row.pB1, Row.pB2])
 refine wpAnyH_take (i := 19) (oi := ⟨some 46, .load 31 (.tmp 45), 31, "laws.go:128", #[⟨18, .data⟩, ⟨13, .guard⟩], some (13, false)⟩) (v := undef) rfl (by kernel_rfl) (by kernel_rfl) (by kernel_rfl) (fun _ _ _ h => h) (Or.inr ⟨by rfl, rfl⟩) (by assumption) ?_
 (try simp only [Act.put, Row.pB0, Row.pB1, Row.pB2])
 refine wpAnyH_take (i := 20) (oi := ⟨some 47, .fieldAddr 26 (.tmp 3) 1, 0, "laws.go:128", #[⟨13, .guard⟩], some (13, false)⟩) (v := undef) rfl (by kernel_rfl) (by kernel_rfl) (by kernel_rfl) (fun _ _ _ h => h) (Or.inr ⟨by rfl, rfl⟩) (by assumption) ?_
 (try simp only [Act.put, Row.pB0, Row.pB1, Row.pB2])
 refine wpAnyH_take (i := 21) (oi := ⟨some 48, .load 24 (.tmp 47), 24, "laws.go:128", #[⟨20, .data⟩, ⟨13, .guard⟩], some (13, false)⟩) (v := undef) rfl (by kernel_rfl) (by kernel_rfl) (by kernel_rfl) (fun _ _ _ h => h) (Or.inr ⟨by rfl, rfl⟩) (by assumption) ?_
 (try simp only [Act.put, Row.pB0, Row.pB1, Row.pB2])
 refine wpAnyH_take (i := 22) (oi := ⟨some 49, .move (.tmp 5), 3, "laws.go:128", #[⟨13, .guard⟩], some (13, false)⟩) (v := undef) rfl (by kernel_rfl) (by kernel_rfl) (by kernel_rfl) (fun _ _ _ h => h) (Or.inr ⟨by rfl, rfl⟩) (by assumption) ?_
 (try simp only [Act.put, Row.pB0, Row.pB1, Row.pB2])
 refine wpAnyH_take (i := 23) (oi := ⟨some 50, .indexAddr 24 (.tmp 48) (.tmp 49), 0, "laws.go:128", #[⟨21, .data⟩, ⟨22, .data⟩, ⟨13, .guard⟩], some (13, false)⟩) (v := undef) rfl (by kernel_rfl) (by kernel_rfl) (by kernel_rfl) (fun _ _ _ h => h) (Or.inr ⟨by rfl, rfl⟩) (by assumption) ?_
 (try simp only [Act.put, Row.pB0, Row.pB1, Row.pB2])
 refine wpAnyH_take (i := 24) (oi := ⟨some 51, .fieldAddr 64 (.tmp 50) 0, 0, "laws.go:128", #[⟨23, .data⟩, ⟨13, .guard⟩], some (13, false)⟩) (v := undef) rfl (by kernel_rfl) (by kernel_rfl) (by kernel_rfl) (fun _ _ _ h => h) (Or.inr ⟨by rfl, rfl⟩) (by assumption) ?_
 (try simp only [Act.put, Row.pB0, Row.pB1, Row.pB2])
 refine wpAnyH_take (i := 25) (oi := ⟨some 52, .load 31 (.tmp 51), 31, "laws.go:128", #[⟨24, .data⟩, ⟨13, .guard⟩], some (13, false)⟩) (v := undef) rfl (by kernel_rfl) (by kernel_rfl) (by kernel_rfl) (fun _ _ _ h => h) (Or.inr ⟨by rfl, rfl⟩) (by assumption) ?_
 (try simp only [Act.put, Row.pB0, Row.pB1, Row.pB2])
 refine wpAnyH_take (i := 26) (oi := ⟨some 53, .call ⟨.value (.func 15), #[.tmp 46, .tmp 52], #[31, 31]⟩, 4, "laws.go:128", #[⟨19, .data⟩, ⟨25, .data⟩, ⟨13, .chain⟩, ⟨13, .guard⟩], some (13, false)⟩) (v := undef) rfl (by kernel_rfl) (by kernel_rfl) (by kernel_rfl) (fun _ _ _ h => h) (Or.inr ⟨by rfl, rfl⟩) (by assumption) ?_
 (try simp only [Act.put, Row.pB0, Row.pB1, Row.pB2])
 refine wpAnyH_take (i := 27) (oi := ⟨some 54, .unOp UnOp.not 4 (.tmp 53), 4, "laws.go:128", #[⟨26, .data⟩, ⟨13, .guard⟩], some (13, false)⟩) (v := undef) rfl (by kernel_rfl) (by kernel_rfl) (by kernel_rfl) (fun _ _ _ h => h) (Or.inr ⟨by rfl, rfl⟩) (by assumption) ?_
 (try simp only [Act.put, Row.pB0, Row.pB1, Row.pB2])
 refine wpAnyH_take (i := 28) (oi := ⟨some 55, .pick (.tmp 40) (.const (Value.bool true)) (.tmp 54), 4, "laws.go:128", #[⟨13, .data⟩, ⟨27, .data⟩], none⟩) (v := ?_) rfl (by kernel_rfl) (by kernel_rfl) (by kernel_rfl) (fun _ _ _ h => h) (Or.inl ⟨by rfl, ?_⟩) (by assumption) ?_
 rotate_left
 ·
  intro w' hSw; (try dsimp only at hSw); first | (go_simp; done) | (go_simp; with_reducible rfl)
 (try simp only [Act.put, Row.pB0, Row.pB1, Row.pB2])
 refine wpAnyH_done (by kernel_rfl) ?_ _
 exact NoPanic.normal (HQ.out _ _ _ _ _ _ _ _ _ _ _ _ _ _ _ _ _ _ _ _ _ _ _ _ _ _ _ _  _  BB.out)
set_option maxRecDepth 100000 in
set_option maxHeartbeats 4000000 in
theorem rsc1 {Q : Exit → Act → World → Prop} {v0 v1 v4 v6 v7 v8 v9 v10 v11 v12 v13 v14 v15 v16 v17 v18 v19 v20 v21 v22 v23 v24 v25 v26 v27 v28 v29 v30 v31 v32 v33 v34 v35 v36 v37 v38 v39 v40 v41 v42 v43 v44 v45 v46 v47 v48 v49 v50 v51 v52 v53 v54 v55 : Value} {w : World} {b off n c b' off' n' c' g g' k : Nat} {u1 u2 : Int} (hk : k < n) (hk2 : k < n') (hkc : k ≤ c) (hkc2 : k ≤ c') (hn : n ≤ 9000000) (hne : (u1 != u2) = false) {na ca nb cb nc cc_ nd cd ne ce nf cf : Nat} {xa xb xc xd xe xf : Option Addr} {f1 s1 f2 s2 : Int} {da db : Dzt} {q : Bool} (HQE : Hid (decide (da = db) = q)) (H_a : Hid (kDz.At w (.agg #[.slice xa na ca, .slice xb nb cb, .slice xc nc cc_, .int .i64 f1, .int .i64 s1]) da)) (H_b : Hid (kDz.At w (.agg #[.slice xd nd cd, .slice xe ne ce, .slice xf nf cf, .int .i64 f2, .int .i64 s2]) db)) (HI1 : Hid (inDz da)) (HI2 : Hid (inDz db)) (HW1 : Hid (wtDz da ≤ 1200000)) (HW2 : Hid (wtDz db ≤ 1200000)) (K1 : Hid (w.cell? ⟨g, 1, none⟩ = some (.slice (some ⟨b, off, none⟩) n c))) (K2 : Hid (w.cell? ⟨g', 1, none⟩ = some (.slice (some ⟨b', off', none⟩) n' c'))) (U1 : Hid (w.cell? ⟨b, off + k * 6 + 5, none⟩ = some (.int .i64 u1))) (U2 : Hid (w.cell? ⟨b', off' + k * 6 + 5, none⟩ = some (.int .i64 u2))) (E0 : Hid (w.cell? ⟨b, off + k * 6, none⟩ = some (.slice xa na ca))) (E1 : Hid (w.cell? ⟨b, off + k * 6 + 1, none⟩ = some (.slice xb nb cb))) (E2 : Hid (w.cell? ⟨b, off + k * 6 + 2, none⟩ = some (.slice xc nc cc_))) (E3 : Hid (w.cell? ⟨b, off + k * 6 + 3, none⟩ = some (.int .i64 f1))) (E4 : Hid (w.cell? ⟨b, off + k * 6 + 4, none⟩ = some (.int .i64 s1))) (F0 : Hid (w.cell? ⟨b', off' + k * 6, none⟩ = some (.slice xd nd cd))) (F1 : Hid (w.cell? ⟨b', off' + k * 6 + 1, none⟩ = some (.slice xe ne ce))) (F2 : Hid (w.cell? ⟨b', off' + k * 6 + 2, none⟩ = some (.slice xf nf cf))) (F3 : Hid (w.cell? ⟨b', off' + k * 6 + 3, none⟩ = some (.int .i64 f2))) (F4 : Hid (w.cell? ⟨b', off' + k * 6 + 4, none⟩ = some (.int .i64 s2)))
  (hQ : ∀ (u27 u28 u29 u30 u31 u32 u33 u34 u35 u36 u37 u38 u39 u40 u41 u42 u43 u44 u45 u46 u47 u48 u49 u50 u51 u52 u53 u54 : Value)  (wx : World), Below w.heap.size w wx → Q .normal ⟨#[v0, v1, .pointer (some ⟨g, 0, none⟩), .pointer (some ⟨g', 0, none⟩), v4, .int .i64 k, v6, v7, v8, v9, v10, v11, v12, v13, v14, v15, v16, v17, v18, v19, v20, v21, v22, v23, v24, v25, v26, u27, u28, u29, u30, u31, u32, u33, u34, u35, u36, u37, u38, u39, u40, u41, u42, u43, u44, u45, u46, u47, u48, u49, u50, u51, u52, u53, u54, .bool (!q)], []⟩ wx) :
  (Code.region 6 #[⟨some 27, .fieldAddr 26 (.tmp 2) 1, 0, "laws.go:128", #[], none⟩,
   ⟨some 28, .load 24 (.tmp 27), 24, "laws.go:128", #[⟨0, .data⟩], none⟩,
   ⟨some 29, .move (.tmp 5), 3, "laws.go:128", #[], none⟩,
   ⟨some 30, .indexAddr 24 (.tmp 28) (.tmp 29), 0, "laws.go:128", #[⟨1, .data⟩, ⟨2, .data⟩], none⟩,
   ⟨some 31, .fieldAddr 64 (.tmp 30) 1, 0, "laws.go:128", #[⟨3, .data⟩], none⟩,
   ⟨some 32, .load 3 (.tmp 31), 3, "laws.go:128", #[⟨4, .data⟩], none⟩,
   ⟨some 33, .fieldAddr 26 (.tmp 3) 1, 0, "laws.go:128", #[], none⟩,
   ⟨some 34, .load 24 (.tmp 33), 24, "laws.go:128", #[⟨6, .data⟩], none⟩,
   ⟨some 35, .move (.tmp 5), 3, "laws.go:128", #[], none⟩,
   ⟨some 36, .indexAddr 24 (.tmp 34) (.tmp 35), 0, "laws.go:128", #[⟨7, .data⟩, ⟨8, .data⟩], none⟩,
   ⟨some 37, .fieldAddr 64 (.tmp 36) 1, 0, "laws.go:128", #[⟨9, .data⟩], none⟩,
   ⟨some 38, .load 3 (.tmp 37), 3, "laws.go:128", #[⟨10, .data⟩], none⟩,
   ⟨some 39, .binOp BinOp.neq 3 (.tmp 32) (.tmp 38) 3, 4, "laws.go:128", #[⟨5, .data⟩, ⟨11, .data⟩], none⟩,
   ⟨some 40, .move (.tmp 39), 4, "laws.go:128", #[⟨12, .data⟩], none⟩,
   ⟨some 41, .fieldAddr 26 (.tmp 2) 1, 0, "laws.go:128", #[⟨13, .guard⟩], some (13, false)⟩,
   ⟨some 42, .load 24 (.tmp 41), 24, "laws.go:128", #[⟨14, .data⟩, ⟨13, .guard⟩], some (13, false)⟩,
   ⟨some 43, .move (.tmp 5), 3, "laws.go:128", #[⟨13, .guard⟩], some (13, false)⟩,
   ⟨some 44, .indexAddr 24 (.tmp 42) (.tmp 43), 0, "laws.go:128", #[⟨15, .data⟩, ⟨16, .data⟩, ⟨13, .guard⟩], some (13, false)⟩,
   ⟨some 45, .fieldAddr 64 (.tmp 44) 0, 0, "laws.go:128", #[⟨17, .data⟩, ⟨13, .guard⟩], some (13, false)⟩,
   ⟨some 46, .load 31 (.tmp 45), 31, "laws.go:128", #[⟨18, .data⟩, ⟨13, .guard⟩], some (13, false)⟩,
   ⟨some 47, .fieldAddr 26 (.tmp 3) 1, 0, "laws.go:128", #[⟨13, .guard⟩], some (13, false)⟩,
   ⟨some 48, .load 24 (.tmp 47), 24, "laws.go:128", #[⟨20, .data⟩, ⟨13, .guard⟩], some (13, false)⟩,
   ⟨some 49, .move (.tmp 5), 3, "laws.go:128", #[⟨13, .guard⟩], some (13, false)⟩,
   ⟨some 50, .indexAddr 24 (.tmp 48) (.tmp 49), 0, "laws.go:128", #[⟨21, .data⟩, ⟨22, .data⟩, ⟨13, .guard⟩], some (13, false)⟩,
   ⟨some 51, .fieldAddr 64 (.tmp 50) 0, 0, "laws.go:128", #[⟨23, .data⟩, ⟨13, .guard⟩], some (13, false)⟩,
   ⟨some 52, .load 31 (.tmp 51), 31, "laws.go:128", #[⟨24, .data⟩, ⟨13, .guard⟩], some (13, false)⟩,
   ⟨some 53, .call ⟨.value (.func 15), #[.tmp 46, .tmp 52], #[31, 31]⟩, 4, "laws.go:128", #[⟨19, .data⟩, ⟨25, .data⟩, ⟨13, .chain⟩, ⟨13, .guard⟩], some (13, false)⟩,
   ⟨some 54, .unOp UnOp.not 4 (.tmp 53), 4, "laws.go:128", #[⟨26, .data⟩, ⟨13, .guard⟩], some (13, false)⟩,
   ⟨some 55, .pick (.tmp 40) (.const (Value.bool true)) (.tmp 54), 4, "laws.go:128", #[⟨13, .data⟩, ⟨27, .data⟩], none⟩] true).wp Tryz.prog Q ⟨#[v0, v1, .pointer (some ⟨g, 0, none⟩), .pointer (some ⟨g', 0, none⟩), v4, .int .i64 k, v6, v7, v8, v9, v10, v11, v12, v13, v14, v15, v16, v17, v18, v19, v20, v21, v22, v23, v24, v25, v26, v27, v28, v29, v30, v31, v32, v33, v34, v35, v36, v37, v38, v39, v40, v41, v42, v43, v44, v45, v46, v47, v48, v49, v50, v51, v52, v53, v54, v55], []⟩ w := by
 have HQ := Lib.hid hQ; clear hQ
 have hdr : Below w.heap.size w w.drew := (Below.refl _ _).drew
 have BB := Lib.hid hdr
 refine wp_region_noPanic ?_
 refine wp_region_held_drew (S := (fun w' => w'.cell? ⟨g, 1, none⟩ = some (.slice (some ⟨b, off, none⟩) n c) ∧ w'.cell? ⟨g', 1, none⟩ = some (.slice (some ⟨b', off', none⟩) n' c') ∧ w'.cell? ⟨b, off + k * 6 + 5, none⟩ = some (.int .i64 u1) ∧ w'.cell? ⟨b', off' + k * 6 + 5, none⟩ = some (.int .i64 u2) ∧ w'.cell? ⟨b, off + k * 6, none⟩ = some (.slice xa na ca) ∧ w'.cell? ⟨b, off + k * 6 + 1, none⟩ = some (.slice xb nb cb) ∧ w'.cell? ⟨b, off + k * 6 + 2, none⟩ = some (.slice xc nc cc_) ∧ w'.cell? ⟨b, off + k * 6 + 3, none⟩ = some (.int .i64 f1) ∧ w'.cell? ⟨b, off + k * 6 + 4, none⟩ = some (.int .i64 s1) ∧ w'.cell? ⟨b', off' + k * 6, none⟩ = some (.slice xd nd cd) ∧ w'.cell? ⟨b', off' + k * 6 + 1, none⟩ = some (.slice xe ne ce) ∧ w'.cell? ⟨b', off' + k * 6 + 2, none⟩ = some (.slice xf nf cf) ∧ w'.cell? ⟨b', off' + k * 6 + 3, none⟩ = some (.int .i64 f2) ∧ w'.cell? ⟨b', off' + k * 6 + 4, none⟩ = some (.int .i64 s2))) (by kernel_rfl) ?_ (fun hHeld => ?_)
 ·
  exact ⟨kc K1.out BB.out, kc K2.out BB.out, kc U1.out BB.out, kc U2.out BB.out, kc E0.out BB.out, kc E1.out BB.out, kc E2.out BB.out, kc E3.out BB.out, kc E4.out BB.out, kc F0.out BB.out, kc F1.out BB.out, kc F2.out BB.out, kc F3.out BB.out, kc F4.out BB.out⟩
 clear hdr
 generalize w.drew = wd at *
 refine wpAnyH_take (i := 0) (oi := ⟨some 27, .fieldAddr 26 (.tmp 2) 1, 0, "laws.go:128", #[], none⟩) (v := ?_) rfl (by kernel_rfl) (by kernel_rfl) (by kernel_rfl) (fun _ _ _ h => h) (Or.inl ⟨by rfl, ?_⟩) (by assumption) ?_
 rotate_left
 ·
  intro w' hSw; (try dsimp only at hSw); first | (go_simp; done) | (go_simp; with_reducible rfl)
 (try simp only [Act.put, Row.pB0, Row.pB1, Row.pB2])
 refine wpAnyH_take (i := 1) (oi := ⟨some 28, .load 24 (.tmp 27), 24, "laws.go:128", #[⟨0, .data⟩], none⟩) (v := ?_) rfl (by kernel_rfl) (by kernel_rfl) (by kernel_rfl) (fun _ _ _ h => h) (Or.inl ⟨by rfl, ?_⟩) (by assumption) ?_
 rotate_left
 ·
  intro w' hSw; (try dsimp only at hSw); first | (go_simp; done) | (go_simp; with_reducible rfl)
 (try simp only [Act.put, Row.pB0, Row.pB1, Row.pB2])
 refine wpAnyH_take (i := 2) (oi := ⟨some 29, .move (.tmp 5), 3, "laws.go:128", #[], none⟩) (v := ?_) rfl (by kernel_rfl) (by kernel_rfl) (by kernel_rfl) (fun _ _ _ h => h) (Or.inl ⟨by rfl, ?_⟩) (by assumption) ?_
 rotate_left
 ·
  intro w' hSw; (try dsimp only at hSw); first | (go_simp; done) | (go_simp; with_reducible rfl)
 (try simp only [Act.put, Row.pB0, Row.pB1, Row.pB2])
 refine wpAnyH_take (i := 3) (oi := ⟨some 30, .indexAddr 24 (.tmp 28) (.tmp 29), 0, "laws.go:128", #[⟨1, .data⟩, ⟨2, .data⟩], none⟩) (v := ?_) rfl (by kernel_rfl) (by kernel_rfl) (by kernel_rfl) (fun _ _ _ h => h) (Or.inl ⟨by rfl, ?_⟩) (by assumption) ?_
 rotate_left
 ·
  intro w' hSw; (try dsimp only at hSw); first | (go_simp; done) | (go_simp; with_reducible rfl)
 (try simp only [Act.put, Row.pB0, Row.pB1, Row.pB2])
 refine wpAnyH_take (i := 4) (oi := ⟨some 31, .fieldAddr 64 (.tmp 30) 1, 0, "laws.go:128", #[⟨3, .data⟩], none⟩) (v := ?_) rfl (by kernel_rfl) (by kernel_rfl) (by kernel_rfl) (fun _ _ _ h => h) (Or.inl ⟨by rfl, ?_⟩) (by assumption) ?_
 rotate_left
 ·
  intro w' hSw; (try dsimp only at hSw); first | (go_simp; done) | (go_simp; with_reducible rfl)
 (try simp only [Act.put, Row.pB0, Row.pB1, Row.pB2])
 refine wpAnyH_take (i := 5) (oi := ⟨some 32, .load 3 (.tmp 31), 3, "laws.go:128", #[⟨4, .data⟩], none⟩) (v := ?_) rfl (by kernel_rfl) (by kernel_rfl) (by kernel_rfl) (fun _ _ _ h => h) (Or.inl ⟨by rfl, ?_⟩) (by assumption) ?_
 rotate_left
 ·
  intro w' hSw; (try dsimp only at hSw); first | (go_simp; done) | (go_simp; with_reducible rfl)
 (try simp only [Act.put, Row.pB0, Row.pB1, Row.pB2])
 refine wpAnyH_take (i := 6) (oi := ⟨some 33, .fieldAddr 26 (.tmp 3) 1, 0, "laws.go:128", #[], none⟩) (v := ?_) rfl (by kernel_rfl) (by kernel_rfl) (by kernel_rfl) (fun _ _ _ h => h) (Or.inl ⟨by rfl, ?_⟩) (by assumption) ?_
 rotate_left
 ·
  intro w' hSw; (try dsimp only at hSw); first | (go_simp; done) | (go_simp; with_reducible rfl)
 (try simp only [Act.put, Row.pB0, Row.pB1, Row.pB2])
 refine wpAnyH_take (i := 7) (oi := ⟨some 34, .load 24 (.tmp 33), 24, "laws.go:128", #[⟨6, .data⟩], none⟩) (v := ?_) rfl (by kernel_rfl) (by kernel_rfl) (by kernel_rfl) (fun _ _ _ h => h) (Or.inl ⟨by rfl, ?_⟩) (by assumption) ?_
 rotate_left
 ·
  intro w' hSw; (try dsimp only at hSw); first | (go_simp; done) | (go_simp; with_reducible rfl)
 (try simp only [Act.put, Row.pB0, Row.pB1, Row.pB2])
 refine wpAnyH_take (i := 8) (oi := ⟨some 35, .move (.tmp 5), 3, "laws.go:128", #[], none⟩) (v := ?_) rfl (by kernel_rfl) (by kernel_rfl) (by kernel_rfl) (fun _ _ _ h => h) (Or.inl ⟨by rfl, ?_⟩) (by assumption) ?_
 rotate_left
 ·
  intro w' hSw; (try dsimp only at hSw); first | (go_simp; done) | (go_simp; with_reducible rfl)
 (try simp only [Act.put, Row.pB0, Row.pB1, Row.pB2])
 refine wpAnyH_take (i := 9) (oi := ⟨some 36, .indexAddr 24 (.tmp 34) (.tmp 35), 0, "laws.go:128", #[⟨7, .data⟩, ⟨8, .data⟩], none⟩) (v := ?_) rfl (by kernel_rfl) (by kernel_rfl) (by kernel_rfl) (fun _ _ _ h => h) (Or.inl ⟨by rfl, ?_⟩) (by assumption) ?_
 rotate_left
 ·
  intro w' hSw; (try dsimp only at hSw); first | (go_simp; done) | (go_simp; with_reducible rfl)
 (try simp only [Act.put, Row.pB0, Row.pB1, Row.pB2])
 refine wpAnyH_take (i := 10) (oi := ⟨some 37, .fieldAddr 64 (.tmp 36) 1, 0, "laws.go:128", #[⟨9, .data⟩], none⟩) (v := ?_) rfl (by kernel_rfl) (by kernel_rfl) (by kernel_rfl) (fun _ _ _ h => h) (Or.inl ⟨by rfl, ?_⟩) (by assumption) ?_
 rotate_left
 ·
  intro w' hSw; (try dsimp only at hSw); first | (go_simp; done) | (go_simp; with_reducible rfl)
 (try simp only [Act.put, Row.pB0, Row.pB1, Row.pB2])
 refine wpAnyH_take (i := 11) (oi := ⟨some 38, .load 3 (.tmp 37), 3, "laws.go:128", #[⟨10, .data⟩], none⟩) (v := ?_) rfl (by kernel_rfl) (by kernel_rfl) (by kernel_rfl) (fun _ _ _ h => h) (Or.inl ⟨by rfl, ?_⟩) (by assumption) ?_
 rotate_left
 ·
  intro w' hSw; (try dsimp only at hSw); first | (go_simp; done) | (go_simp; with_reducible rfl)
 (try simp only [Act.put, Row.pB0, Row.pB1, Row.pB2])
 refine wpAnyH_take (i := 12) (oi := ⟨some 39, .binOp BinOp.neq 3 (.tmp 32) (.tmp 38) 3, 4, "laws.go:128", #[⟨5, .data⟩, ⟨11, .data⟩], none⟩) (v := ?_) rfl (by kernel_rfl) (by kernel_rfl) (by kernel_rfl) (fun _ _ _ h => h) (Or.inl ⟨by rfl, ?_⟩) (by assumption) ?_
 rotate_left
 ·
  intro w' hSw; (try dsimp only at hSw); first | (go_simp; done) | (go_simp; with_reducible rfl)
 (try simp only [Act.put, Row.pB0, Row.pB1, Row.pB2])
 refine wpAnyH_take (i := 13) (oi := ⟨some 40, .move (.tmp 39), 4, "laws.go:128", #[⟨12, .data⟩], none⟩) (v := ?_) rfl (by kernel_rfl) (by kernel_rfl) (by kernel_rfl) (fun _ _ _ h => h) (Or.inl ⟨by rfl, ?_⟩) (by assumption) ?_
 rotate_left
 ·
  intro w' hSw; (try dsimp only at hSw); first | (go_simp; done) | (go_simp; with_reducible rfl)
 (try simp only [Act.put, Row.pB0, Row.pB1, Row.pB2])
 refine wpAnyH_take (i := 14) (oi := ⟨some 41, .fieldAddr 26 (.tmp 2) 1, 0, "laws.go:128", #[⟨13, .guard⟩], some (13, false)⟩) (v := ?_) rfl (by kernel_rfl) (by kernel_rfl) (by kernel_rfl) (fun _ _ _ h => h) (Or.inl ⟨by rfl, ?_⟩) (by assumption) ?_
 rotate_left
 ·
  intro w' hSw; (try dsimp only at hSw); first | (go_simp; done) | (go_simp; with_reducible rfl)
 (try simp only [Act.put, Row.pB0, Row.pB1, Row.pB2])
 refine wpAnyH_take (i := 15) (oi := ⟨some 42, .load 24 (.tmp 41), 24, "laws.go:128", #[⟨14, .data⟩, ⟨13, .guard⟩], some (13, false)⟩) (v := ?_) rfl (by kernel_rfl) (by kernel_rfl) (by kernel_rfl) (fun _ _ _ h => h) (Or.inl ⟨by rfl, ?_⟩) (by assumption) ?_
 rotate_left
 ·
  intro w' hSw; (try dsimp only at hSw); first | (go_simp; done) | (go_simp; with_reducible rfl)
 (try simp only [Act.put, Row.pB0, Row.pB1, Row.pB2])
 refine wpAnyH_take (i := 16) (oi := ⟨some 43, .move (.tmp 5), 3, "laws.go:128", #[⟨13, .guard⟩], some (13, false)⟩) (v := ?_) rfl (by kernel_rfl) (by kernel_rfl) (by kernel_rfl) (fun _ _ _ h => h) (Or.inl ⟨by rfl, ?_⟩) (by assumption) ?_
 rotate_left
 ·
  intro w' hSw; (try dsimp only at hSw); first | (go_simp; done) | (go_simp; with_reducible rfl)
 (try simp only [Act.put, Row.pB0, Row.pB1, Row.pB2])
 refine wpAnyH_take (i := 17) (oi := ⟨some 44, .indexAddr 24 (.tmp 42) (.tmp 43), 0, "laws.go:128", #[⟨15, .data⟩, ⟨16, .data⟩, ⟨13, .guard⟩], some (13, false)⟩) (v := ?_) rfl (by kernel_rfl) (by kernel_rfl) (by kernel_rfl) (fun _ _ _ h => h) (Or.inl ⟨by rfl, ?_⟩) (by assumption) ?_
 rotate_left
 ·
  intro w' hSw; (try dsimp only at hSw); first | (go_simp; done) | (go_simp; with_reducible rfl)
 (try simp only [Act.put, Row.pB0, Row.pB1, Row.pB2])
 refine wpAnyH_take (i := 18) (oi := ⟨some 45, .fieldAddr 64 (.tmp 44) 0, 0, "laws.go:128", #[⟨17, .data⟩, ⟨13, .guard⟩], some (13, false)⟩) (v := ?_) rfl (by kernel_rfl) (by kernel_rfl) (by kernel_rfl) (fun _ _ _ h => h) (Or.inl ⟨by rfl, ?_⟩) (by assumption) ?_
 rotate_left
 ·
  intro w' hSw; (try dsimp only at hSw); first | (go_simp; done) | (go_simp; with_reducible rfl)
 (try simp only [Act.put, Row.pB0, Row.pB1, Row.pB2])
 refine wpAnyH_take (i := 19) (oi := ⟨some 46, .load 31 (.tmp 45), 31, "laws.go:128", #[⟨18, .data⟩, ⟨13, .guard⟩], some (13, false)⟩) (v := ?_) rfl (by kernel_rfl) (by kernel_rfl) (by kernel_rfl) (fun _ _ _ h => h) (Or.inl ⟨by rfl, ?_⟩) (by assumption) ?_
 rotate_left
 ·
  intro w' hSw; (try dsimp only at hSw); first | (go_simp; done) | (go_simp; with_reducible rfl)
 (try simp only [Act.put, Row.pB0, Row.pB1, Row.pB2])
 refine wpAnyH_take (i := 20) (oi := ⟨some 47, .fieldAddr 26 (.tmp 3) 1, 0, "laws.go:128", #[⟨13, .guard⟩], some (13, false)⟩) (v := ?_) rfl (by kernel_rfl) (by kernel_rfl) (by kernel_rfl) (fun _ _ _ h => h) (Or.inl ⟨by rfl, ?_⟩) (by assumption) ?_
 rotate_left
 ·
  intro w' hSw; (try dsimp only at hSw); first | (go_simp; done) | (go_simp; with_reducible rfl)
 (try simp only [Act.put, Row.pB0, Row.pB1, Row.pB2])
 refine wpAnyH_take (i := 21) (oi := ⟨some 48, .load 24 (.tmp 47), 24, "laws.go:128", #[⟨20, .data⟩, ⟨13, .guard⟩], some (13, false)⟩) (v := ?_) rfl (by kernel_rfl) (by kernel_rfl) (by kernel_rfl) (fun _ _ _ h => h) (Or.inl ⟨by rfl, ?_⟩) (by assumption) ?_
 rotate_left
 ·
  intro w' hSw; (try dsimp only at hSw); first | (go_simp; done) | (go_simp; with_reducible rfl)
 (try simp only [Act.put, Row.pB0, Row.pB1, Row.pB2])
 refine wpAnyH_take (i := 22) (oi := ⟨some 49, .move (.tmp 5), 3, "laws.go:128", #[⟨13, .guard⟩], some (13, false)⟩) (v := ?_) rfl (by kernel_rfl) (by kernel_rfl) (by kernel_rfl) (fun _ _ _ h => h) (Or.inl ⟨by rfl, ?_⟩) (by assumption) ?_
 rotate_left
 ·
  intro w' hSw; (try dsimp only at hSw); first | (go_simp; done) | (go_simp; with_reducible rfl)
 (try simp only [Act.put, Row.pB0, Row.pB1, Row.pB2])
 refine wpAnyH_take (i := 23) (oi := ⟨some 50, .indexAddr 24 (.tmp 48) (.tmp 49), 0, "laws.go:128", #[⟨21, .data⟩, ⟨22, .data⟩, ⟨13, .guard⟩], some (13, false)⟩) (v := ?_) rfl (by kernel_rfl) (by kernel_rfl) (by kernel_rfl) (fun _ _ _ h => h) (Or.inl ⟨by rfl, ?_⟩) (by assumption) ?_
 rotate_left
 ·
  intro w' hSw; (try dsimp only at hSw); first | (go_simp; done) | (go_simp; with_reducible rfl)
 (try simp only [Act.put, Row.pB0, Row.pB1, Row.pB2])
 refine wpAnyH_take (i := 24) (oi := ⟨some 51, .fieldAddr 64 (.tmp 50) 0, 0, "laws.go:128", #[⟨23, .data⟩, ⟨13, .guard⟩], some (13, false)⟩) (v := ?_) rfl (by kernel_rfl) (by kernel_rfl) (by kernel_rfl) (fun _ _ _ h => h) (Or.inl ⟨by rfl, ?_⟩) (by assumption) ?_
 rotate_left
 ·
  intro w' hSw; (try dsimp only at hSw); first | (go_simp; done) | (go_simp; with_reducible rfl)
 (try simp only [Act.put, Row.pB0, Row.pB1, Row.pB2])
 refine wpAnyH_take (i := 25) (oi := ⟨some 52, .load 31 (.tmp 51), 31, "laws.go:128", #[⟨24, .data⟩, ⟨13, .guard⟩], some (13, false)⟩) (v := ?_) rfl (by kernel_rfl) (by kernel_rfl) (by kernel_rfl) (fun _ _ _ h => h) (Or.inl ⟨by rfl, ?_⟩) (by assumption) ?_
 rotate_left
 ·
  intro w' hSw; (try dsimp only at hSw); first | (go_simp; done) | (go_simp; with_reducible rfl)
 (try simp only [Act.put, Row.pB0, Row.pB1, Row.pB2])
 refine wpAnyH_ready (rs := [26]) (by kernel_rfl) (by simp) ?_
 refine AllReadyH.cons (o := ⟨some 53, .call ⟨.value (.func 15), #[.tmp 46, .tmp 52], #[31, 31]⟩, 4, "laws.go:128", #[⟨19, .data⟩, ⟨25, .data⟩, ⟨13, .chain⟩, ⟨13, .guard⟩], some (13, false)⟩) rfl (fun K hK => ?_) AllReadyH.nil
 go_simp
 refine (sameZ q HQE.out (H_a.out.on BB.out) (H_b.out.on BB.out) HI1.out HI2.out (Nat.le_trans HW1.out (by decide)) (Nat.le_trans HW2.out (by decide))).mono ?_
 rintro e wn1 ⟨rfl, hb⟩
 replace BB := Lib.hid (BB.out.trans (hb.mono BB.out.size))
 clear hb
 (try go_wp2_with fail)
 clear hHeld
 refine hK.out _ _ ?_ (fun hHeld => ?_)
 ·
  (try dsimp only); exact ⟨kc K1.out BB.out, kc K2.out BB.out, kc U1.out BB.out, kc U2.out BB.out, kc E0.out BB.out, kc E1.out BB.out, kc E2.out BB.out, kc E3.out BB.out, kc E4.out BB.out, kc F0.out BB.out, kc F1.out BB.out, kc F2.out BB.out, kc F3.out BB.out, kc F4.out BB.out⟩
 clear hK K
 (try simp only [Act.put, Row.pB0, Row.pB1, Row.pB2])
 refine wpAnyH_take (i := 27) (oi := ⟨some 54, .unOp UnOp.not 4 (.tmp 53), 4, "laws.go:128", #[⟨26, .data⟩, ⟨13, .guard⟩], some (13, false)⟩) (v := ?_) rfl (by kernel_rfl) (by kernel_rfl) (by kernel_rfl) (fun _ _ _ h => h) (Or.inl ⟨by rfl, ?_⟩) (by assumption) ?_
 rotate_left
 ·
  intro w' hSw; (try dsimp only at hSw); first | (go_simp; done) | (go_simp; with_reducible rfl)
 (try simp only [Act.put, Row.pB0, Row.pB1, Row.pB2])
 refine wpAnyH_take (i := 28) (oi := ⟨some 55, .pick (.tmp 40) (.const (Value.bool true)) (.tmp 54), 4, "laws.go:128", #[⟨13, .data⟩, ⟨27, .data⟩], none⟩) (v := ?_) rfl (by kernel_rfl) (by kernel_rfl) (by kernel_rfl) (fun _ _ _ h => h) (Or.inl ⟨by rfl, ?_⟩) (by assumption) ?_
 rotate_left
 ·
  intro w' hSw; (try dsimp only at hSw); first | (go_simp; done) | (go_simp; with_reducible rfl)
 (try simp only [Act.put, Row.pB0, Row.pB1, Row.pB2])
 refine wpAnyH_done (by kernel_rfl) ?_ _
 exact NoPanic.normal (HQ.out _ _ _ _ _ _ _ _ _ _ _ _ _ _ _ _ _ _ _ _ _ _ _ _ _ _ _ _  _  BB.out)
set_option maxHeartbeats 8000000 in
theorem sameCacheC (V U : Value) (x y : Cnt) (w : World) (z : Bool) (hz : eqC x y = z) (h : kCn.At w V x) (g : kCn.At w U y) (hix : inCn x) (hiy : inCn y) (hpx : FitC x) (hpy : FitC y) :
    Calls Tryz.prog 13 #[V, U] w fun e w' => e = .returned (.bool z) ∧ Below w.heap.size w w' := by
  obtain ⟨x1, n1, c1, rfl, g1⟩ := kCn_at h
  obtain ⟨x2, n2, c2, rfl, g2⟩ := kCn_at g
  clear h g
  obtain ⟨ca_, l⟩ := x
  obtain ⟨cb_, m⟩ := y
  obtain ⟨hl, hp⟩ := hpx.fields
  obtain ⟨hl', hp'⟩ := hpy.fields
  dsimp only at g1 g2 hl hp hl' hp' ⊢
  have hin : ∀ x ∈ l, inDz x.1 := fun x hx => (hix.2.2 x hx).1
  have hin' : ∀ x ∈ m, inDz x.1 := fun x hx => (hiy.2.2 x hx).1
  obtain ⟨x, n, cx, L, e9, hn, ht, hh, hel⟩ := kLCe_at g1
  cases e9
  obtain ⟨x, n, cx, M, e9, hn2, ht2, hh2, hel2⟩ := kLCe_at g2
  cases e9
  have hlen : l.length = n1 := by rw [← ht, List.length_map]; exact hn.symm
  have hlen2 : m.length = n2 := by rw [← ht2, List.length_map]; exact hn2.symm
  rw [hlen] at hl
  rw [hlen2] at hl'
  have hcap : n1 ≤ c1 := by obtain ⟨x', n', cap', hv, hn', hc', -⟩ := hh.shapeN; cases hv; exact hc'
  have hcap2 : n2 ≤ c2 := by obtain ⟨x', n', cap', hv, hn', hc', -⟩ := hh2.shapeN; cases hv; exact hc'
  have b0 := (Below.refl w.heap.size w).alloc (Nat.le_refl _) (.cells #[.int .i64 ca_, .slice x1 n1 c1] 26)
  have b1 := (Below.refl (w.alloc (.cells #[.int .i64 ca_, .slice x1 n1 c1] 26)).heap.size (w.alloc (.cells #[.int .i64 ca_, .slice x1 n1 c1] 26))).alloc (Nat.le_refl _) (.cells #[.int .i64 cb_, .slice x2 n2 c2] 26)
  have HX := Lib.hid ((Ret.Blk.new w #[.int .i64 ca_, .slice x1 n1 c1] 26).on b1)
  have HY := Lib.hid (Ret.Blk.new' (w := w.alloc (.cells #[.int .i64 ca_, .slice x1 n1 c1] 26)) (n := w.heap.size + 1) #[.int .i64 cb_, .slice x2 n2 c2] 26 (by simp))
  have HB := Lib.hid (b0.trans (b1.mono b0.size)); have HZ := Lib.hid hz
  have HN := Lib.hid hn; have HT := Lib.hid ht; have HH := Lib.hid hh; have HEL := Lib.hid hel; have HLEN := Lib.hid hlen; have HP := Lib.hid hp; have HIN := Lib.hid hin
  have HN2 := Lib.hid hn2; have HT2 := Lib.hid ht2; have HH2 := Lib.hid hh2; have HEL2 := Lib.hid hel2; have HLEN2 := Lib.hid hlen2; have HP2 := Lib.hid hp'; have HIN2 := Lib.hid hin'
  clear b0 b1 hz g1 g2 hix hiy hpx hpy hn ht hh hel hlen hp hin hn2 ht2 hh2 hel2 hlen2 hp' hin'
  by_cases hcab : ca_ = cb_
  · by_cases hnn : n1 = n2
    · have tc : (ca_ != cb_) = false := by simp [hcab]
      have tn : (((n1 : Nat) : Int) != ((n2 : Nat) : Int)) = false := by rw [hnn]; simp
      have HCAB := Lib.hid hcab; have HNN := Lib.hid hnn
      clear hcab hnn
      go_enter Tryz.func13, Tryz.ntmps13
      go_wp2
      go_loopw [5] (fun iv wr => ∃ i : Nat, i ≤ n1 ∧ iv = .int .i64 i ∧ Hid (l.take i = m.take i) ∧ Hid (Ret.Blk wr w.heap.size #[.int .i64 ca_, .slice x1 n1 c1] 26) ∧ Hid (Ret.Blk wr (w.heap.size + 1) #[.int .i64 cb_, .slice x2 n2 c2] 26) ∧ Hid (Below w.heap.size w wr)) (fun iv _ => n1 - (intOf iv).toNat)
      case atStart => exact ⟨0, Nat.zero_le _, rfl, Lib.hid rfl, HX, HY, HB⟩
      case round =>
        obtain ⟨k, hk, rfl, ha, hx, hy, hb⟩ := hrel
        have q1 : wr.cell? ⟨w.heap.size, 1, none⟩ = some (.slice x1 n1 c1) := hx.out.cell 1
        by_cases hlt : k < n1
        · have hlt2 : k < n2 := by have := HNN.out; omega
          have hlen := HN.out
          obtain ⟨b, off, y0, m0, d0, y1, m1, d1, y2, m2, d2, rfl, -, hc0, hc1, hc2, hc3, hc4, hc5, hA⟩ := kLCe_elem (HH.out.on hb.out) (fun y hy => kCe.holds_on (HEL.out y hy) hb.out) (j := k) (by omega)
          have hpt : nth l k = kCe.strip (nth L k) := by rw [← HT.out, nth_map _ (by omega)]
          have hps := HP.out (nth l k) (nth_mem (by have := HLEN.out; omega))
          rw [← hpt] at hA hc3 hc4 hc5
          obtain ⟨hD, hNM⟩ := kCe_parts hA
          have HA := Lib.hid hA; have HD := Lib.hid hD; have HNM := Lib.hid hNM; have HPS := Lib.hid hps; have HPD := Lib.hid (show wtDz (nth l k).1 ≤ 1200000 from hps); have HPN := Lib.hid (show bulk (nth l k).1.1 ≤ 1200000 from (wtDz_lens _ hps).1)
          have H0 := Lib.hid hc0; have H1 := Lib.hid hc1; have H2 := Lib.hid hc2; have H3 := Lib.hid hc3; have H4 := Lib.hid hc4; have H5 := Lib.hid hc5
          clear hlen hpt hps hA hD hNM
          have hlen2 := HN2.out
          obtain ⟨b', off', z0, m3, d3, z1, m4, d4, z2, m5, d5, rfl, -, gc0, gc1, gc2, gc3, gc4, gc5, hA2⟩ := kLCe_elem (HH2.out.on hb.out) (fun y hy => kCe.holds_on (HEL2.out y hy) hb.out) (j := k) (by omega)
          have hpt2 : nth m k = kCe.strip (nth M k) := by rw [← HT2.out, nth_map _ (by omega)]
          have hps2 := HP2.out (nth m k) (nth_mem (by have := HLEN2.out; omega))
          have hin2 := HIN2.out (nth m k) (nth_mem (by have := HLEN2.out; omega))
          have hin1 := HIN.out (nth l k) (nth_mem (by have := HLEN.out; omega))
          rw [← hpt2] at hA2 gc3 gc4 gc5
          obtain ⟨hD2, -⟩ := kCe_parts hA2
          have HA2 := Lib.hid hA2; have HD2 := Lib.hid hD2; have HI1 := Lib.hid hin1; have HI2 := Lib.hid hin2; have HPS2 := Lib.hid hps2; have HPD2 := Lib.hid (show wtDz (nth m k).1 ≤ 1200000 from hps2)
          have G0 := Lib.hid gc0; have G1 := Lib.hid gc1; have G2 := Lib.hid gc2; have G3 := Lib.hid gc3; have G4 := Lib.hid gc4; have G5 := Lib.hid gc5
          clear hlen2 hpt2 hps2 hA2 hD2 hin1 hin2
          have HHX := hx; have HHY := hy
          clear hc0 hc1 hc2 hc3 hc4 hc5 gc0 gc1 gc2 gc3 gc4 gc5
          by_cases hu : (nth l k).2 = (nth m k).2
          · have t0 : ((nth l k).2 != (nth m k).2) = false := by simp [hu]
            obtain ⟨q, hq⟩ : ∃ q, decide ((nth l k).1 = (nth m k).1) = q := ⟨_, rfl⟩
            have HQ := Lib.hid hq; have HU := Lib.hid hu; clear hq hu
            go_wp2_with fail
            clear q1
            refine rsc1 hlt hlt2 (by omega) (by omega) (by omega) t0 HQ HD HD2 HI1 HI2 HPD HPD2 (Lib.hid (hx.out.cell 1)) (Lib.hid (hy.out.cell 1)) H5 G5 H0 H1 H2 H3 H4 G0 G1 G2 G3 G4 ?_
            intro u27 u28 u29 u30 u31 u32 u33 u34 u35 u36 u37 u38 u39 u40 u41 u42 u43 u44 u45 u46 u47 u48 u49 u50 u51 u52 u53 u54 wx hbx
            replace hx := Lib.hid (hx.out.on hbx); replace hy := Lib.hid (hy.out.on hbx); replace hb := Lib.hid (hb.out.trans (hbx.mono hb.out.size)); clear hbx HHX HHY
            cases q with
            | true =>
              have HA3 := Lib.hid (eq_step ha.out (by have := HLEN.out; omega) (by have := HLEN2.out; omega) (Prod.ext (of_decide_eq_true HQ.out) HU.out))
              go_wp2
              go_roundw
              case rel => exact ⟨k + 1, by omega, by go_num, HA3, hx, hy, hb⟩
              case measure => simp [intOf]; omega
            | false =>
              have HE : Hid (z = false) := Lib.hid (by rw [← HZ.out]; unfold eqC; exact decide_eq_false (fun e => ne_step (l := l) (m := m) (k := k) (fun e2 => of_decide_eq_false HQ.out (congrArg Prod.fst e2)) (congrArg Prod.snd e)))
              go_wp2
              go_ret
              exact ⟨ret_bool HE.out.symm, hb.out⟩
          · have t0 : ((nth l k).2 != (nth m k).2) = true := by simpa using hu
            have HE : Hid (z = false) := Lib.hid (by rw [← HZ.out]; unfold eqC; exact decide_eq_false (fun e => ne_step (l := l) (m := m) (k := k) (fun e2 => hu (congrArg Prod.snd e2)) (congrArg Prod.snd e)))
            clear hu
            go_wp2_with fail
            clear q1
            refine rsc0 hlt hlt2 (by omega) (by omega) (by omega) t0 (Lib.hid (hx.out.cell 1)) (Lib.hid (hy.out.cell 1)) H5 G5 ?_
            intro u27 u28 u29 u30 u31 u32 u33 u34 u35 u36 u37 u38 u39 u40 u41 u42 u43 u44 u45 u46 u47 u48 u49 u50 u51 u52 u53 u54 wx hbx
            replace hb := Lib.hid (hb.out.trans (hbx.mono hb.out.size)); clear hbx
            go_wp2
            go_ret
            exact ⟨ret_bool HE.out.symm, hb.out⟩
        · obtain rfl : k = n1 := by omega
          have HE : Hid (z = true) := Lib.hid (by
            rw [← HZ.out]; unfold eqC
            have h1 := ha.out
            rw [List.take_of_length_le (by rw [HLEN.out]; exact Nat.le_refl _), List.take_of_length_le (by rw [HLEN2.out, HNN.out]; exact Nat.le_refl _)] at h1
            exact decide_eq_true (Prod.ext HCAB.out h1))
          clear hlt
          go_wp2
          go_ret
          exact ⟨ret_bool HE.out.symm, hb.out⟩
    · have tc : (ca_ != cb_) = false := by simp [hcab]
      have tn : (((n1 : Nat) : Int) != ((n2 : Nat) : Int)) = true := by rw [bne_iff_ne]; omega
      have HE : Hid (z = false) := Lib.hid (by rw [← HZ.out]; unfold eqC; exact decide_eq_false (fun e => hnn (by rw [← HLEN.out, ← HLEN2.out, show l = m from congrArg Prod.snd e])))
      have HCAB := Lib.hid hcab
      clear hcab hnn
      go_enter Tryz.func13, Tryz.ntmps13
      go_wp2
      go_ret
      exact ⟨ret_bool HE.out.symm, HB.out⟩
  · have tc : (ca_ != cb_) = true := by simpa using hcab
    have HE : Hid (z = false) := Lib.hid (by rw [← HZ.out]; unfold eqC; exact decide_eq_false (fun e => hcab (congrArg Prod.fst e)))
    go_enter Tryz.func13, Tryz.ntmps13
    go_wp2
    go_ret
    exact ⟨ret_bool HE.out.symm, HB.out⟩
end Go.Proofs.YtfglcmanmfenpaaGreat.Row
