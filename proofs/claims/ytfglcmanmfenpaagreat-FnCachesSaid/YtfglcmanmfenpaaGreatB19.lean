/- Contracts and mathematics, joined: CacheL. No conditions but those that each states. -/
import Derived.WalkKit
import Derived.Deep.RegionHeld3
import Derived.Test.YtfglcmanmfenpaaGreatB14
/- CacheLookup, model and program. No conditions but that lengths fit. -/
namespace Go.Proofs.YtfglcmanmfenpaaGreat.Row
open Go.ChangeShapes Go.WideShapes Go.ChangeAt Go.RowKit Go.Instr
set_option linter.unusedVariables false
set_option maxRecDepth 100000
set_option maxRecDepth 100000 in
set_option maxHeartbeats 4000000 in
theorem rcl0 {Q : Exit → Act → World → Prop} {v0 v1 v5 v6 v7 v9 v10 v11 v12 v13 v14 v15 v16 v17 v18 v19 v20 v21 v22 v23 v24 v25 v26 v27 v28 v29 v30 v31 v32 v33 v34 v35 v36 v37 v38 v39 v40 v41 v42 : Value} {w : World} {b off n c g q k na ca : Nat} {xa xn : Option Addr} {nn cn : Nat} {now : Int} {dd : Dzt} {m : List ByteArray}  (hk : k < n) (hkc : k ≤ c) (hn : n ≤ 9000000) (HZ : Hid (decide (dd.1 = m) = false)) (H_a : Hid (kN.At w (.agg #[.slice xa na ca]) dd.1)) (H_m : Hid (kN.At w (.agg #[.slice xn nn cn]) m)) (HAB : Hid (bulk dd.1 ≤ 1200000)) (HMB : Hid (bulk m ≤ 1200000)) (K0 : Hid (w.cell? ⟨q, 0, none⟩ = some (.slice xn nn cn))) (K1 : Hid (w.cell? ⟨g, 1, none⟩ = some (.slice (some ⟨b, off, none⟩) n c))) (E0 : Hid (w.cell? ⟨b, off + k * 6, none⟩ = some (.slice xa na ca)))
  (hQ : ∀ (u16 u17 u18 u19 u20 u21 u22 u23 u24 u25 u26 u27 u28 u29 u30 u31 u32 u33 : Value)  (wx : World), Below w.heap.size w wx → Q .normal ⟨#[v0, v1, .int .i64 now, .pointer (some ⟨g, 0, none⟩), .pointer (some ⟨q, 0, none⟩), v5, v6, v7, .int .i64 k, v9, v10, v11, v12, v13, v14, v15, u16, u17, u18, u19, u20, u21, u22, u23, u24, u25, u26, u27, u28, u29, u30, u31, u32, u33, .bool false, v35, v36, v37, v38, v39, v40, v41, v42], []⟩ wx) :
  (Code.region 4 #[⟨some 16, .fieldAddr 26 (.tmp 3) 1, 0, "l12_cache.go:67", #[], none⟩,
   ⟨some 17, .load 24 (.tmp 16), 24, "l12_cache.go:67", #[⟨0, .data⟩], none⟩,
   ⟨some 18, .move (.tmp 8), 3, "l12_cache.go:67", #[], none⟩,
   ⟨some 19, .indexAddr 24 (.tmp 17) (.tmp 18), 0, "l12_cache.go:67", #[⟨1, .data⟩, ⟨2, .data⟩], none⟩,
   ⟨some 20, .fieldAddr 64 (.tmp 19) 0, 0, "l12_cache.go:67", #[⟨3, .data⟩], none⟩,
   ⟨some 21, .fieldAddr 31 (.tmp 20) 0, 0, "l12_cache.go:67", #[⟨4, .data⟩], none⟩,
   ⟨some 22, .load 29 (.tmp 21), 29, "l12_cache.go:67", #[⟨5, .data⟩], none⟩,
   ⟨some 23, .load 29 (.tmp 4), 29, "l12_cache.go:67", #[], none⟩,
   ⟨some 24, .call ⟨.value (.func 44), #[.tmp 22, .tmp 23], #[29, 29]⟩, 4, "l12_cache.go:67", #[⟨6, .data⟩, ⟨7, .data⟩], none⟩,
   ⟨some 25, .move (.tmp 24), 4, "l12_cache.go:67", #[⟨8, .data⟩, ⟨8, .chain⟩], none⟩,
   ⟨some 26, .fieldAddr 26 (.tmp 3) 1, 0, "l12_cache.go:67", #[⟨9, .guard⟩], some (9, true)⟩,
   ⟨some 27, .load 24 (.tmp 26), 24, "l12_cache.go:67", #[⟨10, .data⟩, ⟨9, .guard⟩], some (9, true)⟩,
   ⟨some 28, .move (.tmp 8), 3, "l12_cache.go:67", #[⟨9, .guard⟩], some (9, true)⟩,
   ⟨some 29, .indexAddr 24 (.tmp 27) (.tmp 28), 0, "l12_cache.go:67", #[⟨11, .data⟩, ⟨12, .data⟩, ⟨9, .guard⟩], some (9, true)⟩,
   ⟨some 30, .fieldAddr 64 (.tmp 29) 0, 0, "l12_cache.go:67", #[⟨13, .data⟩, ⟨9, .guard⟩], some (9, true)⟩,
   ⟨some 31, .load 31 (.tmp 30), 31, "l12_cache.go:67", #[⟨14, .data⟩, ⟨9, .guard⟩], some (9, true)⟩,
   ⟨some 32, .move (.tmp 2), 3, "l12_cache.go:67", #[⟨9, .guard⟩], some (9, true)⟩,
   ⟨some 33, .call ⟨.value (.func 45), #[.tmp 31, .tmp 32], #[31, 3]⟩, 4, "l12_cache.go:67", #[⟨15, .data⟩, ⟨16, .data⟩, ⟨9, .chain⟩, ⟨9, .guard⟩], some (9, true)⟩,
   ⟨some 34, .pick (.tmp 25) (.tmp 33) (.const (Value.bool false)), 4, "l12_cache.go:67", #[⟨9, .data⟩, ⟨17, .data⟩], none⟩] true).wp Tryz.prog Q ⟨#[v0, v1, .int .i64 now, .pointer (some ⟨g, 0, none⟩), .pointer (some ⟨q, 0, none⟩), v5, v6, v7, .int .i64 k, v9, v10, v11, v12, v13, v14, v15, v16, v17, v18, v19, v20, v21, v22, v23, v24, v25, v26, v27, v28, v29, v30, v31, v32, v33, v34, v35, v36, v37, v38, v39, v40, v41, v42], []⟩ w := by
 have HQ := Lib.hid hQ; clear hQ
 have hdr : Below w.heap.size w w.drew := (Below.refl _ _).drew
 have BB := Lib.hid hdr
 refine wp_region_noPanic ?_
 refine wp_region_held_drew (S := (fun w' => w'.cell? ⟨q, 0, none⟩ = some (.slice xn nn cn) ∧ w'.cell? ⟨g, 1, none⟩ = some (.slice (some ⟨b, off, none⟩) n c) ∧ w'.cell? ⟨b, off + k * 6, none⟩ = some (.slice xa na ca))) (by kernel_rfl) ?_ (fun hHeld => ?_)
 ·
  exact ⟨kc K0.out BB.out, kc K1.out BB.out, kc E0.out BB.out⟩
 clear hdr
 generalize w.drew = wd at *
 refine wpAnyH_take (i := 0) (oi := ⟨some 16, .fieldAddr 26 (.tmp 3) 1, 0, "l12_cache.go:67", #[], none⟩) (v := ?_) rfl (by kernel_rfl) (by kernel_rfl) (by kernel_rfl) (fun _ _ _ h => h) (Or.inl ⟨by rfl, ?_⟩) (by assumption) ?_
 rotate_left
 ·
  intro w' hSw; (try dsimp only at hSw); first | (go_simp; done) | (go_simp; with_reducible rfl)
 (try simp only [Act.put, Row.pB0, Row.pB1, Row.pB2])
 refine wpAnyH_take (i := 1) (oi := ⟨some 17, .load 24 (.tmp 16), 24, "l12_cache.go:67", #[⟨0, .data⟩], none⟩) (v := ?_) rfl (by kernel_rfl) (by kernel_rfl) (by kernel_rfl) (fun _ _ _ h => h) (Or.inl ⟨by rfl, ?_⟩) (by assumption) ?_
 rotate_left
 ·
  intro w' hSw; (try dsimp only at hSw); first | (go_simp; done) | (go_simp; with_reducible rfl)
 (try simp only [Act.put, Row.pB0, Row.pB1, Row.pB2])
 refine wpAnyH_take (i := 2) (oi := ⟨some 18, .move (.tmp 8), 3, "l12_cache.go:67", #[], none⟩) (v := ?_) rfl (by kernel_rfl) (by kernel_rfl) (by kernel_rfl) (fun _ _ _ h => h) (Or.inl ⟨by rfl, ?_⟩) (by assumption) ?_
 rotate_left
 ·
  intro w' hSw; (try dsimp only at hSw); first | (go_simp; done) | (go_simp; with_reducible rfl)
 (try simp only [Act.put, Row.pB0, Row.pB1, Row.pB2])
 refine wpAnyH_take (i := 3) (oi := ⟨some 19, .indexAddr 24 (.tmp 17) (.tmp 18), 0, "l12_cache.go:67", #[⟨1, .data⟩, ⟨2, .data⟩], none⟩) (v := ?_) rfl (by kernel_rfl) (by kernel_rfl) (by kernel_rfl) (fun _ _ _ h => h) (Or.inl ⟨by rfl, ?_⟩) (by assumption) ?_
 rotate_left
 ·
  intro w' hSw; (try dsimp only at hSw); first | (go_simp; done) | (go_simp; with_reducible rfl)
 (try simp only [Act.put, Row.pB0, Row.pB1, Row.pB2])
 refine wpAnyH_take (i := 4) (oi := ⟨some 20, .fieldAddr 64 (.tmp 19) 0, 0, "l12_cache.go:67", #[⟨3, .data⟩], none⟩) (v := ?_) rfl (by kernel_rfl) (by kernel_rfl) (by kernel_rfl) (fun _ _ _ h => h) (Or.inl ⟨by rfl, ?_⟩) (by assumption) ?_
 rotate_left
 ·
  intro w' hSw; (try dsimp only at hSw); first | (go_simp; done) | (go_simp; with_reducible rfl)
 (try simp only [Act.put, Row.pB0, Row.pB1, Row.pB2])
 refine wpAnyH_take (i := 5) (oi := ⟨some 21, .fieldAddr 31 (.tmp 20) 0, 0, "l12_cache.go:67", #[⟨4, .data⟩], none⟩) (v := ?_) rfl (by kernel_rfl) (by kernel_rfl) (by kernel_rfl) (fun _ _ _ h => h) (Or.inl ⟨by rfl, ?_⟩) (by assumption) ?_
 rotate_left
 ·
  intro w' hSw; (try dsimp only at hSw); first | (go_simp; done) | (go_simp; with_reducible rfl)
 (try simp only [Act.put, Row.pB0, Row.pB1, Row.pB2])
 refine wpAnyH_take (i := 6) (oi := ⟨some 22, .load 29 (.tmp 21), 29, "l12_cache.go:67", #[⟨5, .data⟩], none⟩) (v := ?_) rfl (by kernel_rfl) (by kernel_rfl) (by kernel_rfl) (fun _ _ _ h => h) (Or.inl ⟨by rfl, ?_⟩) (by assumption) ?_
 rotate_left
 ·
  intro w' hSw; (try dsimp only at hSw); first | (go_simp; done) | (go_simp; with_reducible rfl)
 (try simp only [Act.put, Row.pB0, Row.pB1, Row.pB2])
 refine wpAnyH_take (i := 7) (oi := ⟨some 23, .load 29 (.tmp 4), 29, "l12_cache.go:67", #[], none⟩) (v := ?_) rfl (by kernel_rfl) (by kernel_rfl) (by kernel_rfl) (fun _ _ _ h => h) (Or.inl ⟨by rfl, ?_⟩) (by assumption) ?_
 rotate_left
 ·
  intro w' hSw; (try dsimp only at hSw); first | (go_simp; done) | (go_simp; with_reducible rfl)
 (try simp only [Act.put, Row.pB0, Row.pB1, Row.pB2])
 refine wpAnyH_ready (rs := [8]) (by kernel_rfl) (by simp) ?_
 refine AllReadyH.cons (o := ⟨some 24, .call ⟨.value (.func 44), #[.tmp 22, .tmp 23], #[29, 29]⟩, 4, "l12_cache.go:67", #[⟨6, .data⟩, ⟨7, .data⟩], none⟩) rfl (fun K hK => ?_) AllReadyH.nil
 go_simp
 refine (sEqK false HZ.out (H_a.out.on BB.out) (H_m.out.on BB.out) (Nat.le_trans HAB.out (by decide)) (Nat.le_trans HMB.out (by decide))).mono ?_
 rintro e wn1 ⟨rfl, hb⟩
 replace BB := Lib.hid (BB.out.trans (hb.mono BB.out.size))
 clear hb
 (try go_wp2_with fail)
 clear hHeld
 refine hK.out _ _ ?_ (fun hHeld => ?_)
 ·
  (try dsimp only); exact ⟨kc K0.out BB.out, kc K1.out BB.out, kc E0.out BB.out⟩
 clear hK K
 (try simp only [Act.put, Row.pB0, Row.pB1, Row.pB2])
 refine wpAnyH_take (i := 9) (oi := ⟨some 25, .move (.tmp 24), 4, "l12_cache.go:67", #[⟨8, .data⟩, ⟨8, .chain⟩], none⟩) (v := ?_) rfl (by kernel_rfl) (by kernel_rfl) (by kernel_rfl) (fun _ _ _ h => h) (Or.inl ⟨by rfl, ?_⟩) (by assumption) ?_
 rotate_left
 ·
  intro w' hSw; (try dsimp only at hSw); first | (go_simp; done) | (go_simp; with_reducible rfl)
 (try simp only [Act.put, Row.pB0, Row.pB1, Row.pB2])
 refine wpAnyH_take (i := 10) (oi := ⟨some 26, .fieldAddr 26 (.tmp 3) 1, 0, "l12_cache.go:67", #[⟨9, .guard⟩], some (9, true)⟩) (v := undef) rfl (by kernel_rfl) (by kernel_rfl) (by kernel_rfl) (fun _ _ _ h => h) (Or.inr ⟨by rfl, rfl⟩) (by assumption) ?_
 (try simp only [Act.put, Row.pB0, Row.pB1, Row.pB2])
 refine wpAnyH_take (i := 11) (oi := ⟨some 27, .load 24 (.tmp 26), 24, "l12_cache.go:67", #[⟨10, .data⟩, ⟨9, .guard⟩], some (9, true)⟩) (v := undef) rfl (by kernel_rfl) (by kernel_rfl) (by kernel_rfl) (fun _ _ _ h => h) (Or.inr ⟨by rfl, rfl⟩) (by assumption) ?_
 (try simp only [Act.put, Row.pB0, Row.pB1, Row.pB2])
 refine wpAnyH_take (i := 12) (oi := ⟨some 28, .move (.tmp 8), 3, "l12_cache.go:67", #[⟨9, .guard⟩], some (9, true)⟩) (v := undef) rfl (by kernel_rfl) (by kernel_rfl) (by kernel_rfl) (fun _ _ _ h => h) (Or.inr ⟨by rfl, rfl⟩) (by assumption) ?_
 (try simp only [Act.put, Row.pB0, Row.pB1, Row.pB2])
 refine wpAnyH_take (i := 13) (oi := ⟨some 29, .indexAddr 24 (.tmp 27) (.tmp 28), 0, "l12_cache.go:67", #[⟨11, .data⟩, ⟨12, .data⟩, ⟨9, .guard⟩], some (9, true)⟩) (v := undef) rfl (by kernel_rfl) (by kernel_rfl) (by kernel_rfl) (fun _ _ _ h => h) (Or.inr ⟨by rfl, rfl⟩) (by assumption) ?_
 (try simp only [Act.put, Row.pB0, Row.pB1, Row.pB2])
 refine wpAnyH_take (i := 14) (oi := ⟨some 30, .fieldAddr 64 (.tmp 29) 0, 0, "l12_cache.go:67", #[⟨13, .data⟩, ⟨9, .guard⟩], some (9, true)⟩) (v := undef) rfl (by kernel_rfl) (by kernel_rfl) (by kernel_rfl) (fun _ _ _ h => h) (Or.inr ⟨by rfl, rfl⟩) (by assumption) ?_
 (try simp only [Act.put, Row.pB0, Row.pB1, Row.pB2])
 refine wpAnyH_take (i := 15) (oi := ⟨some 31, .load 31 (.tmp 30), 31, "l12_cache.go:67", #[⟨14, .data⟩, ⟨9, .guard⟩], some (9, true)⟩) (v := undef) rfl (by kernel_rfl) (by kernel_rfl) (by kernel_rfl) (fun _ _ _ h => h) (Or.inr ⟨by rfl, rfl⟩) (by assumption) ?_
 (try simp only [Act.put, Row.pB0, Row.pB1, Row.pB2])
 refine wpAnyH_take (i := 16) (oi := ⟨some 32, .move (.tmp 2), 3, "l12_cache.go:67", #[⟨9, .guard⟩], some (9, true)⟩) (v := undef) rfl (by kernel_rfl) (by kernel_rfl) (by kernel_rfl) (fun _ _ _ h => h) (Or.inr ⟨by rfl, rfl⟩) (by assumption) ?_
 (try simp only [Act.put, Row.pB0, Row.pB1, Row.pB2])
 refine wpAnyH_take (i := 17) (oi := ⟨some 33, .call ⟨.value (.func 45), #[.tmp 31, .tmp 32], #[31, 3]⟩, 4, "l12_cache.go:67", #[⟨15, .data⟩, ⟨16, .data⟩, ⟨9, .chain⟩, ⟨9, .guard⟩], some (9, true)⟩) (v := undef) rfl (by kernel_rfl) (by kernel_rfl) (by kernel_rfl) (fun _ _ _ h => h) (Or.inr ⟨by rfl, rfl⟩) (by assumption) ?_
 (try simp only [Act.put, Row.pB0, Row.pB1, Row.pB2])
 refine wpAnyH_take (i := 18) (oi := ⟨some 34, .pick (.tmp 25) (.tmp 33) (.const (Value.bool false)), 4, "l12_cache.go:67", #[⟨9, .data⟩, ⟨17, .data⟩], none⟩) (v := ?_) rfl (by kernel_rfl) (by kernel_rfl) (by kernel_rfl) (fun _ _ _ h => h) (Or.inl ⟨by rfl, ?_⟩) (by assumption) ?_
 rotate_left
 ·
  intro w' hSw; (try dsimp only at hSw); first | (go_simp; done) | (go_simp; with_reducible rfl)
 (try simp only [Act.put, Row.pB0, Row.pB1, Row.pB2])
 refine wpAnyH_done (by kernel_rfl) ?_ _
 exact NoPanic.normal (HQ.out _ _ _ _ _ _ _ _ _ _ _ _ _ _ _ _ _ _  _  BB.out)
set_option maxRecDepth 100000 in
set_option maxHeartbeats 4000000 in
theorem rcl1 {Q : Exit → Act → World → Prop} {v0 v1 v5 v6 v7 v9 v10 v11 v12 v13 v14 v15 v16 v17 v18 v19 v20 v21 v22 v23 v24 v25 v26 v27 v28 v29 v30 v31 v32 v33 v34 v35 v36 v37 v38 v39 v40 v41 v42 : Value} {w : World} {b off n c g q k na ca nb cb nc cc_ : Nat} {xa xb xc xn : Option Addr} {nn cn : Nat} {f s now : Int} {dd : Dzt} {m : List ByteArray} {z : Bool} (hk : k < n) (hkc : k ≤ c) (hn : n ≤ 9000000) (HZ : Hid (decide (dd.1 = m) = true)) (H_a : Hid (kN.At w (.agg #[.slice xa na ca]) dd.1)) (H_m : Hid (kN.At w (.agg #[.slice xn nn cn]) m)) (HAB : Hid (bulk dd.1 ≤ 1200000)) (HMB : Hid (bulk m ≤ 1200000)) (HF : Hid (decide (now ≤ dd.2.2.2.1) = z)) (H_d : Hid (kDz.At w (.agg #[.slice xa na ca, .slice xb nb cb, .slice xc nc cc_, .int .i64 f, .int .i64 s]) dd)) (K0 : Hid (w.cell? ⟨q, 0, none⟩ = some (.slice xn nn cn))) (K1 : Hid (w.cell? ⟨g, 1, none⟩ = some (.slice (some ⟨b, off, none⟩) n c))) (E0 : Hid (w.cell? ⟨b, off + k * 6, none⟩ = some (.slice xa na ca))) (E1 : Hid (w.cell? ⟨b, off + k * 6 + 1, none⟩ = some (.slice xb nb cb))) (E2 : Hid (w.cell? ⟨b, off + k * 6 + 2, none⟩ = some (.slice xc nc cc_))) (E3 : Hid (w.cell? ⟨b, off + k * 6 + 3, none⟩ = some (.int .i64 f))) (E4 : Hid (w.cell? ⟨b, off + k * 6 + 4, none⟩ = some (.int .i64 s)))
  (hQ : ∀ (u16 u17 u18 u19 u20 u21 u22 u23 u24 u25 u26 u27 u28 u29 u30 u31 u32 u33 : Value)  (wx : World), Below w.heap.size w wx → Q .normal ⟨#[v0, v1, .int .i64 now, .pointer (some ⟨g, 0, none⟩), .pointer (some ⟨q, 0, none⟩), v5, v6, v7, .int .i64 k, v9, v10, v11, v12, v13, v14, v15, u16, u17, u18, u19, u20, u21, u22, u23, u24, u25, u26, u27, u28, u29, u30, u31, u32, u33, .bool z, v35, v36, v37, v38, v39, v40, v41, v42], []⟩ wx) :
  (Code.region 4 #[⟨some 16, .fieldAddr 26 (.tmp 3) 1, 0, "l12_cache.go:67", #[], none⟩,
   ⟨some 17, .load 24 (.tmp 16), 24, "l12_cache.go:67", #[⟨0, .data⟩], none⟩,
   ⟨some 18, .move (.tmp 8), 3, "l12_cache.go:67", #[], none⟩,
   ⟨some 19, .indexAddr 24 (.tmp 17) (.tmp 18), 0, "l12_cache.go:67", #[⟨1, .data⟩, ⟨2, .data⟩], none⟩,
   ⟨some 20, .fieldAddr 64 (.tmp 19) 0, 0, "l12_cache.go:67", #[⟨3, .data⟩], none⟩,
   ⟨some 21, .fieldAddr 31 (.tmp 20) 0, 0, "l12_cache.go:67", #[⟨4, .data⟩], none⟩,
   ⟨some 22, .load 29 (.tmp 21), 29, "l12_cache.go:67", #[⟨5, .data⟩], none⟩,
   ⟨some 23, .load 29 (.tmp 4), 29, "l12_cache.go:67", #[], none⟩,
   ⟨some 24, .call ⟨.value (.func 44), #[.tmp 22, .tmp 23], #[29, 29]⟩, 4, "l12_cache.go:67", #[⟨6, .data⟩, ⟨7, .data⟩], none⟩,
   ⟨some 25, .move (.tmp 24), 4, "l12_cache.go:67", #[⟨8, .data⟩, ⟨8, .chain⟩], none⟩,
   ⟨some 26, .fieldAddr 26 (.tmp 3) 1, 0, "l12_cache.go:67", #[⟨9, .guard⟩], some (9, true)⟩,
   ⟨some 27, .load 24 (.tmp 26), 24, "l12_cache.go:67", #[⟨10, .data⟩, ⟨9, .guard⟩], some (9, true)⟩,
   ⟨some 28, .move (.tmp 8), 3, "l12_cache.go:67", #[⟨9, .guard⟩], some (9, true)⟩,
   ⟨some 29, .indexAddr 24 (.tmp 27) (.tmp 28), 0, "l12_cache.go:67", #[⟨11, .data⟩, ⟨12, .data⟩, ⟨9, .guard⟩], some (9, true)⟩,
   ⟨some 30, .fieldAddr 64 (.tmp 29) 0, 0, "l12_cache.go:67", #[⟨13, .data⟩, ⟨9, .guard⟩], some (9, true)⟩,
   ⟨some 31, .load 31 (.tmp 30), 31, "l12_cache.go:67", #[⟨14, .data⟩, ⟨9, .guard⟩], some (9, true)⟩,
   ⟨some 32, .move (.tmp 2), 3, "l12_cache.go:67", #[⟨9, .guard⟩], some (9, true)⟩,
   ⟨some 33, .call ⟨.value (.func 45), #[.tmp 31, .tmp 32], #[31, 3]⟩, 4, "l12_cache.go:67", #[⟨15, .data⟩, ⟨16, .data⟩, ⟨9, .chain⟩, ⟨9, .guard⟩], some (9, true)⟩,
   ⟨some 34, .pick (.tmp 25) (.tmp 33) (.const (Value.bool false)), 4, "l12_cache.go:67", #[⟨9, .data⟩, ⟨17, .data⟩], none⟩] true).wp Tryz.prog Q ⟨#[v0, v1, .int .i64 now, .pointer (some ⟨g, 0, none⟩), .pointer (some ⟨q, 0, none⟩), v5, v6, v7, .int .i64 k, v9, v10, v11, v12, v13, v14, v15, v16, v17, v18, v19, v20, v21, v22, v23, v24, v25, v26, v27, v28, v29, v30, v31, v32, v33, v34, v35, v36, v37, v38, v39, v40, v41, v42], []⟩ w := by
 have HQ := Lib.hid hQ; clear hQ
 have hdr : Below w.heap.size w w.drew := (Below.refl _ _).drew
 have BB := Lib.hid hdr
 refine wp_region_noPanic ?_
 refine wp_region_held_drew (S := (fun w' => w'.cell? ⟨q, 0, none⟩ = some (.slice xn nn cn) ∧ w'.cell? ⟨g, 1, none⟩ = some (.slice (some ⟨b, off, none⟩) n c) ∧ w'.cell? ⟨b, off + k * 6, none⟩ = some (.slice xa na ca) ∧ w'.cell? ⟨b, off + k * 6 + 1, none⟩ = some (.slice xb nb cb) ∧ w'.cell? ⟨b, off + k * 6 + 2, none⟩ = some (.slice xc nc cc_) ∧ w'.cell? ⟨b, off + k * 6 + 3, none⟩ = some (.int .i64 f) ∧ w'.cell? ⟨b, off + k * 6 + 4, none⟩ = some (.int .i64 s))) (by kernel_rfl) ?_ (fun hHeld => ?_)
 ·
  exact ⟨kc K0.out BB.out, kc K1.out BB.out, kc E0.out BB.out, kc E1.out BB.out, kc E2.out BB.out, kc E3.out BB.out, kc E4.out BB.out⟩
 clear hdr
 generalize w.drew = wd at *
 refine wpAnyH_take (i := 0) (oi := ⟨some 16, .fieldAddr 26 (.tmp 3) 1, 0, "l12_cache.go:67", #[], none⟩) (v := ?_) rfl (by kernel_rfl) (by kernel_rfl) (by kernel_rfl) (fun _ _ _ h => h) (Or.inl ⟨by rfl, ?_⟩) (by assumption) ?_
 rotate_left
 ·
  intro w' hSw; (try dsimp only at hSw); first | (go_simp; done) | (go_simp; with_reducible rfl)
 (try simp only [Act.put, Row.pB0, Row.pB1, Row.pB2])
 refine wpAnyH_take (i := 1) (oi := ⟨some 17, .load 24 (.tmp 16), 24, "l12_cache.go:67", #[⟨0, .data⟩], none⟩) (v := ?_) rfl (by kernel_rfl) (by kernel_rfl) (by kernel_rfl) (fun _ _ _ h => h) (Or.inl ⟨by rfl, ?_⟩) (by assumption) ?_
 rotate_left
 ·
  intro w' hSw; (try dsimp only at hSw); first | (go_simp; done) | (go_simp; with_reducible rfl)
 (try simp only [Act.put, Row.pB0, Row.pB1, Row.pB2])
 refine wpAnyH_take (i := 2) (oi := ⟨some 18, .move (.tmp 8), 3, "l12_cache.go:67", #[], none⟩) (v := ?_) rfl (by kernel_rfl) (by kernel_rfl) (by kernel_rfl) (fun _ _ _ h => h) (Or.inl ⟨by rfl, ?_⟩) (by assumption) ?_
 rotate_left
 ·
  intro w' hSw; (try dsimp only at hSw); first | (go_simp; done) | (go_simp; with_reducible rfl)
 (try simp only [Act.put, Row.pB0, Row.pB1, Row.pB2])
 refine wpAnyH_take (i := 3) (oi := ⟨some 19, .indexAddr 24 (.tmp 17) (.tmp 18), 0, "l12_cache.go:67", #[⟨1, .data⟩, ⟨2, .data⟩], none⟩) (v := ?_) rfl (by kernel_rfl) (by kernel_rfl) (by kernel_rfl) (fun _ _ _ h => h) (Or.inl ⟨by rfl, ?_⟩) (by assumption) ?_
 rotate_left
 ·
  intro w' hSw; (try dsimp only at hSw); first | (go_simp; done) | (go_simp; with_reducible rfl)
 (try simp only [Act.put, Row.pB0, Row.pB1, Row.pB2])
 refine wpAnyH_take (i := 4) (oi := ⟨some 20, .fieldAddr 64 (.tmp 19) 0, 0, "l12_cache.go:67", #[⟨3, .data⟩], none⟩) (v := ?_) rfl (by kernel_rfl) (by kernel_rfl) (by kernel_rfl) (fun _ _ _ h => h) (Or.inl ⟨by rfl, ?_⟩) (by assumption) ?_
 rotate_left
 ·
  intro w' hSw; (try dsimp only at hSw); first | (go_simp; done) | (go_simp; with_reducible rfl)
 (try simp only [Act.put, Row.pB0, Row.pB1, Row.pB2])
 refine wpAnyH_take (i := 5) (oi := ⟨some 21, .fieldAddr 31 (.tmp 20) 0, 0, "l12_cache.go:67", #[⟨4, .data⟩], none⟩) (v := ?_) rfl (by kernel_rfl) (by kernel_rfl) (by kernel_rfl) (fun _ _ _ h => h) (Or.inl ⟨by rfl, ?_⟩) (by assumption) ?_
 rotate_left
 ·
  intro w' hSw; (try dsimp only at hSw); first | (go_simp; done) | (go_simp; with_reducible rfl)
 (try simp only [Act.put, Row.pB0, Row.pB1, Row.pB2])
 refine wpAnyH_take (i := 6) (oi := ⟨some 22, .load 29 (.tmp 21), 29, "l12_cache.go:67", #[⟨5, .data⟩], none⟩) (v := ?_) rfl (by kernel_rfl) (by kernel_rfl) (by kernel_rfl) (fun _ _ _ h => h) (Or.inl ⟨by rfl, ?_⟩) (by assumption) ?_
 rotate_left
 ·
  intro w' hSw; (try dsimp only at hSw); first | (go_simp; done) | (go_simp; with_reducible rfl)
 (try simp only [Act.put, Row.pB0, Row.pB1, Row.pB2])
 refine wpAnyH_take (i := 7) (oi := ⟨some 23, .load 29 (.tmp 4), 29, "l12_cache.go:67", #[], none⟩) (v := ?_) rfl (by kernel_rfl) (by kernel_rfl) (by kernel_rfl) (fun _ _ _ h => h) (Or.inl ⟨by rfl, ?_⟩) (by assumption) ?_
 rotate_left
 ·
  intro w' hSw; (try dsimp only at hSw); first | (go_simp; done) | (go_simp; with_reducible rfl)
 (try simp only [Act.put, Row.pB0, Row.pB1, Row.pB2])
 refine wpAnyH_ready (rs := [8]) (by kernel_rfl) (by simp) ?_
 refine AllReadyH.cons (o := ⟨some 24, .call ⟨.value (.func 44), #[.tmp 22, .tmp 23], #[29, 29]⟩, 4, "l12_cache.go:67", #[⟨6, .data⟩, ⟨7, .data⟩], none⟩) rfl (fun K hK => ?_) AllReadyH.nil
 go_simp
 refine (sEqK true HZ.out (H_a.out.on BB.out) (H_m.out.on BB.out) (Nat.le_trans HAB.out (by decide)) (Nat.le_trans HMB.out (by decide))).mono ?_
 rintro e wn1 ⟨rfl, hb⟩
 replace BB := Lib.hid (BB.out.trans (hb.mono BB.out.size))
 clear hb
 (try go_wp2_with fail)
 clear hHeld
 refine hK.out _ _ ?_ (fun hHeld => ?_)
 ·
  (try dsimp only); exact ⟨kc K0.out BB.out, kc K1.out BB.out, kc E0.out BB.out, kc E1.out BB.out, kc E2.out BB.out, kc E3.out BB.out, kc E4.out BB.out⟩
 clear hK K
 (try simp only [Act.put, Row.pB0, Row.pB1, Row.pB2])
 refine wpAnyH_take (i := 9) (oi := ⟨some 25, .move (.tmp 24), 4, "l12_cache.go:67", #[⟨8, .data⟩, ⟨8, .chain⟩], none⟩) (v := ?_) rfl (by kernel_rfl) (by kernel_rfl) (by kernel_rfl) (fun _ _ _ h => h) (Or.inl ⟨by rfl, ?_⟩) (by assumption) ?_
 rotate_left
 ·
  intro w' hSw; (try dsimp only at hSw); first | (go_simp; done) | (go_simp; with_reducible rfl)
 (try simp only [Act.put, Row.pB0, Row.pB1, Row.pB2])
 refine wpAnyH_take (i := 10) (oi := ⟨some 26, .fieldAddr 26 (.tmp 3) 1, 0, "l12_cache.go:67", #[⟨9, .guard⟩], some (9, true)⟩) (v := ?_) rfl (by kernel_rfl) (by kernel_rfl) (by kernel_rfl) (fun _ _ _ h => h) (Or.inl ⟨by rfl, ?_⟩) (by assumption) ?_
 rotate_left
 ·
  intro w' hSw; (try dsimp only at hSw); first | (go_simp; done) | (go_simp; with_reducible rfl)
 (try simp only [Act.put, Row.pB0, Row.pB1, Row.pB2])
 refine wpAnyH_take (i := 11) (oi := ⟨some 27, .load 24 (.tmp 26), 24, "l12_cache.go:67", #[⟨10, .data⟩, ⟨9, .guard⟩], some (9, true)⟩) (v := ?_) rfl (by kernel_rfl) (by kernel_rfl) (by kernel_rfl) (fun _ _ _ h => h) (Or.inl ⟨by rfl, ?_⟩) (by assumption) ?_
 rotate_left
 ·
  intro w' hSw; (try dsimp only at hSw); first | (go_simp; done) | (go_simp; with_reducible rfl)
 (try simp only [Act.put, Row.pB0, Row.pB1, Row.pB2])
 refine wpAnyH_take (i := 12) (oi := ⟨some 28, .move (.tmp 8), 3, "l12_cache.go:67", #[⟨9, .guard⟩], some (9, true)⟩) (v := ?_) rfl (by kernel_rfl) (by kernel_rfl) (by kernel_rfl) (fun _ _ _ h => h) (Or.inl ⟨by rfl, ?_⟩) (by assumption) ?_
 rotate_left
 ·
  intro w' hSw; (try dsimp only at hSw); first | (go_simp; done) | (go_simp; with_reducible rfl)
 (try simp only [Act.put, Row.pB0, Row.pB1, Row.pB2])
 refine wpAnyH_take (i := 13) (oi := ⟨some 29, .indexAddr 24 (.tmp 27) (.tmp 28), 0, "l12_cache.go:67", #[⟨11, .data⟩, ⟨12, .data⟩, ⟨9, .guard⟩], some (9, true)⟩) (v := ?_) rfl (by kernel_rfl) (by kernel_rfl) (by kernel_rfl) (fun _ _ _ h => h) (Or.inl ⟨by rfl, ?_⟩) (by assumption) ?_
 rotate_left
 ·
  intro w' hSw; (try dsimp only at hSw); first | (go_simp; done) | (go_simp; with_reducible rfl)
 (try simp only [Act.put, Row.pB0, Row.pB1, Row.pB2])
 refine wpAnyH_take (i := 14) (oi := ⟨some 30, .fieldAddr 64 (.tmp 29) 0, 0, "l12_cache.go:67", #[⟨13, .data⟩, ⟨9, .guard⟩], some (9, true)⟩) (v := ?_) rfl (by kernel_rfl) (by kernel_rfl) (by kernel_rfl) (fun _ _ _ h => h) (Or.inl ⟨by rfl, ?_⟩) (by assumption) ?_
 rotate_left
 ·
  intro w' hSw; (try dsimp only at hSw); first | (go_simp; done) | (go_simp; with_reducible rfl)
 (try simp only [Act.put, Row.pB0, Row.pB1, Row.pB2])
 refine wpAnyH_take (i := 15) (oi := ⟨some 31, .load 31 (.tmp 30), 31, "l12_cache.go:67", #[⟨14, .data⟩, ⟨9, .guard⟩], some (9, true)⟩) (v := ?_) rfl (by kernel_rfl) (by kernel_rfl) (by kernel_rfl) (fun _ _ _ h => h) (Or.inl ⟨by rfl, ?_⟩) (by assumption) ?_
 rotate_left
 ·
  intro w' hSw; (try dsimp only at hSw); first | (go_simp; done) | (go_simp; with_reducible rfl)
 (try simp only [Act.put, Row.pB0, Row.pB1, Row.pB2])
 refine wpAnyH_take (i := 16) (oi := ⟨some 32, .move (.tmp 2), 3, "l12_cache.go:67", #[⟨9, .guard⟩], some (9, true)⟩) (v := ?_) rfl (by kernel_rfl) (by kernel_rfl) (by kernel_rfl) (fun _ _ _ h => h) (Or.inl ⟨by rfl, ?_⟩) (by assumption) ?_
 rotate_left
 ·
  intro w' hSw; (try dsimp only at hSw); first | (go_simp; done) | (go_simp; with_reducible rfl)
 (try simp only [Act.put, Row.pB0, Row.pB1, Row.pB2])
 refine wpAnyH_ready (rs := [17]) (by kernel_rfl) (by simp) ?_
 refine AllReadyH.cons (o := ⟨some 33, .call ⟨.value (.func 45), #[.tmp 31, .tmp 32], #[31, 3]⟩, 4, "l12_cache.go:67", #[⟨15, .data⟩, ⟨16, .data⟩, ⟨9, .chain⟩, ⟨9, .guard⟩], some (9, true)⟩) rfl (fun K hK => ?_) AllReadyH.nil
 go_simp
 refine (sFrZ now z HF.out (H_d.out.on BB.out)).mono ?_
 rintro e wn2 ⟨rfl, hb⟩
 replace BB := Lib.hid (BB.out.trans (hb.mono BB.out.size))
 clear hb
 (try go_wp2_with fail)
 clear hHeld
 refine hK.out _ _ ?_ (fun hHeld => ?_)
 ·
  (try dsimp only); exact ⟨kc K0.out BB.out, kc K1.out BB.out, kc E0.out BB.out, kc E1.out BB.out, kc E2.out BB.out, kc E3.out BB.out, kc E4.out BB.out⟩
 clear hK K
 (try simp only [Act.put, Row.pB0, Row.pB1, Row.pB2])
 refine wpAnyH_take (i := 18) (oi := ⟨some 34, .pick (.tmp 25) (.tmp 33) (.const (Value.bool false)), 4, "l12_cache.go:67", #[⟨9, .data⟩, ⟨17, .data⟩], none⟩) (v := ?_) rfl (by kernel_rfl) (by kernel_rfl) (by kernel_rfl) (fun _ _ _ h => h) (Or.inl ⟨by rfl, ?_⟩) (by assumption) ?_
 rotate_left
 ·
  intro w' hSw; (try dsimp only at hSw); first | (go_simp; done) | (go_simp; with_reducible rfl)
 (try simp only [Act.put, Row.pB0, Row.pB1, Row.pB2])
 refine wpAnyH_done (by kernel_rfl) ?_ _
 exact NoPanic.normal (HQ.out _ _ _ _ _ _ _ _ _ _ _ _ _ _ _ _ _ _  _  BB.out)
theorem blk_five {w : World} {g : Nat} {t : TypeId} {a0 a1 a2 a3 a4 a b c d e : Value} (h : Ret.Blk w g #[a0, a1, a2, a3, a4] t) : Ret.Blk (((((w.setCell ⟨g, 0, none⟩ (a)).setCell ⟨g, 1, none⟩ (b)).setCell ⟨g, 2, none⟩ (c)).setCell ⟨g, 3, none⟩ (d)).setCell ⟨g, 4, none⟩ (e)) g #[a, b, c, d, e] t := ((((h.set 0 a).set 1 b).set 2 c).set 3 d).set 4 e
theorem own_five' {α M : Type} {k : Kd α M} {B E g : Nat} {w : World} {m : M} {a b c d e : Value} (h : k.Own B E w m) (hg : g < B) : k.Own B E (((((w.setCell ⟨g, 0, none⟩ (a)).setCell ⟨g, 1, none⟩ (b)).setCell ⟨g, 2, none⟩ (c)).setCell ⟨g, 3, none⟩ (d)).setCell ⟨g, 4, none⟩ (e)) m := ((((h.set hg).set hg).set hg).set hg).set hg
theorem below_five {w0 w : World} {g B : Nat} {a b c d e : Value} (h : Below B w0 w) (hg : B ≤ g) : Below B w0 (((((w.setCell ⟨g, 0, none⟩ (a)).setCell ⟨g, 1, none⟩ (b)).setCell ⟨g, 2, none⟩ (c)).setCell ⟨g, 3, none⟩ (d)).setCell ⟨g, 4, none⟩ (e)) := ((((h.setCell hg a).setCell hg b).setCell hg c).setCell hg d).setCell hg e
theorem size_five' {w : World} {g : Nat} {a b c d e : Value} : (((((w.setCell ⟨g, 0, none⟩ (a)).setCell ⟨g, 1, none⟩ (b)).setCell ⟨g, 2, none⟩ (c)).setCell ⟨g, 3, none⟩ (d)).setCell ⟨g, 4, none⟩ (e)).heap.size = w.heap.size := by simp
theorem aggDz5 : Ret.AggOf Tryz.prog 31 5 := aggDz
theorem zeroD_in (B E : Nat) (w : World) : kDz.In B E w (.agg #[.slice none 0 0, .slice none 0 0, .slice none 0 0, .int .i64 0, .int .i64 0]) zeroD :=
  ⟨(⟨none, 0, 0, []⟩, ⟨none, 0, 0, []⟩, ⟨none, 0, 0, []⟩, 0, 0), rfl, rfl, ⟨⟨OwnK.nil _ _ _ _ _, fun x hx => (by cases hx)⟩, ⟨OwnK.nil _ _ _ _ _, fun x hx => (by cases hx)⟩, ⟨OwnK.nil _ _ _ _ _, fun x hx => (by cases hx)⟩, trivial, trivial⟩, List.nodup_nil, fun g hg => (by cases hg)⟩
def LookPost (T : Dzt) (q : Bool) (w : World) (e : Ending) (w' : World) : Prop := ∃ U, e = .returned (.tuple #[U, .bool q]) ∧ kDz.In w.heap.size w'.heap.size w' U T ∧ Below w.heap.size w w'
set_option maxHeartbeats 8000000 in
theorem specCacheLookup (V U : Value) (x : Cnt) (m : List ByteArray) (now : Int) (w : World) (T : Dzt) (Qz : Bool) (hT : lookC x m now = T) (hQ : lookOk x m now = Qz) (h : kCn.At w V x) (g : kN.At w U m) (hp : FitC x) (hm : bulk m ≤ 1200000) :
    Calls Tryz.prog 9 #[V, U, .int .i64 now] w (LookPost T Qz w) := by
  obtain ⟨xq, q, cy, rfl, g⟩ := kN_shapeA g
  obtain ⟨x1_0, n1_0, c1_0, rfl, g1⟩ := kCn_at h
  clear h
  obtain ⟨cc, l⟩ := x
  have hfit := hp
  obtain ⟨hl, hp7⟩ := hp.fields
  clear hp
  have hp := hp7
  clear hp7
  dsimp only at g1 hl hp ⊢
  have b0 := (Below.refl w.heap.size w).alloc (Nat.le_refl _) (.cells #[.int .i64 cc, .slice x1_0 n1_0 c1_0] 26)
  have b1 := (Below.refl (w.alloc (.cells #[.int .i64 cc, .slice x1_0 n1_0 c1_0] 26)).heap.size (w.alloc (.cells #[.int .i64 cc, .slice x1_0 n1_0 c1_0] 26))).alloc (Nat.le_refl _) (.cells #[.slice xq q cy] 29)
  have b2 := (Below.refl ((w.alloc (.cells #[.int .i64 cc, .slice x1_0 n1_0 c1_0] 26)).alloc (.cells #[.slice xq q cy] 29)).heap.size ((w.alloc (.cells #[.int .i64 cc, .slice x1_0 n1_0 c1_0] 26)).alloc (.cells #[.slice xq q cy] 29))).alloc (Nat.le_refl _) (.cells #[.slice none 0 0, .slice none 0 0, .slice none 0 0, .int .i64 0, .int .i64 0] 31)
  have b012 := (b0.trans (b1.mono b0.size)).trans (b2.mono (Nat.le_trans b0.size b1.size))
  have hX0 := ((Ret.Blk.new w #[.int .i64 cc, .slice x1_0 n1_0 c1_0] 26).on b1).on b2
  have hX1 := (Ret.Blk.new' (w := (w.alloc (.cells #[.int .i64 cc, .slice x1_0 n1_0 c1_0] 26))) (n := w.heap.size + 1) #[.slice xq q cy] 29 (by simp)).on b2
  have hX2 := Ret.Blk.new' (w := ((w.alloc (.cells #[.int .i64 cc, .slice x1_0 n1_0 c1_0] 26)).alloc (.cells #[.slice xq q cy] 29))) (n := w.heap.size + 1 + 1) #[.slice none 0 0, .slice none 0 0, .slice none 0 0, .int .i64 0, .int .i64 0] 31 (by simp)
  have hS3 : (((w.alloc (.cells #[.int .i64 cc, .slice x1_0 n1_0 c1_0] 26)).alloc (.cells #[.slice xq q cy] 29)).alloc (.cells #[.slice none 0 0, .slice none 0 0, .slice none 0 0, .int .i64 0, .int .i64 0] 31)).heap.size = w.heap.size + 3 := by simp
  obtain ⟨x, n, cx, L, e9, hn, ht, hh, hel⟩ := kLCe_at g1
  cases e9
  have hlen : l.length = n1_0 := by rw [← ht, List.length_map]; exact hn.symm
  rw [hlen] at hl
  have hcap : n1_0 ≤ c1_0 := by obtain ⟨x', n', cap', hv, hn', hc', -⟩ := hh.shapeN; cases hv; exact hc'
  have HX0 := Lib.hid hX0; have HX1 := Lib.hid hX1; have HX2 := Lib.hid hX2; have HB := Lib.hid b012; have HG := Lib.hid g; have HMB := Lib.hid hm; have HTT := Lib.hid hT; have HQQ := Lib.hid hQ
  have HN := Lib.hid hn; have HT := Lib.hid ht; have HH := Lib.hid hh; have HEL := Lib.hid hel; have HLEN := Lib.hid hlen; have HP := Lib.hid hp
  have hl9 : n1_0 ≤ 9000000 := by omega
  clear hn ht hh hel hlen hp g1 g hm hT hQ b0 b1 b2 b012 hX0 hX1 hX2 hfit hS3
  unfold LookPost
  go_enter Tryz.func9, Tryz.ntmps9
  go_wp2
  go_loopw [8] (fun iv wr => ∃ i : Nat, i ≤ n1_0 ∧ iv = .int .i64 i ∧ Hid (noL (hitE m now) l i) ∧ Hid (Ret.Blk wr w.heap.size #[.int .i64 cc, .slice x1_0 n1_0 c1_0] 26) ∧ Hid (Ret.Blk wr (w.heap.size + 1) #[.slice xq q cy] 29) ∧ Hid (Ret.Blk wr (w.heap.size + 1 + 1) #[.slice none 0 0, .slice none 0 0, .slice none 0 0, .int .i64 0, .int .i64 0] 31) ∧ Hid (Below w.heap.size w wr) ∧ Hid (w.heap.size + 3 ≤ wr.heap.size)) (fun iv _ => n1_0 - (intOf iv).toNat)
  case atStart => exact ⟨0, Nat.zero_le _, rfl, Lib.hid (noL_zero _ _), HX0, HX1, HX2, HB, Lib.hid (by simp)⟩
  case round =>
    clear HX0 HX1 HX2 HB
    obtain ⟨k, hk, rfl, ha, hx0, hx1, hx2, hb, hsz⟩ := hrel
    have q1 : wr.cell? ⟨w.heap.size, 1, none⟩ = some (.slice x1_0 n1_0 c1_0) := hx0.out.cell 1
    by_cases hlt : k < n1_0
    · have hlen := HN.out
      obtain ⟨b, off, y0, m0, d0, y1, m1, d1, y2, m2, d2, rfl, -, hc0, hc1, hc2, hc3, hc4, hc5, hA⟩ := kLCe_elem (HH.out.on hb.out) (fun y hy => kCe.holds_on (HEL.out y hy) hb.out) (j := k) (by omega)
      have hpt : nth l k = kCe.strip (nth L k) := by rw [← HT.out, nth_map _ (by omega)]
      have hps := HP.out (nth l k) (nth_mem (by have := HLEN.out; omega))
      rw [← hpt] at hA hc3 hc4 hc5
      obtain ⟨hD, hNM⟩ := kCe_parts hA
      have HA := Lib.hid hA; have HD := Lib.hid hD; have HNM := Lib.hid hNM; have HPS := Lib.hid hps; have HPD := Lib.hid (show wtDz (nth l k).1 ≤ 1200000 from hps); have HPN := Lib.hid (show bulk (nth l k).1.1 ≤ 1200000 from (wtDz_lens _ hps).1)
      have H0 := Lib.hid hc0; have H1 := Lib.hid hc1; have H2 := Lib.hid hc2; have H3 := Lib.hid hc3; have H4 := Lib.hid hc4; have H5 := Lib.hid hc5
      clear hlen hpt hps hA hD hNM
      obtain ⟨q, hq⟩ : ∃ q, decide ((nth l k).1.1 = m) = q := ⟨_, rfl⟩
      obtain ⟨fz, hf⟩ : ∃ z, decide (now ≤ (nth l k).1.2.2.2.1) = z := ⟨_, rfl⟩
      have HQ0 := Lib.hid hq; have HF := Lib.hid hf; have HGW := Lib.hid (HG.out.on hb.out); clear hq hf hc0 hc1 hc2 hc3 hc4 hc5
      have HHIT : Hid (hitE m now (nth l k) = (q && fz)) := Lib.hid (by unfold hitE isE frE; rw [HQ0.out, HF.out])
      go_wp2_with fail
      clear q1
      cases q with
      | false =>
        refine rcl0 hlt (by omega) hl9 HQ0 HNM HGW HPN HMB (Lib.hid (hx1.out.cell 0)) (Lib.hid (hx0.out.cell 1)) H0 ?_
        intro u16 u17 u18 u19 u20 u21 u22 u23 u24 u25 u26 u27 u28 u29 u30 u31 u32 u33 wx hbx
        replace hx0 := Lib.hid (hx0.out.on hbx); replace hx1 := Lib.hid (hx1.out.on hbx); replace hx2 := Lib.hid (hx2.out.on hbx); replace hb := Lib.hid (hb.out.trans (hbx.mono hb.out.size)); replace hsz := Lib.hid (Nat.le_trans hsz.out hbx.size)
        have HA2 := Lib.hid (noL_succ ha.out (HHIT.out.trans (Bool.false_and _)))
        clear hbx
        go_wp2
        go_roundw
        case rel => exact ⟨k + 1, by omega, by go_num, HA2, hx0, hx1, hx2, hb, hsz⟩
        case measure => simp [intOf]; omega
      | true =>
        refine rcl1 hlt (by omega) hl9 HQ0 HNM HGW HPN HMB HF HD (Lib.hid (hx1.out.cell 0)) (Lib.hid (hx0.out.cell 1)) H0 H1 H2 H3 H4 ?_
        intro u16 u17 u18 u19 u20 u21 u22 u23 u24 u25 u26 u27 u28 u29 u30 u31 u32 u33 wx hbx
        replace hx0 := Lib.hid (hx0.out.on hbx); replace hx1 := Lib.hid (hx1.out.on hbx); replace hx2 := Lib.hid (hx2.out.on hbx); replace hb := Lib.hid (hb.out.trans (hbx.mono hb.out.size)); replace hsz := Lib.hid (Nat.le_trans hsz.out hbx.size)
        replace HD := Lib.hid (HD.out.on hbx); replace H0 := Lib.hid (kc H0.out hbx); replace H1 := Lib.hid (kc H1.out hbx); replace H2 := Lib.hid (kc H2.out hbx); replace H3 := Lib.hid (kc H3.out hbx); replace H4 := Lib.hid (kc H4.out hbx)
        clear hbx
        cases fz with
        | false =>
          have HA2 := Lib.hid (noL_succ ha.out (HHIT.out.trans rfl))
          go_wp2
          go_roundw
          case rel => exact ⟨k + 1, by omega, by go_num, HA2, hx0, hx1, hx2, hb, hsz⟩
          case measure => simp [intOf]; omega
        | true =>
          have HIX : Hid (ixL (hitE m now) l = (k : Int)) := Lib.hid (ixL_at (by have := HLEN.out; omega) ha.out (HHIT.out.trans rfl))
          have HTQ : Hid (T = (nth l k).1) := Lib.hid (by rw [← HTT.out]; unfold lookC; dsimp only; rw [HIX.out, if_pos (by omega), Int.toNat_natCast])
          have HQ : Hid (Qz = true) := Lib.hid (by rw [← HQQ.out]; unfold lookOk; dsimp only; rw [HIX.out]; simp)
          have q1 : wx.cell? ⟨w.heap.size, 1, none⟩ = some (.slice (some ⟨b, off, none⟩) n1_0 c1_0) := hx0.out.cell 1
          have hc0 := H0.out; have hc1 := H1.out; have hc2 := H2.out; have hc3 := H3.out; have hc4 := H4.out
          go_wp2_with fail
          clear hc0 hc1 hc2 hc3 hc4 q1
          refine (sCpyZ HD.out (Nat.le_trans HPD.out (by decide))).mono ?_
          rintro e w5 ⟨U, rfl, hi5, hb5⟩
          obtain ⟨m5, za, na, ea, zb, nb, eb, zc, nc, ec, rfl, hs5, hd5, ho5⟩ := kDz_split hi5
          have hXR := hx2.out; have hbR := hb.out
          have hlow : w.heap.size + 1 + 1 < wx.heap.size := by have := hsz.out; omega
          have hlow0 : w.heap.size ≤ wx.heap.size := by have := hsz.out; omega
          have hX5 := hXR.on hb5
          have t0 := hX5.frozen 0; have t1 := hX5.frozen 1; have t2 := hX5.frozen 2; have t3 := hX5.frozen 3; have t4 := hX5.frozen 4
          have r0 := hX5.cell 0; have r1 := hX5.cell 1; have r2 := hX5.cell 2; have r3 := hX5.cell 3; have r4 := hX5.cell 4
          have Z := Lib.hid (blk_five (a := .slice za na ea) (b := .slice zb nb eb) (c := .slice zc nc ec) (d := .int .i64 (nth l k).1.2.2.2.1) (e := .int .i64 (nth l k).1.2.2.2.2) hX5)
          have ZO := Lib.hid (own_five' (g := w.heap.size + 1 + 1) (a := .slice za na ea) (b := .slice zb nb eb) (c := .slice zc nc ec) (d := .int .i64 (nth l k).1.2.2.2.1) (e := .int .i64 (nth l k).1.2.2.2.2) ho5 hlow)
          have HBZ := Lib.hid (hbR.trans (hb5.mono hbR.size))
          have HS5 := Lib.hid hs5; have HD5 := Lib.hid hd5
          clear hi5 ho5 hs5 hd5 hb5 hX5 hXR hbR
          go_wp2_with fail
          refine bodyPost_ret (Ret.results_ct rfl _ _ (w.heap.size + 1 + 1) [.slice za na ea, .slice zb nb eb, .slice zc nc ec, .int .i64 (nth l k).1.2.2.2.1, .int .i64 (nth l k).1.2.2.2.2] rfl aggDz5 Z.out.cells) rfl ?_
          have hin := (ZO.out.mono hlow0 (Nat.le_refl _)).in
          rw [show kDz.val m5 = .agg #[.slice za na ea, .slice zb nb eb, .slice zc nc ec, .int .i64 (nth l k).1.2.2.2.1, .int .i64 (nth l k).1.2.2.2.2] by show Value.agg (kDz.cells m5).toArray = _; rw [HD5.out], HS5.out] at hin
          rw [HTQ.out, HQ.out]
          exact ⟨_, rfl, by rw [size_five']; exact hin, below_five HBZ.out (by omega)⟩
    · obtain rfl : k = n1_0 := by omega
      have HIX : Hid (ixL (hitE m now) l = -1) := Lib.hid (ixL_none (by rw [HLEN.out]; exact ha.out))
      clear hlt q1
      have HTQ : Hid (T = zeroD) := Lib.hid (by rw [← HTT.out]; unfold lookC; dsimp only; rw [HIX.out]; rfl)
      have HQ : Hid (Qz = false) := Lib.hid (by rw [← HQQ.out]; unfold lookOk; dsimp only; rw [HIX.out]; rfl)
      have q1 : wr.cell? ⟨w.heap.size, 1, none⟩ = some (.slice x1_0 k c1_0) := hx0.out.cell 1
      have hXR := hx2.out; have hbR := hb.out
      have t0 := hXR.frozen 0; have t1 := hXR.frozen 1; have t2 := hXR.frozen 2; have t3 := hXR.frozen 3; have t4 := hXR.frozen 4
      have r0 := hXR.cell 0; have r1 := hXR.cell 1; have r2 := hXR.cell 2; have r3 := hXR.cell 3; have r4 := hXR.cell 4
      have Z := Lib.hid (blk_five (a := .slice none 0 0) (b := .slice none 0 0) (c := .slice none 0 0) (d := .int .i64 0) (e := .int .i64 0) hXR)
      have HBZ := Lib.hid hbR
      clear hXR hbR
      go_wp2_with fail
      refine bodyPost_ret (Ret.results_ct rfl _ _ (w.heap.size + 1 + 1) [.slice none 0 0, .slice none 0 0, .slice none 0 0, .int .i64 0, .int .i64 0] rfl aggDz5 Z.out.cells) rfl ?_
      rw [HTQ.out, HQ.out]
      exact ⟨_, rfl, zeroD_in _ _ _, below_five HBZ.out (by omega)⟩
set_option maxHeartbeats 2000000 in
theorem closLk (b b' : Nat) (y : Option Addr) (q cy : Nat) (m : List ByteArray) (now : Int) (w : World) (hc : Ret.Blk w b #[.slice y q cy] 29) (hi : Ret.Blk w b' #[.int .i64 now] 3) (hg : kN.At w (.agg #[.slice y q cy]) m) (hm : bulk m ≤ 1200000) :
    ClosK Tryz.prog kCe 42 #[.pointer (some ⟨b, 0, none⟩), .pointer (some ⟨b', 0, none⟩)] (hitE m now) (fun x => wtCe x ≤ 1200000) w := by
  intro x V W hW hx hxl
  obtain ⟨x0, n0, c0, x1, n1, c1, x2, n2, c2, rfl, hx⟩ := kCe_shapeA hx
  have hB := (Below.refl W.heap.size W).alloc (Nat.le_refl _) (.cells #[.slice x0 n0 c0, .slice x1 n1 c1, .slice x2 n2 c2, .int .i64 x.1.2.2.2.1, .int .i64 x.1.2.2.2.2, .int .i64 x.2] 64)
  have HC := Lib.hid ((hc.on hW).on hB); have HI := Lib.hid ((hi.on hW).on hB)
  have HX := Lib.hid (Ret.Blk.new W #[.slice x0 n0 c0, .slice x1 n1 c1, .slice x2 n2 c2, .int .i64 x.1.2.2.2.1, .int .i64 x.1.2.2.2.2, .int .i64 x.2] 64)
  have HNM := Lib.hid ((kCe_parts hx).2.on hB); have HD := Lib.hid ((kCe_parts hx).1.on hB)
  have HG := Lib.hid ((hg.on hW).on hB)
  have HB := Lib.hid hB
  have HXL := Lib.hid (show bulk x.1.1 ≤ 9000000 from Nat.le_trans (wtDz_lens x.1 (show wtDz x.1 ≤ 1200000 from hxl)).1 (by decide))
  have HM := Lib.hid (Nat.le_trans hm (by decide) : bulk m ≤ 9000000)
  have q0 : (W.alloc (.cells #[.slice x0 n0 c0, .slice x1 n1 c1, .slice x2 n2 c2, .int .i64 x.1.2.2.2.1, .int .i64 x.1.2.2.2.2, .int .i64 x.2] 64)).cell? ⟨b, 0, none⟩ = some (.slice y q cy) := HC.out.cell 0
  have q1 : (W.alloc (.cells #[.slice x0 n0 c0, .slice x1 n1 c1, .slice x2 n2 c2, .int .i64 x.1.2.2.2.1, .int .i64 x.1.2.2.2.2, .int .i64 x.2] 64)).cell? ⟨W.heap.size, 0, none⟩ = some (.slice x0 n0 c0) := HX.out.cell 0
  obtain ⟨z, hz⟩ : ∃ z, decide (x.1.1 = m) = z := ⟨_, rfl⟩
  obtain ⟨f, hf⟩ : ∃ f, decide (now ≤ x.1.2.2.2.1) = f := ⟨_, rfl⟩
  have HHIT : Hid (hitE m now x = (z && f)) := Lib.hid (by unfold hitE isE frE; rw [hz, hf])
  have HZ := Lib.hid hz; have HF := Lib.hid hf
  rw [HHIT.out]
  clear hB hx hg hc hi hW hxl hm hz hf
  go_enter Tryz.func42, Tryz.ntmps42
  go_wp2_with fail
  refine (iEqK z HZ.out HNM.out HG.out HXL.out HM.out).mono ?_
  rintro e w1 ⟨rfl, hb⟩
  have HX1 := Lib.hid (HX.out.on hb); have HI1 := Lib.hid (HI.out.on hb); have HD1 := Lib.hid (HD.out.on hb)
  have HB2 := Lib.hid (HB.out.trans (hb.mono HB.out.size)); clear hb q0 q1
  cases z with
  | false =>
    go_wp2_with fail
    go_ret
    exact ⟨rfl, HB2.out⟩
  | true =>
    have f0 := HX1.out.cell 0; have f1 := HX1.out.cell 1; have f2 := HX1.out.cell 2; have f3 := HX1.out.cell 3; have f4 := HX1.out.cell 4
    have j0 : w1.cell? ⟨b', 0, none⟩ = some (.int .i64 now) := HI1.out.cell 0
    go_wp2_with fail
    refine (iFrZ now f HF.out HD1.out).mono ?_
    rintro e w2 ⟨rfl, hb⟩
    have HB3 := Lib.hid (HB2.out.trans (hb.mono HB2.out.size)); clear hb
    go_wp2_with fail
    go_ret
    exact ⟨rfl, HB3.out⟩
set_option maxHeartbeats 2000000 in
theorem indexLk (b0 b1 : Addr) (p : Cet → Bool) (ok : Cet → Prop) (v : Value) (l : List Cet) (w : World) (z : Int) (hz : ixL p l = z) (h : kLCe.At w v l) (hl : l.length ≤ 9000000) (hp : ∀ x ∈ l, ok x) (hc : ClosK Tryz.prog kCe 42 #[.pointer (some b0), .pointer (some b1)] p ok w) :
    Calls Tryz.prog 76 #[v, .func (.func 42) #[] #[.pointer (some b0), .pointer (some b1)]] w fun e w' => e = .returned (.int .i64 z) ∧ Below w.heap.size w w' := by
  obtain ⟨x, n, cx, L, rfl, hn, ht, hh, hel⟩ := kLCe_at h
  have hlen : l.length = n := by rw [← ht, List.length_map]; exact hn.symm
  rw [hlen] at hl
  have hcap : n ≤ cx := by obtain ⟨x', n', cap', hv, hn', hc', -⟩ := hh.shapeN; cases hv; exact hc'
  have HN := Lib.hid hn; have HT := Lib.hid ht; have HH := Lib.hid hh; have HEL := Lib.hid hel; have HLEN := Lib.hid hlen; have HP := Lib.hid hp; have HC := Lib.hid hc; have HZ := Lib.hid hz
  clear hn h hh hc hp ht hel hlen hz
  go_enter Tryz.func76, Tryz.ntmps76
  go_wp2
  go_loopw [8] (fun iv wr => ∃ i : Nat, i ≤ n ∧ iv = .int .i64 i ∧ Hid (noL p l i) ∧ Hid (Below w.heap.size w wr)) (fun iv _ => n - (intOf iv).toNat)
  case atStart => exact ⟨0, Nat.zero_le _, rfl, Lib.hid (noL_zero _ _), Lib.hid (Below.refl _ _)⟩
  case round =>
    obtain ⟨k, hk, rfl, ha, hb⟩ := hrel
    by_cases hlt : k < n
    · have hlen := HN.out
      obtain ⟨b, off, y0, m0, d0, y1, m1, d1, y2, m2, d2, rfl, -, hc0, hc1, hc2, hc3, hc4, hc5, hA⟩ := kLCe_elem (HH.out.on hb.out) (fun y hy => kCe.holds_on (HEL.out y hy) hb.out) (j := k) (by omega)
      have hpt : nth l k = kCe.strip (nth L k) := by rw [← HT.out, nth_map _ (by omega)]
      have hps := HP.out (nth l k) (nth_mem (by have := HLEN.out; omega))
      rw [hpt] at hps
      obtain ⟨q, hq⟩ : ∃ q, p (kCe.strip (nth L k)) = q := ⟨_, rfl⟩
      have HCL := HC.out _ _ wr hb.out hA hps
      rw [hq] at HCL
      rw [← hpt] at hq
      replace HCL := Lib.hid HCL
      have HQ := Lib.hid hq
      clear hlen hpt hps hA hq
      go_wp2_with fail
      refine HCL.out.mono ?_
      rintro e w2 ⟨rfl, hb2⟩
      have HB2 := Lib.hid (hb.out.trans (hb2.mono hb.out.size))
      clear hb2 hc0 hc1 hc2 hc3 hc4 hc5 HCL
      cases q with
      | true =>
        have HV := Lib.hid (show z = (k : Int) from HZ.out.symm.trans (ixL_at (by have := HLEN.out; omega) ha.out HQ.out))
        go_wp2
        go_ret
        exact ⟨ret_int HV.out.symm, HB2.out⟩
      | false =>
        have HA := Lib.hid (noL_succ ha.out HQ.out)
        go_wp2
        go_roundw
        case rel => exact ⟨k + 1, by omega, by go_num, HA, HB2⟩
        case measure => simp [intOf]; omega
    · obtain rfl : k = n := by omega
      have HV := Lib.hid (show z = -1 from HZ.out.symm.trans (ixL_none (by rw [HLEN.out]; exact ha.out)))
      clear hlt
      go_wp2
      go_ret
      exact ⟨ret_int HV.out.symm, hb.out⟩
set_option maxHeartbeats 2000000 in
theorem findLk (b0 b1 : Addr) (p : Cet → Bool) (ok : Cet → Prop) (x : Option Addr) (n c : Nat) (cc : Int) (l : List Cet) (w : World) (z : Int) (hz : ixL p l = z) (h : kLCe.At w (.slice x n c) l) (hl : l.length ≤ 9000000) (hp : ∀ x ∈ l, ok x) (hc : ClosK Tryz.prog kCe 42 #[.pointer (some b0), .pointer (some b1)] p ok w) :
    Calls Tryz.prog 41 #[.agg #[.int .i64 cc, .slice x n c], .func (.func 42) #[] #[.pointer (some b0), .pointer (some b1)]] w fun e w' => e = .returned (.int .i64 z) ∧ Below w.heap.size w w' := by
  have hB := (Below.refl w.heap.size w).alloc (Nat.le_refl _) (.cells #[.int .i64 cc, .slice x n c] 60)
  have hX := Ret.Blk.new w #[.int .i64 cc, .slice x n c] 60
  have q1 : (w.alloc (.cells #[.int .i64 cc, .slice x n c] 60)).cell? ⟨w.heap.size, 1, none⟩ = some (.slice x n c) := hX.cell 1
  have HH := Lib.hid (h.on hB); have HC := Lib.hid (hc.on hB); have HP := Lib.hid hp; have HZ := Lib.hid hz; have HB := Lib.hid hB
  clear hB hX h hc hp hz
  go_enter Tryz.func41, Tryz.ntmps41
  go_wp2_with fail
  refine (indexLk b0 b1 p ok _ l _ z HZ.out HH.out hl HP.out HC.out).mono ?_
  rintro e w1 ⟨rfl, hb⟩
  have HB2 := Lib.hid (HB.out.trans (hb.mono HB.out.size)); clear hb
  go_wp2
  go_ret
  exact ⟨rfl, HB2.out⟩
set_option maxHeartbeats 8000000 in
theorem implCacheLookup (V U : Value) (x : Cnt) (m : List ByteArray) (now : Int) (w : World) (T : Dzt) (Qz : Bool) (hT : lookC x m now = T) (hQ : lookOk x m now = Qz) (h : kCn.At w V x) (g : kN.At w U m) (hp : FitC x) (hm : bulk m ≤ 1200000) :
    Calls Tryz.prog 8 #[V, U, .int .i64 now] w (LookPost T Qz w) := by
  obtain ⟨xq, q, cy, rfl, g⟩ := kN_shapeA g
  obtain ⟨x1_0, n1_0, c1_0, rfl, g1⟩ := kCn_at h
  clear h
  obtain ⟨cc, l⟩ := x
  have hfit := hp
  obtain ⟨hl, hp7⟩ := hp.fields
  clear hp
  have hp := hp7
  clear hp7
  dsimp only at g1 hl hp ⊢
  have b0 := (Below.refl w.heap.size w).alloc (Nat.le_refl _) (.cells #[.int .i64 cc, .slice x1_0 n1_0 c1_0] 26)
  have b1 := (Below.refl (w.alloc (.cells #[.int .i64 cc, .slice x1_0 n1_0 c1_0] 26)).heap.size (w.alloc (.cells #[.int .i64 cc, .slice x1_0 n1_0 c1_0] 26))).alloc (Nat.le_refl _) (.cells #[.slice xq q cy] 29)
  have b2 := (Below.refl ((w.alloc (.cells #[.int .i64 cc, .slice x1_0 n1_0 c1_0] 26)).alloc (.cells #[.slice xq q cy] 29)).heap.size ((w.alloc (.cells #[.int .i64 cc, .slice x1_0 n1_0 c1_0] 26)).alloc (.cells #[.slice xq q cy] 29))).alloc (Nat.le_refl _) (.cells #[.int .i64 now] 3)
  have b3 := (Below.refl (((w.alloc (.cells #[.int .i64 cc, .slice x1_0 n1_0 c1_0] 26)).alloc (.cells #[.slice xq q cy] 29)).alloc (.cells #[.int .i64 now] 3)).heap.size (((w.alloc (.cells #[.int .i64 cc, .slice x1_0 n1_0 c1_0] 26)).alloc (.cells #[.slice xq q cy] 29)).alloc (.cells #[.int .i64 now] 3))).alloc (Nat.le_refl _) (.cells #[.slice none 0 0, .slice none 0 0, .slice none 0 0, .int .i64 0, .int .i64 0] 31)
  have b012 := ((b0.trans (b1.mono b0.size)).trans (b2.mono (Nat.le_trans b0.size b1.size))).trans (b3.mono (Nat.le_trans (Nat.le_trans b0.size b1.size) b2.size))
  have HX0 := Lib.hid ((((Ret.Blk.new w #[.int .i64 cc, .slice x1_0 n1_0 c1_0] 26).on b1).on b2).on b3)
  have hX1 := ((Ret.Blk.new' (w := (w.alloc (.cells #[.int .i64 cc, .slice x1_0 n1_0 c1_0] 26))) (n := w.heap.size + 1) #[.slice xq q cy] 29 (by simp)).on b2).on b3
  have hX2 := (Ret.Blk.new' (w := ((w.alloc (.cells #[.int .i64 cc, .slice x1_0 n1_0 c1_0] 26)).alloc (.cells #[.slice xq q cy] 29))) (n := w.heap.size + 1 + 1) #[.int .i64 now] 3 (by simp)).on b3
  have HX3 := Lib.hid (Ret.Blk.new' (w := (((w.alloc (.cells #[.int .i64 cc, .slice x1_0 n1_0 c1_0] 26)).alloc (.cells #[.slice xq q cy] 29)).alloc (.cells #[.int .i64 now] 3))) (n := w.heap.size + 1 + 1 + 1) #[.slice none 0 0, .slice none 0 0, .slice none 0 0, .int .i64 0, .int .i64 0] 31 (by simp))
  have HS4 : Hid (((((w.alloc (.cells #[.int .i64 cc, .slice x1_0 n1_0 c1_0] 26)).alloc (.cells #[.slice xq q cy] 29)).alloc (.cells #[.int .i64 now] 3)).alloc (.cells #[.slice none 0 0, .slice none 0 0, .slice none 0 0, .int .i64 0, .int .i64 0] 31)).heap.size = w.heap.size + 4) := Lib.hid (by simp)
  have HB := Lib.hid b012; have HTT := Lib.hid hT; have HQQ := Lib.hid hQ
  have HL := Lib.hid g1; have HP := Lib.hid hp
  have HC := Lib.hid (closLk (w.heap.size + 1) (w.heap.size + 1 + 1) xq q cy m now _ hX1 hX2 (g.on b012) hm)
  have HLL := Lib.hid (show l.length ≤ 9000000 by omega)
  have HA := Lib.hid (g1.on b012)
  obtain ⟨z, hz⟩ : ∃ z, ixL (hitE m now) l = z := ⟨_, rfl⟩
  have HIX := Lib.hid hz; clear hz
  have hmf : ∀ (fn : Fn) (first cap : Array Value) (w : World), (Instr.makeFunc fn first cap).run Tryz.prog w = .ok (.func fn first cap) w := fun _ _ _ _ => rfl
  have q0 : ((((w.alloc (.cells #[.int .i64 cc, .slice x1_0 n1_0 c1_0] 26)).alloc (.cells #[.slice xq q cy] 29)).alloc (.cells #[.int .i64 now] 3)).alloc (.cells #[.slice none 0 0, .slice none 0 0, .slice none 0 0, .int .i64 0, .int .i64 0] 31)).cell? ⟨w.heap.size, 0, none⟩ = some (.int .i64 cc) := HX0.out.cell 0
  have q1 : ((((w.alloc (.cells #[.int .i64 cc, .slice x1_0 n1_0 c1_0] 26)).alloc (.cells #[.slice xq q cy] 29)).alloc (.cells #[.int .i64 now] 3)).alloc (.cells #[.slice none 0 0, .slice none 0 0, .slice none 0 0, .int .i64 0, .int .i64 0] 31)).cell? ⟨w.heap.size, 1, none⟩ = some (.slice x1_0 n1_0 c1_0) := HX0.out.cell 1
  clear b0 b1 b2 b3 b012 hX1 hX2 g g1 hm hp hl hT hQ hfit
  unfold LookPost
  go_enter Tryz.func8, Tryz.ntmps8
  go_wp2_with fail
  refine (findLk ⟨w.heap.size + 1, 0, none⟩ ⟨w.heap.size + 1 + 1, 0, none⟩ (hitE m now) (fun x => wtCe x ≤ 1200000) _ _ _ cc l _ z HIX.out HA.out HLL.out HP.out HC.out).mono ?_
  rintro e wr ⟨rfl, hb1⟩
  replace HX0 := Lib.hid (HX0.out.on hb1); replace HX3 := Lib.hid (HX3.out.on hb1); replace HB := Lib.hid (HB.out.trans (hb1.mono HB.out.size)); have HSZ := Lib.hid (show w.heap.size + 4 ≤ wr.heap.size by rw [← HS4.out]; exact hb1.size)
  clear hb1 q0 q1 HC HA
  rcases ixL_cases (hitE m now) l with ⟨e1, -⟩ | ⟨k, hkl, e1, -, -⟩
  · obtain rfl : z = -1 := by rw [← HIX.out]; exact e1
    clear e1
    have HTQ : Hid (T = zeroD) := Lib.hid (by rw [← HTT.out]; unfold lookC; dsimp only; rw [HIX.out]; rfl)
    have HQ : Hid (Qz = false) := Lib.hid (by rw [← HQQ.out]; unfold lookOk; dsimp only; rw [HIX.out]; rfl)
    have hXR := HX3.out; have hbR := HB.out
    have t0 := hXR.frozen 0; have t1 := hXR.frozen 1; have t2 := hXR.frozen 2; have t3 := hXR.frozen 3; have t4 := hXR.frozen 4
    have r0 := hXR.cell 0; have r1 := hXR.cell 1; have r2 := hXR.cell 2; have r3 := hXR.cell 3; have r4 := hXR.cell 4
    have Z := Lib.hid (blk_five (a := .slice none 0 0) (b := .slice none 0 0) (c := .slice none 0 0) (d := .int .i64 0) (e := .int .i64 0) hXR)
    have HBZ := Lib.hid hbR
    clear hXR hbR
    go_wp2_with fail
    refine bodyPost_ret (Ret.results_ct rfl _ _ (w.heap.size + 1 + 1 + 1) [.slice none 0 0, .slice none 0 0, .slice none 0 0, .int .i64 0, .int .i64 0] rfl aggDz5 Z.out.cells) rfl ?_
    rw [HTQ.out, HQ.out]
    exact ⟨_, rfl, zeroD_in _ _ _, below_five HBZ.out (by omega)⟩
  · obtain rfl : z = (k : Int) := by rw [← HIX.out]; exact e1
    clear e1
    have HTQ : Hid (T = (nth l k).1) := Lib.hid (by rw [← HTT.out]; unfold lookC; dsimp only; rw [HIX.out, if_pos (by omega), Int.toNat_natCast])
    have HQ : Hid (Qz = true) := Lib.hid (by rw [← HQQ.out]; unfold lookOk; dsimp only; rw [HIX.out]; simp)
    obtain ⟨x, n, cx, L, e9, hn, ht, hh, hel⟩ := kLCe_at HL.out
    cases e9
    have hlen : l.length = n1_0 := by rw [← ht, List.length_map]; exact hn.symm
    have hcap : n1_0 ≤ c1_0 := by obtain ⟨x', n', cap', hv, hn', hc', -⟩ := hh.shapeN; cases hv; exact hc'
    have hlt : k < n1_0 := by rw [← hlen]; exact hkl
    have hb := HB
    have HN := Lib.hid hn; have HT := Lib.hid ht; have HH := Lib.hid hh; have HEL := Lib.hid hel; have HLEN := Lib.hid hlen
    clear hn ht hh hel hlen hkl
    have hlen := HN.out
    obtain ⟨b, off, y0, m0, d0, y1, m1, d1, y2, m2, d2, rfl, -, hc0, hc1, hc2, hc3, hc4, hc5, hA⟩ := kLCe_elem (HH.out.on hb.out) (fun y hy => kCe.holds_on (HEL.out y hy) hb.out) (j := k) (by omega)
    have hpt : nth l k = kCe.strip (nth L k) := by rw [← HT.out, nth_map _ (by omega)]
    have hps := HP.out (nth l k) (nth_mem (by have := HLEN.out; omega))
    rw [← hpt] at hA hc3 hc4 hc5
    obtain ⟨hD, hNM⟩ := kCe_parts hA
    have HA := Lib.hid hA; have HD := Lib.hid hD; have HNM := Lib.hid hNM; have HPS := Lib.hid hps; have HPD := Lib.hid (show wtDz (nth l k).1 ≤ 1200000 from hps); have HPN := Lib.hid (show bulk (nth l k).1.1 ≤ 1200000 from (wtDz_lens _ hps).1)
    have H0 := Lib.hid hc0; have H1 := Lib.hid hc1; have H2 := Lib.hid hc2; have H3 := Lib.hid hc3; have H4 := Lib.hid hc4; have H5 := Lib.hid hc5
    clear hlen hpt hps hA hD hNM
    have HF : Hid (Five wr b (off + k * 6) (.slice y0 m0 d0) (.slice y1 m1 d1) (.slice y2 m2 d2) (nth l k).1.2.2.2.1 (nth l k).1.2.2.2.2) := Lib.hid ⟨H0.out, H1.out, H2.out, H3.out, H4.out⟩
    have q1 : wr.cell? ⟨w.heap.size, 1, none⟩ = some (.slice (some ⟨b, off, none⟩) n1_0 c1_0) := HX0.out.cell 1
    clear hc0 hc1 hc2 hc3 hc4 hc5
    go_wp2_with fail
    clear q1
    refine (iClnZ b (off + k * 6) _ _ _ (nth l k).1 _ HF.out HD.out (Nat.le_trans HPD.out (by decide))).mono ?_
    rintro e w5 ⟨U, rfl, hi5, hb5⟩
    obtain ⟨m5, za, na, ea, zb, nb, eb, zc, nc, ec, rfl, hs5, hd5, ho5⟩ := kDz_split hi5
    have hXR := HX3.out; have hbR := HB.out
    have hlow : w.heap.size + 1 + 1 + 1 < wr.heap.size := by have := HSZ.out; omega
    have hlow0 : w.heap.size ≤ wr.heap.size := by have := HSZ.out; omega
    have hX5 := hXR.on hb5
    have t0 := hX5.frozen 0; have t1 := hX5.frozen 1; have t2 := hX5.frozen 2; have t3 := hX5.frozen 3; have t4 := hX5.frozen 4
    have r0 := hX5.cell 0; have r1 := hX5.cell 1; have r2 := hX5.cell 2; have r3 := hX5.cell 3; have r4 := hX5.cell 4
    have Z := Lib.hid (blk_five (a := .slice za na ea) (b := .slice zb nb eb) (c := .slice zc nc ec) (d := .int .i64 (nth l k).1.2.2.2.1) (e := .int .i64 (nth l k).1.2.2.2.2) hX5)
    have ZO := Lib.hid (own_five' (g := w.heap.size + 1 + 1 + 1) (a := .slice za na ea) (b := .slice zb nb eb) (c := .slice zc nc ec) (d := .int .i64 (nth l k).1.2.2.2.1) (e := .int .i64 (nth l k).1.2.2.2.2) ho5 hlow)
    have HBZ := Lib.hid (hbR.trans (hb5.mono hbR.size))
    have HS5 := Lib.hid hs5; have HD5 := Lib.hid hd5
    clear hi5 ho5 hs5 hd5 hb5 hX5 hXR hbR
    go_wp2_with fail
    refine bodyPost_ret (Ret.results_ct rfl _ _ (w.heap.size + 1 + 1 + 1) [.slice za na ea, .slice zb nb eb, .slice zc nc ec, .int .i64 (nth l k).1.2.2.2.1, .int .i64 (nth l k).1.2.2.2.2] rfl aggDz5 Z.out.cells) rfl ?_
    have hin := (ZO.out.mono hlow0 (Nat.le_refl _)).in
    rw [show kDz.val m5 = .agg #[.slice za na ea, .slice zb nb eb, .slice zc nc ec, .int .i64 (nth l k).1.2.2.2.1, .int .i64 (nth l k).1.2.2.2.2] by show Value.agg (kDz.cells m5).toArray = _; rw [HD5.out], HS5.out] at hin
    rw [HTQ.out, HQ.out]
    exact ⟨_, rfl, by rw [size_five']; exact hin, below_five HBZ.out (by omega)⟩
end Go.Proofs.YtfglcmanmfenpaaGreat.Row
