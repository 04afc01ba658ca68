/- Contracts and mathematics, joined: RouteM, KInt, RouteH, MarkK, ByK, MarkF, RouteSM, RouteZ, Open, RouteQ. No conditions but those that each states. -/
import Derived.WalkKit
import Derived.Deep.RegionHeld3
import Derived.Deep.RegionLaw
import Derived.Test.YtdaahcaafdleaabB2
import Derived.Test.YtdaahcaafdleaabB1
import Derived.SizedLaws
import Derived.ChangeSlices
import Derived.Lib.SmallJoins
/- MatchingPrefix, model and program. No conditions but that lengths fit. -/
namespace Go.Proofs.Ytdaahcaafdleaab.Row
open Go.ChangeShapes Go.WideShapes Go.ChangeAt Go.RowKit Go.Instr
set_option linter.unusedVariables false
set_option maxRecDepth 100000
def curM (l : List Rtt) (m : List ByteArray) (k : Nat) : List ByteArray := if mpI l m k < 0 then [] else (nth l (mpI l m k).toNat).1
theorem curM_all (l : List Rtt) (m : List ByteArray) : curM l m l.length = mpN l m := rfl
theorem mpI_yes {l : List Rtt} {m : List ByteArray} {k : Nat} (h : hpB m (nth l k).1 = true) (h2 : mpI l m k < 0 ∨ (curM l m k).length < (nth l k).1.length) : mpI l m (k + 1) = k := by
  have h9 : mpI l m k < 0 ∨ (nth l (mpI l m k).toNat).1.length < (nth l k).1.length := by
    by_cases h0 : mpI l m k < 0
    · exact Or.inl h0
    · have h3 := h2.resolve_left h0
      unfold curM at h3; rw [if_neg h0] at h3
      exact Or.inr h3
  exact if_pos ⟨h, h9⟩
theorem mpI_no1 {l : List Rtt} {m : List ByteArray} {k : Nat} (h : hpB m (nth l k).1 = false) : mpI l m (k + 1) = mpI l m k := by
  show (if _ then _ else _) = _
  rw [if_neg (by rw [h]; simp)]
theorem mpI_no2 {l : List Rtt} {m : List ByteArray} {k : Nat} (h0 : 0 ≤ mpI l m k) (h2 : ¬ (curM l m k).length < (nth l k).1.length) : mpI l m (k + 1) = mpI l m k := by
  show (if _ then _ else _) = _
  rw [if_neg]
  rintro ⟨-, h1 | h1⟩
  · omega
  · unfold curM at h2; rw [if_neg (by omega)] at h2; exact h2 h1
theorem curM_new {l : List Rtt} {m : List ByteArray} {k : Nat} (h : mpI l m (k + 1) = k) : curM l m (k + 1) = (nth l k).1 := by
  unfold curM; rw [h, if_neg (by omega)]; simp
theorem curM_old {l : List Rtt} {m : List ByteArray} {k : Nat} (h : mpI l m (k + 1) = mpI l m k) : curM l m (k + 1) = curM l m k := by
  unfold curM; rw [h]
theorem curM_pos {l : List Rtt} {m : List ByteArray} {k : Nat} {j : Nat} (h : mpI l m k = (j : Int)) : curM l m k = (nth l j).1 := by
  unfold curM; rw [h, if_neg (by omega)]; simp
theorem kN_nil14 (w : World) : kN.At w (.agg #[.slice none 0 0]) [] := kN_of (Holds.nil _ _)
def GivesMp (l : List Rtt) (m : List ByteArray) (w : World) (e : Ending) (w' : World) : Prop := ∃ U, e = .returned (.tuple #[U, .bool (mpB l m)]) ∧ kN.In w.heap.size w'.heap.size w' U (mpN l m) ∧ Below w.heap.size w w'
set_option maxRecDepth 100000 in
set_option maxHeartbeats 4000000 in
theorem rmp0 {Q : Exit → Act → World → Prop} {v1 v2 v4 v5 v6 v8 v9 v10 v11 v12 v13 v14 v15 v16 v17 v18 v19 v20 v21 v22 v23 v24 v25 v26 v27 v28 v29 v30 v31 v32 v33 v34 v35 v36 v37 v38 v39 v40 v41 v42 v43 v44 v45 v46 v47 v48 v49 v50 v51 : Value} {w : World} {b off n c g k na ca : Nat} {xa : Option Addr} {a m : List ByteArray} {xn : Option Addr} {nn cn : Nat} (hk : k < n) (hkc : k ≤ c) (hn : n ≤ 9000000) (HZ : Hid (hpB m a = false)) (H_a : Hid (kN.At w (.agg #[.slice xa na ca]) a)) (H_m : Hid (kN.At w (.agg #[.slice xn nn cn]) m)) (HAB : Hid (bulk a ≤ 1200000)) (HMB : Hid (bulk m ≤ 1200000)) (K0 : Hid (w.cell? ⟨g, 0, none⟩ = some (.slice xn nn cn))) (K1 : Hid (w.cell? ⟨b, off + k * 3, none⟩ = some (.slice xa na ca)))
  (hQ : ∀ (u14 u15 u16 u17 u18 u19 u20 u21 u22 u23 u24 u25 u26 u27 u28 u29 u30 u31 u32 u33 u34 u35 u36 u37 u38 u39 u40 : Value)  (wx : World), Below w.heap.size w wx → Q .normal ⟨#[.slice (some ⟨b, off, none⟩) n c, v1, v2, .pointer (some ⟨g, 0, none⟩), v4, v5, v6, .int .i64 k, v8, v9, v10, v11, v12, v13, u14, u15, u16, u17, u18, u19, u20, u21, u22, u23, u24, u25, u26, u27, u28, u29, u30, u31, u32, u33, u34, u35, u36, u37, u38, u39, u40, .bool false, v42, v43, v44, v45, v46, v47, v48, v49, v50, v51], []⟩ wx) :
  (Code.region 5 #[⟨some 14, .load 32 (.tmp 3), 32, "l14_route.go:61", #[], none⟩,
   ⟨some 15, .move (.tmp 0), 30, "l14_route.go:61", #[], none⟩,
   ⟨some 16, .move (.tmp 7), 3, "l14_route.go:61", #[], none⟩,
   ⟨some 17, .indexAddr 30 (.tmp 15) (.tmp 16), 0, "l14_route.go:61", #[⟨1, .data⟩, ⟨2, .data⟩], none⟩,
   ⟨some 18, .fieldAddr 49 (.tmp 17) 0, 0, "l14_route.go:61", #[⟨3, .data⟩], none⟩,
   ⟨some 19, .load 32 (.tmp 18), 32, "l14_route.go:61", #[⟨4, .data⟩], none⟩,
   ⟨some 20, .call ⟨.value (.func 37), #[.tmp 14, .tmp 19], #[32, 32]⟩, 4, "l14_route.go:61", #[⟨0, .data⟩, ⟨5, .data⟩], none⟩,
   ⟨some 21, .move (.tmp 20), 4, "l14_route.go:61", #[⟨6, .data⟩, ⟨6, .chain⟩], none⟩,
   ⟨some 22, .move (.tmp 6), 3, "l14_route.go:61", #[⟨7, .guard⟩], some (7, true)⟩,
   ⟨some 23, .binOp BinOp.lss 3 (.tmp 22) (.const (Value.int IntKind.i64 0)) 3, 4, "l14_route.go:61", #[⟨8, .data⟩, ⟨7, .guard⟩], some (7, true)⟩,
   ⟨some 24, .move (.tmp 23), 4, "l14_route.go:61", #[⟨9, .data⟩, ⟨7, .chain⟩, ⟨7, .guard⟩], some (7, true)⟩,
   ⟨some 25, .move (.tmp 0), 30, "l14_route.go:61", #[⟨10, .guard⟩], some (10, false)⟩,
   ⟨some 26, .move (.tmp 7), 3, "l14_route.go:61", #[⟨10, .guard⟩], some (10, false)⟩,
   ⟨some 27, .indexAddr 30 (.tmp 25) (.tmp 26), 0, "l14_route.go:61", #[⟨11, .data⟩, ⟨12, .data⟩, ⟨10, .guard⟩], some (10, false)⟩,
   ⟨some 28, .fieldAddr 49 (.tmp 27) 0, 0, "l14_route.go:61", #[⟨13, .data⟩, ⟨10, .guard⟩], some (10, false)⟩,
   ⟨some 29, .fieldAddr 32 (.tmp 28) 0, 0, "l14_route.go:61", #[⟨14, .data⟩, ⟨10, .guard⟩], some (10, false)⟩,
   ⟨some 30, .load 23 (.tmp 29), 23, "l14_route.go:61", #[⟨15, .data⟩, ⟨10, .guard⟩], some (10, false)⟩,
   ⟨some 31, .call ⟨.builtin .len, #[.tmp 30], #[23]⟩, 3, "l14_route.go:61", #[⟨16, .data⟩, ⟨10, .guard⟩], some (10, false)⟩,
   ⟨some 32, .move (.tmp 0), 30, "l14_route.go:61", #[⟨10, .guard⟩], some (10, false)⟩,
   ⟨some 33, .move (.tmp 6), 3, "l14_route.go:61", #[⟨10, .guard⟩], some (10, false)⟩,
   ⟨some 34, .indexAddr 30 (.tmp 32) (.tmp 33), 0, "l14_route.go:61", #[⟨18, .data⟩, ⟨19, .data⟩, ⟨10, .guard⟩], some (10, false)⟩,
   ⟨some 35, .fieldAddr 49 (.tmp 34) 0, 0, "l14_route.go:61", #[⟨20, .data⟩, ⟨10, .guard⟩], some (10, false)⟩,
   ⟨some 36, .fieldAddr 32 (.tmp 35) 0, 0, "l14_route.go:61", #[⟨21, .data⟩, ⟨10, .guard⟩], some (10, false)⟩,
   ⟨some 37, .load 23 (.tmp 36), 23, "l14_route.go:61", #[⟨22, .data⟩, ⟨10, .guard⟩], some (10, false)⟩,
   ⟨some 38, .call ⟨.builtin .len, #[.tmp 37], #[23]⟩, 3, "l14_route.go:61", #[⟨23, .data⟩, ⟨10, .guard⟩], some (10, false)⟩,
   ⟨some 39, .binOp BinOp.gtr 3 (.tmp 31) (.tmp 38) 3, 4, "l14_route.go:61", #[⟨17, .data⟩, ⟨24, .data⟩, ⟨10, .guard⟩], some (10, false)⟩,
   ⟨some 40, .pick (.tmp 24) (.const (Value.bool true)) (.tmp 39), 4, "l14_route.go:61", #[⟨10, .data⟩, ⟨25, .data⟩, ⟨7, .guard⟩], some (7, true)⟩,
   ⟨some 41, .pick (.tmp 21) (.tmp 40) (.const (Value.bool false)), 4, "l14_route.go:61", #[⟨7, .data⟩, ⟨26, .data⟩], none⟩] true).wp Try.prog Q ⟨#[.slice (some ⟨b, off, none⟩) n c, v1, v2, .pointer (some ⟨g, 0, none⟩), v4, v5, v6, .int .i64 k, v8, v9, v10, v11, v12, v13, v14, v15, v16, v17, v18, v19, v20, v21, v22, v23, v24, v25, v26, v27, v28, v29, v30, v31, v32, v33, v34, v35, v36, v37, v38, v39, v40, v41, v42, v43, v44, v45, v46, v47, v48, v49, v50, v51], []⟩ w := by
 have HQ := Lib.hid hQ; clear hQ
 have hdr : Below w.heap.size w w.drew := (Below.refl _ _).drew
 have BB := Lib.hid hdr
 refine wp_region_noPanic ?_
 refine wp_region_held_drew (S := (fun w' => w'.cell? ⟨g, 0, none⟩ = some (.slice xn nn cn) ∧ w'.cell? ⟨b, off + k * 3, none⟩ = some (.slice xa na ca))) (by kernel_rfl) ?_ (fun hHeld => ?_)
 ·
  exact ⟨kc K0.out BB.out, kc K1.out BB.out⟩
 clear hdr
 generalize w.drew = wd at *
 refine wpAnyH_take (i := 0) (oi := ⟨some 14, .load 32 (.tmp 3), 32, "l14_route.go:61", #[], none⟩) (v := ?_) rfl (by kernel_rfl) (by kernel_rfl) (by kernel_rfl) (fun _ _ _ h => h) (Or.inl ⟨by rfl, ?_⟩) (by assumption) ?_
 rotate_left
 ·
  intro w' hSw; (try dsimp only at hSw); first | (go_simp; done) | (go_simp; with_reducible rfl)
 (try simp only [Act.put, Row.pB0, Row.pB1, Row.pB2])
 refine wpAnyH_take (i := 1) (oi := ⟨some 15, .move (.tmp 0), 30, "l14_route.go:61", #[], none⟩) (v := ?_) rfl (by kernel_rfl) (by kernel_rfl) (by kernel_rfl) (fun _ _ _ h => h) (Or.inl ⟨by rfl, ?_⟩) (by assumption) ?_
 rotate_left
 ·
  intro w' hSw; (try dsimp only at hSw); first | (go_simp; done) | (go_simp; with_reducible rfl)
 (try simp only [Act.put, Row.pB0, Row.pB1, Row.pB2])
 refine wpAnyH_take (i := 2) (oi := ⟨some 16, .move (.tmp 7), 3, "l14_route.go:61", #[], none⟩) (v := ?_) rfl (by kernel_rfl) (by kernel_rfl) (by kernel_rfl) (fun _ _ _ h => h) (Or.inl ⟨by rfl, ?_⟩) (by assumption) ?_
 rotate_left
 ·
  intro w' hSw; (try dsimp only at hSw); first | (go_simp; done) | (go_simp; with_reducible rfl)
 (try simp only [Act.put, Row.pB0, Row.pB1, Row.pB2])
 refine wpAnyH_take (i := 3) (oi := ⟨some 17, .indexAddr 30 (.tmp 15) (.tmp 16), 0, "l14_route.go:61", #[⟨1, .data⟩, ⟨2, .data⟩], none⟩) (v := ?_) rfl (by kernel_rfl) (by kernel_rfl) (by kernel_rfl) (fun _ _ _ h => h) (Or.inl ⟨by rfl, ?_⟩) (by assumption) ?_
 rotate_left
 ·
  intro w' hSw; (try dsimp only at hSw); first | (go_simp; done) | (go_simp; with_reducible rfl)
 (try simp only [Act.put, Row.pB0, Row.pB1, Row.pB2])
 refine wpAnyH_take (i := 4) (oi := ⟨some 18, .fieldAddr 49 (.tmp 17) 0, 0, "l14_route.go:61", #[⟨3, .data⟩], none⟩) (v := ?_) rfl (by kernel_rfl) (by kernel_rfl) (by kernel_rfl) (fun _ _ _ h => h) (Or.inl ⟨by rfl, ?_⟩) (by assumption) ?_
 rotate_left
 ·
  intro w' hSw; (try dsimp only at hSw); first | (go_simp; done) | (go_simp; with_reducible rfl)
 (try simp only [Act.put, Row.pB0, Row.pB1, Row.pB2])
 refine wpAnyH_take (i := 5) (oi := ⟨some 19, .load 32 (.tmp 18), 32, "l14_route.go:61", #[⟨4, .data⟩], none⟩) (v := ?_) rfl (by kernel_rfl) (by kernel_rfl) (by kernel_rfl) (fun _ _ _ h => h) (Or.inl ⟨by rfl, ?_⟩) (by assumption) ?_
 rotate_left
 ·
  intro w' hSw; (try dsimp only at hSw); first | (go_simp; done) | (go_simp; with_reducible rfl)
 (try simp only [Act.put, Row.pB0, Row.pB1, Row.pB2])
 refine wpAnyH_ready (rs := [6]) (by kernel_rfl) (by simp) ?_
 refine AllReadyH.cons (o := ⟨some 20, .call ⟨.value (.func 37), #[.tmp 14, .tmp 19], #[32, 32]⟩, 4, "l14_route.go:61", #[⟨0, .data⟩, ⟨5, .data⟩], none⟩) rfl (fun K hK => ?_) AllReadyH.nil
 go_simp
 refine (sHpN false HZ.out (H_m.out.on BB.out) (H_a.out.on BB.out) (Nat.le_trans HMB.out (by decide)) (Nat.le_trans HAB.out (by decide))).mono ?_
 rintro e wn1 ⟨rfl, hb⟩
 replace BB := Lib.hid (BB.out.trans (hb.mono BB.out.size))
 clear hb
 (try go_wp2_with fail)
 clear hHeld
 refine hK.out _ _ ?_ (fun hHeld => ?_)
 ·
  (try dsimp only); exact ⟨kc K0.out BB.out, kc K1.out BB.out⟩
 clear hK K
 (try simp only [Act.put, Row.pB0, Row.pB1, Row.pB2])
 refine wpAnyH_take (i := 7) (oi := ⟨some 21, .move (.tmp 20), 4, "l14_route.go:61", #[⟨6, .data⟩, ⟨6, .chain⟩], none⟩) (v := ?_) rfl (by kernel_rfl) (by kernel_rfl) (by kernel_rfl) (fun _ _ _ h => h) (Or.inl ⟨by rfl, ?_⟩) (by assumption) ?_
 rotate_left
 ·
  intro w' hSw; (try dsimp only at hSw); first | (go_simp; done) | (go_simp; with_reducible rfl)
 (try simp only [Act.put, Row.pB0, Row.pB1, Row.pB2])
 refine wpAnyH_take (i := 8) (oi := ⟨some 22, .move (.tmp 6), 3, "l14_route.go:61", #[⟨7, .guard⟩], some (7, true)⟩) (v := undef) rfl (by kernel_rfl) (by kernel_rfl) (by kernel_rfl) (fun _ _ _ h => h) (Or.inr ⟨by rfl, rfl⟩) (by assumption) ?_
 (try simp only [Act.put, Row.pB0, Row.pB1, Row.pB2])
 refine wpAnyH_take (i := 9) (oi := ⟨some 23, .binOp BinOp.lss 3 (.tmp 22) (.const (Value.int IntKind.i64 0)) 3, 4, "l14_route.go:61", #[⟨8, .data⟩, ⟨7, .guard⟩], some (7, true)⟩) (v := undef) rfl (by kernel_rfl) (by kernel_rfl) (by kernel_rfl) (fun _ _ _ h => h) (Or.inr ⟨by rfl, rfl⟩) (by assumption) ?_
 (try simp only [Act.put, Row.pB0, Row.pB1, Row.pB2])
 refine wpAnyH_take (i := 10) (oi := ⟨some 24, .move (.tmp 23), 4, "l14_route.go:61", #[⟨9, .data⟩, ⟨7, .chain⟩, ⟨7, .guard⟩], some (7, true)⟩) (v := undef) rfl (by kernel_rfl) (by kernel_rfl) (by kernel_rfl) (fun _ _ _ h => h) (Or.inr ⟨by rfl, rfl⟩) (by assumption) ?_
 (try simp only [Act.put, Row.pB0, Row.pB1, Row.pB2])
 refine wpAnyH_take (i := 11) (oi := ⟨some 25, .move (.tmp 0), 30, "l14_route.go:61", #[⟨10, .guard⟩], some (10, false)⟩) (v := undef) rfl (by kernel_rfl) (by kernel_rfl) (by kernel_rfl) (fun _ _ _ h => h) (Or.inr ⟨by rfl, rfl⟩) (by assumption) ?_
 (try simp only [Act.put, Row.pB0, Row.pB1, Row.pB2])
 refine wpAnyH_take (i := 12) (oi := ⟨some 26, .move (.tmp 7), 3, "l14_route.go:61", #[⟨10, .guard⟩], some (10, false)⟩) (v := undef) rfl (by kernel_rfl) (by kernel_rfl) (by kernel_rfl) (fun _ _ _ h => h) (Or.inr ⟨by rfl, rfl⟩) (by assumption) ?_
 (try simp only [Act.put, Row.pB0, Row.pB1, Row.pB2])
 refine wpAnyH_take (i := 13) (oi := ⟨some 27, .indexAddr 30 (.tmp 25) (.tmp 26), 0, "l14_route.go:61", #[⟨11, .data⟩, ⟨12, .data⟩, ⟨10, .guard⟩], some (10, false)⟩) (v := undef) rfl (by kernel_rfl) (by kernel_rfl) (by kernel_rfl) (fun _ _ _ h => h) (Or.inr ⟨by rfl, rfl⟩) (by assumption) ?_
 (try simp only [Act.put, Row.pB0, Row.pB1, Row.pB2])
 refine wpAnyH_take (i := 14) (oi := ⟨some 28, .fieldAddr 49 (.tmp 27) 0, 0, "l14_route.go:61", #[⟨13, .data⟩, ⟨10, .guard⟩], some (10, false)⟩) (v := undef) rfl (by kernel_rfl) (by kernel_rfl) (by kernel_rfl) (fun _ _ _ h => h) (Or.inr ⟨by rfl, rfl⟩) (by assumption) ?_
 (try simp only [Act.put, Row.pB0, Row.pB1, Row.pB2])
 refine wpAnyH_take (i := 15) (oi := ⟨some 29, .fieldAddr 32 (.tmp 28) 0, 0, "l14_route.go:61", #[⟨14, .data⟩, ⟨10, .guard⟩], some (10, false)⟩) (v := undef) rfl (by kernel_rfl) (by kernel_rfl) (by kernel_rfl) (fun _ _ _ h => h) (Or.inr ⟨by rfl, rfl⟩) (by assumption) ?_
 (try simp only [Act.put, Row.pB0, Row.pB1, Row.pB2])
 refine wpAnyH_take (i := 16) (oi := ⟨some 30, .load 23 (.tmp 29), 23, "l14_route.go:61", #[⟨15, .data⟩, ⟨10, .guard⟩], some (10, false)⟩) (v := undef) rfl (by kernel_rfl) (by kernel_rfl) (by kernel_rfl) (fun _ _ _ h => h) (Or.inr ⟨by rfl, rfl⟩) (by assumption) ?_
 (try simp only [Act.put, Row.pB0, Row.pB1, Row.pB2])
 refine wpAnyH_take (i := 17) (oi := ⟨some 31, .call ⟨.builtin .len, #[.tmp 30], #[23]⟩, 3, "l14_route.go:61", #[⟨16, .data⟩, ⟨10, .guard⟩], some (10, false)⟩) (v := undef) rfl (by kernel_rfl) (by kernel_rfl) (by kernel_rfl) (fun _ _ _ h => h) (Or.inr ⟨by rfl, rfl⟩) (by assumption) ?_
 (try simp only [Act.put, Row.pB0, Row.pB1, Row.pB2])
 refine wpAnyH_take (i := 18) (oi := ⟨some 32, .move (.tmp 0), 30, "l14_route.go:61", #[⟨10, .guard⟩], some (10, false)⟩) (v := undef) rfl (by kernel_rfl) (by kernel_rfl) (by kernel_rfl) (fun _ _ _ h => h) (Or.inr ⟨by rfl, rfl⟩) (by assumption) ?_
 (try simp only [Act.put, Row.pB0, Row.pB1, Row.pB2])
 refine wpAnyH_take (i := 19) (oi := ⟨some 33, .move (.tmp 6), 3, "l14_route.go:61", #[⟨10, .guard⟩], some (10, false)⟩) (v := undef) rfl (by kernel_rfl) (by kernel_rfl) (by kernel_rfl) (fun _ _ _ h => h) (Or.inr ⟨by rfl, rfl⟩) (by assumption) ?_
 (try simp only [Act.put, Row.pB0, Row.pB1, Row.pB2])
 refine wpAnyH_take (i := 20) (oi := ⟨some 34, .indexAddr 30 (.tmp 32) (.tmp 33), 0, "l14_route.go:61", #[⟨18, .data⟩, ⟨19, .data⟩, ⟨10, .guard⟩], some (10, false)⟩) (v := undef) rfl (by kernel_rfl) (by kernel_rfl) (by kernel_rfl) (fun _ _ _ h => h) (Or.inr ⟨by rfl, rfl⟩) (by assumption) ?_
 (try simp only [Act.put, Row.pB0, Row.pB1, Row.pB2])
 refine wpAnyH_take (i := 21) (oi := ⟨some 35, .fieldAddr 49 (.tmp 34) 0, 0, "l14_route.go:61", #[⟨20, .data⟩, ⟨10, .guard⟩], some (10, false)⟩) (v := undef) rfl (by kernel_rfl) (by kernel_rfl) (by kernel_rfl) (fun _ _ _ h => h) (Or.inr ⟨by rfl, rfl⟩) (by assumption) ?_
 (try simp only [Act.put, Row.pB0, Row.pB1, Row.pB2])
 refine wpAnyH_take (i := 22) (oi := ⟨some 36, .fieldAddr 32 (.tmp 35) 0, 0, "l14_route.go:61", #[⟨21, .data⟩, ⟨10, .guard⟩], some (10, false)⟩) (v := undef) rfl (by kernel_rfl) (by kernel_rfl) (by kernel_rfl) (fun _ _ _ h => h) (Or.inr ⟨by rfl, rfl⟩) (by assumption) ?_
 (try simp only [Act.put, Row.pB0, Row.pB1, Row.pB2])
 refine wpAnyH_take (i := 23) (oi := ⟨some 37, .load 23 (.tmp 36), 23, "l14_route.go:61", #[⟨22, .data⟩, ⟨10, .guard⟩], some (10, false)⟩) (v := undef) rfl (by kernel_rfl) (by kernel_rfl) (by kernel_rfl) (fun _ _ _ h => h) (Or.inr ⟨by rfl, rfl⟩) (by assumption) ?_
 (try simp only [Act.put, Row.pB0, Row.pB1, Row.pB2])
 refine wpAnyH_take (i := 24) (oi := ⟨some 38, .call ⟨.builtin .len, #[.tmp 37], #[23]⟩, 3, "l14_route.go:61", #[⟨23, .data⟩, ⟨10, .guard⟩], some (10, false)⟩) (v := undef) rfl (by kernel_rfl) (by kernel_rfl) (by kernel_rfl) (fun _ _ _ h => h) (Or.inr ⟨by rfl, rfl⟩) (by assumption) ?_
 (try simp only [Act.put, Row.pB0, Row.pB1, Row.pB2])
 refine wpAnyH_take (i := 25) (oi := ⟨some 39, .binOp BinOp.gtr 3 (.tmp 31) (.tmp 38) 3, 4, "l14_route.go:61", #[⟨17, .data⟩, ⟨24, .data⟩, ⟨10, .guard⟩], some (10, false)⟩) (v := undef) rfl (by kernel_rfl) (by kernel_rfl) (by kernel_rfl) (fun _ _ _ h => h) (Or.inr ⟨by rfl, rfl⟩) (by assumption) ?_
 (try simp only [Act.put, Row.pB0, Row.pB1, Row.pB2])
 refine wpAnyH_take (i := 26) (oi := ⟨some 40, .pick (.tmp 24) (.const (Value.bool true)) (.tmp 39), 4, "l14_route.go:61", #[⟨10, .data⟩, ⟨25, .data⟩, ⟨7, .guard⟩], some (7, true)⟩) (v := undef) rfl (by kernel_rfl) (by kernel_rfl) (by kernel_rfl) (fun _ _ _ h => h) (Or.inr ⟨by rfl, rfl⟩) (by assumption) ?_
 (try simp only [Act.put, Row.pB0, Row.pB1, Row.pB2])
 refine wpAnyH_take (i := 27) (oi := ⟨some 41, .pick (.tmp 21) (.tmp 40) (.const (Value.bool false)), 4, "l14_route.go:61", #[⟨7, .data⟩, ⟨26, .data⟩], none⟩) (v := ?_) rfl (by kernel_rfl) (by kernel_rfl) (by kernel_rfl) (fun _ _ _ h => h) (Or.inl ⟨by rfl, ?_⟩) (by assumption) ?_
 rotate_left
 ·
  intro w' hSw; (try dsimp only at hSw); first | (go_simp; done) | (go_simp; with_reducible rfl)
 (try simp only [Act.put, Row.pB0, Row.pB1, Row.pB2])
 refine wpAnyH_done (by kernel_rfl) ?_ _
 exact NoPanic.normal (HQ.out _ _ _ _ _ _ _ _ _ _ _ _ _ _ _ _ _ _ _ _ _ _ _ _ _ _ _  _  BB.out)
set_option maxRecDepth 100000 in
set_option maxHeartbeats 4000000 in
theorem rmp1 {Q : Exit → Act → World → Prop} {v1 v2 v4 v5 v8 v9 v10 v11 v12 v13 v14 v15 v16 v17 v18 v19 v20 v21 v22 v23 v24 v25 v26 v27 v28 v29 v30 v31 v32 v33 v34 v35 v36 v37 v38 v39 v40 v41 v42 v43 v44 v45 v46 v47 v48 v49 v50 v51 : Value} {w : World} {b off n c g k na ca : Nat} {xa : Option Addr} {a m : List ByteArray} {xn : Option Addr} {nn cn : Nat} (hk : k < n) (hkc : k ≤ c) (hn : n ≤ 9000000) (HZ : Hid (hpB m a = true)) (H_a : Hid (kN.At w (.agg #[.slice xa na ca]) a)) (H_m : Hid (kN.At w (.agg #[.slice xn nn cn]) m)) (HAB : Hid (bulk a ≤ 1200000)) (HMB : Hid (bulk m ≤ 1200000)) (K0 : Hid (w.cell? ⟨g, 0, none⟩ = some (.slice xn nn cn))) (K1 : Hid (w.cell? ⟨b, off + k * 3, none⟩ = some (.slice xa na ca)))
  (hQ : ∀ (u14 u15 u16 u17 u18 u19 u20 u21 u22 u23 u24 u25 u26 u27 u28 u29 u30 u31 u32 u33 u34 u35 u36 u37 u38 u39 u40 : Value)  (wx : World), Below w.heap.size w wx → Q .normal ⟨#[.slice (some ⟨b, off, none⟩) n c, v1, v2, .pointer (some ⟨g, 0, none⟩), v4, v5, .int .i64 (-1), .int .i64 k, v8, v9, v10, v11, v12, v13, u14, u15, u16, u17, u18, u19, u20, u21, u22, u23, u24, u25, u26, u27, u28, u29, u30, u31, u32, u33, u34, u35, u36, u37, u38, u39, u40, .bool true, v42, v43, v44, v45, v46, v47, v48, v49, v50, v51], []⟩ wx) :
  (Code.region 5 #[⟨some 14, .load 32 (.tmp 3), 32, "l14_route.go:61", #[], none⟩,
   ⟨some 15, .move (.tmp 0), 30, "l14_route.go:61", #[], none⟩,
   ⟨some 16, .move (.tmp 7), 3, "l14_route.go:61", #[], none⟩,
   ⟨some 17, .indexAddr 30 (.tmp 15) (.tmp 16), 0, "l14_route.go:61", #[⟨1, .data⟩, ⟨2, .data⟩], none⟩,
   ⟨some 18, .fieldAddr 49 (.tmp 17) 0, 0, "l14_route.go:61", #[⟨3, .data⟩], none⟩,
   ⟨some 19, .load 32 (.tmp 18), 32, "l14_route.go:61", #[⟨4, .data⟩], none⟩,
   ⟨some 20, .call ⟨.value (.func 37), #[.tmp 14, .tmp 19], #[32, 32]⟩, 4, "l14_route.go:61", #[⟨0, .data⟩, ⟨5, .data⟩], none⟩,
   ⟨some 21, .move (.tmp 20), 4, "l14_route.go:61", #[⟨6, .data⟩, ⟨6, .chain⟩], none⟩,
   ⟨some 22, .move (.tmp 6), 3, "l14_route.go:61", #[⟨7, .guard⟩], some (7, true)⟩,
   ⟨some 23, .binOp BinOp.lss 3 (.tmp 22) (.const (Value.int IntKind.i64 0)) 3, 4, "l14_route.go:61", #[⟨8, .data⟩, ⟨7, .guard⟩], some (7, true)⟩,
   ⟨some 24, .move (.tmp 23), 4, "l14_route.go:61", #[⟨9, .data⟩, ⟨7, .chain⟩, ⟨7, .guard⟩], some (7, true)⟩,
   ⟨some 25, .move (.tmp 0), 30, "l14_route.go:61", #[⟨10, .guard⟩], some (10, false)⟩,
   ⟨some 26, .move (.tmp 7), 3, "l14_route.go:61", #[⟨10, .guard⟩], some (10, false)⟩,
   ⟨some 27, .indexAddr 30 (.tmp 25) (.tmp 26), 0, "l14_route.go:61", #[⟨11, .data⟩, ⟨12, .data⟩, ⟨10, .guard⟩], some (10, false)⟩,
   ⟨some 28, .fieldAddr 49 (.tmp 27) 0, 0, "l14_route.go:61", #[⟨13, .data⟩, ⟨10, .guard⟩], some (10, false)⟩,
   ⟨some 29, .fieldAddr 32 (.tmp 28) 0, 0, "l14_route.go:61", #[⟨14, .data⟩, ⟨10, .guard⟩], some (10, false)⟩,
   ⟨some 30, .load 23 (.tmp 29), 23, "l14_route.go:61", #[⟨15, .data⟩, ⟨10, .guard⟩], some (10, false)⟩,
   ⟨some 31, .call ⟨.builtin .len, #[.tmp 30], #[23]⟩, 3, "l14_route.go:61", #[⟨16, .data⟩, ⟨10, .guard⟩], some (10, false)⟩,
   ⟨some 32, .move (.tmp 0), 30, "l14_route.go:61", #[⟨10, .guard⟩], some (10, false)⟩,
   ⟨some 33, .move (.tmp 6), 3, "l14_route.go:61", #[⟨10, .guard⟩], some (10, false)⟩,
   ⟨some 34, .indexAddr 30 (.tmp 32) (.tmp 33), 0, "l14_route.go:61", #[⟨18, .data⟩, ⟨19, .data⟩, ⟨10, .guard⟩], some (10, false)⟩,
   ⟨some 35, .fieldAddr 49 (.tmp 34) 0, 0, "l14_route.go:61", #[⟨20, .data⟩, ⟨10, .guard⟩], some (10, false)⟩,
   ⟨some 36, .fieldAddr 32 (.tmp 35) 0, 0, "l14_route.go:61", #[⟨21, .data⟩, ⟨10, .guard⟩], some (10, false)⟩,
   ⟨some 37, .load 23 (.tmp 36), 23, "l14_route.go:61", #[⟨22, .data⟩, ⟨10, .guard⟩], some (10, false)⟩,
   ⟨some 38, .call ⟨.builtin .len, #[.tmp 37], #[23]⟩, 3, "l14_route.go:61", #[⟨23, .data⟩, ⟨10, .guard⟩], some (10, false)⟩,
   ⟨some 39, .binOp BinOp.gtr 3 (.tmp 31) (.tmp 38) 3, 4, "l14_route.go:61", #[⟨17, .data⟩, ⟨24, .data⟩, ⟨10, .guard⟩], some (10, false)⟩,
   ⟨some 40, .pick (.tmp 24) (.const (Value.bool true)) (.tmp 39), 4, "l14_route.go:61", #[⟨10, .data⟩, ⟨25, .data⟩, ⟨7, .guard⟩], some (7, true)⟩,
   ⟨some 41, .pick (.tmp 21) (.tmp 40) (.const (Value.bool false)), 4, "l14_route.go:61", #[⟨7, .data⟩, ⟨26, .data⟩], none⟩] true).wp Try.prog Q ⟨#[.slice (some ⟨b, off, none⟩) n c, v1, v2, .pointer (some ⟨g, 0, none⟩), v4, v5, .int .i64 (-1), .int .i64 k, v8, v9, v10, v11, v12, v13, v14, v15, v16, v17, v18, v19, v20, v21, v22, v23, v24, v25, v26, v27, v28, v29, v30, v31, v32, v33, v34, v35, v36, v37, v38, v39, v40, v41, v42, v43, v44, v45, v46, v47, v48, v49, v50, v51], []⟩ w := by
 have HQ := Lib.hid hQ; clear hQ
 have hdr : Below w.heap.size w w.drew := (Below.refl _ _).drew
 have BB := Lib.hid hdr
 refine wp_region_noPanic ?_
 refine wp_region_held_drew (S := (fun w' => w'.cell? ⟨g, 0, none⟩ = some (.slice xn nn cn) ∧ w'.cell? ⟨b, off + k * 3, none⟩ = some (.slice xa na ca))) (by kernel_rfl) ?_ (fun hHeld => ?_)
 ·
  exact ⟨kc K0.out BB.out, kc K1.out BB.out⟩
 clear hdr
 generalize w.drew = wd at *
 refine wpAnyH_take (i := 0) (oi := ⟨some 14, .load 32 (.tmp 3), 32, "l14_route.go:61", #[], none⟩) (v := ?_) rfl (by kernel_rfl) (by kernel_rfl) (by kernel_rfl) (fun _ _ _ h => h) (Or.inl ⟨by rfl, ?_⟩) (by assumption) ?_
 rotate_left
 ·
  intro w' hSw; (try dsimp only at hSw); first | (go_simp; done) | (go_simp; with_reducible rfl)
 (try simp only [Act.put, Row.pB0, Row.pB1, Row.pB2])
 refine wpAnyH_take (i := 1) (oi := ⟨some 15, .move (.tmp 0), 30, "l14_route.go:61", #[], none⟩) (v := ?_) rfl (by kernel_rfl) (by kernel_rfl) (by kernel_rfl) (fun _ _ _ h => h) (Or.inl ⟨by rfl, ?_⟩) (by assumption) ?_
 rotate_left
 ·
  intro w' hSw; (try dsimp only at hSw); first | (go_simp; done) | (go_simp; with_reducible rfl)
 (try simp only [Act.put, Row.pB0, Row.pB1, Row.pB2])
 refine wpAnyH_take (i := 2) (oi := ⟨some 16, .move (.tmp 7), 3, "l14_route.go:61", #[], none⟩) (v := ?_) rfl (by kernel_rfl) (by kernel_rfl) (by kernel_rfl) (fun _ _ _ h => h) (Or.inl ⟨by rfl, ?_⟩) (by assumption) ?_
 rotate_left
 ·
  intro w' hSw; (try dsimp only at hSw); first | (go_simp; done) | (go_simp; with_reducible rfl)
 (try simp only [Act.put, Row.pB0, Row.pB1, Row.pB2])
 refine wpAnyH_take (i := 3) (oi := ⟨some 17, .indexAddr 30 (.tmp 15) (.tmp 16), 0, "l14_route.go:61", #[⟨1, .data⟩, ⟨2, .data⟩], none⟩) (v := ?_) rfl (by kernel_rfl) (by kernel_rfl) (by kernel_rfl) (fun _ _ _ h => h) (Or.inl ⟨by rfl, ?_⟩) (by assumption) ?_
 rotate_left
 ·
  intro w' hSw; (try dsimp only at hSw); first | (go_simp; done) | (go_simp; with_reducible rfl)
 (try simp only [Act.put, Row.pB0, Row.pB1, Row.pB2])
 refine wpAnyH_take (i := 4) (oi := ⟨some 18, .fieldAddr 49 (.tmp 17) 0, 0, "l14_route.go:61", #[⟨3, .data⟩], none⟩) (v := ?_) rfl (by kernel_rfl) (by kernel_rfl) (by kernel_rfl) (fun _ _ _ h => h) (Or.inl ⟨by rfl, ?_⟩) (by assumption) ?_
 rotate_left
 ·
  intro w' hSw; (try dsimp only at hSw); first | (go_simp; done) | (go_simp; with_reducible rfl)
 (try simp only [Act.put, Row.pB0, Row.pB1, Row.pB2])
 refine wpAnyH_take (i := 5) (oi := ⟨some 19, .load 32 (.tmp 18), 32, "l14_route.go:61", #[⟨4, .data⟩], none⟩) (v := ?_) rfl (by kernel_rfl) (by kernel_rfl) (by kernel_rfl) (fun _ _ _ h => h) (Or.inl ⟨by rfl, ?_⟩) (by assumption) ?_
 rotate_left
 ·
  intro w' hSw; (try dsimp only at hSw); first | (go_simp; done) | (go_simp; with_reducible rfl)
 (try simp only [Act.put, Row.pB0, Row.pB1, Row.pB2])
 refine wpAnyH_ready (rs := [6]) (by kernel_rfl) (by simp) ?_
 refine AllReadyH.cons (o := ⟨some 20, .call ⟨.value (.func 37), #[.tmp 14, .tmp 19], #[32, 32]⟩, 4, "l14_route.go:61", #[⟨0, .data⟩, ⟨5, .data⟩], none⟩) rfl (fun K hK => ?_) AllReadyH.nil
 go_simp
 refine (sHpN true HZ.out (H_m.out.on BB.out) (H_a.out.on BB.out) (Nat.le_trans HMB.out (by decide)) (Nat.le_trans HAB.out (by decide))).mono ?_
 rintro e wn1 ⟨rfl, hb⟩
 replace BB := Lib.hid (BB.out.trans (hb.mono BB.out.size))
 clear hb
 (try go_wp2_with fail)
 clear hHeld
 refine hK.out _ _ ?_ (fun hHeld => ?_)
 ·
  (try dsimp only); exact ⟨kc K0.out BB.out, kc K1.out BB.out⟩
 clear hK K
 (try simp only [Act.put, Row.pB0, Row.pB1, Row.pB2])
 refine wpAnyH_take (i := 7) (oi := ⟨some 21, .move (.tmp 20), 4, "l14_route.go:61", #[⟨6, .data⟩, ⟨6, .chain⟩], none⟩) (v := ?_) rfl (by kernel_rfl) (by kernel_rfl) (by kernel_rfl) (fun _ _ _ h => h) (Or.inl ⟨by rfl, ?_⟩) (by assumption) ?_
 rotate_left
 ·
  intro w' hSw; (try dsimp only at hSw); first | (go_simp; done) | (go_simp; with_reducible rfl)
 (try simp only [Act.put, Row.pB0, Row.pB1, Row.pB2])
 refine wpAnyH_take (i := 8) (oi := ⟨some 22, .move (.tmp 6), 3, "l14_route.go:61", #[⟨7, .guard⟩], some (7, true)⟩) (v := ?_) rfl (by kernel_rfl) (by kernel_rfl) (by kernel_rfl) (fun _ _ _ h => h) (Or.inl ⟨by rfl, ?_⟩) (by assumption) ?_
 rotate_left
 ·
  intro w' hSw; (try dsimp only at hSw); first | (go_simp; done) | (go_simp; with_reducible rfl)
 (try simp only [Act.put, Row.pB0, Row.pB1, Row.pB2])
 refine wpAnyH_take (i := 9) (oi := ⟨some 23, .binOp BinOp.lss 3 (.tmp 22) (.const (Value.int IntKind.i64 0)) 3, 4, "l14_route.go:61", #[⟨8, .data⟩, ⟨7, .guard⟩], some (7, true)⟩) (v := ?_) rfl (by kernel_rfl) (by kernel_rfl) (by kernel_rfl) (fun _ _ _ h => h) (Or.inl ⟨by rfl, ?_⟩) (by assumption) ?_
 rotate_left
 ·
  intro w' hSw; (try dsimp only at hSw); first | (go_simp; done) | (go_simp; with_reducible rfl)
 (try simp only [Act.put, Row.pB0, Row.pB1, Row.pB2])
 refine wpAnyH_take (i := 10) (oi := ⟨some 24, .move (.tmp 23), 4, "l14_route.go:61", #[⟨9, .data⟩, ⟨7, .chain⟩, ⟨7, .guard⟩], some (7, true)⟩) (v := ?_) rfl (by kernel_rfl) (by kernel_rfl) (by kernel_rfl) (fun _ _ _ h => h) (Or.inl ⟨by rfl, ?_⟩) (by assumption) ?_
 rotate_left
 ·
  intro w' hSw; (try dsimp only at hSw); first | (go_simp; done) | (go_simp; with_reducible rfl)
 (try simp only [Act.put, Row.pB0, Row.pB1, Row.pB2])
 refine wpAnyH_take (i := 11) (oi := ⟨some 25, .move (.tmp 0), 30, "l14_route.go:61", #[⟨10, .guard⟩], some (10, false)⟩) (v := undef) rfl (by kernel_rfl) (by kernel_rfl) (by kernel_rfl) (fun _ _ _ h => h) (Or.inr ⟨by rfl, rfl⟩) (by assumption) ?_
 (try simp only [Act.put, Row.pB0, Row.pB1, Row.pB2])
 refine wpAnyH_take (i := 12) (oi := ⟨some 26, .move (.tmp 7), 3, "l14_route.go:61", #[⟨10, .guard⟩], some (10, false)⟩) (v := undef) rfl (by kernel_rfl) (by kernel_rfl) (by kernel_rfl) (fun _ _ _ h => h) (Or.inr ⟨by rfl, rfl⟩) (by assumption) ?_
 (try simp only [Act.put, Row.pB0, Row.pB1, Row.pB2])
 refine wpAnyH_take (i := 13) (oi := ⟨some 27, .indexAddr 30 (.tmp 25) (.tmp 26), 0, "l14_route.go:61", #[⟨11, .data⟩, ⟨12, .data⟩, ⟨10, .guard⟩], some (10, false)⟩) (v := undef) rfl (by kernel_rfl) (by kernel_rfl) (by kernel_rfl) (fun _ _ _ h => h) (Or.inr ⟨by rfl, rfl⟩) (by assumption) ?_
 (try simp only [Act.put, Row.pB0, Row.pB1, Row.pB2])
 refine wpAnyH_take (i := 14) (oi := ⟨some 28, .fieldAddr 49 (.tmp 27) 0, 0, "l14_route.go:61", #[⟨13, .data⟩, ⟨10, .guard⟩], some (10, false)⟩) (v := undef) rfl (by kernel_rfl) (by kernel_rfl) (by kernel_rfl) (fun _ _ _ h => h) (Or.inr ⟨by rfl, rfl⟩) (by assumption) ?_
 (try simp only [Act.put, Row.pB0, Row.pB1, Row.pB2])
 refine wpAnyH_take (i := 15) (oi := ⟨some 29, .fieldAddr 32 (.tmp 28) 0, 0, "l14_route.go:61", #[⟨14, .data⟩, ⟨10, .guard⟩], some (10, false)⟩) (v := undef) rfl (by kernel_rfl) (by kernel_rfl) (by kernel_rfl) (fun _ _ _ h => h) (Or.inr ⟨by rfl, rfl⟩) (by assumption) ?_
 (try simp only [Act.put, Row.pB0, Row.pB1, Row.pB2])
 refine wpAnyH_take (i := 16) (oi := ⟨some 30, .load 23 (.tmp 29), 23, "l14_route.go:61", #[⟨15, .data⟩, ⟨10, .guard⟩], some (10, false)⟩) (v := undef) rfl (by kernel_rfl) (by kernel_rfl) (by kernel_rfl) (fun _ _ _ h => h) (Or.inr ⟨by rfl, rfl⟩) (by assumption) ?_
 (try simp only [Act.put, Row.pB0, Row.pB1, Row.pB2])
 refine wpAnyH_take (i := 17) (oi := ⟨some 31, .call ⟨.builtin .len, #[.tmp 30], #[23]⟩, 3, "l14_route.go:61", #[⟨16, .data⟩, ⟨10, .guard⟩], some (10, false)⟩) (v := undef) rfl (by kernel_rfl) (by kernel_rfl) (by kernel_rfl) (fun _ _ _ h => h) (Or.inr ⟨by rfl, rfl⟩) (by assumption) ?_
 (try simp only [Act.put, Row.pB0, Row.pB1, Row.pB2])
 refine wpAnyH_take (i := 18) (oi := ⟨some 32, .move (.tmp 0), 30, "l14_route.go:61", #[⟨10, .guard⟩], some (10, false)⟩) (v := undef) rfl (by kernel_rfl) (by kernel_rfl) (by kernel_rfl) (fun _ _ _ h => h) (Or.inr ⟨by rfl, rfl⟩) (by assumption) ?_
 (try simp only [Act.put, Row.pB0, Row.pB1, Row.pB2])
 refine wpAnyH_take (i := 19) (oi := ⟨some 33, .move (.tmp 6), 3, "l14_route.go:61", #[⟨10, .guard⟩], some (10, false)⟩) (v := undef) rfl (by kernel_rfl) (by kernel_rfl) (by kernel_rfl) (fun _ _ _ h => h) (Or.inr ⟨by rfl, rfl⟩) (by assumption) ?_
 (try simp only [Act.put, Row.pB0, Row.pB1, Row.pB2])
 refine wpAnyH_take (i := 20) (oi := ⟨some 34, .indexAddr 30 (.tmp 32) (.tmp 33), 0, "l14_route.go:61", #[⟨18, .data⟩, ⟨19, .data⟩, ⟨10, .guard⟩], some (10, false)⟩) (v := undef) rfl (by kernel_rfl) (by kernel_rfl) (by kernel_rfl) (fun _ _ _ h => h) (Or.inr ⟨by rfl, rfl⟩) (by assumption) ?_
 (try simp only [Act.put, Row.pB0, Row.pB1, Row.pB2])
 refine wpAnyH_take (i := 21) (oi := ⟨some 35, .fieldAddr 49 (.tmp 34) 0, 0, "l14_route.go:61", #[⟨20, .data⟩, ⟨10, .guard⟩], some (10, false)⟩) (v := undef) rfl (by kernel_rfl) (by kernel_rfl) (by kernel_rfl) (fun _ _ _ h => h) (Or.inr ⟨by rfl, rfl⟩) (by assumption) ?_
 (try simp only [Act.put, Row.pB0, Row.pB1, Row.pB2])
 refine wpAnyH_take (i := 22) (oi := ⟨some 36, .fieldAddr 32 (.tmp 35) 0, 0, "l14_route.go:61", #[⟨21, .data⟩, ⟨10, .guard⟩], some (10, false)⟩) (v := undef) rfl (by kernel_rfl) (by kernel_rfl) (by kernel_rfl) (fun _ _ _ h => h) (Or.inr ⟨by rfl, rfl⟩) (by assumption) ?_
 (try simp only [Act.put, Row.pB0, Row.pB1, Row.pB2])
 refine wpAnyH_take (i := 23) (oi := ⟨some 37, .load 23 (.tmp 36), 23, "l14_route.go:61", #[⟨22, .data⟩, ⟨10, .guard⟩], some (10, false)⟩) (v := undef) rfl (by kernel_rfl) (by kernel_rfl) (by kernel_rfl) (fun _ _ _ h => h) (Or.inr ⟨by rfl, rfl⟩) (by assumption) ?_
 (try simp only [Act.put, Row.pB0, Row.pB1, Row.pB2])
 refine wpAnyH_take (i := 24) (oi := ⟨some 38, .call ⟨.builtin .len, #[.tmp 37], #[23]⟩, 3, "l14_route.go:61", #[⟨23, .data⟩, ⟨10, .guard⟩], some (10, false)⟩) (v := undef) rfl (by kernel_rfl) (by kernel_rfl) (by kernel_rfl) (fun _ _ _ h => h) (Or.inr ⟨by rfl, rfl⟩) (by assumption) ?_
 (try simp only [Act.put, Row.pB0, Row.pB1, Row.pB2])
 refine wpAnyH_take (i := 25) (oi := ⟨some 39, .binOp BinOp.gtr 3 (.tmp 31) (.tmp 38) 3, 4, "l14_route.go:61", #[⟨17, .data⟩, ⟨24, .data⟩, ⟨10, .guard⟩], some (10, false)⟩) (v := undef) rfl (by kernel_rfl) (by kernel_rfl) (by kernel_rfl) (fun _ _ _ h => h) (Or.inr ⟨by rfl, rfl⟩) (by assumption) ?_
 (try simp only [Act.put, Row.pB0, Row.pB1, Row.pB2])
 refine wpAnyH_take (i := 26) (oi := ⟨some 40, .pick (.tmp 24) (.const (Value.bool true)) (.tmp 39), 4, "l14_route.go:61", #[⟨10, .data⟩, ⟨25, .data⟩, ⟨7, .guard⟩], some (7, true)⟩) (v := ?_) rfl (by kernel_rfl) (by kernel_rfl) (by kernel_rfl) (fun _ _ _ h => h) (Or.inl ⟨by rfl, ?_⟩) (by assumption) ?_
 rotate_left
 ·
  intro w' hSw; (try dsimp only at hSw); first | (go_simp; done) | (go_simp; with_reducible rfl)
 (try simp only [Act.put, Row.pB0, Row.pB1, Row.pB2])
 refine wpAnyH_take (i := 27) (oi := ⟨some 41, .pick (.tmp 21) (.tmp 40) (.const (Value.bool false)), 4, "l14_route.go:61", #[⟨7, .data⟩, ⟨26, .data⟩], none⟩) (v := ?_) rfl (by kernel_rfl) (by kernel_rfl) (by kernel_rfl) (fun _ _ _ h => h) (Or.inl ⟨by rfl, ?_⟩) (by assumption) ?_
 rotate_left
 ·
  intro w' hSw; (try dsimp only at hSw); first | (go_simp; done) | (go_simp; with_reducible rfl)
 (try simp only [Act.put, Row.pB0, Row.pB1, Row.pB2])
 refine wpAnyH_done (by kernel_rfl) ?_ _
 exact NoPanic.normal (HQ.out _ _ _ _ _ _ _ _ _ _ _ _ _ _ _ _ _ _ _ _ _ _ _ _ _ _ _  _  BB.out)
set_option maxRecDepth 100000 in
set_option maxHeartbeats 4000000 in
theorem rmp2 {Q : Exit → Act → World → Prop} {v1 v2 v4 v5 v8 v9 v10 v11 v12 v13 v14 v15 v16 v17 v18 v19 v20 v21 v22 v23 v24 v25 v26 v27 v28 v29 v30 v31 v32 v33 v34 v35 v36 v37 v38 v39 v40 v41 v42 v43 v44 v45 v46 v47 v48 v49 v50 v51 : Value} {w : World} {b off n c g k na ca : Nat} {xa : Option Addr} {a m : List ByteArray} {xn : Option Addr} {nn cn : Nat} {j nj cj : Nat} {xj : Option Addr} (hk : k < n) (hj : j < n) (hjc : j ≤ c) (tj : decide ((j : Int) < 0) = false) (hkc : k ≤ c) (hn : n ≤ 9000000) (HZ : Hid (hpB m a = true)) (H_a : Hid (kN.At w (.agg #[.slice xa na ca]) a)) (H_m : Hid (kN.At w (.agg #[.slice xn nn cn]) m)) (HAB : Hid (bulk a ≤ 1200000)) (HMB : Hid (bulk m ≤ 1200000)) (K0 : Hid (w.cell? ⟨g, 0, none⟩ = some (.slice xn nn cn))) (K1 : Hid (w.cell? ⟨b, off + k * 3, none⟩ = some (.slice xa na ca))) (K2 : Hid (w.cell? ⟨b, off + j * 3, none⟩ = some (.slice xj nj cj)))
  (hQ : ∀ (u14 u15 u16 u17 u18 u19 u20 u21 u22 u23 u24 u25 u26 u27 u28 u29 u30 u31 u32 u33 u34 u35 u36 u37 u38 u39 u40 : Value)  (wx : World), Below w.heap.size w wx → Q .normal ⟨#[.slice (some ⟨b, off, none⟩) n c, v1, v2, .pointer (some ⟨g, 0, none⟩), v4, v5, .int .i64 j, .int .i64 k, v8, v9, v10, v11, v12, v13, u14, u15, u16, u17, u18, u19, u20, u21, u22, u23, u24, u25, u26, u27, u28, u29, u30, u31, u32, u33, u34, u35, u36, u37, u38, u39, u40, .bool (decide (nj < na)), v42, v43, v44, v45, v46, v47, v48, v49, v50, v51], []⟩ wx) :
  (Code.region 5 #[⟨some 14, .load 32 (.tmp 3), 32, "l14_route.go:61", #[], none⟩,
   ⟨some 15, .move (.tmp 0), 30, "l14_route.go:61", #[], none⟩,
   ⟨some 16, .move (.tmp 7), 3, "l14_route.go:61", #[], none⟩,
   ⟨some 17, .indexAddr 30 (.tmp 15) (.tmp 16), 0, "l14_route.go:61", #[⟨1, .data⟩, ⟨2, .data⟩], none⟩,
   ⟨some 18, .fieldAddr 49 (.tmp 17) 0, 0, "l14_route.go:61", #[⟨3, .data⟩], none⟩,
   ⟨some 19, .load 32 (.tmp 18), 32, "l14_route.go:61", #[⟨4, .data⟩], none⟩,
   ⟨some 20, .call ⟨.value (.func 37), #[.tmp 14, .tmp 19], #[32, 32]⟩, 4, "l14_route.go:61", #[⟨0, .data⟩, ⟨5, .data⟩], none⟩,
   ⟨some 21, .move (.tmp 20), 4, "l14_route.go:61", #[⟨6, .data⟩, ⟨6, .chain⟩], none⟩,
   ⟨some 22, .move (.tmp 6), 3, "l14_route.go:61", #[⟨7, .guard⟩], some (7, true)⟩,
   ⟨some 23, .binOp BinOp.lss 3 (.tmp 22) (.const (Value.int IntKind.i64 0)) 3, 4, "l14_route.go:61", #[⟨8, .data⟩, ⟨7, .guard⟩], some (7, true)⟩,
   ⟨some 24, .move (.tmp 23), 4, "l14_route.go:61", #[⟨9, .data⟩, ⟨7, .chain⟩, ⟨7, .guard⟩], some (7, true)⟩,
   ⟨some 25, .move (.tmp 0), 30, "l14_route.go:61", #[⟨10, .guard⟩], some (10, false)⟩,
   ⟨some 26, .move (.tmp 7), 3, "l14_route.go:61", #[⟨10, .guard⟩], some (10, false)⟩,
   ⟨some 27, .indexAddr 30 (.tmp 25) (.tmp 26), 0, "l14_route.go:61", #[⟨11, .data⟩, ⟨12, .data⟩, ⟨10, .guard⟩], some (10, false)⟩,
   ⟨some 28, .fieldAddr 49 (.tmp 27) 0, 0, "l14_route.go:61", #[⟨13, .data⟩, ⟨10, .guard⟩], some (10, false)⟩,
   ⟨some 29, .fieldAddr 32 (.tmp 28) 0, 0, "l14_route.go:61", #[⟨14, .data⟩, ⟨10, .guard⟩], some (10, false)⟩,
   ⟨some 30, .load 23 (.tmp 29), 23, "l14_route.go:61", #[⟨15, .data⟩, ⟨10, .guard⟩], some (10, false)⟩,
   ⟨some 31, .call ⟨.builtin .len, #[.tmp 30], #[23]⟩, 3, "l14_route.go:61", #[⟨16, .data⟩, ⟨10, .guard⟩], some (10, false)⟩,
   ⟨some 32, .move (.tmp 0), 30, "l14_route.go:61", #[⟨10, .guard⟩], some (10, false)⟩,
   ⟨some 33, .move (.tmp 6), 3, "l14_route.go:61", #[⟨10, .guard⟩], some (10, false)⟩,
   ⟨some 34, .indexAddr 30 (.tmp 32) (.tmp 33), 0, "l14_route.go:61", #[⟨18, .data⟩, ⟨19, .data⟩, ⟨10, .guard⟩], some (10, false)⟩,
   ⟨some 35, .fieldAddr 49 (.tmp 34) 0, 0, "l14_route.go:61", #[⟨20, .data⟩, ⟨10, .guard⟩], some (10, false)⟩,
   ⟨some 36, .fieldAddr 32 (.tmp 35) 0, 0, "l14_route.go:61", #[⟨21, .data⟩, ⟨10, .guard⟩], some (10, false)⟩,
   ⟨some 37, .load 23 (.tmp 36), 23, "l14_route.go:61", #[⟨22, .data⟩, ⟨10, .guard⟩], some (10, false)⟩,
   ⟨some 38, .call ⟨.builtin .len, #[.tmp 37], #[23]⟩, 3, "l14_route.go:61", #[⟨23, .data⟩, ⟨10, .guard⟩], some (10, false)⟩,
   ⟨some 39, .binOp BinOp.gtr 3 (.tmp 31) (.tmp 38) 3, 4, "l14_route.go:61", #[⟨17, .data⟩, ⟨24, .data⟩, ⟨10, .guard⟩], some (10, false)⟩,
   ⟨some 40, .pick (.tmp 24) (.const (Value.bool true)) (.tmp 39), 4, "l14_route.go:61", #[⟨10, .data⟩, ⟨25, .data⟩, ⟨7, .guard⟩], some (7, true)⟩,
   ⟨some 41, .pick (.tmp 21) (.tmp 40) (.const (Value.bool false)), 4, "l14_route.go:61", #[⟨7, .data⟩, ⟨26, .data⟩], none⟩] true).wp Try.prog Q ⟨#[.slice (some ⟨b, off, none⟩) n c, v1, v2, .pointer (some ⟨g, 0, none⟩), v4, v5, .int .i64 j, .int .i64 k, v8, v9, v10, v11, v12, v13, v14, v15, v16, v17, v18, v19, v20, v21, v22, v23, v24, v25, v26, v27, v28, v29, v30, v31, v32, v33, v34, v35, v36, v37, v38, v39, v40, v41, v42, v43, v44, v45, v46, v47, v48, v49, v50, v51], []⟩ w := by
 have HQ := Lib.hid hQ; clear hQ
 have hdr : Below w.heap.size w w.drew := (Below.refl _ _).drew
 have BB := Lib.hid hdr
 refine wp_region_noPanic ?_
 refine wp_region_held_drew (S := (fun w' => w'.cell? ⟨g, 0, none⟩ = some (.slice xn nn cn) ∧ w'.cell? ⟨b, off + k * 3, none⟩ = some (.slice xa na ca) ∧ w'.cell? ⟨b, off + j * 3, none⟩ = some (.slice xj nj cj))) (by kernel_rfl) ?_ (fun hHeld => ?_)
 ·
  exact ⟨kc K0.out BB.out, kc K1.out BB.out, kc K2.out BB.out⟩
 clear hdr
 generalize w.drew = wd at *
 refine wpAnyH_take (i := 0) (oi := ⟨some 14, .load 32 (.tmp 3), 32, "l14_route.go:61", #[], none⟩) (v := ?_) rfl (by kernel_rfl) (by kernel_rfl) (by kernel_rfl) (fun _ _ _ h => h) (Or.inl ⟨by rfl, ?_⟩) (by assumption) ?_
 rotate_left
 ·
  intro w' hSw; (try dsimp only at hSw); first | (go_simp; done) | (go_simp; with_reducible rfl)
 (try simp only [Act.put, Row.pB0, Row.pB1, Row.pB2])
 refine wpAnyH_take (i := 1) (oi := ⟨some 15, .move (.tmp 0), 30, "l14_route.go:61", #[], none⟩) (v := ?_) rfl (by kernel_rfl) (by kernel_rfl) (by kernel_rfl) (fun _ _ _ h => h) (Or.inl ⟨by rfl, ?_⟩) (by assumption) ?_
 rotate_left
 ·
  intro w' hSw; (try dsimp only at hSw); first | (go_simp; done) | (go_simp; with_reducible rfl)
 (try simp only [Act.put, Row.pB0, Row.pB1, Row.pB2])
 refine wpAnyH_take (i := 2) (oi := ⟨some 16, .move (.tmp 7), 3, "l14_route.go:61", #[], none⟩) (v := ?_) rfl (by kernel_rfl) (by kernel_rfl) (by kernel_rfl) (fun _ _ _ h => h) (Or.inl ⟨by rfl, ?_⟩) (by assumption) ?_
 rotate_left
 ·
  intro w' hSw; (try dsimp only at hSw); first | (go_simp; done) | (go_simp; with_reducible rfl)
 (try simp only [Act.put, Row.pB0, Row.pB1, Row.pB2])
 refine wpAnyH_take (i := 3) (oi := ⟨some 17, .indexAddr 30 (.tmp 15) (.tmp 16), 0, "l14_route.go:61", #[⟨1, .data⟩, ⟨2, .data⟩], none⟩) (v := ?_) rfl (by kernel_rfl) (by kernel_rfl) (by kernel_rfl) (fun _ _ _ h => h) (Or.inl ⟨by rfl, ?_⟩) (by assumption) ?_
 rotate_left
 ·
  intro w' hSw; (try dsimp only at hSw); first | (go_simp; done) | (go_simp; with_reducible rfl)
 (try simp only [Act.put, Row.pB0, Row.pB1, Row.pB2])
 refine wpAnyH_take (i := 4) (oi := ⟨some 18, .fieldAddr 49 (.tmp 17) 0, 0, "l14_route.go:61", #[⟨3, .data⟩], none⟩) (v := ?_) rfl (by kernel_rfl) (by kernel_rfl) (by kernel_rfl) (fun _ _ _ h => h) (Or.inl ⟨by rfl, ?_⟩) (by assumption) ?_
 rotate_left
 ·
  intro w' hSw; (try dsimp only at hSw); first | (go_simp; done) | (go_simp; with_reducible rfl)
 (try simp only [Act.put, Row.pB0, Row.pB1, Row.pB2])
 refine wpAnyH_take (i := 5) (oi := ⟨some 19, .load 32 (.tmp 18), 32, "l14_route.go:61", #[⟨4, .data⟩], none⟩) (v := ?_) rfl (by kernel_rfl) (by kernel_rfl) (by kernel_rfl) (fun _ _ _ h => h) (Or.inl ⟨by rfl, ?_⟩) (by assumption) ?_
 rotate_left
 ·
  intro w' hSw; (try dsimp only at hSw); first | (go_simp; done) | (go_simp; with_reducible rfl)
 (try simp only [Act.put, Row.pB0, Row.pB1, Row.pB2])
 refine wpAnyH_ready (rs := [6]) (by kernel_rfl) (by simp) ?_
 refine AllReadyH.cons (o := ⟨some 20, .call ⟨.value (.func 37), #[.tmp 14, .tmp 19], #[32, 32]⟩, 4, "l14_route.go:61", #[⟨0, .data⟩, ⟨5, .data⟩], none⟩) rfl (fun K hK => ?_) AllReadyH.nil
 go_simp
 refine (sHpN true HZ.out (H_m.out.on BB.out) (H_a.out.on BB.out) (Nat.le_trans HMB.out (by decide)) (Nat.le_trans HAB.out (by decide))).mono ?_
 rintro e wn1 ⟨rfl, hb⟩
 replace BB := Lib.hid (BB.out.trans (hb.mono BB.out.size))
 clear hb
 (try go_wp2_with fail)
 clear hHeld
 refine hK.out _ _ ?_ (fun hHeld => ?_)
 ·
  (try dsimp only); exact ⟨kc K0.out BB.out, kc K1.out BB.out, kc K2.out BB.out⟩
 clear hK K
 (try simp only [Act.put, Row.pB0, Row.pB1, Row.pB2])
 refine wpAnyH_take (i := 7) (oi := ⟨some 21, .move (.tmp 20), 4, "l14_route.go:61", #[⟨6, .data⟩, ⟨6, .chain⟩], none⟩) (v := ?_) rfl (by kernel_rfl) (by kernel_rfl) (by kernel_rfl) (fun _ _ _ h => h) (Or.inl ⟨by rfl, ?_⟩) (by assumption) ?_
 rotate_left
 ·
  intro w' hSw; (try dsimp only at hSw); first | (go_simp; done) | (go_simp; with_reducible rfl)
 (try simp only [Act.put, Row.pB0, Row.pB1, Row.pB2])
 refine wpAnyH_take (i := 8) (oi := ⟨some 22, .move (.tmp 6), 3, "l14_route.go:61", #[⟨7, .guard⟩], some (7, true)⟩) (v := ?_) rfl (by kernel_rfl) (by kernel_rfl) (by kernel_rfl) (fun _ _ _ h => h) (Or.inl ⟨by rfl, ?_⟩) (by assumption) ?_
 rotate_left
 ·
  intro w' hSw; (try dsimp only at hSw); first | (go_simp; done) | (go_simp; with_reducible rfl)
 (try simp only [Act.put, Row.pB0, Row.pB1, Row.pB2])
 refine wpAnyH_take (i := 9) (oi := ⟨some 23, .binOp BinOp.lss 3 (.tmp 22) (.const (Value.int IntKind.i64 0)) 3, 4, "l14_route.go:61", #[⟨8, .data⟩, ⟨7, .guard⟩], some (7, true)⟩) (v := ?_) rfl (by kernel_rfl) (by kernel_rfl) (by kernel_rfl) (fun _ _ _ h => h) (Or.inl ⟨by rfl, ?_⟩) (by assumption) ?_
 rotate_left
 ·
  intro w' hSw; (try dsimp only at hSw); first | (go_simp; done) | (go_simp; with_reducible rfl)
 (try simp only [Act.put, Row.pB0, Row.pB1, Row.pB2])
 refine wpAnyH_take (i := 10) (oi := ⟨some 24, .move (.tmp 23), 4, "l14_route.go:61", #[⟨9, .data⟩, ⟨7, .chain⟩, ⟨7, .guard⟩], some (7, true)⟩) (v := ?_) rfl (by kernel_rfl) (by kernel_rfl) (by kernel_rfl) (fun _ _ _ h => h) (Or.inl ⟨by rfl, ?_⟩) (by assumption) ?_
 rotate_left
 ·
  intro w' hSw; (try dsimp only at hSw); first | (go_simp; done) | (go_simp; with_reducible rfl)
 (try simp only [Act.put, Row.pB0, Row.pB1, Row.pB2])
 refine wpAnyH_take (i := 11) (oi := ⟨some 25, .move (.tmp 0), 30, "l14_route.go:61", #[⟨10, .guard⟩], some (10, false)⟩) (v := ?_) rfl (by kernel_rfl) (by kernel_rfl) (by kernel_rfl) (fun _ _ _ h => h) (Or.inl ⟨by rfl, ?_⟩) (by assumption) ?_
 rotate_left
 ·
  intro w' hSw; (try dsimp only at hSw); first | (go_simp; done) | (go_simp; with_reducible rfl)
 (try simp only [Act.put, Row.pB0, Row.pB1, Row.pB2])
 refine wpAnyH_take (i := 12) (oi := ⟨some 26, .move (.tmp 7), 3, "l14_route.go:61", #[⟨10, .guard⟩], some (10, false)⟩) (v := ?_) rfl (by kernel_rfl) (by kernel_rfl) (by kernel_rfl) (fun _ _ _ h => h) (Or.inl ⟨by rfl, ?_⟩) (by assumption) ?_
 rotate_left
 ·
  intro w' hSw; (try dsimp only at hSw); first | (go_simp; done) | (go_simp; with_reducible rfl)
 (try simp only [Act.put, Row.pB0, Row.pB1, Row.pB2])
 refine wpAnyH_take (i := 13) (oi := ⟨some 27, .indexAddr 30 (.tmp 25) (.tmp 26), 0, "l14_route.go:61", #[⟨11, .data⟩, ⟨12, .data⟩, ⟨10, .guard⟩], some (10, false)⟩) (v := ?_) rfl (by kernel_rfl) (by kernel_rfl) (by kernel_rfl) (fun _ _ _ h => h) (Or.inl ⟨by rfl, ?_⟩) (by assumption) ?_
 rotate_left
 ·
  intro w' hSw; (try dsimp only at hSw); first | (go_simp; done) | (go_simp; with_reducible rfl)
 (try simp only [Act.put, Row.pB0, Row.pB1, Row.pB2])
 refine wpAnyH_take (i := 14) (oi := ⟨some 28, .fieldAddr 49 (.tmp 27) 0, 0, "l14_route.go:61", #[⟨13, .data⟩, ⟨10, .guard⟩], some (10, false)⟩) (v := ?_) rfl (by kernel_rfl) (by kernel_rfl) (by kernel_rfl) (fun _ _ _ h => h) (Or.inl ⟨by rfl, ?_⟩) (by assumption) ?_
 rotate_left
 ·
  intro w' hSw; (try dsimp only at hSw); first | (go_simp; done) | (go_simp; with_reducible rfl)
 (try simp only [Act.put, Row.pB0, Row.pB1, Row.pB2])
 refine wpAnyH_take (i := 15) (oi := ⟨some 29, .fieldAddr 32 (.tmp 28) 0, 0, "l14_route.go:61", #[⟨14, .data⟩, ⟨10, .guard⟩], some (10, false)⟩) (v := ?_) rfl (by kernel_rfl) (by kernel_rfl) (by kernel_rfl) (fun _ _ _ h => h) (Or.inl ⟨by rfl, ?_⟩) (by assumption) ?_
 rotate_left
 ·
  intro w' hSw; (try dsimp only at hSw); first | (go_simp; done) | (go_simp; with_reducible rfl)
 (try simp only [Act.put, Row.pB0, Row.pB1, Row.pB2])
 refine wpAnyH_take (i := 16) (oi := ⟨some 30, .load 23 (.tmp 29), 23, "l14_route.go:61", #[⟨15, .data⟩, ⟨10, .guard⟩], some (10, false)⟩) (v := ?_) rfl (by kernel_rfl) (by kernel_rfl) (by kernel_rfl) (fun _ _ _ h => h) (Or.inl ⟨by rfl, ?_⟩) (by assumption) ?_
 rotate_left
 ·
  intro w' hSw; (try dsimp only at hSw); first | (go_simp; done) | (go_simp; with_reducible rfl)
 (try simp only [Act.put, Row.pB0, Row.pB1, Row.pB2])
 refine wpAnyH_take (i := 17) (oi := ⟨some 31, .call ⟨.builtin .len, #[.tmp 30], #[23]⟩, 3, "l14_route.go:61", #[⟨16, .data⟩, ⟨10, .guard⟩], some (10, false)⟩) (v := ?_) rfl (by kernel_rfl) (by kernel_rfl) (by kernel_rfl) (fun _ _ _ h => h) (Or.inl ⟨by rfl, ?_⟩) (by assumption) ?_
 rotate_left
 ·
  intro w' hSw; (try dsimp only at hSw); first | (go_simp; done) | (go_simp; with_reducible rfl)
 (try simp only [Act.put, Row.pB0, Row.pB1, Row.pB2])
 refine wpAnyH_take (i := 18) (oi := ⟨some 32, .move (.tmp 0), 30, "l14_route.go:61", #[⟨10, .guard⟩], some (10, false)⟩) (v := ?_) rfl (by kernel_rfl) (by kernel_rfl) (by kernel_rfl) (fun _ _ _ h => h) (Or.inl ⟨by rfl, ?_⟩) (by assumption) ?_
 rotate_left
 ·
  intro w' hSw; (try dsimp only at hSw); first | (go_simp; done) | (go_simp; with_reducible rfl)
 (try simp only [Act.put, Row.pB0, Row.pB1, Row.pB2])
 refine wpAnyH_take (i := 19) (oi := ⟨some 33, .move (.tmp 6), 3, "l14_route.go:61", #[⟨10, .guard⟩], some (10, false)⟩) (v := ?_) rfl (by kernel_rfl) (by kernel_rfl) (by kernel_rfl) (fun _ _ _ h => h) (Or.inl ⟨by rfl, ?_⟩) (by assumption) ?_
 rotate_left
 ·
  intro w' hSw; (try dsimp only at hSw); first | (go_simp; done) | (go_simp; with_reducible rfl)
 (try simp only [Act.put, Row.pB0, Row.pB1, Row.pB2])
 refine wpAnyH_take (i := 20) (oi := ⟨some 34, .indexAddr 30 (.tmp 32) (.tmp 33), 0, "l14_route.go:61", #[⟨18, .data⟩, ⟨19, .data⟩, ⟨10, .guard⟩], some (10, false)⟩) (v := ?_) rfl (by kernel_rfl) (by kernel_rfl) (by kernel_rfl) (fun _ _ _ h => h) (Or.inl ⟨by rfl, ?_⟩) (by assumption) ?_
 rotate_left
 ·
  intro w' hSw; (try dsimp only at hSw); first | (go_simp; done) | (go_simp; with_reducible rfl)
 (try simp only [Act.put, Row.pB0, Row.pB1, Row.pB2])
 refine wpAnyH_take (i := 21) (oi := ⟨some 35, .fieldAddr 49 (.tmp 34) 0, 0, "l14_route.go:61", #[⟨20, .data⟩, ⟨10, .guard⟩], some (10, false)⟩) (v := ?_) rfl (by kernel_rfl) (by kernel_rfl) (by kernel_rfl) (fun _ _ _ h => h) (Or.inl ⟨by rfl, ?_⟩) (by assumption) ?_
 rotate_left
 ·
  intro w' hSw; (try dsimp only at hSw); first | (go_simp; done) | (go_simp; with_reducible rfl)
 (try simp only [Act.put, Row.pB0, Row.pB1, Row.pB2])
 refine wpAnyH_take (i := 22) (oi := ⟨some 36, .fieldAddr 32 (.tmp 35) 0, 0, "l14_route.go:61", #[⟨21, .data⟩, ⟨10, .guard⟩], some (10, false)⟩) (v := ?_) rfl (by kernel_rfl) (by kernel_rfl) (by kernel_rfl) (fun _ _ _ h => h) (Or.inl ⟨by rfl, ?_⟩) (by assumption) ?_
 rotate_left
 ·
  intro w' hSw; (try dsimp only at hSw); first | (go_simp; done) | (go_simp; with_reducible rfl)
 (try simp only [Act.put, Row.pB0, Row.pB1, Row.pB2])
 refine wpAnyH_take (i := 23) (oi := ⟨some 37, .load 23 (.tmp 36), 23, "l14_route.go:61", #[⟨22, .data⟩, ⟨10, .guard⟩], some (10, false)⟩) (v := ?_) rfl (by kernel_rfl) (by kernel_rfl) (by kernel_rfl) (fun _ _ _ h => h) (Or.inl ⟨by rfl, ?_⟩) (by assumption) ?_
 rotate_left
 ·
  intro w' hSw; (try dsimp only at hSw); first | (go_simp; done) | (go_simp; with_reducible rfl)
 (try simp only [Act.put, Row.pB0, Row.pB1, Row.pB2])
 refine wpAnyH_take (i := 24) (oi := ⟨some 38, .call ⟨.builtin .len, #[.tmp 37], #[23]⟩, 3, "l14_route.go:61", #[⟨23, .data⟩, ⟨10, .guard⟩], some (10, false)⟩) (v := ?_) rfl (by kernel_rfl) (by kernel_rfl) (by kernel_rfl) (fun _ _ _ h => h) (Or.inl ⟨by rfl, ?_⟩) (by assumption) ?_
 rotate_left
 ·
  intro w' hSw; (try dsimp only at hSw); first | (go_simp; done) | (go_simp; with_reducible rfl)
 (try simp only [Act.put, Row.pB0, Row.pB1, Row.pB2])
 refine wpAnyH_take (i := 25) (oi := ⟨some 39, .binOp BinOp.gtr 3 (.tmp 31) (.tmp 38) 3, 4, "l14_route.go:61", #[⟨17, .data⟩, ⟨24, .data⟩, ⟨10, .guard⟩], some (10, false)⟩) (v := ?_) rfl (by kernel_rfl) (by kernel_rfl) (by kernel_rfl) (fun _ _ _ h => h) (Or.inl ⟨by rfl, ?_⟩) (by assumption) ?_
 rotate_left
 ·
  intro w' hSw; (try dsimp only at hSw); first | (go_simp; done) | (go_simp; with_reducible rfl)
 (try simp only [Act.put, Row.pB0, Row.pB1, Row.pB2])
 refine wpAnyH_take (i := 26) (oi := ⟨some 40, .pick (.tmp 24) (.const (Value.bool true)) (.tmp 39), 4, "l14_route.go:61", #[⟨10, .data⟩, ⟨25, .data⟩, ⟨7, .guard⟩], some (7, true)⟩) (v := ?_) rfl (by kernel_rfl) (by kernel_rfl) (by kernel_rfl) (fun _ _ _ h => h) (Or.inl ⟨by rfl, ?_⟩) (by assumption) ?_
 rotate_left
 ·
  intro w' hSw; (try dsimp only at hSw); first | (go_simp; done) | (go_simp; with_reducible rfl)
 (try simp only [Act.put, Row.pB0, Row.pB1, Row.pB2])
 refine wpAnyH_take (i := 27) (oi := ⟨some 41, .pick (.tmp 21) (.tmp 40) (.const (Value.bool false)), 4, "l14_route.go:61", #[⟨7, .data⟩, ⟨26, .data⟩], none⟩) (v := ?_) rfl (by kernel_rfl) (by kernel_rfl) (by kernel_rfl) (fun _ _ _ h => h) (Or.inl ⟨by rfl, ?_⟩) (by assumption) ?_
 rotate_left
 ·
  intro w' hSw; (try dsimp only at hSw); first | (go_simp; done) | (go_simp; with_reducible rfl)
 (try simp only [Act.put, Row.pB0, Row.pB1, Row.pB2])
 refine wpAnyH_done (by kernel_rfl) ?_ _
 exact NoPanic.normal (HQ.out _ _ _ _ _ _ _ _ _ _ _ _ _ _ _ _ _ _ _ _ _ _ _ _ _ _ _  _  BB.out)
set_option maxHeartbeats 8000000 in
theorem specMatchingPrefix (V U : Value) (l : List Rtt) (m : List ByteArray) (w : World) (h : kLRt.At w V l) (g : kN.At w U m) (hf : FitRt l) (hm : bulk m ≤ 1200000) :
    Calls Try.prog 22 #[V, U] w (GivesMp l m w) := by
  have hl := hf.len
  have hp := hf.each
  obtain ⟨x, n, cx, L, rfl, hn, ht, hh, hel⟩ := kLRt_at h
  have hlen : l.length = n := by rw [← ht, List.length_map]; exact hn.symm
  rw [hlen] at hl
  have hcap : n ≤ cx := by obtain ⟨x', n', cap', hv, hn', hc', -⟩ := hh.shapeN; cases hv; exact hc'
  obtain ⟨xn, nn, cn, rfl, g⟩ := kN_shapeA g
  have HG0 := Lib.hid g
  have b1 := (Below.refl w.heap.size w).alloc (Nat.le_refl _) (.cells #[.slice xn nn cn] 32)
  have b2 := b1.alloc (by simp) (.cells #[.slice none 0 0] 32)
  have HX := Lib.hid ((Ret.Blk.new w #[.slice xn nn cn] 32).on ((Below.refl _ _).alloc (Nat.le_refl _) (.cells #[.slice none 0 0] 32)))
  have HY := Lib.hid (Ret.Blk.new' (w := (w.alloc (.cells #[.slice xn nn cn] 32))) (n := w.heap.size + 1) #[.slice none 0 0] 32 (by simp))
  have HB := Lib.hid b2; have HM := Lib.hid hm
  have HN := Lib.hid hn; have HT := Lib.hid ht; have HH := Lib.hid hh; have HEL := Lib.hid hel; have HLEN := Lib.hid hlen; have HP := Lib.hid hp
  unfold GivesMp
  clear b1 b2 g hm hf hn ht hh hel hlen hp h
  go_enter Try.func22, Try.ntmps22
  go_wp2
  go_loopw [6, 7] (fun zv iv wr => ∃ k : Nat, k ≤ n ∧ iv = .int .i64 k ∧ zv = .int .i64 (mpI l m k) ∧ Hid (Ret.Blk wr w.heap.size #[.slice xn nn cn] 32) ∧ Hid (Ret.Blk wr (w.heap.size + 1) #[.slice none 0 0] 32) ∧ Hid (Below w.heap.size w wr)) (fun _ iv _ => n - (intOf iv).toNat)
  case atStart => exact ⟨0, Nat.zero_le _, rfl, rfl, HX, HY, HB⟩
  case round =>
    clear HX HY HB
    obtain ⟨k, hk, rfl, rfl, hx, hy, hb⟩ := hrel
    obtain ⟨z, hz⟩ : ∃ z, mpI l m k = z := ⟨_, rfl⟩
    have hz1 := mpI_lt l m k
    rw [hz] at hz1 ⊢
    have HZ := Lib.hid hz
    clear hz
    by_cases hlt : k < n
    · have hlen := HN.out
      obtain ⟨b, off, y0, m0, d0, rfl, -, hc0, hc1, hc2, hA⟩ := kLRt_elem HH.out (fun y hy => HEL.out y hy) (j := k) (by omega)
      have hpt : nth l k = kRt.strip (nth L k) := by rw [← HT.out, nth_map _ (by omega)]
      have hps := HP.out (nth l k) (nth_mem (by have := HLEN.out; omega))
      rw [← hpt] at hA hc1 hc2
      have hNM := kRt_parts hA
      obtain ⟨nm, rf, rc, hx⟩ : ∃ nm rf rc, nth l k = (nm, rf, rc) := ⟨_, _, _, rfl⟩
      rw [hx] at hNM hps hc1 hc2 hA
      have HNW := Lib.hid hNM; have HL0 := Lib.hid (show nm.length = m0 from kN_lenR hNM)
      have W0 := Lib.hid hc0
      replace hc0 := kc hc0 hb.out
      replace hc1 := kc hc1 hb.out
      replace hc2 := kc hc2 hb.out
      have HA := Lib.hid (hA.on hb.out); have HNM := Lib.hid (hNM.on hb.out); have HPN := Lib.hid hps; have HXE := Lib.hid hx
      simp only at hc1 hc2
      have H0 := Lib.hid hc0; have H1 := Lib.hid hc1; have H2 := Lib.hid hc2
      clear hlen hpt hps hA hNM hx
      have HGR := Lib.hid (HG0.out.on hb.out)
      obtain ⟨q, hq⟩ : ∃ q, hpB m nm = q := ⟨_, rfl⟩
      have HQ := Lib.hid hq
      have HQN := Lib.hid (show hpB m (nth l k).1 = q by rw [HXE.out]; exact hq)
      clear hq hc0 hc1 hc2
      go_wp2_with fail
      cases q with
      | false =>
        refine rmp0 hlt (by omega) (by omega) HQ HNM HGR HPN HM (Lib.hid (hx.out.cell 0)) H0 ?_
        intro u14 u15 u16 u17 u18 u19 u20 u21 u22 u23 u24 u25 u26 u27 u28 u29 u30 u31 u32 u33 u34 u35 u36 u37 u38 u39 u40 wx hbx
        have hx2 := Lib.hid (hx.out.on hbx); have hy2 := Lib.hid (hy.out.on hbx); have hb2 := Lib.hid (hb.out.trans (hbx.mono hb.out.size))
        have HE := Lib.hid (show mpI l m (k + 1) = z from (mpI_no1 HQN.out).trans HZ.out)
        clear hbx hz1
        go_wp2
        go_roundw
        case rel => exact ⟨k + 1, by omega, by go_num, by rw [HE.out], hx2, hy2, hb2⟩
        case measure => simp [intOf]; omega
      | true =>
        by_cases h0 : z < 0
        · obtain rfl : z = -1 := by omega
          refine rmp1 hlt (by omega) (by omega) HQ HNM HGR HPN HM (Lib.hid (hx.out.cell 0)) H0 ?_
          intro u14 u15 u16 u17 u18 u19 u20 u21 u22 u23 u24 u25 u26 u27 u28 u29 u30 u31 u32 u33 u34 u35 u36 u37 u38 u39 u40 wx hbx
          have hx2 := Lib.hid (hx.out.on hbx); have hy2 := Lib.hid (hy.out.on hbx); have hb2 := Lib.hid (hb.out.trans (hbx.mono hb.out.size))
          have HE := Lib.hid (show mpI l m (k + 1) = k from mpI_yes HQN.out (Or.inl (by rw [HZ.out]; omega)))
          clear hbx hz1 h0
          go_wp2
          go_roundw
          case rel => exact ⟨k + 1, by omega, by go_num, by rw [HE.out], hx2, hy2, hb2⟩
          case measure => simp [intOf]; omega
        · obtain ⟨j, rfl⟩ : ∃ j : Nat, z = (j : Int) := ⟨z.toNat, by omega⟩
          have hj : j < n := by omega
          have tj : decide ((j : Int) < 0) = false := decide_eq_false h0
          obtain ⟨b9, off9, yj, mj, dj, e9, -, hj0, -, -, hAj⟩ := kLRt_elem HH.out (fun y hy => HEL.out y hy) (j := j) (by have := HN.out; omega)
          cases e9
          have hptj : nth l j = kRt.strip (nth L j) := by rw [← HT.out, nth_map _ (by have := HN.out; omega)]
          rw [← hptj] at hAj
          have HLJ := Lib.hid (show (curM l m k).length = mj by rw [curM_pos HZ.out]; exact kN_lenR (kRt_parts hAj))
          have J0 := Lib.hid (kc hj0 hb.out)
          clear hj0 hAj hptj h0
          obtain ⟨q2, hq2⟩ : ∃ q, decide (mj < m0) = q := ⟨_, rfl⟩
          have HQ2 := Lib.hid hq2
          refine rmp2 (j := j) hlt hj (by omega) tj (by omega) (by omega) HQ HNM HGR HPN HM (Lib.hid (hx.out.cell 0)) H0 J0 ?_
          intro u14 u15 u16 u17 u18 u19 u20 u21 u22 u23 u24 u25 u26 u27 u28 u29 u30 u31 u32 u33 u34 u35 u36 u37 u38 u39 u40 wx hbx
          have hx2 := Lib.hid (hx.out.on hbx); have hy2 := Lib.hid (hy.out.on hbx); have hb2 := Lib.hid (hb.out.trans (hbx.mono hb.out.size))
          rw [hq2]
          clear hbx hz1 hq2 tj
          cases q2 with
          | true =>
            have HE := Lib.hid (show mpI l m (k + 1) = k from mpI_yes HQN.out (Or.inr (by rw [HLJ.out, HXE.out]; have h5 := of_decide_eq_true HQ2.out; have h6 := HL0.out; simp only; omega)))
            go_wp2
            go_roundw
            case rel => exact ⟨k + 1, by omega, by go_num, by rw [HE.out], hx2, hy2, hb2⟩
            case measure => simp [intOf]; omega
          | false =>
            have HE := Lib.hid (show mpI l m (k + 1) = (j : Int) from (mpI_no2 (by rw [HZ.out]; omega) (by rw [HLJ.out, HXE.out]; have h5 := of_decide_eq_false HQ2.out; have h6 := HL0.out; simp only; omega)).trans HZ.out)
            go_wp2
            go_roundw
            case rel => exact ⟨k + 1, by omega, by go_num, by rw [HE.out], hx2, hy2, hb2⟩
            case measure => simp [intOf]; omega
    · obtain rfl : k = n := by omega
      clear hlt
      have HZL := Lib.hid (show mpI l m l.length = z by rw [HLEN.out]; exact HZ.out)
      have s0 : wr.cell? ⟨w.heap.size + 1, 0, none⟩ = some (.slice none 0 0) := hy.out.cell 0
      have t0 := hy.out.frozen 0
      by_cases h0 : z < 0
      · have HE1 := Lib.hid (show mpB l m = false by unfold mpB; rw [HZL.out]; exact decide_eq_false (by omega))
        have HE2 := Lib.hid (show mpN l m = [] by unfold mpN; rw [HZL.out, if_pos h0])
        have tz : decide (z < 0) = true := decide_eq_true h0
        have Z1 := Lib.hid (hy.out.set 0 (.slice none 0 0))
        have Z3 := Lib.hid (hb.out.setCell (p := ⟨w.heap.size + 1, 0, none⟩) (by simp) (.slice none 0 0))
        clear h0 hz1
        go_wp2_with fail
        refine bodyPost_ret (Ret.results_ct rfl _ _ (w.heap.size + 1) [.slice none 0 0] rfl aggN Z1.out.cells) rfl ?_
        refine ⟨_, by rw [HE1.out]; rfl, ?_, Z3.out⟩
        rw [HE2.out]
        exact kN_mk (Own.nil _ _ _ _) (fun g hg => by cases hg)
      · obtain ⟨j, rfl⟩ : ∃ j : Nat, z = (j : Int) := ⟨z.toNat, by omega⟩
        have HE1 := Lib.hid (show mpB l m = true by unfold mpB; rw [HZL.out]; exact decide_eq_true (by omega))
        have HE2 := Lib.hid (show mpN l m = (nth l j).1 by unfold mpN; rw [HZL.out, if_neg (by omega)]; simp)
        have tz : decide ((j : Int) < 0) = false := decide_eq_false h0
        have hj : j < k := by omega
        obtain ⟨b, off, yj, mj, dj, rfl, -, hj0, -, -, hAj⟩ := kLRt_elem HH.out (fun y hy => HEL.out y hy) (j := j) (by have := HN.out; omega)
        have hptj : nth l j = kRt.strip (nth L j) := by rw [← HT.out, nth_map _ (by have := HN.out; omega)]
        rw [← hptj] at hAj
        have hps := HP.out (nth l j) (nth_mem (by have := HLEN.out; omega))
        have HNJ := Lib.hid ((kRt_parts hAj).on hb.out); have HPJ := Lib.hid hps
        replace hj0 := kc hj0 hb.out
        clear hAj hptj h0 hz1 hps
        go_wp2_with fail
        clear hj0 s0 t0
        refine (sCpyN HNJ.out (Nat.le_trans HPJ.out (by decide))).mono ?_
        rintro e w5 ⟨U, rfl, hi5, hb5⟩
        obtain ⟨m5, za, na, ea, rfl, hs5, hd5, ho5⟩ := kN_splitP hi5
        have HY5 := Lib.hid (hy.out.on hb5); have HB5 := Lib.hid (hb.out.trans (hb5.mono hb.out.size)); have HO5 := Lib.hid (ho5.mono (B' := w.heap.size + 2) (by have := hy.out.lt; omega) (Nat.le_refl _)); have HS5 := Lib.hid hs5; have HD5 := Lib.hid hd5
        clear hi5 hs5 hd5 ho5 hb5
        have s0 : w5.cell? ⟨w.heap.size + 1, 0, none⟩ = some (.slice none 0 0) := HY5.out.cell 0
        have t0 := HY5.out.frozen 0
        have Z1 := Lib.hid (HY5.out.set 0 (.slice za na ea))
        have Z2 := Lib.hid (Kd.Own.set (g := w.heap.size + 1) (i := 0) (u := .slice za na ea) HO5.out (by omega))
        have Z3 := Lib.hid (HB5.out.setCell (p := ⟨w.heap.size + 1, 0, none⟩) (by simp) (.slice za na ea))
        go_wp2_with fail
        refine bodyPost_ret (Ret.results_ct rfl _ _ (w.heap.size + 1) [.slice za na ea] rfl aggN Z1.out.cells) rfl ?_
        refine ⟨_, by rw [HE1.out]; rfl, ?_, Z3.out⟩
        rw [HE2.out, ← HS5.out, show (Value.agg [Value.slice za na ea].toArray) = kN.val m5 by show _ = Value.agg (kN.cells m5).toArray; rw [HD5.out]]
        exact (Z2.out.mono (by omega) (by rw [World.size_setCell]; exact Nat.le_refl _)).in
set_option maxHeartbeats 8000000 in
theorem implMatchingPrefix (V U : Value) (l : List Rtt) (m : List ByteArray) (w : World) (h : kLRt.At w V l) (g : kN.At w U m) (hf : FitRt l) (hm : bulk m ≤ 1200000) :
    Calls Try.prog 27 #[V, U] w (GivesMp l m w) := by
  have hl := hf.len
  have hp := hf.each
  obtain ⟨x, n, cx, L, rfl, hn, ht, hh, hel⟩ := kLRt_at h
  have hlen : l.length = n := by rw [← ht, List.length_map]; exact hn.symm
  rw [hlen] at hl
  have hcap : n ≤ cx := by obtain ⟨x', n', cap', hv, hn', hc', -⟩ := hh.shapeN; cases hv; exact hc'
  obtain ⟨xn, nn, cn, rfl, g⟩ := kN_shapeA g
  have HG0 := Lib.hid g
  have b1 := (Below.refl w.heap.size w).alloc (Nat.le_refl _) (.cells #[.slice xn nn cn] 32)
  have b2 := b1.alloc (by simp) (.cells #[.slice none 0 0] 32)
  have b3 := b2.alloc (by simp; omega) (.cells #[.slice none 0 0] 32)
  have HX := Lib.hid (((Ret.Blk.new w #[.slice xn nn cn] 32).on ((Below.refl _ _).alloc (Nat.le_refl _) (.cells #[.slice none 0 0] 32))).on ((Below.refl _ _).alloc (Nat.le_refl _) (.cells #[.slice none 0 0] 32)))
  have HY := Lib.hid ((Ret.Blk.new' (w := (w.alloc (.cells #[.slice xn nn cn] 32))) (n := w.heap.size + 1) #[.slice none 0 0] 32 (by simp)).on ((Below.refl _ _).alloc (Nat.le_refl _) (.cells #[.slice none 0 0] 32)))
  have HV := Lib.hid (Ret.Blk.new' (w := ((w.alloc (.cells #[.slice xn nn cn] 32)).alloc (.cells #[.slice none 0 0] 32))) (n := w.heap.size + 1 + 1) #[.slice none 0 0] 32 (by simp))
  have HB := Lib.hid b3; have HM := Lib.hid hm
  have HN := Lib.hid hn; have HT := Lib.hid ht; have HH := Lib.hid hh; have HEL := Lib.hid hel; have HLEN := Lib.hid hlen; have HP := Lib.hid hp
  unfold GivesMp
  clear b1 b2 b3 g hm hf hn ht hh hel hlen hp h
  go_enter Try.func27, Try.ntmps27
  go_wp2
  go_loopw [7, 13] (fun zv iv wr => ∃ k : Nat, k ≤ n ∧ iv = .int .i64 k ∧ zv = .bool (decide (0 ≤ mpI l m k)) ∧ (∃ xl nl cl, Hid (Ret.Blk wr (w.heap.size + 1 + 1) #[.slice xl nl cl] 32) ∧ Hid (kN.At w (.agg #[.slice xl nl cl]) (curM l m k))) ∧ Hid (Ret.Blk wr w.heap.size #[.slice xn nn cn] 32) ∧ Hid (Ret.Blk wr (w.heap.size + 1) #[.slice none 0 0] 32) ∧ Hid (Below w.heap.size w wr)) (fun _ iv _ => n - (intOf iv).toNat)
  case atStart => exact ⟨0, Nat.zero_le _, rfl, rfl, ⟨none, 0, 0, HV, Lib.hid (kN_nil14 w)⟩, HX, HY, HB⟩
  case round =>
    clear HX HY HB HV
    obtain ⟨k, hk, rfl, rfl, ⟨xl, nl, cl, hv, hlg⟩, hx, hy, hb⟩ := hrel
    obtain ⟨z, hz⟩ : ∃ z, mpI l m k = z := ⟨_, rfl⟩
    have hz1 := mpI_lt l m k
    rw [hz] at hz1 ⊢
    have HZ := Lib.hid hz
    have HNL := Lib.hid (show (curM l m k).length = nl from kN_lenR hlg.out)
    obtain ⟨qf, hqf⟩ : ∃ q, decide (0 ≤ z) = q := ⟨_, rfl⟩
    have HQF := Lib.hid hqf
    rw [hqf]
    clear hz hqf
    by_cases hlt : k < n
    · have hlen := HN.out
      obtain ⟨b, off, y0, m0, d0, rfl, -, hc0, hc1, hc2, hA⟩ := kLRt_elem HH.out (fun y hy => HEL.out y hy) (j := k) (by omega)
      have hpt : nth l k = kRt.strip (nth L k) := by rw [← HT.out, nth_map _ (by omega)]
      have hps := HP.out (nth l k) (nth_mem (by have := HLEN.out; omega))
      rw [← hpt] at hA hc1 hc2
      have hNM := kRt_parts hA
      obtain ⟨nm, rf, rc, hx⟩ : ∃ nm rf rc, nth l k = (nm, rf, rc) := ⟨_, _, _, rfl⟩
      rw [hx] at hNM hps hc1 hc2 hA
      have HNW := Lib.hid hNM; have HL0 := Lib.hid (show nm.length = m0 from kN_lenR hNM)
      have W0 := Lib.hid hc0
      replace hc0 := kc hc0 hb.out
      replace hc1 := kc hc1 hb.out
      replace hc2 := kc hc2 hb.out
      have HA := Lib.hid (hA.on hb.out); have HNM := Lib.hid (hNM.on hb.out); have HPN := Lib.hid hps; have HXE := Lib.hid hx
      simp only at hc1 hc2
      have H0 := Lib.hid hc0; have H1 := Lib.hid hc1; have H2 := Lib.hid hc2
      clear hlen hpt hps hA hNM hx
      have hal := (Below.refl wr.heap.size wr).alloc (Nat.le_refl _) (.cells #[.slice y0 m0 d0, .int .i64 rf, .int .i64 rc] 49)
      have HR := Lib.hid (Ret.Blk.new wr #[.slice y0 m0 d0, .int .i64 rf, .int .i64 rc] 49)
      have HGR := Lib.hid ((HG0.out.on hb.out).on hal); have HNM2 := Lib.hid (HNM.out.on hal)
      replace hx := Lib.hid (hx.out.on hal); replace hy := Lib.hid (hy.out.on hal); replace hv := Lib.hid (hv.out.on hal); have hbw := Lib.hid hb.out.size; replace hb := Lib.hid (hb.out.trans (hal.mono hb.out.size))
      obtain ⟨q, hq⟩ : ∃ q, hpB m nm = q := ⟨_, rfl⟩
      have HQ := Lib.hid hq
      have HQN := Lib.hid (show hpB m (nth l k).1 = q by rw [HXE.out]; exact hq)
      clear hq hal
      have x0_ := hx.out.cell 0; have r0_ := HR.out.cell 0
      go_wp2_with fail
      clear hc0 hc1 hc2 x0_ r0_
      refine (iHpN q HQ.out HGR.out HNM2.out (Nat.le_trans HM.out (by decide)) (Nat.le_trans HPN.out (by decide))).mono ?_
      rintro e w1 ⟨rfl, hb1⟩
      have hx1 := Lib.hid (hx.out.on hb1); have hy1 := Lib.hid (hy.out.on hb1); have hv1 := Lib.hid (hv.out.on hb1); have HR1 := Lib.hid (HR.out.on hb1); have HB1 := Lib.hid (hb.out.trans (hb1.mono hb.out.size))
      clear hb1 hx hy hv HR hb
      cases q with
      | false =>
        have HE := Lib.hid (show mpI l m (k + 1) = z from (mpI_no1 HQN.out).trans HZ.out)
        have HC := Lib.hid (show curM l m (k + 1) = curM l m k from curM_old ((mpI_no1 HQN.out)))
        go_wp2
        go_roundw
        case rel => exact ⟨k + 1, by omega, by go_num, by rw [HE.out, HQF.out], ⟨xl, nl, cl, hv1, by rw [HC.out]; exact hlg⟩, hx1, hy1, HB1⟩
        case measure => simp [intOf]; omega
      | true =>
        have r0_ : w1.cell? ⟨wr.heap.size, 0, none⟩ = some (.slice y0 m0 d0) := HR1.out.cell 0
        have l0_ : w1.cell? ⟨w.heap.size + 1 + 1, 0, none⟩ = some (.slice xl nl cl) := hv1.out.cell 0
        have l1_ := hv1.out.frozen 0
        cases qf with
        | false =>
          have HE := Lib.hid (show mpI l m (k + 1) = k from mpI_yes HQN.out (Or.inl (by rw [HZ.out]; have h5 := of_decide_eq_false HQF.out; omega)))
          have HC := Lib.hid (show curM l m (k + 1) = nm from (curM_new HE.out).trans (by rw [HXE.out]))
          have Z1 := Lib.hid (hv1.out.set 0 (.slice y0 m0 d0)); have Z2 := Lib.hid (hx1.out.other (a := ⟨w.heap.size + 1 + 1, 0, none⟩) (by simp; omega) (.slice y0 m0 d0)); have Z3 := Lib.hid (hy1.out.other (a := ⟨w.heap.size + 1 + 1, 0, none⟩) (by simp) (.slice y0 m0 d0)); have Z4 := Lib.hid (HB1.out.setCell (p := ⟨w.heap.size + 1 + 1, 0, none⟩) (by simp; omega) (.slice y0 m0 d0))
          have hkz : decide (0 ≤ (k : Int)) = true := decide_eq_true (by omega)
          clear hz1
          go_wp2
          go_roundw
          case rel => exact ⟨k + 1, by omega, by go_num, by rw [HE.out, hkz], ⟨y0, m0, d0, Z1, by rw [HC.out]; exact HNW⟩, Z2, Z3, Z4⟩
          case measure => simp [intOf]; omega
        | true =>
          by_cases hln : nl < m0
          · have tl : decide (nl < m0) = true := decide_eq_true hln
            have HE := Lib.hid (show mpI l m (k + 1) = k from mpI_yes HQN.out (Or.inr (by rw [HNL.out, HXE.out]; have h6 := HL0.out; simp only; omega)))
            have HC := Lib.hid (show curM l m (k + 1) = nm from (curM_new HE.out).trans (by rw [HXE.out]))
            have Z1 := Lib.hid (hv1.out.set 0 (.slice y0 m0 d0)); have Z2 := Lib.hid (hx1.out.other (a := ⟨w.heap.size + 1 + 1, 0, none⟩) (by simp; omega) (.slice y0 m0 d0)); have Z3 := Lib.hid (hy1.out.other (a := ⟨w.heap.size + 1 + 1, 0, none⟩) (by simp) (.slice y0 m0 d0)); have Z4 := Lib.hid (HB1.out.setCell (p := ⟨w.heap.size + 1 + 1, 0, none⟩) (by simp; omega) (.slice y0 m0 d0))
            have hkz : decide (0 ≤ (k : Int)) = true := decide_eq_true (by omega)
            clear hz1 hln
            go_wp2
            go_roundw
            case rel => exact ⟨k + 1, by omega, by go_num, by rw [HE.out, hkz], ⟨y0, m0, d0, Z1, by rw [HC.out]; exact HNW⟩, Z2, Z3, Z4⟩
            case measure => simp [intOf]; omega
          · have tl : decide (nl < m0) = false := decide_eq_false hln
            have hno := mpI_no2 (l := l) (m := m) (k := k) (by rw [HZ.out]; exact of_decide_eq_true HQF.out) (by rw [HNL.out, HXE.out]; have h6 := HL0.out; simp only; omega)
            have HE := Lib.hid (show mpI l m (k + 1) = z from hno.trans HZ.out)
            have HC := Lib.hid (show curM l m (k + 1) = curM l m k from curM_old hno)
            clear hno hln hz1
            go_wp2
            go_roundw
            case rel => exact ⟨k + 1, by omega, by go_num, by rw [HE.out, HQF.out], ⟨xl, nl, cl, hv1, by rw [HC.out]; exact hlg⟩, hx1, hy1, HB1⟩
            case measure => simp [intOf]; omega
    · obtain rfl : k = n := by omega
      clear hlt
      have HE1 := Lib.hid (show mpB l m = qf by unfold mpB; rw [HLEN.out, HZ.out]; exact HQF.out)
      have HE2 := Lib.hid (show mpN l m = curM l m k by rw [← curM_all, HLEN.out])
      have HLG := Lib.hid (hlg.out.on hb.out)
      have HPL := Lib.hid (show bulk (curM l m k) ≤ 1200000 from by
        unfold curM
        split
        · simp [bulk, bulkTo]
        · exact HP.out _ (nth_mem (by rw [HZ.out]; have := HLEN.out; rename_i h9; rw [HZ.out] at h9; omega)))
      have l0_ := hv.out.cell 0
      go_wp2_with fail
      clear l0_
      refine (iCpyN HLG.out (Nat.le_trans HPL.out (by decide))).mono ?_
      rintro e w5 ⟨U, rfl, hi5, hb5⟩
      obtain ⟨m5, za, na, ea, rfl, hs5, hd5, ho5⟩ := kN_splitP hi5
      have HY5 := Lib.hid (hy.out.on hb5); have HB5 := Lib.hid (hb.out.trans (hb5.mono hb.out.size)); have HO5 := Lib.hid (ho5.mono (B' := w.heap.size + 2) (by have := hv.out.lt; omega) (Nat.le_refl _)); have HS5 := Lib.hid hs5; have HD5 := Lib.hid hd5
      clear hi5 hs5 hd5 ho5 hb5 hz1
      have s0 : w5.cell? ⟨w.heap.size + 1, 0, none⟩ = some (.slice none 0 0) := HY5.out.cell 0
      have t0 := HY5.out.frozen 0
      have Z1 := Lib.hid (HY5.out.set 0 (.slice za na ea))
      have Z2 := Lib.hid (Kd.Own.set (g := w.heap.size + 1) (i := 0) (u := .slice za na ea) HO5.out (by omega))
      have Z3 := Lib.hid (HB5.out.setCell (p := ⟨w.heap.size + 1, 0, none⟩) (by simp) (.slice za na ea))
      go_wp2_with fail
      refine bodyPost_ret (Ret.results_ct rfl _ _ (w.heap.size + 1) [.slice za na ea] rfl aggN Z1.out.cells) rfl ?_
      refine ⟨_, by rw [HE1.out]; rfl, ?_, Z3.out⟩
      rw [HE2.out, ← HS5.out, show (Value.agg [Value.slice za na ea].toArray) = kN.val m5 by show _ = Value.agg (kN.cells m5).toArray; rw [HD5.out]]
      exact (Z2.out.mono (by omega) (by rw [World.size_setCell]; exact Nat.le_refl _)).in
end Go.Proofs.Ytdaahcaafdleaab.Row
/- Slices of ints in the words of the exact laws. No conditions but that lengths fit. -/
namespace Go.Proofs.Ytdaahcaafdleaab.Row
open Go.ChangeShapes Go.WideShapes Go.ChangeAt Go.RowKit Go.Instr
set_option linter.unusedVariables false
set_option maxRecDepth 100000
def kI : Kd (List Int) (Rw Int) := kS 3 (Value.int .i64) (fun _ => rfl)
section
variable {w : World} {v V : Value} {l : List Int} {B E : Nat}
theorem kI_own (h : Sl.Own 3 .i64 B w v l) : kI.In B w.heap.size w v l := kS_own h
theorem kI_mk (h : Sl.Own 3 .i64 B w v l) (hE : ∀ g, v.ownBlock = some g → g < E) : kI.In B E w v l := kS_mk h hE
theorem kI_shape (h : kI.In B E w V l) : ∃ x n c, V = .slice x n c ∧ kI.In B E w (.slice x n c) l := by
  obtain ⟨x, n, c, rfl, -⟩ := (kS_in h).1.shapeN
  exact ⟨x, n, c, rfl, h⟩
end
theorem sameI' (V U : Value) (l : List Int) (w : World) (h : kI.At w V l) (g : kI.At w U l) (hl : l.length ≤ 100000000) :
    Calls Try.prog 11 #[V, U] w fun e w' => e = .returned (.bool true) ∧ Below w.heap.size w w' := Sl.sameIntS V U l w (kS_at h) (kS_at g) hl
theorem markI (B E : Nat) (V : Value) (l : List Int) (w : World) (k : Int) (h : kI.In B E w V l) (hl : l.length ≤ 100000000) (h0 : 0 ≤ k) (h1 : k ≤ 1000000000) :
    Calls Try.prog 16 #[V, .int .i64 k] w fun e w' => e = .returned (.int .i64 (k + (l.length : Int))) ∧ kI.In B E w' V (Sl.marks .i64 k l.length) ∧ Wrote B E w w' :=
  (Sl.markIntS B V l w k (kS_in h).1 hl h0 (by omega)).mono fun e w' ⟨a, b, c⟩ => ⟨a, kI_mk b (kS_in h).2, Wrote.of c (fun g hg => ⟨((kS_in h).1.lt g hg).1, (kS_in h).2 g hg⟩)⟩
theorem heldI (V : Value) (w : World) (k : Int) (l : List Int) (h : kI.At w V (Sl.marks .i64 k l.length)) (hl : l.length ≤ 100000000) (h0 : 0 ≤ k) (h1 : k ≤ 1000000000) :
    Calls Try.prog 17 #[V, .int .i64 k] w fun e w' => e = .returned (.int .i64 (k + (l.length : Int))) ∧ Below w.heap.size w w' :=
  (Sl.heldIntS V w k l.length (kS_at h) hl h0 (by omega)).mono fun e w' ⟨a, b⟩ => ⟨a, b ▸ Below.refl _ _⟩
end Go.Proofs.Ytdaahcaafdleaab.Row
/- NextHops, model and program. No conditions but that lengths fit. -/
namespace Go.Proofs.Ytdaahcaafdleaab.Row
open Go.ChangeShapes Go.WideShapes Go.ChangeAt Go.RowKit Go.Instr
set_option linter.unusedVariables false
set_option maxRecDepth 100000
theorem elemI14 : Sl.Elem Try.prog 3 (.int .i64 0) 8 := by unfold Sl.Elem; kernel_rfl
theorem szI14 : Sz kInt.cells 1 := fun m => kInt.len m
theorem kindI14 : Kind Try.prog 3 kInt.cells (.int .i64 0) 1 8 where
  elem := by unfold ElemK; kernel_rfl
  zs := rfl
  pos := by decide
  size := szI14
  one := fun m u hu => kInt.one m u hu
theorem flatI14 : ∀ l : List Int, flat kInt.cells l = l.map (Value.int .i64)
  | [] => rfl
  | x :: r => by
    show flat kInt.cells ([x] ++ r) = _
    rw [flat_append, flat_one, flatI14 r]
    rfl
theorem ownI_of {B : Nat} {w : World} {v : Value} {l : List Int} (h : OwnK 3 kInt.cells 1 B w v l) : Sl.Own 3 .i64 B w v l := by
  unfold OwnK at h
  rw [flatI14] at h
  exact h
theorem grownF {w5 wr w8 : World} {F0 : Nat} {row : Option Nat} (h : w5.grownBy wr (some F0)) (g : wr.grownBy w8 row) (hr : ∀ r, row = some r → r = F0 ∨ w5.heap.size ≤ r) : w5.grownBy w8 (some F0) := by
  obtain ⟨a1, a2, a3, a4, a5⟩ := h
  obtain ⟨b1, b2, b3, b4, b5⟩ := g
  refine ⟨b1.trans a1, b2.trans a2, b3.trans a3, Nat.le_trans a4 b4, fun i hi hne => ?_⟩
  rw [b5 i (by omega) (fun e => by
    rcases hr i e.symm with h1 | h1
    · exact hne (by rw [h1])
    · omega)]
  exact a5 i hi hne
theorem hop0 (l : List Rtt) (p : List ByteArray) : hopTo l p 0 = [] := rfl
theorem hopsRt_len (l : List Rtt) (m : List ByteArray) : (hopsRt l m).length ≤ l.length := by
  unfold hopsRt
  split
  · rw [List.length_map, ← hopTo_all]; exact hopTo_len _ _ _
  · exact Nat.zero_le _
theorem hopsRt_sz (l : List Rtt) (m : List ByteArray) : (hopsRt l m).length ≤ adLRt l := Nat.le_trans (hopsRt_len l m) (bulkK_len adRt l)
theorem fit_mpN {l : List Rtt} (m : List ByteArray) (hp : ∀ x ∈ l, bulk x.1 ≤ 1200000) : bulk (mpN l m) ≤ 1200000 := by
  unfold mpN
  split
  · simp [bulk, bulkTo]
  · have h9 := mpI_lt l m l.length
    exact hp _ (nth_mem (by omega))
set_option maxRecDepth 100000 in
set_option maxHeartbeats 4000000 in
theorem rnh {Q : Exit → Act → World → Prop} {v1 v2 v3 v4 v6 v7 v9 v10 v11 v12 v13 v14 v15 v16 v17 v18 v19 v20 v21 v22 v23 v24 v25 v26 v27 v28 v29 v30 v31 v32 v33 v34 v35 v36 v37 v38 v39 v40 v41 v42 v43 v44 v45 v46 v47 v48 v49 v50 v51 v52 v53 v54 v55 : Value} {w : World} {b off n c g k na ca : Nat} {xa : Option Addr} {a m : List ByteArray} {z : Bool} {xn : Option Addr} {nn cn : Nat} (hk : k < n) (hkc : k ≤ c) (hn : n ≤ 9000000) (HZ : Hid (decide (a = m) = z)) (H_a : Hid (kN.At w (.agg #[.slice xa na ca]) a)) (H_m : Hid (kN.At w (.agg #[.slice xn nn cn]) m)) (HAB : Hid (bulk a ≤ 1200000)) (HMB : Hid (bulk m ≤ 1200000)) (K0 : Hid (w.cell? ⟨g, 0, none⟩ = some (.slice xn nn cn))) (K1 : Hid (w.cell? ⟨b, off + k * 3, none⟩ = some (.slice xa na ca)))
  (hQ : ∀ (u27 u28 u29 u30 u31 u32 : Value)  (wx : World), Below w.heap.size w wx → Q .normal ⟨#[.slice (some ⟨b, off, none⟩) n c, v1, v2, v3, v4, .pointer (some ⟨g, 0, none⟩), v6, v7, .int .i64 k, v9, v10, v11, v12, v13, v14, v15, v16, v17, v18, v19, v20, v21, v22, v23, v24, v25, v26, u27, u28, u29, u30, u31, u32, .bool z, v34, v35, v36, v37, v38, v39, v40, v41, v42, v43, v44, v45, v46, v47, v48, v49, v50, v51, v52, v53, v54, v55], []⟩ wx) :
  (Code.region 6 #[⟨some 27, .move (.tmp 0), 30, "l14_route.go:84", #[], none⟩,
   ⟨some 28, .move (.tmp 8), 3, "l14_route.go:84", #[], none⟩,
   ⟨some 29, .indexAddr 30 (.tmp 27) (.tmp 28), 0, "l14_route.go:84", #[⟨0, .data⟩, ⟨1, .data⟩], none⟩,
   ⟨some 30, .fieldAddr 49 (.tmp 29) 0, 0, "l14_route.go:84", #[⟨2, .data⟩], none⟩,
   ⟨some 31, .load 32 (.tmp 30), 32, "l14_route.go:84", #[⟨3, .data⟩], none⟩,
   ⟨some 32, .load 32 (.tmp 5), 32, "l14_route.go:84", #[], none⟩,
   ⟨some 33, .call ⟨.value (.func 23), #[.tmp 31, .tmp 32], #[32, 32]⟩, 4, "l14_route.go:84", #[⟨4, .data⟩, ⟨5, .data⟩], none⟩] true).wp Try.prog Q ⟨#[.slice (some ⟨b, off, none⟩) n c, v1, v2, v3, v4, .pointer (some ⟨g, 0, none⟩), v6, v7, .int .i64 k, v9, v10, v11, v12, v13, v14, v15, v16, v17, v18, v19, v20, v21, v22, v23, v24, v25, v26, v27, v28, v29, v30, v31, v32, v33, v34, v35, v36, v37, v38, v39, v40, v41, v42, v43, v44, v45, v46, v47, v48, v49, v50, v51, v52, v53, v54, v55], []⟩ w := by
 have HQ := Lib.hid hQ; clear hQ
 have hdr : Below w.heap.size w w.drew := (Below.refl _ _).drew
 have BB := Lib.hid hdr
 refine wp_region_noPanic ?_
 refine wp_region_held_drew (S := (fun w' => w'.cell? ⟨g, 0, none⟩ = some (.slice xn nn cn) ∧ w'.cell? ⟨b, off + k * 3, none⟩ = some (.slice xa na ca))) (by kernel_rfl) ?_ (fun hHeld => ?_)
 ·
  exact ⟨kc K0.out BB.out, kc K1.out BB.out⟩
 clear hdr
 generalize w.drew = wd at *
 refine wpAnyH_take (i := 0) (oi := ⟨some 27, .move (.tmp 0), 30, "l14_route.go:84", #[], none⟩) (v := ?_) rfl (by kernel_rfl) (by kernel_rfl) (by kernel_rfl) (fun _ _ _ h => h) (Or.inl ⟨by rfl, ?_⟩) (by assumption) ?_
 rotate_left
 ·
  intro w' hSw; (try dsimp only at hSw); first | (go_simp; done) | (go_simp; with_reducible rfl)
 (try simp only [Act.put, Row.pB0, Row.pB1, Row.pB2])
 refine wpAnyH_take (i := 1) (oi := ⟨some 28, .move (.tmp 8), 3, "l14_route.go:84", #[], none⟩) (v := ?_) rfl (by kernel_rfl) (by kernel_rfl) (by kernel_rfl) (fun _ _ _ h => h) (Or.inl ⟨by rfl, ?_⟩) (by assumption) ?_
 rotate_left
 ·
  intro w' hSw; (try dsimp only at hSw); first | (go_simp; done) | (go_simp; with_reducible rfl)
 (try simp only [Act.put, Row.pB0, Row.pB1, Row.pB2])
 refine wpAnyH_take (i := 2) (oi := ⟨some 29, .indexAddr 30 (.tmp 27) (.tmp 28), 0, "l14_route.go:84", #[⟨0, .data⟩, ⟨1, .data⟩], none⟩) (v := ?_) rfl (by kernel_rfl) (by kernel_rfl) (by kernel_rfl) (fun _ _ _ h => h) (Or.inl ⟨by rfl, ?_⟩) (by assumption) ?_
 rotate_left
 ·
  intro w' hSw; (try dsimp only at hSw); first | (go_simp; done) | (go_simp; with_reducible rfl)
 (try simp only [Act.put, Row.pB0, Row.pB1, Row.pB2])
 refine wpAnyH_take (i := 3) (oi := ⟨some 30, .fieldAddr 49 (.tmp 29) 0, 0, "l14_route.go:84", #[⟨2, .data⟩], none⟩) (v := ?_) rfl (by kernel_rfl) (by kernel_rfl) (by kernel_rfl) (fun _ _ _ h => h) (Or.inl ⟨by rfl, ?_⟩) (by assumption) ?_
 rotate_left
 ·
  intro w' hSw; (try dsimp only at hSw); first | (go_simp; done) | (go_simp; with_reducible rfl)
 (try simp only [Act.put, Row.pB0, Row.pB1, Row.pB2])
 refine wpAnyH_take (i := 4) (oi := ⟨some 31, .load 32 (.tmp 30), 32, "l14_route.go:84", #[⟨3, .data⟩], none⟩) (v := ?_) rfl (by kernel_rfl) (by kernel_rfl) (by kernel_rfl) (fun _ _ _ h => h) (Or.inl ⟨by rfl, ?_⟩) (by assumption) ?_
 rotate_left
 ·
  intro w' hSw; (try dsimp only at hSw); first | (go_simp; done) | (go_simp; with_reducible rfl)
 (try simp only [Act.put, Row.pB0, Row.pB1, Row.pB2])
 refine wpAnyH_take (i := 5) (oi := ⟨some 32, .load 32 (.tmp 5), 32, "l14_route.go:84", #[], none⟩) (v := ?_) rfl (by kernel_rfl) (by kernel_rfl) (by kernel_rfl) (fun _ _ _ h => h) (Or.inl ⟨by rfl, ?_⟩) (by assumption) ?_
 rotate_left
 ·
  intro w' hSw; (try dsimp only at hSw); first | (go_simp; done) | (go_simp; with_reducible rfl)
 (try simp only [Act.put, Row.pB0, Row.pB1, Row.pB2])
 refine wpAnyH_ready (rs := [6]) (by kernel_rfl) (by simp) ?_
 refine AllReadyH.cons (o := ⟨some 33, .call ⟨.value (.func 23), #[.tmp 31, .tmp 32], #[32, 32]⟩, 4, "l14_route.go:84", #[⟨4, .data⟩, ⟨5, .data⟩], none⟩) rfl (fun K hK => ?_) AllReadyH.nil
 go_simp
 refine (sEqK z HZ.out (H_a.out.on BB.out) (H_m.out.on BB.out) (Nat.le_trans HAB.out (by decide)) (Nat.le_trans HMB.out (by decide))).mono ?_
 rintro e wn1 ⟨rfl, hb⟩
 replace BB := Lib.hid (BB.out.trans (hb.mono BB.out.size))
 clear hb
 (try go_wp2_with fail)
 clear hHeld
 refine hK.out _ _ ?_ (fun hHeld => ?_)
 ·
  (try dsimp only); exact ⟨kc K0.out BB.out, kc K1.out BB.out⟩
 clear hK K
 (try simp only [Act.put, Row.pB0, Row.pB1, Row.pB2])
 refine wpAnyH_done (by kernel_rfl) ?_ _
 exact NoPanic.normal (HQ.out _ _ _ _ _ _  _  BB.out)
set_option maxHeartbeats 16000000 in
theorem specNextHops (V U : Value) (l : List Rtt) (m : List ByteArray) (w : World) (h : kLRt.At w V l) (g : kN.At w U m) (hf : FitRt l) (hm : bulk m ≤ 1200000) :
    Calls Try.prog 7 #[V, U] w fun e w' => ∃ U, e = .returned U ∧ kI.In w.heap.size w'.heap.size w' U (hopsRt l m) ∧ Below w.heap.size w w' := by
  have hl := hf.len
  have hp := hf.each
  have HAT := Lib.hid h; have HF := Lib.hid hf
  obtain ⟨x, n, cx, L, rfl, hn, ht, hh, hel⟩ := kLRt_at h
  have hlen : l.length = n := by rw [← ht, List.length_map]; exact hn.symm
  rw [hlen] at hl
  have hcap : n ≤ cx := by obtain ⟨x', n', cap', hv, hn', hc', -⟩ := hh.shapeN; cases hv; exact hc'
  obtain ⟨xn, nn, cn, rfl, g⟩ := kN_shapeA g
  have b1 := (Below.refl w.heap.size w).alloc (Nat.le_refl _) (.cells #[.slice xn nn cn] 32)
  have HX := Lib.hid (Ret.Blk.new w #[.slice xn nn cn] 32)
  have HG := Lib.hid (g.on b1); have HB := Lib.hid b1; have HM := Lib.hid hm; have HA1 := Lib.hid (HAT.out.on b1)
  have HN := Lib.hid hn; have HT := Lib.hid ht; have HH := Lib.hid hh; have HEL := Lib.hid hel; have HLEN := Lib.hid hlen; have HP := Lib.hid hp
  clear b1 g hm hf hn ht hh hel hlen hp h
  go_enter Try.func7, Try.ntmps7
  have q0 := HX.out.cell 0
  go_wp2_with fail
  clear q0
  refine (specMatchingPrefix _ _ l m _ HA1.out HG.out HF.out HM.out).mono ?_
  rintro e w1 ⟨U1, rfl, hi, hb1⟩
  obtain ⟨m1, za, na, ea, rfl, hs1, hd1, ho1⟩ := kN_splitP hi
  have HPA := Lib.hid (show kN.At w1 (.agg #[.slice za na ea]) (mpN l m) from hi.at)
  have HBP := Lib.hid (fit_mpN m HP.out)
  obtain ⟨q, hq⟩ : ∃ q, mpB l m = q := ⟨_, rfl⟩
  rw [hq]
  have HQ := Lib.hid hq
  have hal := (Below.refl w1.heap.size w1).alloc (Nat.le_refl _) (.cells #[.slice za na ea] 32)
  have hal2 := hal.alloc hal.size (.cells #[] 49)
  have HXP := Lib.hid ((Ret.Blk.new w1 #[.slice za na ea] 32).on ((Below.refl _ _).alloc (Nat.le_refl _) (.cells #[] 49)))
  have HP1 := Lib.hid (HPA.out.on hal2)
  have HB2 := Lib.hid ((HB.out.trans (hb1.mono HB.out.size)).trans (hal2.mono (HB.out.trans (hb1.mono HB.out.size)).size))
  have hOS := ownK_empty kRt.cells 3 49 (w1.alloc (.cells #[.slice za na ea] 32))
  have HS0 := Lib.hid hOS.holds
  have hsz : (w1.alloc (.cells #[.slice za na ea] 32)).heap.size = w1.heap.size + 1 := by simp
  rw [hsz] at HS0
  have HSG0 := Lib.hid (show w1.heap.size + 1 < ((w1.alloc (.cells #[.slice za na ea] 32)).alloc (.cells #[] 49)).heap.size from by simp)
  clear hi hs1 hd1 ho1 hb1 hq hal hal2 hOS hsz HX HG HB HPA HA1
  go_wp2
  go_loopw [7, 8] (fun sv iv wr => ∃ k : Nat, k ≤ n ∧ iv = .int .i64 k ∧ (∃ gS nS cS S, sv = .slice (some ⟨gS, 0, none⟩) nS cS ∧ Hid (HoldsK kRt.cells 3 wr (.slice (some ⟨gS, 0, none⟩) nS cS) S) ∧ Hid (S.map kRt.strip = hopTo l (mpN l m) k) ∧ Hid (gS < wr.heap.size)) ∧ (q = false → k = 0) ∧ Hid (Ret.Blk wr w1.heap.size #[.slice za na ea] 32) ∧ Hid (kN.At wr (.agg #[.slice za na ea]) (mpN l m)) ∧ Hid (Below w.heap.size w wr)) (fun _ iv _ => n - (intOf iv).toNat)
  case atStart => exact ⟨0, Nat.zero_le _, rfl, ⟨w1.heap.size + 1, 0, 0, [], rfl, HS0, Lib.hid rfl, HSG0⟩, fun _ => rfl, HXP, HP1, HB2⟩
  case round =>
    clear HS0 HSG0 HXP HP1 HB2
    obtain ⟨k, hk, rfl, ⟨gS, nS, cS, S, rfl, hrow, hst, hsg⟩, hqk, hx, hpa, hb⟩ := hrel
    have hnS := hrow.out.lenEq
    subst hnS
    have hSl : S.length ≤ k := by have h5 := congrArg List.length hst.out; rw [List.length_map] at h5; rw [h5]; exact hopTo_len _ _ _
    have hnS9 : S.length ≤ 1200000 := by omega
    by_cases hlt : k < n ∧ q = true
    · obtain ⟨hlt, rfl⟩ := hlt
      have hlen := HN.out
      obtain ⟨b, off, y0, m0, d0_, rfl, hce, hc0, hc1, hc2, hA⟩ := kLRt_elem (HH.out.on hb.out) (fun y hy => kRt.holds_on (HEL.out y hy) hb.out) (j := k) (by omega)
      have hpt : nth l k = kRt.strip (nth L k) := by rw [← HT.out, nth_map _ (by omega)]
      have hps := HP.out (nth l k) (nth_mem (by have := HLEN.out; omega))
      rw [← hpt] at hA hc1 hc2 hce
      have hNM := kRt_parts hA
      obtain ⟨nm, rf, rc, hx⟩ : ∃ nm rf rc, nth l k = (nm, rf, rc) := ⟨_, _, _, rfl⟩
      rw [hx] at hNM hps hc1 hc2 hA hce
      have HCE := Lib.hid hce
      have HA := Lib.hid hA; have HNM := Lib.hid hNM; have HPN := Lib.hid hps; have HXE := Lib.hid hx
      simp only at hc1 hc2
      have H0 := Lib.hid hc0; have H1 := Lib.hid hc1; have H2 := Lib.hid hc2
      clear hlen hpt hps hA hNM hx hce
      obtain ⟨z, hz⟩ : ∃ z, decide (nm = mpN l m) = z := ⟨_, rfl⟩
      have HZZ := Lib.hid hz
      have HNX := Lib.hid (hopTo_next (l := l) (p := mpN l m) (k := k) (q := z) (by have := HLEN.out; omega) (by rw [HXE.out]; exact hz))
      clear hz
      go_wp2_with fail
      refine rnh hlt (by omega) (by omega) HZZ HNM hpa HPN HBP (Lib.hid (hx.out.cell 0)) H0 ?_
      intro u27 u28 u29 u30 u31 u32 wx hbx
      have hx2 := Lib.hid (hx.out.on hbx); have hpa2 := Lib.hid (hpa.out.on hbx); have hb2 := Lib.hid (hb.out.trans (hbx.mono hb.out.size)); have hrow2 := Lib.hid (hrow.out.on hbx)
      have d0 := kc hc0 hbx; have d1 := kc hc1 hbx; have d2 := kc hc2 hbx
      have hsg2 := Lib.hid (Nat.lt_of_lt_of_le hsg.out hbx.size)
      clear hbx hc0 hc1 hc2
      cases z with
      | false =>
        have HE := Lib.hid (show S.map kRt.strip = hopTo l (mpN l m) (k + 1) by rw [HNX.out]; exact hst.out)
        clear d0 d1 d2
        go_wp2
        go_roundw
        case rel => exact ⟨k + 1, by omega, by go_num, ⟨gS, _, cS, S, rfl, hrow2, HE, hsg2⟩, fun h9 => absurd h9 (by simp), hx2, hpa2, hb2⟩
        case measure => simp [intOf]; omega
      | true =>
        obtain ⟨r, hr⟩ : ∃ r : Rtm, kRt.strip r = (nm, rf, rc) ∧ kRt.cells r = [.slice y0 m0 d0_, .int .i64 rf, .int .i64 rc] := ⟨nth L k, by rw [← HXE.out, ← HT.out, nth_map _ (by have := HN.out; omega)], HCE.out⟩
        have HPUT := Lib.hid (sPutRt gS 0 S.length cS S r wx hrow2.out hnS9 (by rw [hst.out]; exact hopTo_sorted _ _ _))
        rw [hr.2] at HPUT
        replace HPUT := Lib.hid (show Calls Try.prog 24 #[.slice (some ⟨gS, 0, none⟩) S.length cS, .agg #[.slice y0 m0 d0_, .int .i64 rf, .int .i64 rc]] wx _ from HPUT.out)
        have HSR := Lib.hid hr.1
        clear hr
        go_wp2_with fail
        refine HPUT.out.mono ?_
        rintro e w5 ⟨g5, n5, c5, S5, rfl, ho5, hs5, hb5⟩
        have hx5 := Lib.hid (hx2.out.on hb5); have hpa5 := Lib.hid (hpa2.out.on hb5); have hb6 := Lib.hid (hb2.out.trans (hb5.mono hb2.out.size)); have hrow5 := Lib.hid ho5.holds; have hsg5 := Lib.hid (ho5.lt g5 rfl).2
        have HE := Lib.hid (show S5.map kRt.strip = hopTo l (mpN l m) (k + 1) by rw [hs5, HSR.out, hst.out, HNX.out, HXE.out]; rfl)
        clear ho5 hs5 hb5 d0 d1 d2
        go_wp2
        go_roundw
        case rel => exact ⟨k + 1, by omega, by go_num, ⟨g5, n5, c5, S5, rfl, hrow5, HE, hsg5⟩, fun h9 => absurd h9 (by simp), hx5, hpa5, hb6⟩
        case measure => simp [intOf]; omega
    · have HSF := Lib.hid (show (S.map kRt.strip).map (fun x => x.2.1) = hopsRt l m by
        unfold hopsRt
        rw [HQ.out]
        cases q with
        | false => rw [hst.out, hqk rfl, hop0]; rfl
        | true =>
          obtain rfl : k = n := by simp at hlt; omega
          rw [hst.out, ← HLEN.out, hopTo_all]; rfl)
      have HSG := hsg
      by_cases hlt3 : k < n
      · obtain rfl : q = false := by cases q with | false => rfl | true => exact absurd ⟨hlt3, rfl⟩ hlt
        clear hlt hqk
        go_wp2
        have hO9 := Sl.own_empty .i64 3 wr
        obtain ⟨B1, hB1⟩ : ∃ B1, B1 = wr.heap.size := ⟨_, rfl⟩
        rw [← hB1] at hO9
        have HO9 := Lib.hid hO9
        have HB9 := Lib.hid (hb.out.alloc hb.out.size (.cells #[] 3)); have HH9 := Lib.hid (hrow.out.on ((Below.refl _ _).alloc (Nat.le_refl _) (.cells #[] 3))); have HB1 := Lib.hid (show w.heap.size ≤ B1 from by rw [hB1]; exact hb.out.size)
        have HB2 := Lib.hid (show B1 ≤ (wr.alloc (.cells #[] 3)).heap.size from by rw [hB1]; simp)
        have HNS : Hid (S.length = S.length) := Lib.hid rfl
        have HGB := Lib.hid (show gS < B1 by rw [hB1]; exact hsg.out)
        clear hO9
        rw [← hB1]
        clear hB1
        go_loopw [9, 10] (fun ov iv wr => ∃ j : Nat, j ≤ S.length ∧ iv = .int .i64 j ∧ ∃ xo no co, ov = .slice xo no co ∧ Hid (Sl.Own 3 .i64 B1 wr (.slice xo no co) (((S.map kRt.strip).map (fun x => x.2.1)).take j)) ∧ Hid (HoldsK kRt.cells 3 wr (.slice (some ⟨gS, 0, none⟩) S.length cS) S) ∧ Hid (Below w.heap.size w wr) ∧ Hid (B1 ≤ wr.heap.size)) (fun _ iv _ => S.length - (intOf iv).toNat)
        case atStart => exact ⟨0, Nat.zero_le _, rfl, some ⟨B1, 0, none⟩, 0, 0, rfl, HO9, HH9, HB9, HB2⟩
        case round =>
          clear HO9 HH9 HB9 HB2 hb hrow
          obtain ⟨j, hj, rfl, xo, no, co, rfl, ho, hh, hb, hbs⟩ := hrel
          by_cases hlt2 : j < S.length
          · have hjS : j < S.length := by have := HNS.out; omega
            obtain ⟨b', off', e9, hcm⟩ := hh.out.at szRt_cells (j := j) hjS
            cases e9
            obtain ⟨bx, bn, bc, be, f1, c1, he⟩ : ∃ bx bn bc be f1 c1, nth S j = (⟨bx, bn, bc, be⟩, f1, c1) := ⟨_, _, _, _, _, _, rfl⟩
            have hq1 := hcm 1 (by decide)
            rw [he] at hq1
            have k1 : wr.cell? ⟨gS, j * 3 + 1, none⟩ = some (.int .i64 f1) := by rw [show j * 3 + 1 = 0 + (j * 3 + 1) from by omega]; exact hq1.trans rfl
            have hcS : S.length ≤ cS := by obtain ⟨x', n', cap', hv, hn', hc', -⟩ := hh.out.shapeN; cases hv; exact hc'
            have HT9 := Lib.hid (show ((S.map kRt.strip).map (fun x => x.2.1)).take (j + 1) = ((S.map kRt.strip).map (fun x => x.2.1)).take j ++ [f1] from by
              rw [take_nx (by simp; omega), nth_map _ (by simp; omega), nth_map _ hjS, he]; rfl)
            have hlj : (((S.map kRt.strip).map (fun x => x.2.1)).take j).length ≤ 1200000 := by rw [List.length_take]; omega
            have HLJ := Lib.hid hlj
            clear hcm he hq1 hjS hlj
            go_wp2_with (at_builtin; refine Sl.wpList_app (k := .i64) (B := B1) (l := (((S.map kRt.strip).map (fun x => x.2.1)).take j)) (m := [f1]) rfl _ _ rfl Try.underlying28 elemI14 rfl rfl rfl (ho.out.on ((Below.refl _ _).alloc (Nat.le_refl _) _)) (Sl.holds_one .i64 _ _ _) ?_ (by decide) ?_ ?_)
            · have h5 := HLJ.out; simp at h5 ⊢; omega
            · show B1 ≤ _; have h5 := hbs.out; simp; omega
            intro v2 w2 ho2 hg2
            obtain ⟨x2, c2, hv2, -, -⟩ := (Sl.Own.holds ho2).shape
            obtain ⟨n2, hn2⟩ : ∃ n2, v2 = .slice x2 n2 c2 := ⟨_, hv2⟩
            clear hv2
            subst hn2
            have HO2 := Lib.hid (show Sl.Own 3 .i64 B1 w2 (.slice x2 n2 c2) (((S.map kRt.strip).map (fun x => x.2.1)).take (j + 1)) from by rw [HT9.out, List.map_map]; exact ho2)
            have hal9 := (Below.refl wr.heap.size wr).alloc (Nat.le_refl _) (.cells #[.int .i64 f1] 3)
            have HH2 := Lib.hid ((hh.out.on hal9).grown hg2 (fun g hg e => by cases hg; have h5 := (ho.out.lt gS e.symm).1; have h6 := HGB.out; omega))
            have HB4 := Lib.hid ((hb.out.trans (hal9.mono hb.out.size)).grown hg2 (by have := hb.out.size; simp; omega) (fun g hg => by have h5 := (ho.out.lt g hg).1; have := HB1.out; omega))
            have HBS := Lib.hid (show B1 ≤ w2.heap.size from Nat.le_trans hbs.out (Nat.le_trans hal9.size hg2.size))
            clear ho2 hg2 hal9 k1
            go_wp2
            go_roundw
            case rel => exact ⟨j + 1, by omega, by go_num, x2, n2, c2, rfl, HO2, HH2, HB4, HBS⟩
            case measure => simp [intOf]; omega
          · obtain rfl : j = S.length := by omega
            clear hlt2
            have HO2 := Lib.hid (show Sl.Own 3 .i64 B1 wr (.slice xo no co) (hopsRt l m) from by
              have h5 := ho.out
              rw [HSF.out, List.take_of_length_le (by rw [← HSF.out, List.length_map, List.length_map, ← HNS.out]; exact Nat.le_refl _)] at h5
              exact h5)
            go_wp2
            go_ret
            exact ⟨_, rfl, Kd.In.mono (kI_own HO2.out) HB1.out (Nat.le_refl _), hb.out⟩
      · obtain rfl : k = n := by omega
        clear hlt hqk hlt3
        go_wp2
        have hO9 := Sl.own_empty .i64 3 wr
        obtain ⟨B1, hB1⟩ : ∃ B1, B1 = wr.heap.size := ⟨_, rfl⟩
        rw [← hB1] at hO9
        have HO9 := Lib.hid hO9
        have HB9 := Lib.hid (hb.out.alloc hb.out.size (.cells #[] 3)); have HH9 := Lib.hid (hrow.out.on ((Below.refl _ _).alloc (Nat.le_refl _) (.cells #[] 3))); have HB1 := Lib.hid (show w.heap.size ≤ B1 from by rw [hB1]; exact hb.out.size)
        have HB2 := Lib.hid (show B1 ≤ (wr.alloc (.cells #[] 3)).heap.size from by rw [hB1]; simp)
        have HNS : Hid (S.length = S.length) := Lib.hid rfl
        have HGB := Lib.hid (show gS < B1 by rw [hB1]; exact hsg.out)
        clear hO9
        rw [← hB1]
        clear hB1
        go_loopw [9, 10] (fun ov iv wr => ∃ j : Nat, j ≤ S.length ∧ iv = .int .i64 j ∧ ∃ xo no co, ov = .slice xo no co ∧ Hid (Sl.Own 3 .i64 B1 wr (.slice xo no co) (((S.map kRt.strip).map (fun x => x.2.1)).take j)) ∧ Hid (HoldsK kRt.cells 3 wr (.slice (some ⟨gS, 0, none⟩) S.length cS) S) ∧ Hid (Below w.heap.size w wr) ∧ Hid (B1 ≤ wr.heap.size)) (fun _ iv _ => S.length - (intOf iv).toNat)
        case atStart => exact ⟨0, Nat.zero_le _, rfl, some ⟨B1, 0, none⟩, 0, 0, rfl, HO9, HH9, HB9, HB2⟩
        case round =>
          clear HO9 HH9 HB9 HB2 hb hrow
          obtain ⟨j, hj, rfl, xo, no, co, rfl, ho, hh, hb, hbs⟩ := hrel
          by_cases hlt2 : j < S.length
          · have hjS : j < S.length := by have := HNS.out; omega
            obtain ⟨b', off', e9, hcm⟩ := hh.out.at szRt_cells (j := j) hjS
            cases e9
            obtain ⟨bx, bn, bc, be, f1, c1, he⟩ : ∃ bx bn bc be f1 c1, nth S j = (⟨bx, bn, bc, be⟩, f1, c1) := ⟨_, _, _, _, _, _, rfl⟩
            have hq1 := hcm 1 (by decide)
            rw [he] at hq1
            have k1 : wr.cell? ⟨gS, j * 3 + 1, none⟩ = some (.int .i64 f1) := by rw [show j * 3 + 1 = 0 + (j * 3 + 1) from by omega]; exact hq1.trans rfl
            have hcS : S.length ≤ cS := by obtain ⟨x', n', cap', hv, hn', hc', -⟩ := hh.out.shapeN; cases hv; exact hc'
            have HT9 := Lib.hid (show ((S.map kRt.strip).map (fun x => x.2.1)).take (j + 1) = ((S.map kRt.strip).map (fun x => x.2.1)).take j ++ [f1] from by
              rw [take_nx (by simp; omega), nth_map _ (by simp; omega), nth_map _ hjS, he]; rfl)
            have hlj : (((S.map kRt.strip).map (fun x => x.2.1)).take j).length ≤ 1200000 := by rw [List.length_take]; omega
            have HLJ := Lib.hid hlj
            clear hcm he hq1 hjS hlj
            go_wp2_with (at_builtin; refine Sl.wpList_app (k := .i64) (B := B1) (l := (((S.map kRt.strip).map (fun x => x.2.1)).take j)) (m := [f1]) rfl _ _ rfl Try.underlying28 elemI14 rfl rfl rfl (ho.out.on ((Below.refl _ _).alloc (Nat.le_refl _) _)) (Sl.holds_one .i64 _ _ _) ?_ (by decide) ?_ ?_)
            · have h5 := HLJ.out; simp at h5 ⊢; omega
            · show B1 ≤ _; have h5 := hbs.out; simp; omega
            intro v2 w2 ho2 hg2
            obtain ⟨x2, c2, hv2, -, -⟩ := (Sl.Own.holds ho2).shape
            obtain ⟨n2, hn2⟩ : ∃ n2, v2 = .slice x2 n2 c2 := ⟨_, hv2⟩
            clear hv2
            subst hn2
            have HO2 := Lib.hid (show Sl.Own 3 .i64 B1 w2 (.slice x2 n2 c2) (((S.map kRt.strip).map (fun x => x.2.1)).take (j + 1)) from by rw [HT9.out, List.map_map]; exact ho2)
            have hal9 := (Below.refl wr.heap.size wr).alloc (Nat.le_refl _) (.cells #[.int .i64 f1] 3)
            have HH2 := Lib.hid ((hh.out.on hal9).grown hg2 (fun g hg e => by cases hg; have h5 := (ho.out.lt gS e.symm).1; have h6 := HGB.out; omega))
            have HB4 := Lib.hid ((hb.out.trans (hal9.mono hb.out.size)).grown hg2 (by have := hb.out.size; simp; omega) (fun g hg => by have h5 := (ho.out.lt g hg).1; have := HB1.out; omega))
            have HBS := Lib.hid (show B1 ≤ w2.heap.size from Nat.le_trans hbs.out (Nat.le_trans hal9.size hg2.size))
            clear ho2 hg2 hal9 k1
            go_wp2
            go_roundw
            case rel => exact ⟨j + 1, by omega, by go_num, x2, n2, c2, rfl, HO2, HH2, HB4, HBS⟩
            case measure => simp [intOf]; omega
          · obtain rfl : j = S.length := by omega
            clear hlt2
            have HO2 := Lib.hid (show Sl.Own 3 .i64 B1 wr (.slice xo no co) (hopsRt l m) from by
              have h5 := ho.out
              rw [HSF.out, List.take_of_length_le (by rw [← HSF.out, List.length_map, List.length_map, ← HNS.out]; exact Nat.le_refl _)] at h5
              exact h5)
            go_wp2
            go_ret
            exact ⟨_, rfl, Kd.In.mono (kI_own HO2.out) HB1.out (Nat.le_refl _), hb.out⟩
set_option maxHeartbeats 16000000 in
theorem implNextHops (V U : Value) (l : List Rtt) (m : List ByteArray) (w : World) (h : kLRt.At w V l) (g : kN.At w U m) (hf : FitRt l) (hm : bulk m ≤ 1200000) :
    Calls Try.prog 10 #[V, U] w fun e w' => ∃ U, e = .returned U ∧ kI.In w.heap.size w'.heap.size w' U (hopsRt l m) ∧ Below w.heap.size w w' := by
  have hl := hf.len
  have hp := hf.each
  have HAT := Lib.hid h; have HF := Lib.hid hf
  obtain ⟨x, n, cx, L, rfl, hn, ht, hh, hel⟩ := kLRt_at h
  have hlen : l.length = n := by rw [← ht, List.length_map]; exact hn.symm
  rw [hlen] at hl
  have hcap : n ≤ cx := by obtain ⟨x', n', cap', hv, hn', hc', -⟩ := hh.shapeN; cases hv; exact hc'
  obtain ⟨xn, nn, cn, rfl, g⟩ := kN_shapeA g
  have b1 := (Below.refl w.heap.size w).alloc (Nat.le_refl _) (.cells #[.slice xn nn cn] 32)
  have b2 := b1.alloc b1.size (.cells #[] 3)
  have HX := Lib.hid ((Ret.Blk.new w #[.slice xn nn cn] 32).on ((Below.refl _ _).alloc (Nat.le_refl _) (.cells #[] 3)))
  have HG := Lib.hid (g.on b2); have HB := Lib.hid b2; have HM := Lib.hid hm; have HA1 := Lib.hid (HAT.out.on b2)
  have hO9 := ownK_empty kInt.cells 1 3 (w.alloc (.cells #[.slice xn nn cn] 32))
  have hsz : (w.alloc (.cells #[.slice xn nn cn] 32)).heap.size = w.heap.size + 1 := by simp
  rw [hsz] at hO9
  have HO9 := Lib.hid hO9
  have HN := Lib.hid hn; have HT := Lib.hid ht; have HH := Lib.hid hh; have HEL := Lib.hid hel; have HLEN := Lib.hid hlen; have HP := Lib.hid hp
  clear b1 b2 g hm hf hO9 hsz hn ht hh hel hlen hp h
  go_enter Try.func10, Try.ntmps10
  have q0 := HX.out.cell 0
  go_wp2_with fail
  clear q0
  refine (implMatchingPrefix _ _ l m _ HA1.out HG.out HF.out HM.out).mono ?_
  rintro e w1 ⟨U1, rfl, hi, hb1⟩
  obtain ⟨m1, za, na, ea, rfl, hs1, hd1, ho1⟩ := kN_splitP hi
  have hz9 : ((w.alloc (.cells #[.slice xn nn cn] 32)).alloc (.cells #[] 3)).heap.size = w.heap.size + 2 := by simp
  rw [hz9] at ho1
  have HS1 := Lib.hid hs1; have HD1 := Lib.hid hd1
  have hw1 := hb1.size
  rw [hz9] at hw1
  have HW1 := Lib.hid hw1
  have HBP := Lib.hid (fit_mpN m HP.out)
  obtain ⟨q, hq⟩ : ∃ q, mpB l m = q := ⟨_, rfl⟩
  rw [hq]
  have HQ := Lib.hid hq
  have hal := (Below.refl w1.heap.size w1).alloc (Nat.le_refl _) (.cells #[.slice za na ea] 32)
  have HXP := Lib.hid (Ret.Blk.new w1 #[.slice za na ea] 32)
  have HPO := Lib.hid (ho1.on hal)
  have HO2 := Lib.hid ((HO9.out.on hb1).on hal)
  have HB2 := Lib.hid ((HB.out.trans (hb1.mono HB.out.size)).trans (hal.mono (HB.out.trans (hb1.mono HB.out.size)).size))
  clear hi hs1 hd1 ho1 hb1 hq hal HX HG HB HA1 HO9 hz9 hw1
  cases q with
  | false =>
    have HE := Lib.hid (show hopsRt l m = [] by unfold hopsRt; rw [HQ.out]; rfl)
    go_wp2
    go_ret
    exact ⟨_, rfl, by rw [HE.out]; exact Kd.In.mono (kI_own (ownI_of HO2.out)) (Nat.le_succ _) (Nat.le_refl _), HB2.out⟩
  | true =>
    have hal := (Below.refl (w1.alloc (.cells #[.slice za na ea] 32)).heap.size (w1.alloc (.cells #[.slice za na ea] 32))).alloc (Nat.le_refl _) (.cells #[.slice x n cx] 30)
    have HVAL := Lib.hid (valuesR x n cx (w1.alloc (.cells #[.slice za na ea] 32)) (w1.heap.size + 1) (by simp))
    have HXV := Lib.hid (Ret.Blk.new' (w := (w1.alloc (.cells #[.slice za na ea] 32))) (n := w1.heap.size + 1) #[.slice x n cx] 30 (by simp))
    have HB3 := Lib.hid (HB2.out.trans (hal.mono HB2.out.size))
    have HSRT := Lib.hid (sortedFR (w1.heap.size + 1) x n cx L ((w1.alloc (.cells #[.slice za na ea] 32)).alloc (.cells #[.slice x n cx] 30)) (by omega) HN.out hcap (HXV.out.cell 0) (HH.out.on HB3.out))
    replace HXP := Lib.hid (HXP.out.on hal); replace HPO := Lib.hid (HPO.out.on hal); replace HO2 := Lib.hid (HO2.out.on hal)
    clear hal HXV HB2
    go_wp2_with fail
    refine HVAL.out.mono ?_
    rintro e w4 ⟨rfl, rfl⟩
    go_wp2_with fail
    refine HSRT.out.mono ?_
    rintro e w5 ⟨v5, rfl, L', hpm, hsd, hh5, hb5, hgb5⟩
    obtain ⟨x5, n5, c5, rfl, hn5, hc5, hh5⟩ := hh5.shapeN
    have HB5 := Lib.hid (HB3.out.trans (hb5.mono HB3.out.size))
    have HXP5 := Lib.hid (HXP.out.on hb5); have HPO5 := Lib.hid (HPO.out.on hb5); have HO5 := Lib.hid (HO2.out.on hb5)
    have HDP := Lib.hid (show (L'.map kRt.strip).Perm l by rw [← HT.out]; exact hpm.map _)
    have HEL5 := Lib.hid (show ∀ y ∈ L', kRt.holds w y from fun y hy => HEL.out y (hpm.mem_iff.1 hy))
    have HSD := Lib.hid hsd; have HH5 := Lib.hid hh5; have HN5 := Lib.hid hn5
    have HS5 := Lib.hid (show w.heap.size + 1 < w5.heap.size from by have h5 := HXP5.out.lt; have h6 := HW1.out; omega)
    have HGB5 := Lib.hid (show ∀ g, (Value.slice x5 n5 c5).ownBlock = some g → some g ≠ some (w.heap.size + 1) from fun g hg e => by have h5 := hgb5 g hg; have h6 := HW1.out; cases e; simp at h5; omega)
    have HGP5 := Lib.hid (show some w1.heap.size ≠ some (w.heap.size + 1) from fun e => by have h6 := HW1.out; injection e with e; omega)
    have HPB5 := Lib.hid (show ∀ g, some (w.heap.size + 1) = some g → g ∉ kN.blocks m1 from fun g e hg => by cases e; have h5 := (HPO5.out.lt _ hg).1; omega)
    have hn59 : n5 ≤ 1200000 := by have h5 := HDP.out.length_eq; rw [List.length_map] at h5; have h6 := HLEN.out; omega
    have HK5 := Lib.hid (Sl.grown_of_below (Below.refl w5.heap.size w5) (some (w.heap.size + 1)))
    clear hpm hsd hh5 hn5 hb5 hgb5 HB3 HXP HPO HO2 HVAL HSRT
    go_wp2
    go_loopw [5, 24] (fun ov iv wr => ∃ k : Nat, k ≤ n5 ∧ iv = .int .i64 k ∧ ∃ xo no co, ov = .slice xo no co ∧ Hid (OwnK 3 kInt.cells 1 (w.heap.size + 1) wr (.slice xo no co) (facesTo (L'.map kRt.strip) (mpN l m) k)) ∧ Hid (∀ g, (Value.slice xo no co).ownBlock = some g → g = w.heap.size + 1 ∨ w5.heap.size ≤ g) ∧ Hid (w5.grownBy wr (some (w.heap.size + 1))) ∧ Hid (Below w.heap.size w wr)) (fun _ iv _ => n5 - (intOf iv).toNat)
    case atStart => exact ⟨0, Nat.zero_le _, rfl, _, _, _, rfl, HO5, Lib.hid (fun g hg => by cases hg; exact Or.inl rfl), HK5, HB5⟩
    case round =>
      clear HO5 HK5 HB5
      obtain ⟨k, hk, rfl, xo, no, co, rfl, ho, hfb, hkk, hb⟩ := hrel
      have hh := Lib.hid (HH5.out.grown hkk.out HGB5.out)
      have hx := Lib.hid (HXP5.out.grown hkk.out HGP5.out)
      have hpa := Lib.hid (show kN.At wr (.agg #[.slice za na ea]) (mpN l m) from by
        have h5 := Kd.Own.grown HPO5.out hkk.out HPB5.out
        have h6 := Kd.at_of (k := kN) h5.holds
        rw [HS1.out] at h6
        have h7 : kN.val m1 = .agg #[.slice za na ea] := by show Value.agg (kN.cells m1).toArray = _; rw [HD1.out]
        rw [h7] at h6
        exact h6)
      by_cases hlt : k < n5
      · have hkL : k < L'.length := by have := HN5.out; omega
        obtain ⟨b, off, y0, m0, d0, rfl, -, hc0, hc1, hc2, hA⟩ := kLRt_elem hh.out (fun y hy => kRt.holds_on (HEL5.out y hy) hb.out) (j := k) hkL
        have hpt : nth (L'.map kRt.strip) k = kRt.strip (nth L' k) := nth_map _ hkL
        have hkD : k < (L'.map kRt.strip).length := by rw [List.length_map]; exact hkL
        have hps := HP.out (nth (L'.map kRt.strip) k) (HDP.out.mem_iff.1 (nth_mem hkD))
        rw [← hpt] at hA hc1 hc2
        have hNM := kRt_parts hA
        obtain ⟨nm, rf, rc, hx9⟩ : ∃ nm rf rc, nth (L'.map kRt.strip) k = (nm, rf, rc) := ⟨_, _, _, rfl⟩
        rw [hx9] at hNM hps hc1 hc2
        simp only at hc1 hc2
        obtain ⟨z, hz⟩ : ∃ z, decide (nm = mpN l m) = z := ⟨_, rfl⟩
        have HZZ := Lib.hid hz
        have HNX := Lib.hid (facesTo_next (d := L'.map kRt.strip) (p := mpN l m) (k := k) hkD (q := z) (by rw [hx9]; exact hz))
        rw [hx9] at HNX
        have hal := (Below.refl wr.heap.size wr).alloc (Nat.le_refl _) (.cells #[.slice y0 m0 d0, .int .i64 rf, .int .i64 rc] 49)
        have HR := Lib.hid (Ret.Blk.new wr #[.slice y0 m0 d0, .int .i64 rf, .int .i64 rc] 49)
        have HNM := Lib.hid (hNM.on hal); have HPN := Lib.hid hps
        replace ho := Lib.hid (ho.out.on hal); replace hx := Lib.hid (hx.out.on hal); replace hpa := Lib.hid (hpa.out.on hal); replace hb := Lib.hid (hb.out.trans (hal.mono hb.out.size)); replace hkk := Lib.hid (grownF hkk.out (Sl.grown_of_below hal none) (fun r e => by cases e))
        clear hal hz hx9 hpt hNM hps hA hkD hkL hh
        have r0_ := HR.out.cell 0; have p0_ := hx.out.cell 0
        go_wp2_with fail
        clear r0_ p0_ hc0 hc1 hc2
        refine (iEqK z HZZ.out HNM.out hpa.out (Nat.le_trans HPN.out (by decide)) (Nat.le_trans HBP.out (by decide))).mono ?_
        rintro e w6 ⟨rfl, hb6⟩
        replace ho := Lib.hid (ho.out.on hb6); replace hb := Lib.hid (hb.out.trans (hb6.mono hb.out.size)); replace HR := Lib.hid (HR.out.on hb6); replace hkk := Lib.hid (grownF hkk.out (Sl.grown_of_below hb6 none) (fun r e => by cases e))
        clear hb6 hx hpa
        cases z with
        | false =>
          have HO6 := Lib.hid (show OwnK 3 kInt.cells 1 (w.heap.size + 1) w6 (.slice xo no co) (facesTo (L'.map kRt.strip) (mpN l m) (k + 1)) from by rw [HNX.out]; exact ho.out)
          go_wp2
          go_roundw
          case rel => exact ⟨k + 1, by omega, by go_num, xo, no, co, rfl, HO6, hfb, hkk, hb⟩
          case measure => simp [intOf]; omega
        | true =>
          have r1_ : w6.cell? ⟨wr.heap.size, 1, none⟩ = some (.int .i64 rf) := HR.out.cell 1
          have HLJ := Lib.hid (show (facesTo (L'.map kRt.strip) (mpN l m) k).length ≤ 1200000 from Nat.le_trans (facesTo_len _ _ _) (by omega))
          have hal9 := (Below.refl w6.heap.size w6).alloc (Nat.le_refl _) (.cells #[.int .i64 rf] 3)
          have HO9 := Lib.hid (ho.out.on hal9)
          have HK9 := Lib.hid (grownF hkk.out (Sl.grown_of_below hal9 none) (fun r e => by cases e)); have HB9 := Lib.hid (hb.out.trans (hal9.mono hb.out.size))
          have HSO := Lib.hid (one_k (k := kInt) szI14 (e := 3) (W := w6) (m := rf) (cs := [.int .i64 rf]) rfl)
          have HZ9 := Lib.hid (show w.heap.size + 1 ≤ (w6.alloc (.cells #[.int .i64 rf] 3)).heap.size from by have h5 := HS5.out; have h6 := HK9.out.size; omega)
          clear hal9
          go_wp2_with (at_builtin; refine wpList_appK_at kindI14 (B := w.heap.size + 1) (l := facesTo (L'.map kRt.strip) (mpN l m) k) (m := [rf]) rfl _ _ rfl Try.underlying28 rfl rfl HO9.out HSO.out (by have h5 := HLJ.out; simp; omega) (by have h5 := HLJ.out; unfold maxLen; simp; omega) HZ9.out ?_)
          intro v2 w8 ho2 hg2 hat
          obtain ⟨x2, n2, c2, rfl, -, -, ho2⟩ := ho2.shapeN
          have HO6 := Lib.hid (show OwnK 3 kInt.cells 1 (w.heap.size + 1) w8 (.slice x2 n2 c2) (facesTo (L'.map kRt.strip) (mpN l m) (k + 1)) from by rw [HNX.out]; exact ho2)
          have HF8 := Lib.hid (show ∀ g, (Value.slice x2 n2 c2).ownBlock = some g → g = w.heap.size + 1 ∨ w5.heap.size ≤ g from fun g hg => by
            rcases hat with h5 | h5
            · exact hfb.out g (h5 ▸ hg)
            · rw [h5] at hg; cases hg; exact Or.inr (by have h5 := HK9.out.size; simp at h5; omega))
          have HK8 := Lib.hid (grownF HK9.out hg2 (fun r e => hfb.out r e))
          have HB8 := Lib.hid (HB9.out.grown hg2 HB9.out.size (fun g hg => by have h5 := (HO9.out.lt g hg).1; omega))
          clear ho2 hg2 hat r1_
          go_wp2
          go_roundw
          case rel => exact ⟨k + 1, by omega, by go_num, x2, n2, c2, rfl, HO6, HF8, HK8, HB8⟩
          case measure => simp [intOf]; omega
      · obtain rfl : k = n5 := by omega
        clear hlt
        have HE := Lib.hid (show facesTo (L'.map kRt.strip) (mpN l m) k = hopsRt l m from by
          have h5 := HN5.out
          have h6 : k = (L'.map kRt.strip).length := by rw [List.length_map]; exact h5
          rw [h6, facesTo_all, hops_of_sorted _ HDP.out HSD.out]
          unfold hopsRt
          rw [HQ.out]; rfl)
        have HO6 := Lib.hid (show OwnK 3 kInt.cells 1 (w.heap.size + 1) wr (.slice xo no co) (hopsRt l m) from by rw [← HE.out]; exact ho.out)
        go_wp2
        go_ret
        exact ⟨_, rfl, Kd.In.mono (kI_own (ownI_of HO6.out)) (Nat.le_succ _) (Nat.le_refl _), hb.out⟩
end Go.Proofs.Ytdaahcaafdleaab.Row
/- Lists of elements of a kind, marked part by part: what a part's marking leaves of the list. For any kind and any program. No conditions. -/
namespace Go.Proofs.Ytdaahcaafdleaab.Row
open Go.ChangeShapes Go.WideShapes Go.ChangeAt Go.RowKit Go.Instr
set_option linter.unusedVariables false
set_option linter.unusedSectionVars false
set_option maxRecDepth 100000
section
variable {α M β N : Type} [Inhabited M] {k : Kd α M} {l : Kd β N} {B E : Nat} {w w' : World} {P : Program}
def MarkF (P : Program) (k : Kd α M) (fn : FuncId) (arg : M → Value) (adv : α → Nat) (mk : Int → α → α) : Prop :=
  ∀ (B E : Nat) (x : M) (w : World) (q : Int), k.Own B E w x → adv (k.strip x) ≤ 100000000 → 0 ≤ q → q + (adv (k.strip x) : Int) ≤ 100000000000 →
    Calls P fn #[arg x, .int .i64 q] w fun e w' => e = .returned (.int .i64 (q + (adv (k.strip x) : Int))) ∧ ∃ x', k.cells x' = k.cells x ∧ k.blocks x' = k.blocks x ∧ k.strip x' = mk q (k.strip x) ∧ k.Own B E w' x' ∧ WroteBy (k.blocks x) w w'
theorem MarkF.fst {fn : FuncId} {arg : M → Value} {adv : α → Nat} {mk : Int → α → α} (h : MarkF P k fn arg adv mk) (l : Kd β N) : MarkF P (k.pair l) fn (fun x => arg x.1) (fun a => adv a.1) (fun q a => (mk q a.1, a.2)) := by
  intro B E x w q ho hl h0 h1
  obtain ⟨m, n⟩ := x
  obtain ⟨o1, o2, hd⟩ := ho.parts
  refine (h B E m w q o1 hl h0 h1).mono ?_
  rintro e w' ⟨rfl, m', c, b, s, o, hw⟩
  refine ⟨rfl, (m', n), ?_, ?_, ?_, ?_, ?_⟩
  · show k.cells m' ++ l.cells n = k.cells m ++ l.cells n
    rw [c]
  · show k.blocks m' ++ l.blocks n = k.blocks m ++ l.blocks n
    rw [b]
  · show (k.strip m', l.strip n) = (mk q (k.strip m), l.strip n)
    rw [s]
  · exact Kd.Own.join o (hw.own o2 (fun g hg hg2 => hd g hg2 hg)) (by rw [b]; exact hd)
  · exact hw.more (fun g hg => List.mem_append_left _ hg)
theorem flat_disj {γ : Type} {f : γ → List Nat} {L : List γ} (h : (L.flatMap f).Nodup) {i j : Nat} (hi : i < L.length) (hj : j < L.length) (hne : i ≠ j) : ∀ q ∈ f L[i], q ∉ f L[j] := by
  have h2 := (List.pairwise_flatMap.1 h).2
  have h3 := List.pairwise_iff_getElem.1 h2
  intro q hq hq2
  rcases Nat.lt_or_gt_of_ne hne with hl | hl
  · exact h3 i j hi hj hl q hq q hq2 rfl
  · exact h3 j i hj hi hl q hq2 q hq rfl
theorem flatB_one {γ : Type} {f : γ → List Nat} {L : List γ} (h : (L.flatMap f).Nodup) {j : Nat} (hj : j < L.length) : (f L[j]).Nodup :=
  (List.pairwise_flatMap.1 h).1 _ (List.getElem_mem hj)
theorem flatMap_set {γ δ : Type} {f : γ → List δ} {L : List γ} {j : Nat} (hj : j < L.length) {y : γ} (e : f y = f L[j]) : (L.set j y).flatMap f = L.flatMap f := by
  rw [List.flatMap_def, List.flatMap_def, List.map_set]
  congr 1
  have : f y = (L.map f)[j]'(by simpa using hj) := by simp [e]
  rw [this, List.set_getElem_self]
variable {e : TypeId} {ad : Option Addr} {n cap j : Nat} {L : List M}
theorem Kd.Own.row (h : (k.slice e).Own B E w ⟨ad, n, cap, L⟩) : OwnK e k.cells k.size B w (.slice ad n cap) L := h.1.1
theorem Kd.Own.apart (h : (k.slice e).Own B E w ⟨ad, n, cap, L⟩) : (L.flatMap k.blocks).Nodup ∧ ∀ g, (Value.slice ad n cap).ownBlock = some g → g ∉ L.flatMap k.blocks := by
  have h2 : ((Value.slice ad n cap).ownBlock.toList ++ L.flatMap k.blocks).Nodup := h.2.1
  have h3 := List.nodup_append.1 h2
  exact ⟨h3.2.1, fun g hg hg2 => h3.2.2 g (by simp [hg]) g hg2 rfl⟩
theorem Kd.Own.elem (h : (k.slice e).Own B E w ⟨ad, n, cap, L⟩) (hj : j < L.length) : k.Own B E w (nth L j) := by
  rw [nth_eq hj]
  refine ⟨h.1.2 _ (List.getElem_mem hj), flatB_one h.apart.1 hj, fun g hg => h.2.2 g ?_⟩
  exact List.mem_append_right _ (List.mem_flatMap.2 ⟨_, List.getElem_mem hj, hg⟩)
theorem Kd.Own.part (h : (k.slice e).Own B E w ⟨ad, n, cap, L⟩) (hj : j < L.length) {x' : M} (hc : k.cells x' = k.cells (nth L j)) (hb : k.blocks x' = k.blocks (nth L j)) (ho : k.Own B E w' x') (hw : WroteBy (k.blocks (nth L j)) w w') :
    (k.slice e).Own B E w' ⟨ad, n, cap, L.set j x'⟩ ∧ WroteBy (L.flatMap k.blocks) w w' := by
  rw [nth_eq hj] at hc hb hw
  obtain ⟨hnd, hrow⟩ := h.apart
  have hfb := flatMap_set hj hb
  have hfc : Row.flat k.cells (L.set j x') = Row.flat k.cells L := by
    unfold Row.flat
    exact flatMap_set hj hc
  refine ⟨⟨⟨?_, fun y hy => ?_⟩, ?_, ?_⟩, hw.more (fun g hg => List.mem_flatMap.2 ⟨_, List.getElem_mem hj, hg⟩)⟩
  · have hk : OwnK e k.cells k.size B w' (.slice ad n cap) L := ownK_keep h.row (fun g hg => hw.block g (h.row.lt g hg).2 (fun hg2 => hrow g hg (List.mem_flatMap.2 ⟨_, List.getElem_mem hj, hg2⟩)))
    show OwnK e k.cells k.size B w' (.slice ad n cap) (L.set j x')
    unfold OwnK at hk ⊢
    rw [List.length_set, hfc]
    exact hk
  · obtain ⟨i, hi, rfl⟩ := List.getElem_of_mem (show y ∈ L.set j x' from hy)
    have hi2 : i < L.length := by simpa using hi
    by_cases e1 : j = i
    · subst e1
      rw [List.getElem_set_self]
      exact ho.1
    · rw [List.getElem_set_ne e1]
      refine k.own_keep (h.1.2 _ (List.getElem_mem hi2)) (fun g hg => hw.block g (k.own_lt (h.1.2 _ (List.getElem_mem hi2)) g hg).2 (fun hg2 => flat_disj hnd hi2 hj (fun e2 => e1 e2.symm) g hg hg2))
  · show ((Value.slice ad n cap).ownBlock.toList ++ (L.set j x').flatMap k.blocks).Nodup
    rw [hfb]
    exact h.2.1
  · intro g hg
    have hg2 : g ∈ (Value.slice ad n cap).ownBlock.toList ++ (L.set j x').flatMap k.blocks := hg
    rw [hfb] at hg2
    exact h.2.2 g hg2
theorem Kd.Own.put {g : Nat} (h : (k.slice e).Own B E w ⟨some ⟨g, 0, none⟩, n, cap, L⟩) (hn : n = L.length) (hj : j < L.length) {i : Nat} (hi : i < k.size) {u : Value} {x' : M} (hc : k.cells x' = (k.cells (nth L j)).set i u) (hb : k.blocks x' = k.blocks (nth L j)) (ho : ∀ {W : World}, k.own B W (nth L j) → k.own B W x') :
    (k.slice e).Own B E (w.setCell ⟨g, j * k.size + i, none⟩ u) ⟨some ⟨g, 0, none⟩, n, cap, L.set j x'⟩ ∧ w.grownBy (w.setCell ⟨g, j * k.size + i, none⟩ u) (some g) := by
  obtain ⟨a1, a2⟩ := ownK_store (fun m => k.len m) h.row hn hj hi hc
  obtain ⟨hnd, hrow⟩ := h.apart
  have hg0 := hrow g rfl
  have hfb := flatMap_set (f := k.blocks) hj (by rw [hb, nth_eq hj])
  have keep : ∀ {y : M}, y ∈ L → k.own B (w.setCell ⟨g, j * k.size + i, none⟩ u) y := fun {y} hy => k.own_keep (h.1.2 y hy) (fun q hq => a2.block q (k.own_lt (h.1.2 y hy) q hq).2 (fun e1 => hg0 (by cases e1; exact List.mem_flatMap.2 ⟨y, hy, hq⟩)))
  refine ⟨⟨⟨a1, fun y hy => ?_⟩, ?_, ?_⟩, a2⟩
  · rcases List.mem_or_eq_of_mem_set (show y ∈ L.set j x' from hy) with hy | rfl
    · exact keep hy
    · exact ho (keep (nth_mem hj))
  · show ((Value.slice (some ⟨g, 0, none⟩) n cap).ownBlock.toList ++ (L.set j x').flatMap k.blocks).Nodup
    rw [hfb]
    exact h.2.1
  · intro q hq
    have hg2 : q ∈ (Value.slice (some ⟨g, 0, none⟩) n cap).ownBlock.toList ++ (L.set j x').flatMap k.blocks := hq
    rw [hfb] at hg2
    exact h.2.2 q hg2
end
section
variable {α : Type} [Inhabited α] (a : α → Nat) (f : Int → α → α)
def advK : List α → Nat
  | [] => 0
  | x :: r => a x + advK r
def mkLK (q : Int) : List α → List α
  | [] => []
  | x :: r => f q x :: mkLK (q + (a x : Int)) r
theorem advK_append : ∀ (l m : List α), advK a (l ++ m) = advK a l + advK a m
  | [], m => by simp [advK]
  | x :: l, m => by simp [advK, advK_append l m]; omega
theorem advK_take {l : List α} {j : Nat} (h : j < l.length) : advK a (l.take (j + 1)) = advK a (l.take j) + a (nth l j) := by
  rw [List.take_succ_eq_append_getElem h, advK_append, nth_eq h]; simp [advK]
theorem advK_take_le (l : List α) (j : Nat) : advK a (l.take j) ≤ advK a l := by
  have := advK_append a (l.take j) (l.drop j)
  rw [List.take_append_drop] at this; omega
theorem mkLK_append (q : Int) : ∀ (l m : List α), mkLK a f q (l ++ m) = mkLK a f q l ++ mkLK a f (q + (advK a l : Int)) m
  | [], m => by simp [mkLK, advK]
  | x :: l, m => by
    simp only [List.cons_append, mkLK, advK, mkLK_append _ l m]
    congr 3
    simp; omega
theorem mkLK_take (q : Int) {l : List α} {j : Nat} (h : j < l.length) : mkLK a f q (l.take (j + 1)) = mkLK a f q (l.take j) ++ [f (q + (advK a (l.take j) : Int)) (nth l j)] := by
  rw [List.take_succ_eq_append_getElem h, mkLK_append, nth_eq h]; rfl
end
end Go.Proofs.Ytdaahcaafdleaab.Row
/- Slices of bytes in the words of kinds: sz, to, eq, mark, held. No conditions but that lengths fit. -/
namespace Go.Proofs.Ytdaahcaafdleaab.Row
open Go.ChangeShapes Go.WideShapes Go.ChangeAt Go.RowKit Go.Instr
set_option linter.unusedVariables false
set_option maxRecDepth 100000
def okB (l : List Int) : Prop := l.length ≤ 9223372036854775807
end Go.Proofs.Ytdaahcaafdleaab.Row
/- Names and bytes as parts that are marked; an element of a list, step by step. No conditions but that lengths fit. -/
namespace Go.Proofs.Ytdaahcaafdleaab.Row
open Go.ChangeShapes Go.WideShapes Go.ChangeAt Go.RowKit Go.Instr
set_option linter.unusedVariables false
set_option linter.unusedSectionVars false
set_option maxRecDepth 100000
theorem markF_N : MarkF Try.prog kN 34 (fun m => m.v) (fun l => l.length) (fun q l => marks markT q l.length) := by
  intro B E m w k h hl h0 h1
  have ho := kN_own1 h.1
  rw [kN_strip] at hl h1 ⊢
  refine (markStringS B m.v m.els w k ho hl h0 (by omega)).mono ?_
  rintro e w' ⟨a, b, c⟩
  refine ⟨a, ⟨m.ad, m.n, m.cap, marks markT k m.els.length⟩, rfl, by rw [kN_blocks, kN_blocks]; rfl, by rw [kN_strip], ⟨kN_own2 b, ?_, ?_⟩, WroteBy.of c (fun g hg => by rw [kN_blocks]; simp [hg])⟩
  · have := h.2.1
    rw [kN_blocks] at this ⊢
    exact this
  · have := h.2.2
    rw [kN_blocks] at this ⊢
    exact this
section
variable {α M : Type} [Inhabited M] {k : Kd α M} {B E : Nat} {w w' : World} {e : TypeId} {ad : Option Addr} {n cap j g : Nat} {Z : List M} {x x' : M}
theorem nth_set9 {γ : Type} [Inhabited γ] {Z : List γ} {j : Nat} (hj : j < Z.length) (x : γ) : nth (Z.set j x) j = x := by
  rw [nth_eq (by simpa using hj), List.getElem_set_self]
theorem set_nth9 {γ : Type} [Inhabited γ] {Z : List γ} {j : Nat} (hj : j < Z.length) : Z.set j (nth Z j) = Z := by
  rw [nth_eq hj, List.set_getElem_self]
theorem Kd.Own.elem9 (h : (k.slice e).Own B E w ⟨ad, n, cap, Z.set j x⟩) (hj : j < Z.length) : k.Own B E w x := by
  have := Kd.Own.elem h (j := j) (by simpa using hj)
  rwa [nth_set9 hj] at this
theorem Kd.Own.part9 (h : (k.slice e).Own B E w ⟨ad, n, cap, Z.set j x⟩) (hj : j < Z.length) (hc : k.cells x' = k.cells x) (hb : k.blocks x' = k.blocks x) (ho : k.Own B E w' x') (hw : WroteBy (k.blocks x) w w') :
    (k.slice e).Own B E w' ⟨ad, n, cap, Z.set j x'⟩ := by
  have := (Kd.Own.part h (j := j) (by simpa using hj) (x' := x') (by rw [nth_set9 hj]; exact hc) (by rw [nth_set9 hj]; exact hb) ho (by rw [nth_set9 hj]; exact hw)).1
  rwa [List.set_set] at this
theorem Kd.Own.put9 (h : (k.slice e).Own B E w ⟨some ⟨g, 0, none⟩, n, cap, Z.set j x⟩) (hn : n = Z.length) (hj : j < Z.length) {i : Nat} (hi : i < k.size) {u : Value} (hc : k.cells x' = (k.cells x).set i u) (hb : k.blocks x' = k.blocks x) (ho : ∀ {W : World}, k.own B W x → k.own B W x') :
    (k.slice e).Own B E (w.setCell ⟨g, j * k.size + i, none⟩ u) ⟨some ⟨g, 0, none⟩, n, cap, Z.set j x'⟩ := by
  have := (Kd.Own.put h (j := j) (by simpa using hn) (by simpa using hj) hi (u := u) (x' := x') (by rw [nth_set9 hj]; exact hc) (by rw [nth_set9 hj]; exact hb) (by rw [nth_set9 hj]; exact ho)).1
  rwa [List.set_set] at this
theorem Kd.Own.cell9 (h : (k.slice e).Own B E w ⟨some ⟨g, 0, none⟩, n, cap, Z.set j x⟩) (hn : n = Z.length) (hj : j < Z.length) {i : Nat} (hi : i < k.size) : w.cell? ⟨g, j * k.size + i, none⟩ = (k.cells x)[i]? ∧ w.frozen? ⟨g, j * k.size + i, none⟩ = false := by
  have := ownK_cell (fun m => k.len m) h.row (by simpa using hn) (j := j) (by simpa using hj) hi
  rwa [nth_set9 hj] at this
theorem nth_over {γ : Type} [Inhabited γ] {M L : List γ} {j : Nat} (hm : M.length = j) (hj : j < L.length) : nth (M ++ L.drop j) j = nth L j := by
  simp only [nth, List.getD]
  rw [List.getElem?_append_right (by rw [hm]; exact Nat.le_refl _), hm]
  simp
theorem set_over {γ : Type} [Inhabited γ] {M L : List γ} {j : Nat} (hm : M.length = j) (hj : j < L.length) (x : γ) : (M ++ L.drop j).set j x = M ++ [x] ++ L.drop (j + 1) := by
  have hd : L.drop j = nth L j :: L.drop (j + 1) := by rw [nth_eq hj, List.getElem_cons_drop]
  rw [List.set_append_right _ _ (by rw [hm]; exact Nat.le_refl _), hm, Nat.sub_self, hd, List.set_cons_zero, List.append_assoc]
  rfl
end
end Go.Proofs.Ytdaahcaafdleaab.Row
/- Lists of Route: marked and looked at. No conditions but that lengths fit. -/
namespace Go.Proofs.Ytdaahcaafdleaab.Row
open Go.ChangeShapes Go.WideShapes Go.ChangeAt Go.RowKit Go.Instr
set_option linter.unusedVariables false
set_option maxRecDepth 100000
def mvRt (z : Rtt) : Nat := z.1.length + 2
def meRt (q : Int) (z : Rtt) : Rtt := (marks markT (q) z.1.length, q + (z.1.length : Int), q + (z.1.length : Int) + 1)
theorem mfRt0 (B E : Nat) (x : Rtm) (w : World) (q : Int) (a : Nat) (ha : (kRt.strip x).1.length = a) (ho : kRt.Own B E w x) (hl : a ≤ 100000000) (h0 : 0 ≤ q) (h1 : q + (a : Int) ≤ 100000000000) :
    Calls Try.prog 34 #[x.1.v, .int .i64 q] w fun e w' => e = .returned (.int .i64 (q + (a : Int))) ∧ ∃ x', kRt.cells x' = kRt.cells x ∧ kRt.blocks x' = kRt.blocks x ∧ kRt.strip x' = (marks markT (q) (kRt.strip x).1.length, (kRt.strip x).2.1, (kRt.strip x).2.2) ∧ kRt.Own B E w' x' ∧ WroteBy (kRt.blocks x) w w' := by
  subst ha
  exact (markF_N.fst _) B E x w q ho hl h0 h1
set_option maxHeartbeats 4000000 in
theorem markRouteSK (B E : Nat) (m : Rw Rtm) (w : World) (k : Int) (h : kLRt.Own B E w m) (hl : advK mvRt (kLRt.strip m) ≤ 100000000) (h0 : 0 ≤ k) (h1 : k + (advK mvRt (kLRt.strip m) : Int) ≤ 100000000000) :
    Calls Try.prog 14 #[kLRt.val m, .int .i64 k] w fun e w' => e = .returned (.int .i64 (k + (advK mvRt (kLRt.strip m) : Int))) ∧ ∃ m', kLRt.val m' = kLRt.val m ∧ kLRt.blocks m' = kLRt.blocks m ∧ kLRt.strip m' = mkLK mvRt meRt k (kLRt.strip m) ∧ kLRt.Own B E w' m' ∧ WroteBy (kLRt.blocks m) w w' := by
  obtain ⟨ad, n, cap, L⟩ := m
  replace h : (kRt.slice 49).Own B E w ⟨ad, n, cap, L⟩ := h
  replace hl : advK mvRt (L.map kRt.strip) ≤ 100000000 := hl
  replace h1 : k + (advK mvRt (L.map kRt.strip) : Int) ≤ 100000000000 := h1
  show Calls Try.prog 14 #[.slice ad n cap, .int .i64 k] w fun e w' => e = .returned (.int .i64 (k + (advK mvRt (L.map kRt.strip) : Int))) ∧ ∃ m' : Rw Rtm, Rw.v m' = .slice ad n cap ∧ (kRt.slice 49).blocks m' = (kRt.slice 49).blocks ⟨ad, n, cap, L⟩ ∧ m'.els.map kRt.strip = mkLK mvRt meRt k (L.map kRt.strip) ∧ (kRt.slice 49).Own B E w' m' ∧ WroteBy ((kRt.slice 49).blocks ⟨ad, n, cap, L⟩) w w'
  rcases h.row.form with ⟨hv, hL⟩ | ⟨g, cap', hv, g1, g2, g3, g4⟩
  · cases hv
    subst hL
    have H := Lib.hid h; clear h
    go_enter Try.func14, Try.ntmps14
    go_wp2
    refine wp_loop_rounds 1 ?_
    rw [rounds_succ]
    go_wp2
    go_ret
    exact ⟨ret_int (by simp [advK]), ⟨⟨none, 0, 0, []⟩, rfl, rfl, rfl, H.out, WroteBy.refl _ _⟩⟩
  · cases hv
    have HROWLT := g2
    obtain ⟨n, hn⟩ : ∃ n, n = L.length := ⟨_, rfl⟩
    rw [← hn] at h g3 ⊢
    obtain ⟨l, hl9⟩ : ∃ l, L.map kRt.strip = l := ⟨_, rfl⟩
    rw [hl9] at hl h1 ⊢
    have hll : l.length = n := by rw [← hl9, List.length_map, hn]
    obtain ⟨bs, hbs⟩ : ∃ bs, (kRt.slice 49).blocks ⟨some ⟨g, 0, none⟩, n, cap, L⟩ = bs := ⟨_, rfl⟩
    have hgb : g ∈ bs := by rw [← hbs]; exact List.mem_append_left _ (by simp [Value.ownBlock, Rw.v])
    have heb : ∀ x ∈ L, ∀ q ∈ kRt.blocks x, q ∈ bs := fun x hx q hq => by rw [← hbs]; exact List.mem_append_right _ (List.mem_flatMap.2 ⟨x, hx, hq⟩)
    have hmaxl : n ≤ 140737488351232 ∨ True := Or.inr trivial
    have hn2 : n ≤ maxLen := by rw [hn]; exact h.row.len
    unfold maxLen at hn2
    rw [hbs]
    have HN := Lib.hid hn; have HT := Lib.hid hl9; have HLL := Lib.hid hll; have HBS := Lib.hid hbs; have HGB := Lib.hid hgb; have HEB := Lib.hid heb
    have HST := Lib.hid (fun j (hj : j < n) => advK_take mvRt (l := l) (j := j) (by rw [hll]; exact hj))
    have HLE := Lib.hid (fun j => advK_take_le mvRt l j)
    have HB : Hid ((kRt.slice 49).Own B E w ⟨some ⟨g, 0, none⟩, n, cap, [] ++ L.drop 0⟩) := Lib.hid (by simpa using h)
    clear hn h hl9 hll hbs hgb heb hmaxl
    go_enter Try.func14, Try.ntmps14
    go_wp2
    go_loopw [1, 5] (fun kv i wr => ∃ j : Nat, j ≤ n ∧ i = .int .i64 j ∧ ∃ p : Int, kv = .int .i64 p ∧ 0 ≤ p ∧ p ≤ 100000000000 ∧ Hid (p = k + (advK mvRt (l.take j) : Int)) ∧ ∃ M : List Rtm, Hid (M.length = j) ∧ Hid (M.map kRt.strip = mkLK mvRt meRt k (l.take j)) ∧ Hid (M.map kRt.blocks = (L.take j).map kRt.blocks) ∧ Hid ((kRt.slice 49).Own B E wr ⟨some ⟨g, 0, none⟩, n, cap, M ++ L.drop j⟩) ∧ Hid (WroteBy bs w wr)) (fun _ i _ => n - (intOf i).toNat)
    case atStart => exact ⟨0, Nat.zero_le _, rfl, k, rfl, h0, by omega, Lib.hid (by simp [advK]), [], Lib.hid rfl, Lib.hid (by simp [mkLK]), Lib.hid rfl, HB, Lib.hid (WroteBy.refl _ _)⟩
    case round =>
      obtain ⟨j, hj, rfl, p, rfl, hp0, hp1, HP, M, HM1, HM2, HM3, HO, HW⟩ := hrel
      by_cases hlt : j < n
      · have hjL : j < L.length := by have := HN.out; omega
        obtain ⟨x0, hx0⟩ : ∃ x, nth L j = x := ⟨_, rfl⟩
        obtain ⟨Z, hZ⟩ : ∃ Z, M ++ L.drop j = Z := ⟨_, rfl⟩
        have hZl : n = Z.length := by rw [← hZ, List.length_append, HM1.out, List.length_drop]; have := HN.out; omega
        have hjZ : j < Z.length := by omega
        have hx9 : nth Z j = x0 := by rw [← hZ, nth_over HM1.out hjL, hx0]
        have ho := HO.out
        rw [hZ, ← set_nth9 hjZ, hx9] at ho
        have hst := HST.out j hlt
        rw [show nth l j = kRt.strip x0 by rw [← HT.out, nth_map _ hjL, hx0]] at hst
        have hle := HLE.out (j + 1)
        have hxb := HEB.out x0 (by rw [← hx0]; exact nth_mem hjL)
        obtain ⟨a0, ha0⟩ : ∃ a, (kRt.strip x0).1.length = a := ⟨_, rfl⟩
        have hmv : mvRt (kRt.strip x0) = a0 + 2 := by unfold mvRt; rw [ha0]
        rw [hmv] at hst
        have hp := HP.out
        have ba0 : a0 ≤ 100000000 := by omega
        have btot : p + ((a0 + 2 : Nat) : Int) ≤ 100000000000 := by omega
        have HX0 := Lib.hid hx0; have HZ := Lib.hid hZ; have HZL := Lib.hid hZl; have HJZ := Lib.hid hjZ; have HO0 := Lib.hid ho; have HSTP := Lib.hid hst; have HXB := Lib.hid hxb; have HJL := Lib.hid hjL; have HMV := Lib.hid hmv
        have HA0_0 := Lib.hid ha0
        have HW0 := HW
        clear hx0 hZ hZl hjZ hx9 ho hst hle hxb hp hjL hmv ha0
        have c : wr.cell? ⟨g, j * 3, none⟩ = some x0.1.v := (HO0.out.cell9 HZL.out HJZ.out (i := 0) (by decide)).1
        go_wp2_with fail
        clear c
        refine (mfRt0 B E x0 wr (p) a0 HA0_0.out (HO0.out.elem9 HJZ.out) ba0 (by omega) (by omega)).mono ?_
        rintro e w1 ⟨rfl, x1, hc, hb, hs, ho, hw⟩
        have HO1 := Lib.hid (HO0.out.part9 HJZ.out hc hb ho hw); have HB1 := Lib.hid hb; have HS1 := Lib.hid hs
        have HW1 := Lib.hid (HW0.out.trans (hw.more (fun q hq => HXB.out q hq)))
        clear hc hb hs ho hw
        have c1 : w1.cell? ⟨g, j * 3 + 1, none⟩ = some (.int .i64 x1.2.1) := (HO1.out.cell9 HZL.out HJZ.out (i := 1) (by decide)).1; have t1 : w1.frozen? ⟨g, j * 3 + 1, none⟩ = false := (HO1.out.cell9 HZL.out HJZ.out (i := 1) (by decide)).2
        have c2 : w1.cell? ⟨g, j * 3 + 2, none⟩ = some (.int .i64 x1.2.2) := (HO1.out.cell9 HZL.out HJZ.out (i := 2) (by decide)).1; have t2 : w1.frozen? ⟨g, j * 3 + 2, none⟩ = false := (HO1.out.cell9 HZL.out HJZ.out (i := 2) (by decide)).2
        have HOF : Hid ((kRt.slice 49).Own B E ((w1.setCell ⟨g, j * 3 + 1, none⟩ (.int .i64 (p + (a0 : Int)))).setCell ⟨g, j * 3 + 2, none⟩ (.int .i64 (p + (a0 : Int) + 1))) ⟨some ⟨g, 0, none⟩, n, cap, Z.set j (x1.1, p + (a0 : Int), p + (a0 : Int) + 1)⟩) := Lib.hid (Kd.Own.put9 (x' := ((x1.1, p + (a0 : Int), p + (a0 : Int) + 1) : Rtm)) (Kd.Own.put9 (x' := ((x1.1, p + (a0 : Int), x1.2.2) : Rtm)) HO1.out HZL.out HJZ.out (i := 1) (by decide) (u := .int .i64 (p + (a0 : Int))) rfl rfl (fun h => h)) HZL.out HJZ.out (i := 2) (by decide) (u := .int .i64 (p + (a0 : Int) + 1)) rfl rfl (fun h => h))
        have HWF : Hid (WroteBy bs w ((w1.setCell ⟨g, j * 3 + 1, none⟩ (.int .i64 (p + (a0 : Int)))).setCell ⟨g, j * 3 + 2, none⟩ (.int .i64 (p + (a0 : Int) + 1)))) := Lib.hid ((HW1.out.trans (WroteBy.of (Ret.grownBy_set w1 ⟨g, j * 3 + 1, none⟩ (.int .i64 (p + (a0 : Int)))) (fun q hq => by cases hq; exact HGB.out))).trans (WroteBy.of (Ret.grownBy_set (w1.setCell ⟨g, j * 3 + 1, none⟩ (.int .i64 (p + (a0 : Int)))) ⟨g, j * 3 + 2, none⟩ (.int .i64 (p + (a0 : Int) + 1))) (fun q hq => by cases hq; exact HGB.out)))
        have HSF : Hid (kRt.strip (x1.1, p + (a0 : Int), p + (a0 : Int) + 1) = meRt p (kRt.strip x0)) := Lib.hid (by
          show ((kRt.strip x1).1, p + (a0 : Int), p + (a0 : Int) + 1) = _
          unfold meRt
          simp only [HS1.out, HA0_0.out])
        have HBF : Hid (kRt.blocks (x1.1, p + (a0 : Int), p + (a0 : Int) + 1) = kRt.blocks x0) := Lib.hid (show _ = _ from HB1.out)
        clear HO0 HW0 HO1 HW1 HB1 HS1
        go_wp2_with fail
        go_roundw
        case rel =>
          refine ⟨j + 1, by omega, by go_num, p + (a0 : Int) + 1 + 1, by go_num, by omega, by omega, Lib.hid ?_, M ++ [(x1.1, p + (a0 : Int), p + (a0 : Int) + 1)], Lib.hid ?_, Lib.hid ?_, Lib.hid ?_, Lib.hid ?_, HWF⟩
          · rw [HSTP.out, HP.out]; omega
          · simp [HM1.out]
          · rw [List.map_append, HM2.out, mkLK_take _ _ _ (by rw [HLL.out]; exact hlt), show nth l j = kRt.strip x0 by rw [← HT.out, nth_map _ HJL.out, HX0.out], ← HP.out, ← HSF.out]
            rfl
          · rw [List.map_append, HM3.out, List.take_succ_eq_append_getElem HJL.out, List.map_append, ← nth_eq HJL.out, HX0.out]
            simp only [List.map_cons, List.map_nil]
            rw [HBF.out]
          · have h9 := HOF.out
            rw [← HZ.out, set_over HM1.out HJL.out] at h9
            exact h9
        case measure => simp [intOf]; omega
      · obtain rfl : j = n := by omega
        clear hlt
        go_wp2
        go_ret
        have hn := HN.out
        have hp := HP.out
        have e1 : l.take j = l := List.take_of_length_le (by rw [HLL.out]; exact Nat.le_refl _)
        have e2 : L.take j = L := List.take_of_length_le (by omega)
        have e3 : L.drop j = [] := List.drop_eq_nil_of_le (by omega)
        have hh := HO.out
        have hm2 := HM2.out
        have hm3 := HM3.out
        rw [e1] at hp hm2
        rw [e2] at hm3
        rw [e3, List.append_nil] at hh
        refine ⟨ret_int hp, ⟨some ⟨g, 0, none⟩, j, cap, M⟩, rfl, ?_, hm2, hh, HW.out⟩
        rw [← HBS.out]
        show _ ++ M.flatMap kRt.blocks = _ ++ L.flatMap kRt.blocks
        rw [List.flatMap_def, List.flatMap_def, hm3]
        rfl
end Go.Proofs.Ytdaahcaafdleaab.Row
/- Lists of routes in the words of the exact laws: marks; how much the answers of chapter 14's functions hold. No conditions but that lengths fit. -/
namespace Go.Proofs.Ytdaahcaafdleaab.Row
open Go.ChangeShapes Go.WideShapes Go.ChangeAt Go.RowKit Go.Instr
set_option linter.unusedVariables false
set_option maxRecDepth 100000
theorem bulkK_sumZ {α : Type} [Inhabited α] (f : α → Nat) (l : List α) : bulkK f l = l.length + (l.map f).sum := by unfold bulkK bulkKTo; rw [List.take_length]
theorem advK_sumZ {α : Type} (f : α → Nat) (l : List α) : advK f l = (l.map f).sum := by
  induction l with
  | nil => rfl
  | cons a r ih => simp [advK, ih]
theorem inLRt.wf {l : List Rtt} (h : inLRt l) : ∀ x ∈ l, (Lit.int .i64 x.2.1).wf = true := fun x hx => (h.2 x hx).2.1
theorem inRt.wf {x : Rtt} (h : inRt x) : (Lit.int .i64 x.2.1).wf = true := h.2.1
theorem avRt_le (l : List Rtt) : advK mvRt l ≤ 2 * adLRt l := by
  unfold adLRt
  rw [advK_sumZ, bulkK_sumZ]
  have h : ∀ l : List Rtt, (l.map mvRt).sum = (l.map adRt).sum + 2 * l.length := fun l => by
    induction l with
    | nil => rfl
    | cons a r ih => simp only [List.map_cons, List.sum_cons, List.length_cons, ih]; show a.1.length + 2 + _ = a.1.length + _ + _; omega
  have := h l; omega
theorem avRt_big {l : List Rtt} {n : Nat} (h : bulkK wtRt l ≤ n) : advK mvRt l ≤ 2 * n := by
  have h1 := avRt_le l
  have h2 := adLRt_big h
  omega
theorem markLRtK (B E : Nat) (V : Value) (l : List Rtt) (w : World) (k : Int) (h : kLRt.In B E w V l) (hl : advK mvRt l ≤ 100000000) (h0 : 0 ≤ k) (h1 : k ≤ 1000000000) :
    Calls Try.prog 14 #[V, .int .i64 k] w fun e w' => e = .returned (.int .i64 (k + (advK mvRt l : Int))) ∧ kLRt.In B E w' V (mkLK mvRt meRt k l) ∧ Wrote B E w w' := by
  obtain ⟨m, rfl, rfl, hw9⟩ := h.split
  refine (markRouteSK B E m w k hw9 hl h0 (by omega)).mono ?_
  rintro e w' ⟨a, n, v, b, s, ho, hw⟩
  exact ⟨a, v ▸ s ▸ ho.in, hw.wrote (fun g hg => ⟨(hw9.lt g hg).1, (hw9.lt g hg).2.1⟩)⟩
end Go.Proofs.Ytdaahcaafdleaab.Row
/- A slice of numbers that came in as an argument: it holds a list, its numbers fit their kind, its length is within the reach. No conditions. -/
namespace Go.Proofs.Ytdaahcaafdleaab.Sl
open Go.ChangeShapes Go.WideShapes Go.ChangeAt Go.RowKit
end Go.Proofs.Ytdaahcaafdleaab.Sl
/- EqualRoutes, model and program. No conditions but that lengths fit. -/
namespace Go.Proofs.Ytdaahcaafdleaab.Row
open Go.ChangeShapes Go.WideShapes Go.ChangeAt Go.RowKit Go.Instr
set_option linter.unusedVariables false
set_option maxRecDepth 100000
theorem eqR_step {α : Type} [Inhabited α] {l m : List α} {k : Nat} (h : l.take k = m.take k) (hl : k < l.length) (hm : k < m.length) (e : nth l k = nth m k) : l.take (k + 1) = m.take (k + 1) := by rw [take_nx hl, take_nx hm, h, e]
theorem neR_step {α : Type} [Inhabited α] {l m : List α} {k : Nat} (h : nth l k ≠ nth m k) : l ≠ m := fun e => h (by rw [e])
def eqRts (a b : List Rtt) : Bool := decide (a = b)
set_option maxHeartbeats 4000000 in
theorem iEqRt (V U : Value) (x y : Rtt) (w : World) (q : Bool) (hq : decide (x = y) = q) (h : kRt.At w V x) (g : kRt.At w U y) (hp : bulk x.1 ≤ 1200000) (hp' : bulk y.1 ≤ 1200000) :
    Calls Try.prog 36 #[V, U] w fun e w' => e = .returned (.bool q) ∧ Below w.heap.size w w' := by
  obtain ⟨y0, m0, d0, rfl, h⟩ := kRt_shapeA h
  obtain ⟨z0, p0, e0, rfl, g⟩ := kRt_shapeA g
  have hN := kRt_parts h
  have gN := kRt_parts g
  obtain ⟨nm, rf, rc⟩ := x
  obtain ⟨nm2, rf2, rc2⟩ := y
  dsimp only at hN gN hp hp' ⊢
  have b0 := (Below.refl w.heap.size w).alloc (Nat.le_refl _) (.cells #[.slice y0 m0 d0, .int .i64 rf, .int .i64 rc] 49)
  have b1 := (Below.refl (w.alloc (.cells #[.slice y0 m0 d0, .int .i64 rf, .int .i64 rc] 49)).heap.size (w.alloc (.cells #[.slice y0 m0 d0, .int .i64 rf, .int .i64 rc] 49))).alloc (Nat.le_refl _) (.cells #[.slice z0 p0 e0, .int .i64 rf2, .int .i64 rc2] 49)
  have b01 := b0.trans (b1.mono b0.size)
  have HX := Lib.hid ((Ret.Blk.new w #[.slice y0 m0 d0, .int .i64 rf, .int .i64 rc] 49).on b1)
  have HY := Lib.hid (Ret.Blk.new' (w := (w.alloc (.cells #[.slice y0 m0 d0, .int .i64 rf, .int .i64 rc] 49))) (n := w.heap.size + 1) #[.slice z0 p0 e0, .int .i64 rf2, .int .i64 rc2] 49 (by simp))
  have HD := Lib.hid (hN.on b01); have HD2 := Lib.hid (gN.on b01); have HB := Lib.hid b01
  obtain ⟨a, ha⟩ : ∃ a, decide (nm = nm2) = a := ⟨_, rfl⟩
  have HA := Lib.hid ha
  have HQ : Hid (q = (a && (decide (rf = rf2) && decide (rc = rc2)))) := Lib.hid (by rw [← hq, ← ha]; simp [Prod.ext_iff])
  clear b0 b1 b01 h g ha hq hN gN
  go_enter Try.func36, Try.ntmps36
  go_wp2_with fail
  refine (iEqK a HA.out HD.out HD2.out (by omega) (by omega)).mono ?_
  rintro e w1 ⟨rfl, hb⟩
  have HX1 := Lib.hid (HX.out.on hb); have HY1 := Lib.hid (HY.out.on hb)
  have HB2 := Lib.hid (HB.out.trans (hb.mono HB.out.size)); clear hb
  cases a with
  | false =>
    have HE : Hid (q = false) := Lib.hid (by rw [HQ.out]; rfl)
    go_wp2
    go_ret
    exact ⟨ret_bool HE.out.symm, HB2.out⟩
  | true =>
    have f1 : w1.cell? ⟨w.heap.size, 1, none⟩ = some (.int .i64 rf) := HX1.out.cell 1
    have g1 : w1.cell? ⟨w.heap.size + 1, 1, none⟩ = some (.int .i64 rf2) := HY1.out.cell 1
    by_cases hu : rf = rf2
    · have t0 : (rf == rf2) = true := by simp [hu]
      have f2 : w1.cell? ⟨w.heap.size, 2, none⟩ = some (.int .i64 rc) := HX1.out.cell 2
      have g2 : w1.cell? ⟨w.heap.size + 1, 2, none⟩ = some (.int .i64 rc2) := HY1.out.cell 2
      have HE : Hid (q = (rc == rc2)) := Lib.hid (by rw [HQ.out]; by_cases hv : rc = rc2 <;> simp [hu, hv])
      clear hu
      go_wp2
      go_ret
      exact ⟨ret_bool HE.out.symm, HB2.out⟩
    · have t0 : (rf == rf2) = false := by simpa using hu
      have HE : Hid (q = false) := Lib.hid (by rw [HQ.out]; simp [hu])
      clear hu
      go_wp2
      go_ret
      exact ⟨ret_bool HE.out.symm, HB2.out⟩
set_option maxHeartbeats 8000000 in
theorem iEqFRt (V U : Value) (l m : List Rtt) (w : World) (z : Bool) (hz : decide (l = m) = z) (h : kLRt.At w V l) (g : kLRt.At w U m) (hf : FitRt l) (hf' : FitRt m) :
    Calls Try.prog 35 #[V, U, .func (.func 36) #[] #[]] w fun e w' => e = .returned (.bool z) ∧ Below w.heap.size w w' := by
  have hl := hf.len; have hl' := hf'.len; have hp := hf.each; have hp' := hf'.each
  obtain ⟨x, n, c, L, rfl, hn, ht, hh, hel⟩ := kLRt_at h
  obtain ⟨x2, n2, c2, M, rfl, hn2, ht2, hh2, hel2⟩ := kLRt_at g
  have hlen : l.length = n := by rw [← ht, List.length_map]; exact hn.symm
  have hlen2 : m.length = n2 := by rw [← ht2, List.length_map]; exact hn2.symm
  rw [hlen] at hl
  rw [hlen2] at hl'
  have hcap : n ≤ c := by obtain ⟨x', n', cap', hv, hn', hc', -⟩ := hh.shapeN; cases hv; exact hc'
  have hcap2 : n2 ≤ c2 := by obtain ⟨x', n', cap', hv, hn', hc', -⟩ := hh2.shapeN; cases hv; exact hc'
  have HZ := Lib.hid hz
  have HN := Lib.hid hn; have HT := Lib.hid ht; have HH := Lib.hid hh; have HEL := Lib.hid hel; have HLEN := Lib.hid hlen; have HP := Lib.hid hp
  have HN2 := Lib.hid hn2; have HT2 := Lib.hid ht2; have HH2 := Lib.hid hh2; have HEL2 := Lib.hid hel2; have HLEN2 := Lib.hid hlen2; have HP2 := Lib.hid hp'
  clear hz hn ht hh hel hlen hp h hn2 ht2 hh2 hel2 hlen2 hp' g
  by_cases hnn : n = n2
  · have tn : (((n : Nat) : Int) != ((n2 : Nat) : Int)) = false := by rw [hnn]; simp
    have HNN := Lib.hid hnn
    clear hnn
    go_enter Try.func35, Try.ntmps35
    go_wp2
    go_loopw [17] (fun iv wr => ∃ i : Nat, i ≤ n ∧ iv = .int .i64 i ∧ Hid (l.take i = m.take i) ∧ Hid (Below w.heap.size w wr)) (fun iv _ => n - (intOf iv).toNat)
    case atStart => exact ⟨0, Nat.zero_le _, rfl, Lib.hid rfl, Lib.hid (Below.refl _ _)⟩
    case round =>
      obtain ⟨k, hk, rfl, ha, hb⟩ := hrel
      by_cases hlt : k < n
      · have hlt2 : k < n2 := by have := HNN.out; omega
        have hlen := HN.out
        have hlen2 := HN2.out
        obtain ⟨b, off, y0, m0, d0, rfl, -, hc0, hc1, hc2, hA⟩ := kLRt_elem (HH.out.on hb.out) (fun y hy => kRt.holds_on (HEL.out y hy) hb.out) (j := k) (by omega)
        obtain ⟨b2, off2, z0, p0, e0, rfl, -, gc0, gc1, gc2, gA⟩ := kLRt_elem (HH2.out.on hb.out) (fun y hy => kRt.holds_on (HEL2.out y hy) hb.out) (j := k) (by omega)
        have hpt : nth l k = kRt.strip (nth L k) := by rw [← HT.out, nth_map _ (by omega)]
        have hpt2 : nth m k = kRt.strip (nth M k) := by rw [← HT2.out, nth_map _ (by omega)]
        have hps := HP.out (nth l k) (nth_mem (by have := HLEN.out; omega))
        have hps2 := HP2.out (nth m k) (nth_mem (by have := HLEN2.out; omega))
        rw [← hpt] at hA hc1 hc2
        rw [← hpt2] at gA gc1 gc2
        obtain ⟨nm, rf, rc, hx⟩ : ∃ nm rf rc, nth l k = (nm, rf, rc) := ⟨_, _, _, rfl⟩
        obtain ⟨nm2, rf2, rc2, hx2⟩ : ∃ nm rf rc, nth m k = (nm, rf, rc) := ⟨_, _, _, rfl⟩
        rw [hx] at hA hc1 hc2 hps
        rw [hx2] at gA gc1 gc2 hps2
        simp only at hc1 hc2 gc1 gc2
        have HXE := Lib.hid hx; have HXE2 := Lib.hid hx2
        have hNM := kRt_parts hA
        have gNM := kRt_parts gA
        have HNM := Lib.hid hNM; have GNM := Lib.hid gNM; have HAA := Lib.hid hA; have GAA := Lib.hid gA; have HPN := Lib.hid hps; have GPN := Lib.hid hps2
        have H0 := Lib.hid hc0; have H1 := Lib.hid hc1; have H2 := Lib.hid hc2; have G0 := Lib.hid gc0; have G1 := Lib.hid gc1; have G2 := Lib.hid gc2
        clear hlen hlen2 hpt hpt2 hps hps2 hA gA hx hx2 hNM gNM
        have hal := (Below.refl wr.heap.size wr).alloc (Nat.le_refl _) (.cells #[.slice y0 m0 d0, .int .i64 rf, .int .i64 rc] 49)
        have hal2 := hal.alloc hal.size (.cells #[.slice z0 p0 e0, .int .i64 rf2, .int .i64 rc2] 49)
        have k0 := kc gc0 hal; have k1 := kc gc1 hal; have k2 := kc gc2 hal
        have HA3 := Lib.hid (HAA.out.on hal2); have HA4 := Lib.hid (GAA.out.on hal2); have HB2 := Lib.hid (hb.out.trans (hal2.mono hb.out.size))
        obtain ⟨q, hq⟩ : ∃ q, decide (((nm, rf, rc) : Rtt) = (nm2, rf2, rc2)) = q := ⟨_, rfl⟩
        have HQ := Lib.hid hq
        clear hal hal2 hq
        go_wp2_with fail
        refine (iEqRt _ _ (nm, rf, rc) (nm2, rf2, rc2) _ q HQ.out HA3.out HA4.out HPN.out GPN.out).mono ?_
        rintro e w5 ⟨rfl, hb5⟩
        have HB3 := Lib.hid (HB2.out.trans (hb5.mono HB2.out.size))
        clear hb5 hc0 hc1 hc2 gc0 gc1 gc2 k0 k1 k2
        cases q with
        | true =>
          have HA5 := Lib.hid (eqR_step ha.out (by have := HLEN.out; omega) (by have := HLEN2.out; omega) (by rw [HXE.out, HXE2.out]; exact of_decide_eq_true HQ.out))
          go_wp2
          go_roundw
          case rel => exact ⟨k + 1, by omega, by go_num, HA5, HB3⟩
          case measure => simp [intOf]; omega
        | false =>
          have HE : Hid (z = false) := Lib.hid (by rw [← HZ.out]; exact decide_eq_false (neR_step (k := k) (by rw [HXE.out, HXE2.out]; exact of_decide_eq_false HQ.out)))
          go_wp2
          go_ret
          exact ⟨ret_bool HE.out.symm, HB3.out⟩
      · obtain rfl : k = n := by omega
        have HE : Hid (z = true) := Lib.hid (by
          rw [← HZ.out]
          have h1 := ha.out
          rw [List.take_of_length_le (by rw [HLEN.out]; exact Nat.le_refl _), List.take_of_length_le (by rw [HLEN2.out, HNN.out]; exact Nat.le_refl _)] at h1
          exact decide_eq_true h1)
        clear hlt
        go_wp2
        go_ret
        exact ⟨ret_bool HE.out.symm, hb.out⟩
  · have tn : (((n : Nat) : Int) != ((n2 : Nat) : Int)) = true := by rw [bne_iff_ne]; omega
    have HE : Hid (z = false) := Lib.hid (by rw [← HZ.out]; exact decide_eq_false (fun e => hnn (by rw [← HLEN.out, ← HLEN2.out, e])))
    go_enter Try.func35, Try.ntmps35
    go_wp2
    go_ret
    exact ⟨ret_bool HE.out.symm, Below.refl _ _⟩
set_option maxHeartbeats 2000000 in
theorem implEqualRoutes (V U : Value) (l m : List Rtt) (w : World) (z : Bool) (hz : eqRts l m = z) (h : kLRt.At w V l) (g : kLRt.At w U m) (hf : FitRt l) (hf' : FitRt m) :
    Calls Try.prog 19 #[V, U] w fun e w' => e = .returned (.bool z) ∧ Below w.heap.size w w' := by
  obtain ⟨x, n, c, rfl, h⟩ := kLRt_shapeA h
  obtain ⟨x2, n2, c2, rfl, g⟩ := kLRt_shapeA g
  have HF := Lib.hid (iEqFRt _ _ l m w z hz h g hf hf')
  clear h g hf hf' hz
  go_enter Try.func19, Try.ntmps19
  go_wp2_with fail
  refine HF.out.mono ?_
  rintro e w1 ⟨rfl, hb⟩
  have HB := Lib.hid hb
  clear hb
  go_wp2
  go_ret
  exact ⟨rfl, HB.out⟩
set_option maxRecDepth 100000 in
set_option maxHeartbeats 4000000 in
theorem req0 {Q : Exit → Act → World → Prop} {v2 v3 v4 v6 v7 v8 v9 v10 v11 v12 v13 v14 v15 v16 v17 v18 v19 v20 v21 v22 v23 v24 v25 v26 v27 v28 v29 v30 v31 v32 v33 v34 v35 v36 v37 v38 v39 v40 v41 v42 v43 v44 v45 v46 v47 v48 v49 v50 v51 v52 v53 v54 : Value} {w : World} {b off n c b2 off2 n2 c2 k : Nat}  {rf rf2 : Int}   (hk : k < n) (hkc : k ≤ c) (hn : n ≤ 9000000) (hk2 : k < n2) (hkc2 : k ≤ c2) (hn2 : n2 ≤ 9000000) (tf : (rf != rf2) = true) (K1 : Hid (w.cell? ⟨b, off + k * 3 + 1, none⟩ = some (.int .i64 rf))) (K3 : Hid (w.cell? ⟨b2, off2 + k * 3 + 1, none⟩ = some (.int .i64 rf2)))
  (hQ : ∀ (u17 u18 u19 u20 u21 u22 u23 u24 u25 u26 u27 u28 u29 u30 u31 u32 u33 u34 u35 u36 u37 u38 u39 u40 u41 u42 u43 u44 u45 u46 u47 u48 u49 u50 u51 u52 u53 : Value)  (wx : World), Below w.heap.size w wx → Q .normal ⟨#[.slice (some ⟨b, off, none⟩) n c, .slice (some ⟨b2, off2, none⟩) n2 c2, v2, v3, v4, .int .i64 k, v6, v7, v8, v9, v10, v11, v12, v13, v14, v15, v16, u17, u18, u19, u20, u21, u22, u23, u24, u25, u26, u27, u28, u29, u30, u31, u32, u33, u34, u35, u36, u37, u38, u39, u40, u41, u42, u43, u44, u45, u46, u47, u48, u49, u50, u51, u52, u53, .bool true], []⟩ wx) :
  (Code.region 6 #[⟨some 17, .move (.tmp 0), 30, "l14_route.go:114", #[], none⟩,
   ⟨some 18, .move (.tmp 5), 3, "l14_route.go:114", #[], none⟩,
   ⟨some 19, .indexAddr 30 (.tmp 17) (.tmp 18), 0, "l14_route.go:114", #[⟨0, .data⟩, ⟨1, .data⟩], none⟩,
   ⟨some 20, .fieldAddr 49 (.tmp 19) 1, 0, "l14_route.go:114", #[⟨2, .data⟩], none⟩,
   ⟨some 21, .load 3 (.tmp 20), 3, "l14_route.go:114", #[⟨3, .data⟩], none⟩,
   ⟨some 22, .move (.tmp 1), 30, "l14_route.go:114", #[], none⟩,
   ⟨some 23, .move (.tmp 5), 3, "l14_route.go:114", #[], none⟩,
   ⟨some 24, .indexAddr 30 (.tmp 22) (.tmp 23), 0, "l14_route.go:114", #[⟨5, .data⟩, ⟨6, .data⟩], none⟩,
   ⟨some 25, .fieldAddr 49 (.tmp 24) 1, 0, "l14_route.go:114", #[⟨7, .data⟩], none⟩,
   ⟨some 26, .load 3 (.tmp 25), 3, "l14_route.go:114", #[⟨8, .data⟩], none⟩,
   ⟨some 27, .binOp BinOp.neq 3 (.tmp 21) (.tmp 26) 3, 4, "l14_route.go:114", #[⟨4, .data⟩, ⟨9, .data⟩], none⟩,
   ⟨some 28, .move (.tmp 27), 4, "l14_route.go:114", #[⟨10, .data⟩], none⟩,
   ⟨some 29, .move (.tmp 0), 30, "l14_route.go:114", #[⟨11, .guard⟩], some (11, false)⟩,
   ⟨some 30, .move (.tmp 5), 3, "l14_route.go:114", #[⟨11, .guard⟩], some (11, false)⟩,
   ⟨some 31, .indexAddr 30 (.tmp 29) (.tmp 30), 0, "l14_route.go:114", #[⟨12, .data⟩, ⟨13, .data⟩, ⟨11, .guard⟩], some (11, false)⟩,
   ⟨some 32, .fieldAddr 49 (.tmp 31) 2, 0, "l14_route.go:114", #[⟨14, .data⟩, ⟨11, .guard⟩], some (11, false)⟩,
   ⟨some 33, .load 3 (.tmp 32), 3, "l14_route.go:114", #[⟨15, .data⟩, ⟨11, .guard⟩], some (11, false)⟩,
   ⟨some 34, .move (.tmp 1), 30, "l14_route.go:114", #[⟨11, .guard⟩], some (11, false)⟩,
   ⟨some 35, .move (.tmp 5), 3, "l14_route.go:114", #[⟨11, .guard⟩], some (11, false)⟩,
   ⟨some 36, .indexAddr 30 (.tmp 34) (.tmp 35), 0, "l14_route.go:114", #[⟨17, .data⟩, ⟨18, .data⟩, ⟨11, .guard⟩], some (11, false)⟩,
   ⟨some 37, .fieldAddr 49 (.tmp 36) 2, 0, "l14_route.go:114", #[⟨19, .data⟩, ⟨11, .guard⟩], some (11, false)⟩,
   ⟨some 38, .load 3 (.tmp 37), 3, "l14_route.go:114", #[⟨20, .data⟩, ⟨11, .guard⟩], some (11, false)⟩,
   ⟨some 39, .binOp BinOp.neq 3 (.tmp 33) (.tmp 38) 3, 4, "l14_route.go:114", #[⟨16, .data⟩, ⟨21, .data⟩, ⟨11, .guard⟩], some (11, false)⟩,
   ⟨some 40, .pick (.tmp 28) (.const (Value.bool true)) (.tmp 39), 4, "l14_route.go:114", #[⟨11, .data⟩, ⟨22, .data⟩], none⟩,
   ⟨some 41, .move (.tmp 40), 4, "l14_route.go:114", #[⟨23, .data⟩, ⟨11, .chain⟩], none⟩,
   ⟨some 42, .move (.tmp 0), 30, "l14_route.go:114", #[⟨24, .guard⟩], some (24, false)⟩,
   ⟨some 43, .move (.tmp 5), 3, "l14_route.go:114", #[⟨24, .guard⟩], some (24, false)⟩,
   ⟨some 44, .indexAddr 30 (.tmp 42) (.tmp 43), 0, "l14_route.go:114", #[⟨25, .data⟩, ⟨26, .data⟩, ⟨24, .guard⟩], some (24, false)⟩,
   ⟨some 45, .fieldAddr 49 (.tmp 44) 0, 0, "l14_route.go:114", #[⟨27, .data⟩, ⟨24, .guard⟩], some (24, false)⟩,
   ⟨some 46, .load 32 (.tmp 45), 32, "l14_route.go:114", #[⟨28, .data⟩, ⟨24, .guard⟩], some (24, false)⟩,
   ⟨some 47, .move (.tmp 1), 30, "l14_route.go:114", #[⟨24, .guard⟩], some (24, false)⟩,
   ⟨some 48, .move (.tmp 5), 3, "l14_route.go:114", #[⟨24, .guard⟩], some (24, false)⟩,
   ⟨some 49, .indexAddr 30 (.tmp 47) (.tmp 48), 0, "l14_route.go:114", #[⟨30, .data⟩, ⟨31, .data⟩, ⟨24, .guard⟩], some (24, false)⟩,
   ⟨some 50, .fieldAddr 49 (.tmp 49) 0, 0, "l14_route.go:114", #[⟨32, .data⟩, ⟨24, .guard⟩], some (24, false)⟩,
   ⟨some 51, .load 32 (.tmp 50), 32, "l14_route.go:114", #[⟨33, .data⟩, ⟨24, .guard⟩], some (24, false)⟩,
   ⟨some 52, .call ⟨.value (.func 23), #[.tmp 46, .tmp 51], #[32, 32]⟩, 4, "l14_route.go:114", #[⟨29, .data⟩, ⟨34, .data⟩, ⟨24, .chain⟩, ⟨24, .guard⟩], some (24, false)⟩,
   ⟨some 53, .unOp UnOp.not 4 (.tmp 52), 4, "l14_route.go:114", #[⟨35, .data⟩, ⟨24, .guard⟩], some (24, false)⟩,
   ⟨some 54, .pick (.tmp 41) (.const (Value.bool true)) (.tmp 53), 4, "l14_route.go:114", #[⟨24, .data⟩, ⟨36, .data⟩], none⟩] true).wp Try.prog Q ⟨#[.slice (some ⟨b, off, none⟩) n c, .slice (some ⟨b2, off2, none⟩) n2 c2, v2, v3, v4, .int .i64 k, v6, v7, v8, v9, v10, v11, v12, v13, v14, v15, v16, v17, v18, v19, v20, v21, v22, v23, v24, v25, v26, v27, v28, v29, v30, v31, v32, v33, v34, v35, v36, v37, v38, v39, v40, v41, v42, v43, v44, v45, v46, v47, v48, v49, v50, v51, v52, v53, v54], []⟩ w := by
 have HQ := Lib.hid hQ; clear hQ
 have hdr : Below w.heap.size w w.drew := (Below.refl _ _).drew
 have BB := Lib.hid hdr
 refine wp_region_noPanic ?_
 refine wp_region_held_drew (S := (fun w' => w'.cell? ⟨b, off + k * 3 + 1, none⟩ = some (.int .i64 rf) ∧ w'.cell? ⟨b2, off2 + k * 3 + 1, none⟩ = some (.int .i64 rf2))) (by kernel_rfl) ?_ (fun hHeld => ?_)
 ·
  exact ⟨kc K1.out BB.out, kc K3.out BB.out⟩
 clear hdr
 generalize w.drew = wd at *
 refine wpAnyH_take (i := 0) (oi := ⟨some 17, .move (.tmp 0), 30, "l14_route.go:114", #[], none⟩) (v := ?_) rfl (by kernel_rfl) (by kernel_rfl) (by kernel_rfl) (fun _ _ _ h => h) (Or.inl ⟨by rfl, ?_⟩) (by assumption) ?_
 rotate_left
 ·
  intro w' hSw; (try dsimp only at hSw); first | (go_simp; done) | (go_simp; with_reducible rfl)
 (try simp only [Act.put, Row.pB0, Row.pB1, Row.pB2])
 refine wpAnyH_take (i := 1) (oi := ⟨some 18, .move (.tmp 5), 3, "l14_route.go:114", #[], none⟩) (v := ?_) rfl (by kernel_rfl) (by kernel_rfl) (by kernel_rfl) (fun _ _ _ h => h) (Or.inl ⟨by rfl, ?_⟩) (by assumption) ?_
 rotate_left
 ·
  intro w' hSw; (try dsimp only at hSw); first | (go_simp; done) | (go_simp; with_reducible rfl)
 (try simp only [Act.put, Row.pB0, Row.pB1, Row.pB2])
 refine wpAnyH_take (i := 2) (oi := ⟨some 19, .indexAddr 30 (.tmp 17) (.tmp 18), 0, "l14_route.go:114", #[⟨0, .data⟩, ⟨1, .data⟩], none⟩) (v := ?_) rfl (by kernel_rfl) (by kernel_rfl) (by kernel_rfl) (fun _ _ _ h => h) (Or.inl ⟨by rfl, ?_⟩) (by assumption) ?_
 rotate_left
 ·
  intro w' hSw; (try dsimp only at hSw); first | (go_simp; done) | (go_simp; with_reducible rfl)
 (try simp only [Act.put, Row.pB0, Row.pB1, Row.pB2])
 refine wpAnyH_take (i := 3) (oi := ⟨some 20, .fieldAddr 49 (.tmp 19) 1, 0, "l14_route.go:114", #[⟨2, .data⟩], none⟩) (v := ?_) rfl (by kernel_rfl) (by kernel_rfl) (by kernel_rfl) (fun _ _ _ h => h) (Or.inl ⟨by rfl, ?_⟩) (by assumption) ?_
 rotate_left
 ·
  intro w' hSw; (try dsimp only at hSw); first | (go_simp; done) | (go_simp; with_reducible rfl)
 (try simp only [Act.put, Row.pB0, Row.pB1, Row.pB2])
 refine wpAnyH_take (i := 4) (oi := ⟨some 21, .load 3 (.tmp 20), 3, "l14_route.go:114", #[⟨3, .data⟩], none⟩) (v := ?_) rfl (by kernel_rfl) (by kernel_rfl) (by kernel_rfl) (fun _ _ _ h => h) (Or.inl ⟨by rfl, ?_⟩) (by assumption) ?_
 rotate_left
 ·
  intro w' hSw; (try dsimp only at hSw); first | (go_simp; done) | (go_simp; with_reducible rfl)
 (try simp only [Act.put, Row.pB0, Row.pB1, Row.pB2])
 refine wpAnyH_take (i := 5) (oi := ⟨some 22, .move (.tmp 1), 30, "l14_route.go:114", #[], none⟩) (v := ?_) rfl (by kernel_rfl) (by kernel_rfl) (by kernel_rfl) (fun _ _ _ h => h) (Or.inl ⟨by rfl, ?_⟩) (by assumption) ?_
 rotate_left
 ·
  intro w' hSw; (try dsimp only at hSw); first | (go_simp; done) | (go_simp; with_reducible rfl)
 (try simp only [Act.put, Row.pB0, Row.pB1, Row.pB2])
 refine wpAnyH_take (i := 6) (oi := ⟨some 23, .move (.tmp 5), 3, "l14_route.go:114", #[], none⟩) (v := ?_) rfl (by kernel_rfl) (by kernel_rfl) (by kernel_rfl) (fun _ _ _ h => h) (Or.inl ⟨by rfl, ?_⟩) (by assumption) ?_
 rotate_left
 ·
  intro w' hSw; (try dsimp only at hSw); first | (go_simp; done) | (go_simp; with_reducible rfl)
 (try simp only [Act.put, Row.pB0, Row.pB1, Row.pB2])
 refine wpAnyH_take (i := 7) (oi := ⟨some 24, .indexAddr 30 (.tmp 22) (.tmp 23), 0, "l14_route.go:114", #[⟨5, .data⟩, ⟨6, .data⟩], none⟩) (v := ?_) rfl (by kernel_rfl) (by kernel_rfl) (by kernel_rfl) (fun _ _ _ h => h) (Or.inl ⟨by rfl, ?_⟩) (by assumption) ?_
 rotate_left
 ·
  intro w' hSw; (try dsimp only at hSw); first | (go_simp; done) | (go_simp; with_reducible rfl)
 (try simp only [Act.put, Row.pB0, Row.pB1, Row.pB2])
 refine wpAnyH_take (i := 8) (oi := ⟨some 25, .fieldAddr 49 (.tmp 24) 1, 0, "l14_route.go:114", #[⟨7, .data⟩], none⟩) (v := ?_) rfl (by kernel_rfl) (by kernel_rfl) (by kernel_rfl) (fun _ _ _ h => h) (Or.inl ⟨by rfl, ?_⟩) (by assumption) ?_
 rotate_left
 ·
  intro w' hSw; (try dsimp only at hSw); first | (go_simp; done) | (go_simp; with_reducible rfl)
 (try simp only [Act.put, Row.pB0, Row.pB1, Row.pB2])
 refine wpAnyH_take (i := 9) (oi := ⟨some 26, .load 3 (.tmp 25), 3, "l14_route.go:114", #[⟨8, .data⟩], none⟩) (v := ?_) rfl (by kernel_rfl) (by kernel_rfl) (by kernel_rfl) (fun _ _ _ h => h) (Or.inl ⟨by rfl, ?_⟩) (by assumption) ?_
 rotate_left
 ·
  intro w' hSw; (try dsimp only at hSw); first | (go_simp; done) | (go_simp; with_reducible rfl)
 (try simp only [Act.put, Row.pB0, Row.pB1, Row.pB2])
 refine wpAnyH_take (i := 10) (oi := ⟨some 27, .binOp BinOp.neq 3 (.tmp 21) (.tmp 26) 3, 4, "l14_route.go:114", #[⟨4, .data⟩, ⟨9, .data⟩], none⟩) (v := ?_) rfl (by kernel_rfl) (by kernel_rfl) (by kernel_rfl) (fun _ _ _ h => h) (Or.inl ⟨by rfl, ?_⟩) (by assumption) ?_
 rotate_left
 ·
  intro w' hSw; (try dsimp only at hSw); first | (go_simp; done) | (go_simp; with_reducible rfl)
 (try simp only [Act.put, Row.pB0, Row.pB1, Row.pB2])
 refine wpAnyH_take (i := 11) (oi := ⟨some 28, .move (.tmp 27), 4, "l14_route.go:114", #[⟨10, .data⟩], none⟩) (v := ?_) rfl (by kernel_rfl) (by kernel_rfl) (by kernel_rfl) (fun _ _ _ h => h) (Or.inl ⟨by rfl, ?_⟩) (by assumption) ?_
 rotate_left
 ·
  intro w' hSw; (try dsimp only at hSw); first | (go_simp; done) | (go_simp; with_reducible rfl)
 (try simp only [Act.put, Row.pB0, Row.pB1, Row.pB2])
 refine wpAnyH_take (i := 12) (oi := ⟨some 29, .move (.tmp 0), 30, "l14_route.go:114", #[⟨11, .guard⟩], some (11, false)⟩) (v := undef) rfl (by kernel_rfl) (by kernel_rfl) (by kernel_rfl) (fun _ _ _ h => h) (Or.inr ⟨by rfl, rfl⟩) (by assumption) ?_
 (try simp only [Act.put, Row.pB0, Row.pB1, Row.pB2])
 refine wpAnyH_take (i := 13) (oi := ⟨some 30, .move (.tmp 5), 3, "l14_route.go:114", #[⟨11, .guard⟩], some (11, false)⟩) (v := undef) rfl (by kernel_rfl) (by kernel_rfl) (by kernel_rfl) (fun _ _ _ h => h) (Or.inr ⟨by rfl, rfl⟩) (by assumption) ?_
 (try simp only [Act.put, Row.pB0, Row.pB1, Row.pB2])
 refine wpAnyH_take (i := 14) (oi := ⟨some 31, .indexAddr 30 (.tmp 29) (.tmp 30), 0, "l14_route.go:114", #[⟨12, .data⟩, ⟨13, .data⟩, ⟨11, .guard⟩], some (11, false)⟩) (v := undef) rfl (by kernel_rfl) (by kernel_rfl) (by kernel_rfl) (fun _ _ _ h => h) (Or.inr ⟨by rfl, rfl⟩) (by assumption) ?_
 (try simp only [Act.put, Row.pB0, Row.pB1, Row.pB2])
 refine wpAnyH_take (i := 15) (oi := ⟨some 32, .fieldAddr 49 (.tmp 31) 2, 0, "l14_route.go:114", #[⟨14, .data⟩, ⟨11, .guard⟩], some (11, false)⟩) (v := undef) rfl (by kernel_rfl) (by kernel_rfl) (by kernel_rfl) (fun _ _ _ h => h) (Or.inr ⟨by rfl, rfl⟩) (by assumption) ?_
 (try simp only [Act.put, Row.pB0, Row.pB1, Row.pB2])
 refine wpAnyH_take (i := 16) (oi := ⟨some 33, .load 3 (.tmp 32), 3, "l14_route.go:114", #[⟨15, .data⟩, ⟨11, .guard⟩], some (11, false)⟩) (v := undef) rfl (by kernel_rfl) (by kernel_rfl) (by kernel_rfl) (fun _ _ _ h => h) (Or.inr ⟨by rfl, rfl⟩) (by assumption) ?_
 (try simp only [Act.put, Row.pB0, Row.pB1, Row.pB2])
 refine wpAnyH_take (i := 17) (oi := ⟨some 34, .move (.tmp 1), 30, "l14_route.go:114", #[⟨11, .guard⟩], some (11, false)⟩) (v := undef) rfl (by kernel_rfl) (by kernel_rfl) (by kernel_rfl) (fun _ _ _ h => h) (Or.inr ⟨by rfl, rfl⟩) (by assumption) ?_
 (try simp only [Act.put, Row.pB0, Row.pB1, Row.pB2])
 refine wpAnyH_take (i := 18) (oi := ⟨some 35, .move (.tmp 5), 3, "l14_route.go:114", #[⟨11, .guard⟩], some (11, false)⟩) (v := undef) rfl (by kernel_rfl) (by kernel_rfl) (by kernel_rfl) (fun _ _ _ h => h) (Or.inr ⟨by rfl, rfl⟩) (by assumption) ?_
 (try simp only [Act.put, Row.pB0, Row.pB1, Row.pB2])
 refine wpAnyH_take (i := 19) (oi := ⟨some 36, .indexAddr 30 (.tmp 34) (.tmp 35), 0, "l14_route.go:114", #[⟨17, .data⟩, ⟨18, .data⟩, ⟨11, .guard⟩], some (11, false)⟩) (v := undef) rfl (by kernel_rfl) (by kernel_rfl) (by kernel_rfl) (fun _ _ _ h => h) (Or.inr ⟨by rfl, rfl⟩) (by assumption) ?_
 (try simp only [Act.put, Row.pB0, Row.pB1, Row.pB2])
 refine wpAnyH_take (i := 20) (oi := ⟨some 37, .fieldAddr 49 (.tmp 36) 2, 0, "l14_route.go:114", #[⟨19, .data⟩, ⟨11, .guard⟩], some (11, false)⟩) (v := undef) rfl (by kernel_rfl) (by kernel_rfl) (by kernel_rfl) (fun _ _ _ h => h) (Or.inr ⟨by rfl, rfl⟩) (by assumption) ?_
 (try simp only [Act.put, Row.pB0, Row.pB1, Row.pB2])
 refine wpAnyH_take (i := 21) (oi := ⟨some 38, .load 3 (.tmp 37), 3, "l14_route.go:114", #[⟨20, .data⟩, ⟨11, .guard⟩], some (11, false)⟩) (v := undef) rfl (by kernel_rfl) (by kernel_rfl) (by kernel_rfl) (fun _ _ _ h => h) (Or.inr ⟨by rfl, rfl⟩) (by assumption) ?_
 (try simp only [Act.put, Row.pB0, Row.pB1, Row.pB2])
 refine wpAnyH_take (i := 22) (oi := ⟨some 39, .binOp BinOp.neq 3 (.tmp 33) (.tmp 38) 3, 4, "l14_route.go:114", #[⟨16, .data⟩, ⟨21, .data⟩, ⟨11, .guard⟩], some (11, false)⟩) (v := undef) rfl (by kernel_rfl) (by kernel_rfl) (by kernel_rfl) (fun _ _ _ h => h) (Or.inr ⟨by rfl, rfl⟩) (by assumption) ?_
 (try simp only [Act.put, Row.pB0, Row.pB1, Row.pB2])
 refine wpAnyH_take (i := 23) (oi := ⟨some 40, .pick (.tmp 28) (.const (Value.bool true)) (.tmp 39), 4, "l14_route.go:114", #[⟨11, .data⟩, ⟨22, .data⟩], none⟩) (v := ?_) rfl (by kernel_rfl) (by kernel_rfl) (by kernel_rfl) (fun _ _ _ h => h) (Or.inl ⟨by rfl, ?_⟩) (by assumption) ?_
 rotate_left
 ·
  intro w' hSw; (try dsimp only at hSw); first | (go_simp; done) | (go_simp; with_reducible rfl)
 (try simp only [Act.put, Row.pB0, Row.pB1, Row.pB2])
 refine wpAnyH_take (i := 24) (oi := ⟨some 41, .move (.tmp 40), 4, "l14_route.go:114", #[⟨23, .data⟩, ⟨11, .chain⟩], none⟩) (v := ?_) rfl (by kernel_rfl) (by kernel_rfl) (by kernel_rfl) (fun _ _ _ h => h) (Or.inl ⟨by rfl, ?_⟩) (by assumption) ?_
 rotate_left
 ·
  intro w' hSw; (try dsimp only at hSw); first | (go_simp; done) | (go_simp; with_reducible rfl)
 (try simp only [Act.put, Row.pB0, Row.pB1, Row.pB2])
 refine wpAnyH_take (i := 25) (oi := ⟨some 42, .move (.tmp 0), 30, "l14_route.go:114", #[⟨24, .guard⟩], some (24, false)⟩) (v := undef) rfl (by kernel_rfl) (by kernel_rfl) (by kernel_rfl) (fun _ _ _ h => h) (Or.inr ⟨by rfl, rfl⟩) (by assumption) ?_
 (try simp only [Act.put, Row.pB0, Row.pB1, Row.pB2])
 refine wpAnyH_take (i := 26) (oi := ⟨some 43, .move (.tmp 5), 3, "l14_route.go:114", #[⟨24, .guard⟩], some (24, false)⟩) (v := undef) rfl (by kernel_rfl) (by kernel_rfl) (by kernel_rfl) (fun _ _ _ h => h) (Or.inr ⟨by rfl, rfl⟩) (by assumption) ?_
 (try simp only [Act.put, Row.pB0, Row.pB1, Row.pB2])
 refine wpAnyH_take (i := 27) (oi := ⟨some 44, .indexAddr 30 (.tmp 42) (.tmp 43), 0, "l14_route.go:114", #[⟨25, .data⟩, ⟨26, .data⟩, ⟨24, .guard⟩], some (24, false)⟩) (v := undef) rfl (by kernel_rfl) (by kernel_rfl) (by kernel_rfl) (fun _ _ _ h => h) (Or.inr ⟨by rfl, rfl⟩) (by assumption) ?_
 (try simp only [Act.put, Row.pB0, Row.pB1, Row.pB2])
 refine wpAnyH_take (i := 28) (oi := ⟨some 45, .fieldAddr 49 (.tmp 44) 0, 0, "l14_route.go:114", #[⟨27, .data⟩, ⟨24, .guard⟩], some (24, false)⟩) (v := undef) rfl (by kernel_rfl) (by kernel_rfl) (by kernel_rfl) (fun _ _ _ h => h) (Or.inr ⟨by rfl, rfl⟩) (by assumption) ?_
 (try simp only [Act.put, Row.pB0, Row.pB1, Row.pB2])
 refine wpAnyH_take (i := 29) (oi := ⟨some 46, .load 32 (.tmp 45), 32, "l14_route.go:114", #[⟨28, .data⟩, ⟨24, .guard⟩], some (24, false)⟩) (v := undef) rfl (by kernel_rfl) (by kernel_rfl) (by kernel_rfl) (fun _ _ _ h => h) (Or.inr ⟨by rfl, rfl⟩) (by assumption) ?_
 (try simp only [Act.put, Row.pB0, Row.pB1, Row.pB2])
 refine wpAnyH_take (i := 30) (oi := ⟨some 47, .move (.tmp 1), 30, "l14_route.go:114", #[⟨24, .guard⟩], some (24, false)⟩) (v := undef) rfl (by kernel_rfl) (by kernel_rfl) (by kernel_rfl) (fun _ _ _ h => h) (Or.inr ⟨by rfl, rfl⟩) (by assumption) ?_
 (try simp only [Act.put, Row.pB0, Row.pB1, Row.pB2])
 refine wpAnyH_take (i := 31) (oi := ⟨some 48, .move (.tmp 5), 3, "l14_route.go:114", #[⟨24, .guard⟩], some (24, false)⟩) (v := undef) rfl (by kernel_rfl) (by kernel_rfl) (by kernel_rfl) (fun _ _ _ h => h) (Or.inr ⟨by rfl, rfl⟩) (by assumption) ?_
 (try simp only [Act.put, Row.pB0, Row.pB1, Row.pB2])
 refine wpAnyH_take (i := 32) (oi := ⟨some 49, .indexAddr 30 (.tmp 47) (.tmp 48), 0, "l14_route.go:114", #[⟨30, .data⟩, ⟨31, .data⟩, ⟨24, .guard⟩], some (24, false)⟩) (v := undef) rfl (by kernel_rfl) (by kernel_rfl) (by kernel_rfl) (fun _ _ _ h => h) (Or.inr ⟨by rfl, rfl⟩) (by assumption) ?_
 (try simp only [Act.put, Row.pB0, Row.pB1, Row.pB2])
 refine wpAnyH_take (i := 33) (oi := ⟨some 50, .fieldAddr 49 (.tmp 49) 0, 0, "l14_route.go:114", #[⟨32, .data⟩, ⟨24, .guard⟩], some (24, false)⟩) (v := undef) rfl (by kernel_rfl) (by kernel_rfl) (by kernel_rfl) (fun _ _ _ h => h) (Or.inr ⟨by rfl, rfl⟩) (by assumption) ?_
 (try simp only [Act.put, Row.pB0, Row.pB1, Row.pB2])
 refine wpAnyH_take (i := 34) (oi := ⟨some 51, .load 32 (.tmp 50), 32, "l14_route.go:114", #[⟨33, .data⟩, ⟨24, .guard⟩], some (24, false)⟩) (v := undef) rfl (by kernel_rfl) (by kernel_rfl) (by kernel_rfl) (fun _ _ _ h => h) (Or.inr ⟨by rfl, rfl⟩) (by assumption) ?_
 (try simp only [Act.put, Row.pB0, Row.pB1, Row.pB2])
 refine wpAnyH_take (i := 35) (oi := ⟨some 52, .call ⟨.value (.func 23), #[.tmp 46, .tmp 51], #[32, 32]⟩, 4, "l14_route.go:114", #[⟨29, .data⟩, ⟨34, .data⟩, ⟨24, .chain⟩, ⟨24, .guard⟩], some (24, false)⟩) (v := undef) rfl (by kernel_rfl) (by kernel_rfl) (by kernel_rfl) (fun _ _ _ h => h) (Or.inr ⟨by rfl, rfl⟩) (by assumption) ?_
 (try simp only [Act.put, Row.pB0, Row.pB1, Row.pB2])
 refine wpAnyH_take (i := 36) (oi := ⟨some 53, .unOp UnOp.not 4 (.tmp 52), 4, "l14_route.go:114", #[⟨35, .data⟩, ⟨24, .guard⟩], some (24, false)⟩) (v := undef) rfl (by kernel_rfl) (by kernel_rfl) (by kernel_rfl) (fun _ _ _ h => h) (Or.inr ⟨by rfl, rfl⟩) (by assumption) ?_
 (try simp only [Act.put, Row.pB0, Row.pB1, Row.pB2])
 refine wpAnyH_take (i := 37) (oi := ⟨some 54, .pick (.tmp 41) (.const (Value.bool true)) (.tmp 53), 4, "l14_route.go:114", #[⟨24, .data⟩, ⟨36, .data⟩], none⟩) (v := ?_) rfl (by kernel_rfl) (by kernel_rfl) (by kernel_rfl) (fun _ _ _ h => h) (Or.inl ⟨by rfl, ?_⟩) (by assumption) ?_
 rotate_left
 ·
  intro w' hSw; (try dsimp only at hSw); first | (go_simp; done) | (go_simp; with_reducible rfl)
 (try simp only [Act.put, Row.pB0, Row.pB1, Row.pB2])
 refine wpAnyH_done (by kernel_rfl) ?_ _
 exact NoPanic.normal (HQ.out _ _ _ _ _ _ _ _ _ _ _ _ _ _ _ _ _ _ _ _ _ _ _ _ _ _ _ _ _ _ _ _ _ _ _ _ _  _  BB.out)
set_option maxRecDepth 100000 in
set_option maxHeartbeats 4000000 in
theorem req1 {Q : Exit → Act → World → Prop} {v2 v3 v4 v6 v7 v8 v9 v10 v11 v12 v13 v14 v15 v16 v17 v18 v19 v20 v21 v22 v23 v24 v25 v26 v27 v28 v29 v30 v31 v32 v33 v34 v35 v36 v37 v38 v39 v40 v41 v42 v43 v44 v45 v46 v47 v48 v49 v50 v51 v52 v53 v54 : Value} {w : World} {b off n c b2 off2 n2 c2 k : Nat}  {rf rc rf2 rc2 : Int}   (hk : k < n) (hkc : k ≤ c) (hn : n ≤ 9000000) (hk2 : k < n2) (hkc2 : k ≤ c2) (hn2 : n2 ≤ 9000000) (tf : (rf != rf2) = false) (tc : (rc != rc2) = true) (K1 : Hid (w.cell? ⟨b, off + k * 3 + 1, none⟩ = some (.int .i64 rf))) (K3 : Hid (w.cell? ⟨b2, off2 + k * 3 + 1, none⟩ = some (.int .i64 rf2))) (K2 : Hid (w.cell? ⟨b, off + k * 3 + 2, none⟩ = some (.int .i64 rc))) (K4 : Hid (w.cell? ⟨b2, off2 + k * 3 + 2, none⟩ = some (.int .i64 rc2)))
  (hQ : ∀ (u17 u18 u19 u20 u21 u22 u23 u24 u25 u26 u27 u28 u29 u30 u31 u32 u33 u34 u35 u36 u37 u38 u39 u40 u41 u42 u43 u44 u45 u46 u47 u48 u49 u50 u51 u52 u53 : Value)  (wx : World), Below w.heap.size w wx → Q .normal ⟨#[.slice (some ⟨b, off, none⟩) n c, .slice (some ⟨b2, off2, none⟩) n2 c2, v2, v3, v4, .int .i64 k, v6, v7, v8, v9, v10, v11, v12, v13, v14, v15, v16, u17, u18, u19, u20, u21, u22, u23, u24, u25, u26, u27, u28, u29, u30, u31, u32, u33, u34, u35, u36, u37, u38, u39, u40, u41, u42, u43, u44, u45, u46, u47, u48, u49, u50, u51, u52, u53, .bool true], []⟩ wx) :
  (Code.region 6 #[⟨some 17, .move (.tmp 0), 30, "l14_route.go:114", #[], none⟩,
   ⟨some 18, .move (.tmp 5), 3, "l14_route.go:114", #[], none⟩,
   ⟨some 19, .indexAddr 30 (.tmp 17) (.tmp 18), 0, "l14_route.go:114", #[⟨0, .data⟩, ⟨1, .data⟩], none⟩,
   ⟨some 20, .fieldAddr 49 (.tmp 19) 1, 0, "l14_route.go:114", #[⟨2, .data⟩], none⟩,
   ⟨some 21, .load 3 (.tmp 20), 3, "l14_route.go:114", #[⟨3, .data⟩], none⟩,
   ⟨some 22, .move (.tmp 1), 30, "l14_route.go:114", #[], none⟩,
   ⟨some 23, .move (.tmp 5), 3, "l14_route.go:114", #[], none⟩,
   ⟨some 24, .indexAddr 30 (.tmp 22) (.tmp 23), 0, "l14_route.go:114", #[⟨5, .data⟩, ⟨6, .data⟩], none⟩,
   ⟨some 25, .fieldAddr 49 (.tmp 24) 1, 0, "l14_route.go:114", #[⟨7, .data⟩], none⟩,
   ⟨some 26, .load 3 (.tmp 25), 3, "l14_route.go:114", #[⟨8, .data⟩], none⟩,
   ⟨some 27, .binOp BinOp.neq 3 (.tmp 21) (.tmp 26) 3, 4, "l14_route.go:114", #[⟨4, .data⟩, ⟨9, .data⟩], none⟩,
   ⟨some 28, .move (.tmp 27), 4, "l14_route.go:114", #[⟨10, .data⟩], none⟩,
   ⟨some 29, .move (.tmp 0), 30, "l14_route.go:114", #[⟨11, .guard⟩], some (11, false)⟩,
   ⟨some 30, .move (.tmp 5), 3, "l14_route.go:114", #[⟨11, .guard⟩], some (11, false)⟩,
   ⟨some 31, .indexAddr 30 (.tmp 29) (.tmp 30), 0, "l14_route.go:114", #[⟨12, .data⟩, ⟨13, .data⟩, ⟨11, .guard⟩], some (11, false)⟩,
   ⟨some 32, .fieldAddr 49 (.tmp 31) 2, 0, "l14_route.go:114", #[⟨14, .data⟩, ⟨11, .guard⟩], some (11, false)⟩,
   ⟨some 33, .load 3 (.tmp 32), 3, "l14_route.go:114", #[⟨15, .data⟩, ⟨11, .guard⟩], some (11, false)⟩,
   ⟨some 34, .move (.tmp 1), 30, "l14_route.go:114", #[⟨11, .guard⟩], some (11, false)⟩,
   ⟨some 35, .move (.tmp 5), 3, "l14_route.go:114", #[⟨11, .guard⟩], some (11, false)⟩,
   ⟨some 36, .indexAddr 30 (.tmp 34) (.tmp 35), 0, "l14_route.go:114", #[⟨17, .data⟩, ⟨18, .data⟩, ⟨11, .guard⟩], some (11, false)⟩,
   ⟨some 37, .fieldAddr 49 (.tmp 36) 2, 0, "l14_route.go:114", #[⟨19, .data⟩, ⟨11, .guard⟩], some (11, false)⟩,
   ⟨some 38, .load 3 (.tmp 37), 3, "l14_route.go:114", #[⟨20, .data⟩, ⟨11, .guard⟩], some (11, false)⟩,
   ⟨some 39, .binOp BinOp.neq 3 (.tmp 33) (.tmp 38) 3, 4, "l14_route.go:114", #[⟨16, .data⟩, ⟨21, .data⟩, ⟨11, .guard⟩], some (11, false)⟩,
   ⟨some 40, .pick (.tmp 28) (.const (Value.bool true)) (.tmp 39), 4, "l14_route.go:114", #[⟨11, .data⟩, ⟨22, .data⟩], none⟩,
   ⟨some 41, .move (.tmp 40), 4, "l14_route.go:114", #[⟨23, .data⟩, ⟨11, .chain⟩], none⟩,
   ⟨some 42, .move (.tmp 0), 30, "l14_route.go:114", #[⟨24, .guard⟩], some (24, false)⟩,
   ⟨some 43, .move (.tmp 5), 3, "l14_route.go:114", #[⟨24, .guard⟩], some (24, false)⟩,
   ⟨some 44, .indexAddr 30 (.tmp 42) (.tmp 43), 0, "l14_route.go:114", #[⟨25, .data⟩, ⟨26, .data⟩, ⟨24, .guard⟩], some (24, false)⟩,
   ⟨some 45, .fieldAddr 49 (.tmp 44) 0, 0, "l14_route.go:114", #[⟨27, .data⟩, ⟨24, .guard⟩], some (24, false)⟩,
   ⟨some 46, .load 32 (.tmp 45), 32, "l14_route.go:114", #[⟨28, .data⟩, ⟨24, .guard⟩], some (24, false)⟩,
   ⟨some 47, .move (.tmp 1), 30, "l14_route.go:114", #[⟨24, .guard⟩], some (24, false)⟩,
   ⟨some 48, .move (.tmp 5), 3, "l14_route.go:114", #[⟨24, .guard⟩], some (24, false)⟩,
   ⟨some 49, .indexAddr 30 (.tmp 47) (.tmp 48), 0, "l14_route.go:114", #[⟨30, .data⟩, ⟨31, .data⟩, ⟨24, .guard⟩], some (24, false)⟩,
   ⟨some 50, .fieldAddr 49 (.tmp 49) 0, 0, "l14_route.go:114", #[⟨32, .data⟩, ⟨24, .guard⟩], some (24, false)⟩,
   ⟨some 51, .load 32 (.tmp 50), 32, "l14_route.go:114", #[⟨33, .data⟩, ⟨24, .guard⟩], some (24, false)⟩,
   ⟨some 52, .call ⟨.value (.func 23), #[.tmp 46, .tmp 51], #[32, 32]⟩, 4, "l14_route.go:114", #[⟨29, .data⟩, ⟨34, .data⟩, ⟨24, .chain⟩, ⟨24, .guard⟩], some (24, false)⟩,
   ⟨some 53, .unOp UnOp.not 4 (.tmp 52), 4, "l14_route.go:114", #[⟨35, .data⟩, ⟨24, .guard⟩], some (24, false)⟩,
   ⟨some 54, .pick (.tmp 41) (.const (Value.bool true)) (.tmp 53), 4, "l14_route.go:114", #[⟨24, .data⟩, ⟨36, .data⟩], none⟩] true).wp Try.prog Q ⟨#[.slice (some ⟨b, off, none⟩) n c, .slice (some ⟨b2, off2, none⟩) n2 c2, v2, v3, v4, .int .i64 k, v6, v7, v8, v9, v10, v11, v12, v13, v14, v15, v16, v17, v18, v19, v20, v21, v22, v23, v24, v25, v26, v27, v28, v29, v30, v31, v32, v33, v34, v35, v36, v37, v38, v39, v40, v41, v42, v43, v44, v45, v46, v47, v48, v49, v50, v51, v52, v53, v54], []⟩ w := by
 have HQ := Lib.hid hQ; clear hQ
 have hdr : Below w.heap.size w w.drew := (Below.refl _ _).drew
 have BB := Lib.hid hdr
 refine wp_region_noPanic ?_
 refine wp_region_held_drew (S := (fun w' => w'.cell? ⟨b, off + k * 3 + 1, none⟩ = some (.int .i64 rf) ∧ w'.cell? ⟨b2, off2 + k * 3 + 1, none⟩ = some (.int .i64 rf2) ∧ w'.cell? ⟨b, off + k * 3 + 2, none⟩ = some (.int .i64 rc) ∧ w'.cell? ⟨b2, off2 + k * 3 + 2, none⟩ = some (.int .i64 rc2))) (by kernel_rfl) ?_ (fun hHeld => ?_)
 ·
  exact ⟨kc K1.out BB.out, kc K3.out BB.out, kc K2.out BB.out, kc K4.out BB.out⟩
 clear hdr
 generalize w.drew = wd at *
 refine wpAnyH_take (i := 0) (oi := ⟨some 17, .move (.tmp 0), 30, "l14_route.go:114", #[], none⟩) (v := ?_) rfl (by kernel_rfl) (by kernel_rfl) (by kernel_rfl) (fun _ _ _ h => h) (Or.inl ⟨by rfl, ?_⟩) (by assumption) ?_
 rotate_left
 ·
  intro w' hSw; (try dsimp only at hSw); first | (go_simp; done) | (go_simp; with_reducible rfl)
 (try simp only [Act.put, Row.pB0, Row.pB1, Row.pB2])
 refine wpAnyH_take (i := 1) (oi := ⟨some 18, .move (.tmp 5), 3, "l14_route.go:114", #[], none⟩) (v := ?_) rfl (by kernel_rfl) (by kernel_rfl) (by kernel_rfl) (fun _ _ _ h => h) (Or.inl ⟨by rfl, ?_⟩) (by assumption) ?_
 rotate_left
 ·
  intro w' hSw; (try dsimp only at hSw); first | (go_simp; done) | (go_simp; with_reducible rfl)
 (try simp only [Act.put, Row.pB0, Row.pB1, Row.pB2])
 refine wpAnyH_take (i := 2) (oi := ⟨some 19, .indexAddr 30 (.tmp 17) (.tmp 18), 0, "l14_route.go:114", #[⟨0, .data⟩, ⟨1, .data⟩], none⟩) (v := ?_) rfl (by kernel_rfl) (by kernel_rfl) (by kernel_rfl) (fun _ _ _ h => h) (Or.inl ⟨by rfl, ?_⟩) (by assumption) ?_
 rotate_left
 ·
  intro w' hSw; (try dsimp only at hSw); first | (go_simp; done) | (go_simp; with_reducible rfl)
 (try simp only [Act.put, Row.pB0, Row.pB1, Row.pB2])
 refine wpAnyH_take (i := 3) (oi := ⟨some 20, .fieldAddr 49 (.tmp 19) 1, 0, "l14_route.go:114", #[⟨2, .data⟩], none⟩) (v := ?_) rfl (by kernel_rfl) (by kernel_rfl) (by kernel_rfl) (fun _ _ _ h => h) (Or.inl ⟨by rfl, ?_⟩) (by assumption) ?_
 rotate_left
 ·
  intro w' hSw; (try dsimp only at hSw); first | (go_simp; done) | (go_simp; with_reducible rfl)
 (try simp only [Act.put, Row.pB0, Row.pB1, Row.pB2])
 refine wpAnyH_take (i := 4) (oi := ⟨some 21, .load 3 (.tmp 20), 3, "l14_route.go:114", #[⟨3, .data⟩], none⟩) (v := ?_) rfl (by kernel_rfl) (by kernel_rfl) (by kernel_rfl) (fun _ _ _ h => h) (Or.inl ⟨by rfl, ?_⟩) (by assumption) ?_
 rotate_left
 ·
  intro w' hSw; (try dsimp only at hSw); first | (go_simp; done) | (go_simp; with_reducible rfl)
 (try simp only [Act.put, Row.pB0, Row.pB1, Row.pB2])
 refine wpAnyH_take (i := 5) (oi := ⟨some 22, .move (.tmp 1), 30, "l14_route.go:114", #[], none⟩) (v := ?_) rfl (by kernel_rfl) (by kernel_rfl) (by kernel_rfl) (fun _ _ _ h => h) (Or.inl ⟨by rfl, ?_⟩) (by assumption) ?_
 rotate_left
 ·
  intro w' hSw; (try dsimp only at hSw); first | (go_simp; done) | (go_simp; with_reducible rfl)
 (try simp only [Act.put, Row.pB0, Row.pB1, Row.pB2])
 refine wpAnyH_take (i := 6) (oi := ⟨some 23, .move (.tmp 5), 3, "l14_route.go:114", #[], none⟩) (v := ?_) rfl (by kernel_rfl) (by kernel_rfl) (by kernel_rfl) (fun _ _ _ h => h) (Or.inl ⟨by rfl, ?_⟩) (by assumption) ?_
 rotate_left
 ·
  intro w' hSw; (try dsimp only at hSw); first | (go_simp; done) | (go_simp; with_reducible rfl)
 (try simp only [Act.put, Row.pB0, Row.pB1, Row.pB2])
 refine wpAnyH_take (i := 7) (oi := ⟨some 24, .indexAddr 30 (.tmp 22) (.tmp 23), 0, "l14_route.go:114", #[⟨5, .data⟩, ⟨6, .data⟩], none⟩) (v := ?_) rfl (by kernel_rfl) (by kernel_rfl) (by kernel_rfl) (fun _ _ _ h => h) (Or.inl ⟨by rfl, ?_⟩) (by assumption) ?_
 rotate_left
 ·
  intro w' hSw; (try dsimp only at hSw); first | (go_simp; done) | (go_simp; with_reducible rfl)
 (try simp only [Act.put, Row.pB0, Row.pB1, Row.pB2])
 refine wpAnyH_take (i := 8) (oi := ⟨some 25, .fieldAddr 49 (.tmp 24) 1, 0, "l14_route.go:114", #[⟨7, .data⟩], none⟩) (v := ?_) rfl (by kernel_rfl) (by kernel_rfl) (by kernel_rfl) (fun _ _ _ h => h) (Or.inl ⟨by rfl, ?_⟩) (by assumption) ?_
 rotate_left
 ·
  intro w' hSw; (try dsimp only at hSw); first | (go_simp; done) | (go_simp; with_reducible rfl)
 (try simp only [Act.put, Row.pB0, Row.pB1, Row.pB2])
 refine wpAnyH_take (i := 9) (oi := ⟨some 26, .load 3 (.tmp 25), 3, "l14_route.go:114", #[⟨8, .data⟩], none⟩) (v := ?_) rfl (by kernel_rfl) (by kernel_rfl) (by kernel_rfl) (fun _ _ _ h => h) (Or.inl ⟨by rfl, ?_⟩) (by assumption) ?_
 rotate_left
 ·
  intro w' hSw; (try dsimp only at hSw); first | (go_simp; done) | (go_simp; with_reducible rfl)
 (try simp only [Act.put, Row.pB0, Row.pB1, Row.pB2])
 refine wpAnyH_take (i := 10) (oi := ⟨some 27, .binOp BinOp.neq 3 (.tmp 21) (.tmp 26) 3, 4, "l14_route.go:114", #[⟨4, .data⟩, ⟨9, .data⟩], none⟩) (v := ?_) rfl (by kernel_rfl) (by kernel_rfl) (by kernel_rfl) (fun _ _ _ h => h) (Or.inl ⟨by rfl, ?_⟩) (by assumption) ?_
 rotate_left
 ·
  intro w' hSw; (try dsimp only at hSw); first | (go_simp; done) | (go_simp; with_reducible rfl)
 (try simp only [Act.put, Row.pB0, Row.pB1, Row.pB2])
 refine wpAnyH_take (i := 11) (oi := ⟨some 28, .move (.tmp 27), 4, "l14_route.go:114", #[⟨10, .data⟩], none⟩) (v := ?_) rfl (by kernel_rfl) (by kernel_rfl) (by kernel_rfl) (fun _ _ _ h => h) (Or.inl ⟨by rfl, ?_⟩) (by assumption) ?_
 rotate_left
 ·
  intro w' hSw; (try dsimp only at hSw); first | (go_simp; done) | (go_simp; with_reducible rfl)
 (try simp only [Act.put, Row.pB0, Row.pB1, Row.pB2])
 refine wpAnyH_take (i := 12) (oi := ⟨some 29, .move (.tmp 0), 30, "l14_route.go:114", #[⟨11, .guard⟩], some (11, false)⟩) (v := ?_) rfl (by kernel_rfl) (by kernel_rfl) (by kernel_rfl) (fun _ _ _ h => h) (Or.inl ⟨by rfl, ?_⟩) (by assumption) ?_
 rotate_left
 ·
  intro w' hSw; (try dsimp only at hSw); first | (go_simp; done) | (go_simp; with_reducible rfl)
 (try simp only [Act.put, Row.pB0, Row.pB1, Row.pB2])
 refine wpAnyH_take (i := 13) (oi := ⟨some 30, .move (.tmp 5), 3, "l14_route.go:114", #[⟨11, .guard⟩], some (11, false)⟩) (v := ?_) rfl (by kernel_rfl) (by kernel_rfl) (by kernel_rfl) (fun _ _ _ h => h) (Or.inl ⟨by rfl, ?_⟩) (by assumption) ?_
 rotate_left
 ·
  intro w' hSw; (try dsimp only at hSw); first | (go_simp; done) | (go_simp; with_reducible rfl)
 (try simp only [Act.put, Row.pB0, Row.pB1, Row.pB2])
 refine wpAnyH_take (i := 14) (oi := ⟨some 31, .indexAddr 30 (.tmp 29) (.tmp 30), 0, "l14_route.go:114", #[⟨12, .data⟩, ⟨13, .data⟩, ⟨11, .guard⟩], some (11, false)⟩) (v := ?_) rfl (by kernel_rfl) (by kernel_rfl) (by kernel_rfl) (fun _ _ _ h => h) (Or.inl ⟨by rfl, ?_⟩) (by assumption) ?_
 rotate_left
 ·
  intro w' hSw; (try dsimp only at hSw); first | (go_simp; done) | (go_simp; with_reducible rfl)
 (try simp only [Act.put, Row.pB0, Row.pB1, Row.pB2])
 refine wpAnyH_take (i := 15) (oi := ⟨some 32, .fieldAddr 49 (.tmp 31) 2, 0, "l14_route.go:114", #[⟨14, .data⟩, ⟨11, .guard⟩], some (11, false)⟩) (v := ?_) rfl (by kernel_rfl) (by kernel_rfl) (by kernel_rfl) (fun _ _ _ h => h) (Or.inl ⟨by rfl, ?_⟩) (by assumption) ?_
 rotate_left
 ·
  intro w' hSw; (try dsimp only at hSw); first | (go_simp; done) | (go_simp; with_reducible rfl)
 (try simp only [Act.put, Row.pB0, Row.pB1, Row.pB2])
 refine wpAnyH_take (i := 16) (oi := ⟨some 33, .load 3 (.tmp 32), 3, "l14_route.go:114", #[⟨15, .data⟩, ⟨11, .guard⟩], some (11, false)⟩) (v := ?_) rfl (by kernel_rfl) (by kernel_rfl) (by kernel_rfl) (fun _ _ _ h => h) (Or.inl ⟨by rfl, ?_⟩) (by assumption) ?_
 rotate_left
 ·
  intro w' hSw; (try dsimp only at hSw); first | (go_simp; done) | (go_simp; with_reducible rfl)
 (try simp only [Act.put, Row.pB0, Row.pB1, Row.pB2])
 refine wpAnyH_take (i := 17) (oi := ⟨some 34, .move (.tmp 1), 30, "l14_route.go:114", #[⟨11, .guard⟩], some (11, false)⟩) (v := ?_) rfl (by kernel_rfl) (by kernel_rfl) (by kernel_rfl) (fun _ _ _ h => h) (Or.inl ⟨by rfl, ?_⟩) (by assumption) ?_
 rotate_left
 ·
  intro w' hSw; (try dsimp only at hSw); first | (go_simp; done) | (go_simp; with_reducible rfl)
 (try simp only [Act.put, Row.pB0, Row.pB1, Row.pB2])
 refine wpAnyH_take (i := 18) (oi := ⟨some 35, .move (.tmp 5), 3, "l14_route.go:114", #[⟨11, .guard⟩], some (11, false)⟩) (v := ?_) rfl (by kernel_rfl) (by kernel_rfl) (by kernel_rfl) (fun _ _ _ h => h) (Or.inl ⟨by rfl, ?_⟩) (by assumption) ?_
 rotate_left
 ·
  intro w' hSw; (try dsimp only at hSw); first | (go_simp; done) | (go_simp; with_reducible rfl)
 (try simp only [Act.put, Row.pB0, Row.pB1, Row.pB2])
 refine wpAnyH_take (i := 19) (oi := ⟨some 36, .indexAddr 30 (.tmp 34) (.tmp 35), 0, "l14_route.go:114", #[⟨17, .data⟩, ⟨18, .data⟩, ⟨11, .guard⟩], some (11, false)⟩) (v := ?_) rfl (by kernel_rfl) (by kernel_rfl) (by kernel_rfl) (fun _ _ _ h => h) (Or.inl ⟨by rfl, ?_⟩) (by assumption) ?_
 rotate_left
 ·
  intro w' hSw; (try dsimp only at hSw); first | (go_simp; done) | (go_simp; with_reducible rfl)
 (try simp only [Act.put, Row.pB0, Row.pB1, Row.pB2])
 refine wpAnyH_take (i := 20) (oi := ⟨some 37, .fieldAddr 49 (.tmp 36) 2, 0, "l14_route.go:114", #[⟨19, .data⟩, ⟨11, .guard⟩], some (11, false)⟩) (v := ?_) rfl (by kernel_rfl) (by kernel_rfl) (by kernel_rfl) (fun _ _ _ h => h) (Or.inl ⟨by rfl, ?_⟩) (by assumption) ?_
 rotate_left
 ·
  intro w' hSw; (try dsimp only at hSw); first | (go_simp; done) | (go_simp; with_reducible rfl)
 (try simp only [Act.put, Row.pB0, Row.pB1, Row.pB2])
 refine wpAnyH_take (i := 21) (oi := ⟨some 38, .load 3 (.tmp 37), 3, "l14_route.go:114", #[⟨20, .data⟩, ⟨11, .guard⟩], some (11, false)⟩) (v := ?_) rfl (by kernel_rfl) (by kernel_rfl) (by kernel_rfl) (fun _ _ _ h => h) (Or.inl ⟨by rfl, ?_⟩) (by assumption) ?_
 rotate_left
 ·
  intro w' hSw; (try dsimp only at hSw); first | (go_simp; done) | (go_simp; with_reducible rfl)
 (try simp only [Act.put, Row.pB0, Row.pB1, Row.pB2])
 refine wpAnyH_take (i := 22) (oi := ⟨some 39, .binOp BinOp.neq 3 (.tmp 33) (.tmp 38) 3, 4, "l14_route.go:114", #[⟨16, .data⟩, ⟨21, .data⟩, ⟨11, .guard⟩], some (11, false)⟩) (v := ?_) rfl (by kernel_rfl) (by kernel_rfl) (by kernel_rfl) (fun _ _ _ h => h) (Or.inl ⟨by rfl, ?_⟩) (by assumption) ?_
 rotate_left
 ·
  intro w' hSw; (try dsimp only at hSw); first | (go_simp; done) | (go_simp; with_reducible rfl)
 (try simp only [Act.put, Row.pB0, Row.pB1, Row.pB2])
 refine wpAnyH_take (i := 23) (oi := ⟨some 40, .pick (.tmp 28) (.const (Value.bool true)) (.tmp 39), 4, "l14_route.go:114", #[⟨11, .data⟩, ⟨22, .data⟩], none⟩) (v := ?_) rfl (by kernel_rfl) (by kernel_rfl) (by kernel_rfl) (fun _ _ _ h => h) (Or.inl ⟨by rfl, ?_⟩) (by assumption) ?_
 rotate_left
 ·
  intro w' hSw; (try dsimp only at hSw); first | (go_simp; done) | (go_simp; with_reducible rfl)
 (try simp only [Act.put, Row.pB0, Row.pB1, Row.pB2])
 refine wpAnyH_take (i := 24) (oi := ⟨some 41, .move (.tmp 40), 4, "l14_route.go:114", #[⟨23, .data⟩, ⟨11, .chain⟩], none⟩) (v := ?_) rfl (by kernel_rfl) (by kernel_rfl) (by kernel_rfl) (fun _ _ _ h => h) (Or.inl ⟨by rfl, ?_⟩) (by assumption) ?_
 rotate_left
 ·
  intro w' hSw; (try dsimp only at hSw); first | (go_simp; done) | (go_simp; with_reducible rfl)
 (try simp only [Act.put, Row.pB0, Row.pB1, Row.pB2])
 refine wpAnyH_take (i := 25) (oi := ⟨some 42, .move (.tmp 0), 30, "l14_route.go:114", #[⟨24, .guard⟩], some (24, false)⟩) (v := undef) rfl (by kernel_rfl) (by kernel_rfl) (by kernel_rfl) (fun _ _ _ h => h) (Or.inr ⟨by rfl, rfl⟩) (by assumption) ?_
 (try simp only [Act.put, Row.pB0, Row.pB1, Row.pB2])
 refine wpAnyH_take (i := 26) (oi := ⟨some 43, .move (.tmp 5), 3, "l14_route.go:114", #[⟨24, .guard⟩], some (24, false)⟩) (v := undef) rfl (by kernel_rfl) (by kernel_rfl) (by kernel_rfl) (fun _ _ _ h => h) (Or.inr ⟨by rfl, rfl⟩) (by assumption) ?_
 (try simp only [Act.put, Row.pB0, Row.pB1, Row.pB2])
 refine wpAnyH_take (i := 27) (oi := ⟨some 44, .indexAddr 30 (.tmp 42) (.tmp 43), 0, "l14_route.go:114", #[⟨25, .data⟩, ⟨26, .data⟩, ⟨24, .guard⟩], some (24, false)⟩) (v := undef) rfl (by kernel_rfl) (by kernel_rfl) (by kernel_rfl) (fun _ _ _ h => h) (Or.inr ⟨by rfl, rfl⟩) (by assumption) ?_
 (try simp only [Act.put, Row.pB0, Row.pB1, Row.pB2])
 refine wpAnyH_take (i := 28) (oi := ⟨some 45, .fieldAddr 49 (.tmp 44) 0, 0, "l14_route.go:114", #[⟨27, .data⟩, ⟨24, .guard⟩], some (24, false)⟩) (v := undef) rfl (by kernel_rfl) (by kernel_rfl) (by kernel_rfl) (fun _ _ _ h => h) (Or.inr ⟨by rfl, rfl⟩) (by assumption) ?_
 (try simp only [Act.put, Row.pB0, Row.pB1, Row.pB2])
 refine wpAnyH_take (i := 29) (oi := ⟨some 46, .load 32 (.tmp 45), 32, "l14_route.go:114", #[⟨28, .data⟩, ⟨24, .guard⟩], some (24, false)⟩) (v := undef) rfl (by kernel_rfl) (by kernel_rfl) (by kernel_rfl) (fun _ _ _ h => h) (Or.inr ⟨by rfl, rfl⟩) (by assumption) ?_
 (try simp only [Act.put, Row.pB0, Row.pB1, Row.pB2])
 refine wpAnyH_take (i := 30) (oi := ⟨some 47, .move (.tmp 1), 30, "l14_route.go:114", #[⟨24, .guard⟩], some (24, false)⟩) (v := undef) rfl (by kernel_rfl) (by kernel_rfl) (by kernel_rfl) (fun _ _ _ h => h) (Or.inr ⟨by rfl, rfl⟩) (by assumption) ?_
 (try simp only [Act.put, Row.pB0, Row.pB1, Row.pB2])
 refine wpAnyH_take (i := 31) (oi := ⟨some 48, .move (.tmp 5), 3, "l14_route.go:114", #[⟨24, .guard⟩], some (24, false)⟩) (v := undef) rfl (by kernel_rfl) (by kernel_rfl) (by kernel_rfl) (fun _ _ _ h => h) (Or.inr ⟨by rfl, rfl⟩) (by assumption) ?_
 (try simp only [Act.put, Row.pB0, Row.pB1, Row.pB2])
 refine wpAnyH_take (i := 32) (oi := ⟨some 49, .indexAddr 30 (.tmp 47) (.tmp 48), 0, "l14_route.go:114", #[⟨30, .data⟩, ⟨31, .data⟩, ⟨24, .guard⟩], some (24, false)⟩) (v := undef) rfl (by kernel_rfl) (by kernel_rfl) (by kernel_rfl) (fun _ _ _ h => h) (Or.inr ⟨by rfl, rfl⟩) (by assumption) ?_
 (try simp only [Act.put, Row.pB0, Row.pB1, Row.pB2])
 refine wpAnyH_take (i := 33) (oi := ⟨some 50, .fieldAddr 49 (.tmp 49) 0, 0, "l14_route.go:114", #[⟨32, .data⟩, ⟨24, .guard⟩], some (24, false)⟩) (v := undef) rfl (by kernel_rfl) (by kernel_rfl) (by kernel_rfl) (fun _ _ _ h => h) (Or.inr ⟨by rfl, rfl⟩) (by assumption) ?_
 (try simp only [Act.put, Row.pB0, Row.pB1, Row.pB2])
 refine wpAnyH_take (i := 34) (oi := ⟨some 51, .load 32 (.tmp 50), 32, "l14_route.go:114", #[⟨33, .data⟩, ⟨24, .guard⟩], some (24, false)⟩) (v := undef) rfl (by kernel_rfl) (by kernel_rfl) (by kernel_rfl) (fun _ _ _ h => h) (Or.inr ⟨by rfl, rfl⟩) (by assumption) ?_
 (try simp only [Act.put, Row.pB0, Row.pB1, Row.pB2])
 refine wpAnyH_take (i := 35) (oi := ⟨some 52, .call ⟨.value (.func 23), #[.tmp 46, .tmp 51], #[32, 32]⟩, 4, "l14_route.go:114", #[⟨29, .data⟩, ⟨34, .data⟩, ⟨24, .chain⟩, ⟨24, .guard⟩], some (24, false)⟩) (v := undef) rfl (by kernel_rfl) (by kernel_rfl) (by kernel_rfl) (fun _ _ _ h => h) (Or.inr ⟨by rfl, rfl⟩) (by assumption) ?_
 (try simp only [Act.put, Row.pB0, Row.pB1, Row.pB2])
 refine wpAnyH_take (i := 36) (oi := ⟨some 53, .unOp UnOp.not 4 (.tmp 52), 4, "l14_route.go:114", #[⟨35, .data⟩, ⟨24, .guard⟩], some (24, false)⟩) (v := undef) rfl (by kernel_rfl) (by kernel_rfl) (by kernel_rfl) (fun _ _ _ h => h) (Or.inr ⟨by rfl, rfl⟩) (by assumption) ?_
 (try simp only [Act.put, Row.pB0, Row.pB1, Row.pB2])
 refine wpAnyH_take (i := 37) (oi := ⟨some 54, .pick (.tmp 41) (.const (Value.bool true)) (.tmp 53), 4, "l14_route.go:114", #[⟨24, .data⟩, ⟨36, .data⟩], none⟩) (v := ?_) rfl (by kernel_rfl) (by kernel_rfl) (by kernel_rfl) (fun _ _ _ h => h) (Or.inl ⟨by rfl, ?_⟩) (by assumption) ?_
 rotate_left
 ·
  intro w' hSw; (try dsimp only at hSw); first | (go_simp; done) | (go_simp; with_reducible rfl)
 (try simp only [Act.put, Row.pB0, Row.pB1, Row.pB2])
 refine wpAnyH_done (by kernel_rfl) ?_ _
 exact NoPanic.normal (HQ.out _ _ _ _ _ _ _ _ _ _ _ _ _ _ _ _ _ _ _ _ _ _ _ _ _ _ _ _ _ _ _ _ _ _ _ _ _  _  BB.out)
set_option maxRecDepth 100000 in
set_option maxHeartbeats 4000000 in
theorem req2 {Q : Exit → Act → World → Prop} {v2 v3 v4 v6 v7 v8 v9 v10 v11 v12 v13 v14 v15 v16 v17 v18 v19 v20 v21 v22 v23 v24 v25 v26 v27 v28 v29 v30 v31 v32 v33 v34 v35 v36 v37 v38 v39 v40 v41 v42 v43 v44 v45 v46 v47 v48 v49 v50 v51 v52 v53 v54 : Value} {w : World} {b off n c b2 off2 n2 c2 k na ca nb cb : Nat} {xa xb : Option Addr} {rf rc rf2 rc2 : Int} {a m : List ByteArray} {z : Bool} (hk : k < n) (hkc : k ≤ c) (hn : n ≤ 9000000) (hk2 : k < n2) (hkc2 : k ≤ c2) (hn2 : n2 ≤ 9000000) (tf : (rf != rf2) = false) (tc : (rc != rc2) = false) (HZ : Hid (decide (a = m) = z)) (H_a : Hid (kN.At w (.agg #[.slice xa na ca]) a)) (H_m : Hid (kN.At w (.agg #[.slice xb nb cb]) m)) (HAB : Hid (bulk a ≤ 1200000)) (HMB : Hid (bulk m ≤ 1200000)) (K1 : Hid (w.cell? ⟨b, off + k * 3 + 1, none⟩ = some (.int .i64 rf))) (K3 : Hid (w.cell? ⟨b2, off2 + k * 3 + 1, none⟩ = some (.int .i64 rf2))) (K2 : Hid (w.cell? ⟨b, off + k * 3 + 2, none⟩ = some (.int .i64 rc))) (K4 : Hid (w.cell? ⟨b2, off2 + k * 3 + 2, none⟩ = some (.int .i64 rc2))) (K5 : Hid (w.cell? ⟨b, off + k * 3, none⟩ = some (.slice xa na ca))) (K6 : Hid (w.cell? ⟨b2, off2 + k * 3, none⟩ = some (.slice xb nb cb)))
  (hQ : ∀ (u17 u18 u19 u20 u21 u22 u23 u24 u25 u26 u27 u28 u29 u30 u31 u32 u33 u34 u35 u36 u37 u38 u39 u40 u41 u42 u43 u44 u45 u46 u47 u48 u49 u50 u51 u52 u53 : Value)  (wx : World), Below w.heap.size w wx → Q .normal ⟨#[.slice (some ⟨b, off, none⟩) n c, .slice (some ⟨b2, off2, none⟩) n2 c2, v2, v3, v4, .int .i64 k, v6, v7, v8, v9, v10, v11, v12, v13, v14, v15, v16, u17, u18, u19, u20, u21, u22, u23, u24, u25, u26, u27, u28, u29, u30, u31, u32, u33, u34, u35, u36, u37, u38, u39, u40, u41, u42, u43, u44, u45, u46, u47, u48, u49, u50, u51, u52, u53, .bool (!z)], []⟩ wx) :
  (Code.region 6 #[⟨some 17, .move (.tmp 0), 30, "l14_route.go:114", #[], none⟩,
   ⟨some 18, .move (.tmp 5), 3, "l14_route.go:114", #[], none⟩,
   ⟨some 19, .indexAddr 30 (.tmp 17) (.tmp 18), 0, "l14_route.go:114", #[⟨0, .data⟩, ⟨1, .data⟩], none⟩,
   ⟨some 20, .fieldAddr 49 (.tmp 19) 1, 0, "l14_route.go:114", #[⟨2, .data⟩], none⟩,
   ⟨some 21, .load 3 (.tmp 20), 3, "l14_route.go:114", #[⟨3, .data⟩], none⟩,
   ⟨some 22, .move (.tmp 1), 30, "l14_route.go:114", #[], none⟩,
   ⟨some 23, .move (.tmp 5), 3, "l14_route.go:114", #[], none⟩,
   ⟨some 24, .indexAddr 30 (.tmp 22) (.tmp 23), 0, "l14_route.go:114", #[⟨5, .data⟩, ⟨6, .data⟩], none⟩,
   ⟨some 25, .fieldAddr 49 (.tmp 24) 1, 0, "l14_route.go:114", #[⟨7, .data⟩], none⟩,
   ⟨some 26, .load 3 (.tmp 25), 3, "l14_route.go:114", #[⟨8, .data⟩], none⟩,
   ⟨some 27, .binOp BinOp.neq 3 (.tmp 21) (.tmp 26) 3, 4, "l14_route.go:114", #[⟨4, .data⟩, ⟨9, .data⟩], none⟩,
   ⟨some 28, .move (.tmp 27), 4, "l14_route.go:114", #[⟨10, .data⟩], none⟩,
   ⟨some 29, .move (.tmp 0), 30, "l14_route.go:114", #[⟨11, .guard⟩], some (11, false)⟩,
   ⟨some 30, .move (.tmp 5), 3, "l14_route.go:114", #[⟨11, .guard⟩], some (11, false)⟩,
   ⟨some 31, .indexAddr 30 (.tmp 29) (.tmp 30), 0, "l14_route.go:114", #[⟨12, .data⟩, ⟨13, .data⟩, ⟨11, .guard⟩], some (11, false)⟩,
   ⟨some 32, .fieldAddr 49 (.tmp 31) 2, 0, "l14_route.go:114", #[⟨14, .data⟩, ⟨11, .guard⟩], some (11, false)⟩,
   ⟨some 33, .load 3 (.tmp 32), 3, "l14_route.go:114", #[⟨15, .data⟩, ⟨11, .guard⟩], some (11, false)⟩,
   ⟨some 34, .move (.tmp 1), 30, "l14_route.go:114", #[⟨11, .guard⟩], some (11, false)⟩,
   ⟨some 35, .move (.tmp 5), 3, "l14_route.go:114", #[⟨11, .guard⟩], some (11, false)⟩,
   ⟨some 36, .indexAddr 30 (.tmp 34) (.tmp 35), 0, "l14_route.go:114", #[⟨17, .data⟩, ⟨18, .data⟩, ⟨11, .guard⟩], some (11, false)⟩,
   ⟨some 37, .fieldAddr 49 (.tmp 36) 2, 0, "l14_route.go:114", #[⟨19, .data⟩, ⟨11, .guard⟩], some (11, false)⟩,
   ⟨some 38, .load 3 (.tmp 37), 3, "l14_route.go:114", #[⟨20, .data⟩, ⟨11, .guard⟩], some (11, false)⟩,
   ⟨some 39, .binOp BinOp.neq 3 (.tmp 33) (.tmp 38) 3, 4, "l14_route.go:114", #[⟨16, .data⟩, ⟨21, .data⟩, ⟨11, .guard⟩], some (11, false)⟩,
   ⟨some 40, .pick (.tmp 28) (.const (Value.bool true)) (.tmp 39), 4, "l14_route.go:114", #[⟨11, .data⟩, ⟨22, .data⟩], none⟩,
   ⟨some 41, .move (.tmp 40), 4, "l14_route.go:114", #[⟨23, .data⟩, ⟨11, .chain⟩], none⟩,
   ⟨some 42, .move (.tmp 0), 30, "l14_route.go:114", #[⟨24, .guard⟩], some (24, false)⟩,
   ⟨some 43, .move (.tmp 5), 3, "l14_route.go:114", #[⟨24, .guard⟩], some (24, false)⟩,
   ⟨some 44, .indexAddr 30 (.tmp 42) (.tmp 43), 0, "l14_route.go:114", #[⟨25, .data⟩, ⟨26, .data⟩, ⟨24, .guard⟩], some (24, false)⟩,
   ⟨some 45, .fieldAddr 49 (.tmp 44) 0, 0, "l14_route.go:114", #[⟨27, .data⟩, ⟨24, .guard⟩], some (24, false)⟩,
   ⟨some 46, .load 32 (.tmp 45), 32, "l14_route.go:114", #[⟨28, .data⟩, ⟨24, .guard⟩], some (24, false)⟩,
   ⟨some 47, .move (.tmp 1), 30, "l14_route.go:114", #[⟨24, .guard⟩], some (24, false)⟩,
   ⟨some 48, .move (.tmp 5), 3, "l14_route.go:114", #[⟨24, .guard⟩], some (24, false)⟩,
   ⟨some 49, .indexAddr 30 (.tmp 47) (.tmp 48), 0, "l14_route.go:114", #[⟨30, .data⟩, ⟨31, .data⟩, ⟨24, .guard⟩], some (24, false)⟩,
   ⟨some 50, .fieldAddr 49 (.tmp 49) 0, 0, "l14_route.go:114", #[⟨32, .data⟩, ⟨24, .guard⟩], some (24, false)⟩,
   ⟨some 51, .load 32 (.tmp 50), 32, "l14_route.go:114", #[⟨33, .data⟩, ⟨24, .guard⟩], some (24, false)⟩,
   ⟨some 52, .call ⟨.value (.func 23), #[.tmp 46, .tmp 51], #[32, 32]⟩, 4, "l14_route.go:114", #[⟨29, .data⟩, ⟨34, .data⟩, ⟨24, .chain⟩, ⟨24, .guard⟩], some (24, false)⟩,
   ⟨some 53, .unOp UnOp.not 4 (.tmp 52), 4, "l14_route.go:114", #[⟨35, .data⟩, ⟨24, .guard⟩], some (24, false)⟩,
   ⟨some 54, .pick (.tmp 41) (.const (Value.bool true)) (.tmp 53), 4, "l14_route.go:114", #[⟨24, .data⟩, ⟨36, .data⟩], none⟩] true).wp Try.prog Q ⟨#[.slice (some ⟨b, off, none⟩) n c, .slice (some ⟨b2, off2, none⟩) n2 c2, v2, v3, v4, .int .i64 k, v6, v7, v8, v9, v10, v11, v12, v13, v14, v15, v16, v17, v18, v19, v20, v21, v22, v23, v24, v25, v26, v27, v28, v29, v30, v31, v32, v33, v34, v35, v36, v37, v38, v39, v40, v41, v42, v43, v44, v45, v46, v47, v48, v49, v50, v51, v52, v53, v54], []⟩ w := by
 have HQ := Lib.hid hQ; clear hQ
 have hdr : Below w.heap.size w w.drew := (Below.refl _ _).drew
 have BB := Lib.hid hdr
 refine wp_region_noPanic ?_
 refine wp_region_held_drew (S := (fun w' => w'.cell? ⟨b, off + k * 3 + 1, none⟩ = some (.int .i64 rf) ∧ w'.cell? ⟨b2, off2 + k * 3 + 1, none⟩ = some (.int .i64 rf2) ∧ w'.cell? ⟨b, off + k * 3 + 2, none⟩ = some (.int .i64 rc) ∧ w'.cell? ⟨b2, off2 + k * 3 + 2, none⟩ = some (.int .i64 rc2) ∧ w'.cell? ⟨b, off + k * 3, none⟩ = some (.slice xa na ca) ∧ w'.cell? ⟨b2, off2 + k * 3, none⟩ = some (.slice xb nb cb))) (by kernel_rfl) ?_ (fun hHeld => ?_)
 ·
  exact ⟨kc K1.out BB.out, kc K3.out BB.out, kc K2.out BB.out, kc K4.out BB.out, kc K5.out BB.out, kc K6.out BB.out⟩
 clear hdr
 generalize w.drew = wd at *
 refine wpAnyH_take (i := 0) (oi := ⟨some 17, .move (.tmp 0), 30, "l14_route.go:114", #[], none⟩) (v := ?_) rfl (by kernel_rfl) (by kernel_rfl) (by kernel_rfl) (fun _ _ _ h => h) (Or.inl ⟨by rfl, ?_⟩) (by assumption) ?_
 rotate_left
 ·
  intro w' hSw; (try dsimp only at hSw); first | (go_simp; done) | (go_simp; with_reducible rfl)
 (try simp only [Act.put, Row.pB0, Row.pB1, Row.pB2])
 refine wpAnyH_take (i := 1) (oi := ⟨some 18, .move (.tmp 5), 3, "l14_route.go:114", #[], none⟩) (v := ?_) rfl (by kernel_rfl) (by kernel_rfl) (by kernel_rfl) (fun _ _ _ h => h) (Or.inl ⟨by rfl, ?_⟩) (by assumption) ?_
 rotate_left
 ·
  intro w' hSw; (try dsimp only at hSw); first | (go_simp; done) | (go_simp; with_reducible rfl)
 (try simp only [Act.put, Row.pB0, Row.pB1, Row.pB2])
 refine wpAnyH_take (i := 2) (oi := ⟨some 19, .indexAddr 30 (.tmp 17) (.tmp 18), 0, "l14_route.go:114", #[⟨0, .data⟩, ⟨1, .data⟩], none⟩) (v := ?_) rfl (by kernel_rfl) (by kernel_rfl) (by kernel_rfl) (fun _ _ _ h => h) (Or.inl ⟨by rfl, ?_⟩) (by assumption) ?_
 rotate_left
 ·
  intro w' hSw; (try dsimp only at hSw); first | (go_simp; done) | (go_simp; with_reducible rfl)
 (try simp only [Act.put, Row.pB0, Row.pB1, Row.pB2])
 refine wpAnyH_take (i := 3) (oi := ⟨some 20, .fieldAddr 49 (.tmp 19) 1, 0, "l14_route.go:114", #[⟨2, .data⟩], none⟩) (v := ?_) rfl (by kernel_rfl) (by kernel_rfl) (by kernel_rfl) (fun _ _ _ h => h) (Or.inl ⟨by rfl, ?_⟩) (by assumption) ?_
 rotate_left
 ·
  intro w' hSw; (try dsimp only at hSw); first | (go_simp; done) | (go_simp; with_reducible rfl)
 (try simp only [Act.put, Row.pB0, Row.pB1, Row.pB2])
 refine wpAnyH_take (i := 4) (oi := ⟨some 21, .load 3 (.tmp 20), 3, "l14_route.go:114", #[⟨3, .data⟩], none⟩) (v := ?_) rfl (by kernel_rfl) (by kernel_rfl) (by kernel_rfl) (fun _ _ _ h => h) (Or.inl ⟨by rfl, ?_⟩) (by assumption) ?_
 rotate_left
 ·
  intro w' hSw; (try dsimp only at hSw); first | (go_simp; done) | (go_simp; with_reducible rfl)
 (try simp only [Act.put, Row.pB0, Row.pB1, Row.pB2])
 refine wpAnyH_take (i := 5) (oi := ⟨some 22, .move (.tmp 1), 30, "l14_route.go:114", #[], none⟩) (v := ?_) rfl (by kernel_rfl) (by kernel_rfl) (by kernel_rfl) (fun _ _ _ h => h) (Or.inl ⟨by rfl, ?_⟩) (by assumption) ?_
 rotate_left
 ·
  intro w' hSw; (try dsimp only at hSw); first | (go_simp; done) | (go_simp; with_reducible rfl)
 (try simp only [Act.put, Row.pB0, Row.pB1, Row.pB2])
 refine wpAnyH_take (i := 6) (oi := ⟨some 23, .move (.tmp 5), 3, "l14_route.go:114", #[], none⟩) (v := ?_) rfl (by kernel_rfl) (by kernel_rfl) (by kernel_rfl) (fun _ _ _ h => h) (Or.inl ⟨by rfl, ?_⟩) (by assumption) ?_
 rotate_left
 ·
  intro w' hSw; (try dsimp only at hSw); first | (go_simp; done) | (go_simp; with_reducible rfl)
 (try simp only [Act.put, Row.pB0, Row.pB1, Row.pB2])
 refine wpAnyH_take (i := 7) (oi := ⟨some 24, .indexAddr 30 (.tmp 22) (.tmp 23), 0, "l14_route.go:114", #[⟨5, .data⟩, ⟨6, .data⟩], none⟩) (v := ?_) rfl (by kernel_rfl) (by kernel_rfl) (by kernel_rfl) (fun _ _ _ h => h) (Or.inl ⟨by rfl, ?_⟩) (by assumption) ?_
 rotate_left
 ·
  intro w' hSw; (try dsimp only at hSw); first | (go_simp; done) | (go_simp; with_reducible rfl)
 (try simp only [Act.put, Row.pB0, Row.pB1, Row.pB2])
 refine wpAnyH_take (i := 8) (oi := ⟨some 25, .fieldAddr 49 (.tmp 24) 1, 0, "l14_route.go:114", #[⟨7, .data⟩], none⟩) (v := ?_) rfl (by kernel_rfl) (by kernel_rfl) (by kernel_rfl) (fun _ _ _ h => h) (Or.inl ⟨by rfl, ?_⟩) (by assumption) ?_
 rotate_left
 ·
  intro w' hSw; (try dsimp only at hSw); first | (go_simp; done) | (go_simp; with_reducible rfl)
 (try simp only [Act.put, Row.pB0, Row.pB1, Row.pB2])
 refine wpAnyH_take (i := 9) (oi := ⟨some 26, .load 3 (.tmp 25), 3, "l14_route.go:114", #[⟨8, .data⟩], none⟩) (v := ?_) rfl (by kernel_rfl) (by kernel_rfl) (by kernel_rfl) (fun _ _ _ h => h) (Or.inl ⟨by rfl, ?_⟩) (by assumption) ?_
 rotate_left
 ·
  intro w' hSw; (try dsimp only at hSw); first | (go_simp; done) | (go_simp; with_reducible rfl)
 (try simp only [Act.put, Row.pB0, Row.pB1, Row.pB2])
 refine wpAnyH_take (i := 10) (oi := ⟨some 27, .binOp BinOp.neq 3 (.tmp 21) (.tmp 26) 3, 4, "l14_route.go:114", #[⟨4, .data⟩, ⟨9, .data⟩], none⟩) (v := ?_) rfl (by kernel_rfl) (by kernel_rfl) (by kernel_rfl) (fun _ _ _ h => h) (Or.inl ⟨by rfl, ?_⟩) (by assumption) ?_
 rotate_left
 ·
  intro w' hSw; (try dsimp only at hSw); first | (go_simp; done) | (go_simp; with_reducible rfl)
 (try simp only [Act.put, Row.pB0, Row.pB1, Row.pB2])
 refine wpAnyH_take (i := 11) (oi := ⟨some 28, .move (.tmp 27), 4, "l14_route.go:114", #[⟨10, .data⟩], none⟩) (v := ?_) rfl (by kernel_rfl) (by kernel_rfl) (by kernel_rfl) (fun _ _ _ h => h) (Or.inl ⟨by rfl, ?_⟩) (by assumption) ?_
 rotate_left
 ·
  intro w' hSw; (try dsimp only at hSw); first | (go_simp; done) | (go_simp; with_reducible rfl)
 (try simp only [Act.put, Row.pB0, Row.pB1, Row.pB2])
 refine wpAnyH_take (i := 12) (oi := ⟨some 29, .move (.tmp 0), 30, "l14_route.go:114", #[⟨11, .guard⟩], some (11, false)⟩) (v := ?_) rfl (by kernel_rfl) (by kernel_rfl) (by kernel_rfl) (fun _ _ _ h => h) (Or.inl ⟨by rfl, ?_⟩) (by assumption) ?_
 rotate_left
 ·
  intro w' hSw; (try dsimp only at hSw); first | (go_simp; done) | (go_simp; with_reducible rfl)
 (try simp only [Act.put, Row.pB0, Row.pB1, Row.pB2])
 refine wpAnyH_take (i := 13) (oi := ⟨some 30, .move (.tmp 5), 3, "l14_route.go:114", #[⟨11, .guard⟩], some (11, false)⟩) (v := ?_) rfl (by kernel_rfl) (by kernel_rfl) (by kernel_rfl) (fun _ _ _ h => h) (Or.inl ⟨by rfl, ?_⟩) (by assumption) ?_
 rotate_left
 ·
  intro w' hSw; (try dsimp only at hSw); first | (go_simp; done) | (go_simp; with_reducible rfl)
 (try simp only [Act.put, Row.pB0, Row.pB1, Row.pB2])
 refine wpAnyH_take (i := 14) (oi := ⟨some 31, .indexAddr 30 (.tmp 29) (.tmp 30), 0, "l14_route.go:114", #[⟨12, .data⟩, ⟨13, .data⟩, ⟨11, .guard⟩], some (11, false)⟩) (v := ?_) rfl (by kernel_rfl) (by kernel_rfl) (by kernel_rfl) (fun _ _ _ h => h) (Or.inl ⟨by rfl, ?_⟩) (by assumption) ?_
 rotate_left
 ·
  intro w' hSw; (try dsimp only at hSw); first | (go_simp; done) | (go_simp; with_reducible rfl)
 (try simp only [Act.put, Row.pB0, Row.pB1, Row.pB2])
 refine wpAnyH_take (i := 15) (oi := ⟨some 32, .fieldAddr 49 (.tmp 31) 2, 0, "l14_route.go:114", #[⟨14, .data⟩, ⟨11, .guard⟩], some (11, false)⟩) (v := ?_) rfl (by kernel_rfl) (by kernel_rfl) (by kernel_rfl) (fun _ _ _ h => h) (Or.inl ⟨by rfl, ?_⟩) (by assumption) ?_
 rotate_left
 ·
  intro w' hSw; (try dsimp only at hSw); first | (go_simp; done) | (go_simp; with_reducible rfl)
 (try simp only [Act.put, Row.pB0, Row.pB1, Row.pB2])
 refine wpAnyH_take (i := 16) (oi := ⟨some 33, .load 3 (.tmp 32), 3, "l14_route.go:114", #[⟨15, .data⟩, ⟨11, .guard⟩], some (11, false)⟩) (v := ?_) rfl (by kernel_rfl) (by kernel_rfl) (by kernel_rfl) (fun _ _ _ h => h) (Or.inl ⟨by rfl, ?_⟩) (by assumption) ?_
 rotate_left
 ·
  intro w' hSw; (try dsimp only at hSw); first | (go_simp; done) | (go_simp; with_reducible rfl)
 (try simp only [Act.put, Row.pB0, Row.pB1, Row.pB2])
 refine wpAnyH_take (i := 17) (oi := ⟨some 34, .move (.tmp 1), 30, "l14_route.go:114", #[⟨11, .guard⟩], some (11, false)⟩) (v := ?_) rfl (by kernel_rfl) (by kernel_rfl) (by kernel_rfl) (fun _ _ _ h => h) (Or.inl ⟨by rfl, ?_⟩) (by assumption) ?_
 rotate_left
 ·
  intro w' hSw; (try dsimp only at hSw); first | (go_simp; done) | (go_simp; with_reducible rfl)
 (try simp only [Act.put, Row.pB0, Row.pB1, Row.pB2])
 refine wpAnyH_take (i := 18) (oi := ⟨some 35, .move (.tmp 5), 3, "l14_route.go:114", #[⟨11, .guard⟩], some (11, false)⟩) (v := ?_) rfl (by kernel_rfl) (by kernel_rfl) (by kernel_rfl) (fun _ _ _ h => h) (Or.inl ⟨by rfl, ?_⟩) (by assumption) ?_
 rotate_left
 ·
  intro w' hSw; (try dsimp only at hSw); first | (go_simp; done) | (go_simp; with_reducible rfl)
 (try simp only [Act.put, Row.pB0, Row.pB1, Row.pB2])
 refine wpAnyH_take (i := 19) (oi := ⟨some 36, .indexAddr 30 (.tmp 34) (.tmp 35), 0, "l14_route.go:114", #[⟨17, .data⟩, ⟨18, .data⟩, ⟨11, .guard⟩], some (11, false)⟩) (v := ?_) rfl (by kernel_rfl) (by kernel_rfl) (by kernel_rfl) (fun _ _ _ h => h) (Or.inl ⟨by rfl, ?_⟩) (by assumption) ?_
 rotate_left
 ·
  intro w' hSw; (try dsimp only at hSw); first | (go_simp; done) | (go_simp; with_reducible rfl)
 (try simp only [Act.put, Row.pB0, Row.pB1, Row.pB2])
 refine wpAnyH_take (i := 20) (oi := ⟨some 37, .fieldAddr 49 (.tmp 36) 2, 0, "l14_route.go:114", #[⟨19, .data⟩, ⟨11, .guard⟩], some (11, false)⟩) (v := ?_) rfl (by kernel_rfl) (by kernel_rfl) (by kernel_rfl) (fun _ _ _ h => h) (Or.inl ⟨by rfl, ?_⟩) (by assumption) ?_
 rotate_left
 ·
  intro w' hSw; (try dsimp only at hSw); first | (go_simp; done) | (go_simp; with_reducible rfl)
 (try simp only [Act.put, Row.pB0, Row.pB1, Row.pB2])
 refine wpAnyH_take (i := 21) (oi := ⟨some 38, .load 3 (.tmp 37), 3, "l14_route.go:114", #[⟨20, .data⟩, ⟨11, .guard⟩], some (11, false)⟩) (v := ?_) rfl (by kernel_rfl) (by kernel_rfl) (by kernel_rfl) (fun _ _ _ h => h) (Or.inl ⟨by rfl, ?_⟩) (by assumption) ?_
 rotate_left
 ·
  intro w' hSw; (try dsimp only at hSw); first | (go_simp; done) | (go_simp; with_reducible rfl)
 (try simp only [Act.put, Row.pB0, Row.pB1, Row.pB2])
 refine wpAnyH_take (i := 22) (oi := ⟨some 39, .binOp BinOp.neq 3 (.tmp 33) (.tmp 38) 3, 4, "l14_route.go:114", #[⟨16, .data⟩, ⟨21, .data⟩, ⟨11, .guard⟩], some (11, false)⟩) (v := ?_) rfl (by kernel_rfl) (by kernel_rfl) (by kernel_rfl) (fun _ _ _ h => h) (Or.inl ⟨by rfl, ?_⟩) (by assumption) ?_
 rotate_left
 ·
  intro w' hSw; (try dsimp only at hSw); first | (go_simp; done) | (go_simp; with_reducible rfl)
 (try simp only [Act.put, Row.pB0, Row.pB1, Row.pB2])
 refine wpAnyH_take (i := 23) (oi := ⟨some 40, .pick (.tmp 28) (.const (Value.bool true)) (.tmp 39), 4, "l14_route.go:114", #[⟨11, .data⟩, ⟨22, .data⟩], none⟩) (v := ?_) rfl (by kernel_rfl) (by kernel_rfl) (by kernel_rfl) (fun _ _ _ h => h) (Or.inl ⟨by rfl, ?_⟩) (by assumption) ?_
 rotate_left
 ·
  intro w' hSw; (try dsimp only at hSw); first | (go_simp; done) | (go_simp; with_reducible rfl)
 (try simp only [Act.put, Row.pB0, Row.pB1, Row.pB2])
 refine wpAnyH_take (i := 24) (oi := ⟨some 41, .move (.tmp 40), 4, "l14_route.go:114", #[⟨23, .data⟩, ⟨11, .chain⟩], none⟩) (v := ?_) rfl (by kernel_rfl) (by kernel_rfl) (by kernel_rfl) (fun _ _ _ h => h) (Or.inl ⟨by rfl, ?_⟩) (by assumption) ?_
 rotate_left
 ·
  intro w' hSw; (try dsimp only at hSw); first | (go_simp; done) | (go_simp; with_reducible rfl)
 (try simp only [Act.put, Row.pB0, Row.pB1, Row.pB2])
 refine wpAnyH_take (i := 25) (oi := ⟨some 42, .move (.tmp 0), 30, "l14_route.go:114", #[⟨24, .guard⟩], some (24, false)⟩) (v := ?_) rfl (by kernel_rfl) (by kernel_rfl) (by kernel_rfl) (fun _ _ _ h => h) (Or.inl ⟨by rfl, ?_⟩) (by assumption) ?_
 rotate_left
 ·
  intro w' hSw; (try dsimp only at hSw); first | (go_simp; done) | (go_simp; with_reducible rfl)
 (try simp only [Act.put, Row.pB0, Row.pB1, Row.pB2])
 refine wpAnyH_take (i := 26) (oi := ⟨some 43, .move (.tmp 5), 3, "l14_route.go:114", #[⟨24, .guard⟩], some (24, false)⟩) (v := ?_) rfl (by kernel_rfl) (by kernel_rfl) (by kernel_rfl) (fun _ _ _ h => h) (Or.inl ⟨by rfl, ?_⟩) (by assumption) ?_
 rotate_left
 ·
  intro w' hSw; (try dsimp only at hSw); first | (go_simp; done) | (go_simp; with_reducible rfl)
 (try simp only [Act.put, Row.pB0, Row.pB1, Row.pB2])
 refine wpAnyH_take (i := 27) (oi := ⟨some 44, .indexAddr 30 (.tmp 42) (.tmp 43), 0, "l14_route.go:114", #[⟨25, .data⟩, ⟨26, .data⟩, ⟨24, .guard⟩], some (24, false)⟩) (v := ?_) rfl (by kernel_rfl) (by kernel_rfl) (by kernel_rfl) (fun _ _ _ h => h) (Or.inl ⟨by rfl, ?_⟩) (by assumption) ?_
 rotate_left
 ·
  intro w' hSw; (try dsimp only at hSw); first | (go_simp; done) | (go_simp; with_reducible rfl)
 (try simp only [Act.put, Row.pB0, Row.pB1, Row.pB2])
 refine wpAnyH_take (i := 28) (oi := ⟨some 45, .fieldAddr 49 (.tmp 44) 0, 0, "l14_route.go:114", #[⟨27, .data⟩, ⟨24, .guard⟩], some (24, false)⟩) (v := ?_) rfl (by kernel_rfl) (by kernel_rfl) (by kernel_rfl) (fun _ _ _ h => h) (Or.inl ⟨by rfl, ?_⟩) (by assumption) ?_
 rotate_left
 ·
  intro w' hSw; (try dsimp only at hSw); first | (go_simp; done) | (go_simp; with_reducible rfl)
 (try simp only [Act.put, Row.pB0, Row.pB1, Row.pB2])
 refine wpAnyH_take (i := 29) (oi := ⟨some 46, .load 32 (.tmp 45), 32, "l14_route.go:114", #[⟨28, .data⟩, ⟨24, .guard⟩], some (24, false)⟩) (v := ?_) rfl (by kernel_rfl) (by kernel_rfl) (by kernel_rfl) (fun _ _ _ h => h) (Or.inl ⟨by rfl, ?_⟩) (by assumption) ?_
 rotate_left
 ·
  intro w' hSw; (try dsimp only at hSw); first | (go_simp; done) | (go_simp; with_reducible rfl)
 (try simp only [Act.put, Row.pB0, Row.pB1, Row.pB2])
 refine wpAnyH_take (i := 30) (oi := ⟨some 47, .move (.tmp 1), 30, "l14_route.go:114", #[⟨24, .guard⟩], some (24, false)⟩) (v := ?_) rfl (by kernel_rfl) (by kernel_rfl) (by kernel_rfl) (fun _ _ _ h => h) (Or.inl ⟨by rfl, ?_⟩) (by assumption) ?_
 rotate_left
 ·
  intro w' hSw; (try dsimp only at hSw); first | (go_simp; done) | (go_simp; with_reducible rfl)
 (try simp only [Act.put, Row.pB0, Row.pB1, Row.pB2])
 refine wpAnyH_take (i := 31) (oi := ⟨some 48, .move (.tmp 5), 3, "l14_route.go:114", #[⟨24, .guard⟩], some (24, false)⟩) (v := ?_) rfl (by kernel_rfl) (by kernel_rfl) (by kernel_rfl) (fun _ _ _ h => h) (Or.inl ⟨by rfl, ?_⟩) (by assumption) ?_
 rotate_left
 ·
  intro w' hSw; (try dsimp only at hSw); first | (go_simp; done) | (go_simp; with_reducible rfl)
 (try simp only [Act.put, Row.pB0, Row.pB1, Row.pB2])
 refine wpAnyH_take (i := 32) (oi := ⟨some 49, .indexAddr 30 (.tmp 47) (.tmp 48), 0, "l14_route.go:114", #[⟨30, .data⟩, ⟨31, .data⟩, ⟨24, .guard⟩], some (24, false)⟩) (v := ?_) rfl (by kernel_rfl) (by kernel_rfl) (by kernel_rfl) (fun _ _ _ h => h) (Or.inl ⟨by rfl, ?_⟩) (by assumption) ?_
 rotate_left
 ·
  intro w' hSw; (try dsimp only at hSw); first | (go_simp; done) | (go_simp; with_reducible rfl)
 (try simp only [Act.put, Row.pB0, Row.pB1, Row.pB2])
 refine wpAnyH_take (i := 33) (oi := ⟨some 50, .fieldAddr 49 (.tmp 49) 0, 0, "l14_route.go:114", #[⟨32, .data⟩, ⟨24, .guard⟩], some (24, false)⟩) (v := ?_) rfl (by kernel_rfl) (by kernel_rfl) (by kernel_rfl) (fun _ _ _ h => h) (Or.inl ⟨by rfl, ?_⟩) (by assumption) ?_
 rotate_left
 ·
  intro w' hSw; (try dsimp only at hSw); first | (go_simp; done) | (go_simp; with_reducible rfl)
 (try simp only [Act.put, Row.pB0, Row.pB1, Row.pB2])
 refine wpAnyH_take (i := 34) (oi := ⟨some 51, .load 32 (.tmp 50), 32, "l14_route.go:114", #[⟨33, .data⟩, ⟨24, .guard⟩], some (24, false)⟩) (v := ?_) rfl (by kernel_rfl) (by kernel_rfl) (by kernel_rfl) (fun _ _ _ h => h) (Or.inl ⟨by rfl, ?_⟩) (by assumption) ?_
 rotate_left
 ·
  intro w' hSw; (try dsimp only at hSw); first | (go_simp; done) | (go_simp; with_reducible rfl)
 (try simp only [Act.put, Row.pB0, Row.pB1, Row.pB2])
 refine wpAnyH_ready (rs := [35]) (by kernel_rfl) (by simp) ?_
 refine AllReadyH.cons (o := ⟨some 52, .call ⟨.value (.func 23), #[.tmp 46, .tmp 51], #[32, 32]⟩, 4, "l14_route.go:114", #[⟨29, .data⟩, ⟨34, .data⟩, ⟨24, .chain⟩, ⟨24, .guard⟩], some (24, false)⟩) rfl (fun K hK => ?_) AllReadyH.nil
 go_simp
 refine (sEqK z HZ.out (H_a.out.on BB.out) (H_m.out.on BB.out) (Nat.le_trans HAB.out (by decide)) (Nat.le_trans HMB.out (by decide))).mono ?_
 rintro e wn1 ⟨rfl, hb⟩
 replace BB := Lib.hid (BB.out.trans (hb.mono BB.out.size))
 clear hb
 (try go_wp2_with fail)
 clear hHeld
 refine hK.out _ _ ?_ (fun hHeld => ?_)
 ·
  (try dsimp only); exact ⟨kc K1.out BB.out, kc K3.out BB.out, kc K2.out BB.out, kc K4.out BB.out, kc K5.out BB.out, kc K6.out BB.out⟩
 clear hK K
 (try simp only [Act.put, Row.pB0, Row.pB1, Row.pB2])
 refine wpAnyH_take (i := 36) (oi := ⟨some 53, .unOp UnOp.not 4 (.tmp 52), 4, "l14_route.go:114", #[⟨35, .data⟩, ⟨24, .guard⟩], some (24, false)⟩) (v := ?_) rfl (by kernel_rfl) (by kernel_rfl) (by kernel_rfl) (fun _ _ _ h => h) (Or.inl ⟨by rfl, ?_⟩) (by assumption) ?_
 rotate_left
 ·
  intro w' hSw; (try dsimp only at hSw); first | (go_simp; done) | (go_simp; with_reducible rfl)
 (try simp only [Act.put, Row.pB0, Row.pB1, Row.pB2])
 refine wpAnyH_take (i := 37) (oi := ⟨some 54, .pick (.tmp 41) (.const (Value.bool true)) (.tmp 53), 4, "l14_route.go:114", #[⟨24, .data⟩, ⟨36, .data⟩], none⟩) (v := ?_) rfl (by kernel_rfl) (by kernel_rfl) (by kernel_rfl) (fun _ _ _ h => h) (Or.inl ⟨by rfl, ?_⟩) (by assumption) ?_
 rotate_left
 ·
  intro w' hSw; (try dsimp only at hSw); first | (go_simp; done) | (go_simp; with_reducible rfl)
 (try simp only [Act.put, Row.pB0, Row.pB1, Row.pB2])
 refine wpAnyH_done (by kernel_rfl) ?_ _
 exact NoPanic.normal (HQ.out _ _ _ _ _ _ _ _ _ _ _ _ _ _ _ _ _ _ _ _ _ _ _ _ _ _ _ _ _ _ _ _ _ _ _ _ _  _  BB.out)
set_option maxHeartbeats 8000000 in
theorem specEqualRoutes (V U : Value) (l m : List Rtt) (w : World) (z : Bool) (hz : eqRts l m = z) (h : kLRt.At w V l) (g : kLRt.At w U m) (hf : FitRt l) (hf' : FitRt m) :
    Calls Try.prog 18 #[V, U] w fun e w' => e = .returned (.bool z) ∧ Below w.heap.size w w' := by
  have hl := hf.len; have hl' := hf'.len; have hp := hf.each; have hp' := hf'.each
  unfold eqRts at hz
  obtain ⟨x, n, c, L, rfl, hn, ht, hh, hel⟩ := kLRt_at h
  obtain ⟨x2, n2, c2, M, rfl, hn2, ht2, hh2, hel2⟩ := kLRt_at g
  have hlen : l.length = n := by rw [← ht, List.length_map]; exact hn.symm
  have hlen2 : m.length = n2 := by rw [← ht2, List.length_map]; exact hn2.symm
  rw [hlen] at hl
  rw [hlen2] at hl'
  have hcap : n ≤ c := by obtain ⟨x', n', cap', hv, hn', hc', -⟩ := hh.shapeN; cases hv; exact hc'
  have hcap2 : n2 ≤ c2 := by obtain ⟨x', n', cap', hv, hn', hc', -⟩ := hh2.shapeN; cases hv; exact hc'
  have HZ := Lib.hid hz
  have HN := Lib.hid hn; have HT := Lib.hid ht; have HH := Lib.hid hh; have HEL := Lib.hid hel; have HLEN := Lib.hid hlen; have HP := Lib.hid hp
  have HN2 := Lib.hid hn2; have HT2 := Lib.hid ht2; have HH2 := Lib.hid hh2; have HEL2 := Lib.hid hel2; have HLEN2 := Lib.hid hlen2; have HP2 := Lib.hid hp'
  clear hz hn ht hh hel hlen hp h hn2 ht2 hh2 hel2 hlen2 hp' g
  by_cases hnn : n = n2
  · have tn : (((n : Nat) : Int) != ((n2 : Nat) : Int)) = false := by rw [hnn]; simp
    have HNN := Lib.hid hnn
    clear hnn
    go_enter Try.func18, Try.ntmps18
    go_wp2
    go_loopw [5] (fun iv wr => ∃ i : Nat, i ≤ n ∧ iv = .int .i64 i ∧ Hid (l.take i = m.take i) ∧ Hid (Below w.heap.size w wr)) (fun iv _ => n - (intOf iv).toNat)
    case atStart => exact ⟨0, Nat.zero_le _, rfl, Lib.hid rfl, Lib.hid (Below.refl _ _)⟩
    case round =>
      obtain ⟨k, hk, rfl, ha, hb⟩ := hrel
      by_cases hlt : k < n
      · have hlt2 : k < n2 := by have := HNN.out; omega
        have hlen := HN.out
        have hlen2 := HN2.out
        obtain ⟨b, off, y0, m0, d0, rfl, -, hc0, hc1, hc2, hA⟩ := kLRt_elem (HH.out.on hb.out) (fun y hy => kRt.holds_on (HEL.out y hy) hb.out) (j := k) (by omega)
        obtain ⟨b2, off2, z0, p0, e0, rfl, -, gc0, gc1, gc2, gA⟩ := kLRt_elem (HH2.out.on hb.out) (fun y hy => kRt.holds_on (HEL2.out y hy) hb.out) (j := k) (by omega)
        have hpt : nth l k = kRt.strip (nth L k) := by rw [← HT.out, nth_map _ (by omega)]
        have hpt2 : nth m k = kRt.strip (nth M k) := by rw [← HT2.out, nth_map _ (by omega)]
        have hps := HP.out (nth l k) (nth_mem (by have := HLEN.out; omega))
        have hps2 := HP2.out (nth m k) (nth_mem (by have := HLEN2.out; omega))
        rw [← hpt] at hA hc1 hc2
        rw [← hpt2] at gA gc1 gc2
        obtain ⟨nm, rf, rc, hx⟩ : ∃ nm rf rc, nth l k = (nm, rf, rc) := ⟨_, _, _, rfl⟩
        obtain ⟨nm2, rf2, rc2, hx2⟩ : ∃ nm rf rc, nth m k = (nm, rf, rc) := ⟨_, _, _, rfl⟩
        rw [hx] at hA hc1 hc2 hps
        rw [hx2] at gA gc1 gc2 hps2
        simp only at hc1 hc2 gc1 gc2
        have HXE := Lib.hid hx; have HXE2 := Lib.hid hx2
        have hNM := kRt_parts hA
        have gNM := kRt_parts gA
        have HNM := Lib.hid hNM; have GNM := Lib.hid gNM; have HAA := Lib.hid hA; have GAA := Lib.hid gA; have HPN := Lib.hid hps; have GPN := Lib.hid hps2
        have H0 := Lib.hid hc0; have H1 := Lib.hid hc1; have H2 := Lib.hid hc2; have G0 := Lib.hid gc0; have G1 := Lib.hid gc1; have G2 := Lib.hid gc2
        clear hlen hlen2 hpt hpt2 hps hps2 hA gA hx hx2 hNM gNM
        have hc9 : k ≤ c := by omega
        have hc92 : k ≤ c2 := by omega
        go_wp2_with fail
        by_cases hfc : rf = rf2
        · by_cases hcc : rc = rc2
          · obtain ⟨q, hq⟩ : ∃ q, decide (nm = nm2) = q := ⟨_, rfl⟩
            have HQ := Lib.hid hq
            have HQQ := Lib.hid (show decide (((nm, rf, rc) : Rtt) = (nm2, rf2, rc2)) = q by rw [← hq]; simp [Prod.ext_iff, hfc, hcc])
            have tf : (rf != rf2) = false := by simp [hfc]
            have tc : (rc != rc2) = false := by simp [hcc]
            clear hq hfc hcc
            refine req2 hlt hc9 (by omega) hlt2 hc92 (by omega) tf tc HQ HNM GNM HPN GPN H1 G1 H2 G2 H0 G0 ?_
            intro u17 u18 u19 u20 u21 u22 u23 u24 u25 u26 u27 u28 u29 u30 u31 u32 u33 u34 u35 u36 u37 u38 u39 u40 u41 u42 u43 u44 u45 u46 u47 u48 u49 u50 u51 u52 u53 wx hbx
            cases q with
            | true =>
              have HB3 := Lib.hid (hb.out.trans (hbx.mono hb.out.size))
              have HA5 := Lib.hid (eqR_step ha.out (by have := HLEN.out; omega) (by have := HLEN2.out; omega) (by rw [HXE.out, HXE2.out]; exact of_decide_eq_true HQQ.out))
              clear hbx hc0 hc1 hc2 gc0 gc1 gc2 tf tc
              go_wp2
              go_roundw
              case rel => exact ⟨k + 1, by omega, by go_num, HA5, HB3⟩
              case measure => simp [intOf]; omega
            | false =>
              have HB3 := Lib.hid (hb.out.trans (hbx.mono hb.out.size))
              have HE : Hid (z = false) := Lib.hid (by rw [← HZ.out]; exact decide_eq_false (neR_step (k := k) (by rw [HXE.out, HXE2.out]; exact of_decide_eq_false HQQ.out)))
              clear hbx hc0 hc1 hc2 gc0 gc1 gc2
              go_wp2
              go_ret
              exact ⟨ret_bool HE.out.symm, HB3.out⟩
          · have tf : (rf != rf2) = false := by simp [hfc]
            have tc : (rc != rc2) = true := by simp [hcc]
            refine req1 hlt hc9 (by omega) hlt2 hc92 (by omega) tf tc H1 G1 H2 G2 ?_
            intro u17 u18 u19 u20 u21 u22 u23 u24 u25 u26 u27 u28 u29 u30 u31 u32 u33 u34 u35 u36 u37 u38 u39 u40 u41 u42 u43 u44 u45 u46 u47 u48 u49 u50 u51 u52 u53 wx hbx
            clear tf tc
            have HB3 := Lib.hid (hb.out.trans (hbx.mono hb.out.size))
            have HE : Hid (z = false) := Lib.hid (by rw [← HZ.out]; exact decide_eq_false (neR_step (k := k) (by rw [HXE.out, HXE2.out]; exact fun e => hcc (by simp [Prod.ext_iff] at e; exact e.2.2))))
            clear hbx hc0 hc1 hc2 gc0 gc1 gc2
            go_wp2
            go_ret
            exact ⟨ret_bool HE.out.symm, HB3.out⟩
        · have tf : (rf != rf2) = true := by simp [hfc]
          refine req0 hlt hc9 (by omega) hlt2 hc92 (by omega) tf H1 G1 ?_
          intro u17 u18 u19 u20 u21 u22 u23 u24 u25 u26 u27 u28 u29 u30 u31 u32 u33 u34 u35 u36 u37 u38 u39 u40 u41 u42 u43 u44 u45 u46 u47 u48 u49 u50 u51 u52 u53 wx hbx
          clear tf
          have HB3 := Lib.hid (hb.out.trans (hbx.mono hb.out.size))
          have HE : Hid (z = false) := Lib.hid (by rw [← HZ.out]; exact decide_eq_false (neR_step (k := k) (by rw [HXE.out, HXE2.out]; exact fun e => hfc (by simp [Prod.ext_iff] at e; exact e.2.1))))
          clear hbx hc0 hc1 hc2 gc0 gc1 gc2
          go_wp2
          go_ret
          exact ⟨ret_bool HE.out.symm, HB3.out⟩
      · obtain rfl : k = n := by omega
        have HE : Hid (z = true) := Lib.hid (by
          rw [← HZ.out]
          have h1 := ha.out
          rw [List.take_of_length_le (by rw [HLEN.out]; exact Nat.le_refl _), List.take_of_length_le (by rw [HLEN2.out, HNN.out]; exact Nat.le_refl _)] at h1
          exact decide_eq_true h1)
        clear hlt
        go_wp2
        go_ret
        exact ⟨ret_bool HE.out.symm, hb.out⟩
  · have tn : (((n : Nat) : Int) != ((n2 : Nat) : Int)) = true := by rw [bne_iff_ne]; omega
    have HE : Hid (z = false) := Lib.hid (by rw [← HZ.out]; exact decide_eq_false (fun e => hnn (by rw [← HLEN.out, ← HLEN2.out, e])))
    go_enter Try.func18, Try.ntmps18
    go_wp2
    go_ret
    exact ⟨ret_bool HE.out.symm, Below.refl _ _⟩
end Go.Proofs.Ytdaahcaafdleaab.Row
