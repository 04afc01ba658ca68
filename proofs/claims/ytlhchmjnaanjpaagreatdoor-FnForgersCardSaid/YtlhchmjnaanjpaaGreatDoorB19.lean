/- Contracts and mathematics, joined: TrustF0. No conditions but those that each states. -/
import Derived.WalkKit
import Derived.Deep.RegionHeld3
import Derived.Test.YtlhchmjnaanjpaaGreatDoorB18
/- The model's FindCertificate. No conditions but that lengths fit. -/
namespace Go.Proofs.YtlhchmjnaanjpaaGreatDoor.Row
open Go.ChangeShapes Go.WideShapes Go.ChangeAt Go.RowKit Go.Instr
set_option linter.unusedVariables false
set_option maxRecDepth 100000
theorem sFrV {V : Value} {x : Dt} {n : Int} {w : World} (q : Bool) (hq : decide (n ≤ x.2.2.2.1) = q) (h : kD.At w V x) :
    Calls Tryz.prog 57 #[V, .int .i64 n] w fun e w' => e = .returned (.bool q) ∧ Below w.heap.size w w' := hq ▸ specFreshAtK V x n w h
theorem sVsV {V U : Value} {T : Ring.Kt} {x : Dt} {w : World} (q : Bool) (hq : verD (Ring.lkN T x.2.2.1) x = q) (h : Ring.kK.At w V T) (g : kD.At w U x) (gn : WfD x) (hl : Ring.bulkT T ≤ 1200000) (hx : bulkD x ≤ 1200000) :
    Calls Tryz.prog 37 #[V, U] w fun e w' => e = .returned (.bool q) ∧ Below w.heap.size w w' := hq ▸ Ring.specVerifySignatureK V U T x w h g gn hl hx
theorem sEbV {V U : Value} {l m : List Int} {w : World} (q : Bool) (hq : decide (l = m) = q) (h : Sl.Holds .u8 w V l) (g : Sl.Holds .u8 w U m) (hl : Sl.Byt l) (hm : Sl.Byt m) :
    Calls Tryz.prog 58 #[V, U] w fun e w' => e = .returned (.bool q) ∧ w = w' := hq ▸ Sl.specEqualBytes V U l m w h g hl hm
theorem digK_byt (T : Ring.Kt) (m : List ByteArray) : Sl.Byt (digK T m) := by
  unfold digK
  split
  · exact fun x hx => (by cases hx)
  · intro x hx
    unfold Var.var at hx
    split at hx
    · exact Var.enc_byte _ x hx
    · cases hx
set_option maxRecDepth 100000 in
set_option maxHeartbeats 4000000 in
theorem rfc1 {Q : Exit → Act → World → Prop} {v0 v1 v5 v6 v7 v9 v10 v11 v12 v13 v14 v15 v16 v17 v18 v19 v20 v21 v22 v23 v24 v25 v26 v27 v28 v29 v30 v31 v32 v33 v34 v35 v36 v37 v38 v39 v40 v41 v42 v43 v44 v45 v46 v47 v48 v49 v50 : Value} {w : World} {b r g ma da mb db mc dc_ nn cn n0 c0 : Nat} {ya yb yc xn x0 : Option Addr} {f s now : Int} {x : Dt} {T : Ring.Kt} {m : List ByteArray} (H_x : Hid (kD.At w (.agg #[.slice ya ma da, .slice yb mb db, .slice yc mc dc_, .int .i64 f, .int .i64 s]) x)) (H_m : Hid (kN.At w (.agg #[.slice xn nn cn]) m)) (H_n : Hid (kN.At w (.agg #[.slice ya ma da]) x.1)) (H_b : Hid (Sl.Holds .u8 w (.slice yb mb db) x.2.1)) (H_t : Hid (Ring.kK.At w (.slice x0 n0 c0) T)) (HF : Hid (FitD x)) (HM : Hid (bulk m ≤ 1200000)) (HT : Hid (Ring.bulkT T ≤ 1200000)) (H1 : Hid (decide (x.1 = m) = false)) (K0 : Hid (w.cell? ⟨b, 0, none⟩ = some (.slice ya ma da))) (K1 : Hid (w.cell? ⟨b, 1, none⟩ = some (.slice yb mb db))) (K2 : Hid (w.cell? ⟨b, 2, none⟩ = some (.slice yc mc dc_))) (K3 : Hid (w.cell? ⟨b, 3, none⟩ = some (.int .i64 f))) (K4 : Hid (w.cell? ⟨b, 4, none⟩ = some (.int .i64 s))) (K5 : Hid (w.cell? ⟨g, 0, none⟩ = some (.slice xn nn cn))) (K6 : Hid (w.cell? ⟨r, 0, none⟩ = some (.slice x0 n0 c0)))
  (hQ : ∀ (u26 u27 u28 u29 u30 u31 u32 u33 u34 u35 u36 u37 u38 u39 u40 u41 u42 u43 u44 u45 u46 u47 u48 : Value)  (wx : World), Below w.heap.size w wx → Q .normal ⟨#[v0, v1, .int .i64 now, .pointer (some ⟨r, 0, none⟩), .pointer (some ⟨g, 0, none⟩), v5, v6, v7, .pointer (some ⟨b, 0, none⟩), v9, v10, v11, v12, v13, v14, v15, v16, v17, v18, v19, v20, v21, v22, v23, v24, v25, u26, u27, u28, u29, u30, u31, u32, u33, u34, u35, u36, u37, u38, u39, u40, u41, u42, u43, u44, u45, u46, u47, u48, .bool false, v50], []⟩ wx) :
  (Code.region 7 #[⟨some 26, .fieldAddr 34 (.tmp 8) 0, 0, "l11_trust.go:59", #[], none⟩,
   ⟨some 27, .load 32 (.tmp 26), 32, "l11_trust.go:59", #[⟨0, .data⟩], none⟩,
   ⟨some 28, .load 32 (.tmp 4), 32, "l11_trust.go:59", #[], none⟩,
   ⟨some 29, .call ⟨.value (.func 56), #[.tmp 27, .tmp 28], #[32, 32]⟩, 4, "l11_trust.go:59", #[⟨1, .data⟩, ⟨2, .data⟩], none⟩,
   ⟨some 30, .move (.tmp 29), 4, "l11_trust.go:59", #[⟨3, .data⟩, ⟨3, .chain⟩], none⟩,
   ⟨some 31, .load 34 (.tmp 8), 34, "l11_trust.go:59", #[⟨4, .guard⟩], some (4, true)⟩,
   ⟨some 32, .move (.tmp 2), 3, "l11_trust.go:59", #[⟨4, .guard⟩], some (4, true)⟩,
   ⟨some 33, .call ⟨.value (.func 57), #[.tmp 31, .tmp 32], #[34, 3]⟩, 4, "l11_trust.go:59", #[⟨5, .data⟩, ⟨6, .data⟩, ⟨4, .chain⟩, ⟨4, .guard⟩], some (4, true)⟩,
   ⟨some 34, .pick (.tmp 30) (.tmp 33) (.const (Value.bool false)), 4, "l11_trust.go:59", #[⟨4, .data⟩, ⟨7, .data⟩], none⟩,
   ⟨some 35, .move (.tmp 34), 4, "l11_trust.go:59", #[⟨8, .data⟩, ⟨7, .chain⟩], none⟩,
   ⟨some 36, .fieldAddr 29 (.tmp 3) 0, 0, "l11_trust.go:59", #[⟨9, .guard⟩], some (9, true)⟩,
   ⟨some 37, .load 24 (.tmp 36), 24, "l11_trust.go:59", #[⟨10, .data⟩, ⟨9, .guard⟩], some (9, true)⟩,
   ⟨some 38, .load 34 (.tmp 8), 34, "l11_trust.go:59", #[⟨9, .guard⟩], some (9, true)⟩,
   ⟨some 39, .call ⟨.value (.func 37), #[.tmp 37, .tmp 38], #[24, 34]⟩, 4, "l11_trust.go:59", #[⟨11, .data⟩, ⟨12, .data⟩, ⟨9, .chain⟩, ⟨9, .guard⟩], some (9, true)⟩,
   ⟨some 40, .pick (.tmp 35) (.tmp 39) (.const (Value.bool false)), 4, "l11_trust.go:59", #[⟨9, .data⟩, ⟨13, .data⟩], none⟩,
   ⟨some 41, .move (.tmp 40), 4, "l11_trust.go:59", #[⟨14, .data⟩, ⟨13, .chain⟩], none⟩,
   ⟨some 42, .fieldAddr 34 (.tmp 8) 1, 0, "l11_trust.go:59", #[⟨15, .guard⟩], some (15, true)⟩,
   ⟨some 43, .load 22 (.tmp 42), 22, "l11_trust.go:59", #[⟨16, .data⟩, ⟨15, .guard⟩], some (15, true)⟩,
   ⟨some 44, .fieldAddr 29 (.tmp 3) 0, 0, "l11_trust.go:59", #[⟨15, .guard⟩], some (15, true)⟩,
   ⟨some 45, .load 24 (.tmp 44), 24, "l11_trust.go:59", #[⟨18, .data⟩, ⟨15, .guard⟩], some (15, true)⟩,
   ⟨some 46, .load 32 (.tmp 4), 32, "l11_trust.go:59", #[⟨15, .guard⟩], some (15, true)⟩,
   ⟨some 47, .call ⟨.value (.func 27), #[.tmp 45, .tmp 46], #[24, 32]⟩, 22, "l11_trust.go:59", #[⟨19, .data⟩, ⟨20, .data⟩, ⟨15, .chain⟩, ⟨15, .guard⟩], some (15, true)⟩,
   ⟨some 48, .call ⟨.value (.func 58), #[.tmp 43, .tmp 47], #[22, 22]⟩, 4, "l11_trust.go:59", #[⟨17, .data⟩, ⟨21, .data⟩, ⟨21, .chain⟩, ⟨15, .guard⟩], some (15, true)⟩,
   ⟨some 49, .pick (.tmp 41) (.tmp 48) (.const (Value.bool false)), 4, "l11_trust.go:59", #[⟨15, .data⟩, ⟨22, .data⟩], none⟩] true).wp Tryz.prog Q ⟨#[v0, v1, .int .i64 now, .pointer (some ⟨r, 0, none⟩), .pointer (some ⟨g, 0, none⟩), v5, v6, v7, .pointer (some ⟨b, 0, none⟩), v9, v10, v11, v12, v13, v14, v15, v16, v17, v18, v19, v20, v21, v22, v23, v24, v25, v26, v27, v28, v29, v30, v31, v32, v33, v34, v35, v36, v37, v38, v39, v40, v41, v42, v43, v44, v45, v46, v47, v48, v49, v50], []⟩ w := by
 have HQ := Lib.hid hQ; clear hQ
 have hdr : Below w.heap.size w w.drew := (Below.refl _ _).drew
 have BB := Lib.hid hdr
 refine wp_region_noPanic ?_
 refine wp_region_held_drew (S := (fun w' => w'.cell? ⟨b, 0, none⟩ = some (.slice ya ma da) ∧ w'.cell? ⟨b, 1, none⟩ = some (.slice yb mb db) ∧ w'.cell? ⟨b, 2, none⟩ = some (.slice yc mc dc_) ∧ w'.cell? ⟨b, 3, none⟩ = some (.int .i64 f) ∧ w'.cell? ⟨b, 4, none⟩ = some (.int .i64 s) ∧ w'.cell? ⟨g, 0, none⟩ = some (.slice xn nn cn) ∧ w'.cell? ⟨r, 0, none⟩ = some (.slice x0 n0 c0))) (by kernel_rfl) ?_ (fun hHeld => ?_)
 ·
  exact ⟨kc K0.out BB.out, kc K1.out BB.out, kc K2.out BB.out, kc K3.out BB.out, kc K4.out BB.out, kc K5.out BB.out, kc K6.out BB.out⟩
 clear hdr
 generalize w.drew = wd at *
 refine wpAnyH_take (i := 0) (oi := ⟨some 26, .fieldAddr 34 (.tmp 8) 0, 0, "l11_trust.go:59", #[], none⟩) (v := ?_) rfl (by kernel_rfl) (by kernel_rfl) (by kernel_rfl) (fun _ _ _ h => h) (Or.inl ⟨by rfl, ?_⟩) (by assumption) ?_
 rotate_left
 ·
  intro w' hSw; (try dsimp only at hSw); first | (go_simp; done) | (go_simp; with_reducible rfl)
 (try simp only [Act.put, Row.pB0, Row.pB1, Row.pB2])
 refine wpAnyH_take (i := 1) (oi := ⟨some 27, .load 32 (.tmp 26), 32, "l11_trust.go:59", #[⟨0, .data⟩], none⟩) (v := ?_) rfl (by kernel_rfl) (by kernel_rfl) (by kernel_rfl) (fun _ _ _ h => h) (Or.inl ⟨by rfl, ?_⟩) (by assumption) ?_
 rotate_left
 ·
  intro w' hSw; (try dsimp only at hSw); first | (go_simp; done) | (go_simp; with_reducible rfl)
 (try simp only [Act.put, Row.pB0, Row.pB1, Row.pB2])
 refine wpAnyH_take (i := 2) (oi := ⟨some 28, .load 32 (.tmp 4), 32, "l11_trust.go:59", #[], none⟩) (v := ?_) rfl (by kernel_rfl) (by kernel_rfl) (by kernel_rfl) (fun _ _ _ h => h) (Or.inl ⟨by rfl, ?_⟩) (by assumption) ?_
 rotate_left
 ·
  intro w' hSw; (try dsimp only at hSw); first | (go_simp; done) | (go_simp; with_reducible rfl)
 (try simp only [Act.put, Row.pB0, Row.pB1, Row.pB2])
 refine wpAnyH_ready (rs := [3]) (by kernel_rfl) (by simp) ?_
 refine AllReadyH.cons (o := ⟨some 29, .call ⟨.value (.func 56), #[.tmp 27, .tmp 28], #[32, 32]⟩, 4, "l11_trust.go:59", #[⟨1, .data⟩, ⟨2, .data⟩], none⟩) rfl (fun K hK => ?_) AllReadyH.nil
 go_simp
 refine (eqNV10 false H1.out (H_n.out.on BB.out) (H_m.out.on BB.out) (Nat.le_trans HF.out.name (by decide)) (Nat.le_trans HM.out (by decide))).mono ?_
 rintro e wn1 ⟨rfl, hb⟩
 replace BB := Lib.hid (BB.out.trans (hb.mono BB.out.size))
 clear hb
 (try go_wp2_with fail)
 clear hHeld
 refine hK.out _ _ ?_ (fun hHeld => ?_)
 ·
  (try dsimp only); exact ⟨kc K0.out BB.out, kc K1.out BB.out, kc K2.out BB.out, kc K3.out BB.out, kc K4.out BB.out, kc K5.out BB.out, kc K6.out BB.out⟩
 clear hK K
 (try simp only [Act.put, Row.pB0, Row.pB1, Row.pB2])
 refine wpAnyH_take (i := 4) (oi := ⟨some 30, .move (.tmp 29), 4, "l11_trust.go:59", #[⟨3, .data⟩, ⟨3, .chain⟩], none⟩) (v := ?_) rfl (by kernel_rfl) (by kernel_rfl) (by kernel_rfl) (fun _ _ _ h => h) (Or.inl ⟨by rfl, ?_⟩) (by assumption) ?_
 rotate_left
 ·
  intro w' hSw; (try dsimp only at hSw); first | (go_simp; done) | (go_simp; with_reducible rfl)
 (try simp only [Act.put, Row.pB0, Row.pB1, Row.pB2])
 refine wpAnyH_take (i := 5) (oi := ⟨some 31, .load 34 (.tmp 8), 34, "l11_trust.go:59", #[⟨4, .guard⟩], some (4, true)⟩) (v := undef) rfl (by kernel_rfl) (by kernel_rfl) (by kernel_rfl) (fun _ _ _ h => h) (Or.inr ⟨by rfl, rfl⟩) (by assumption) ?_
 (try simp only [Act.put, Row.pB0, Row.pB1, Row.pB2])
 refine wpAnyH_take (i := 6) (oi := ⟨some 32, .move (.tmp 2), 3, "l11_trust.go:59", #[⟨4, .guard⟩], some (4, true)⟩) (v := undef) rfl (by kernel_rfl) (by kernel_rfl) (by kernel_rfl) (fun _ _ _ h => h) (Or.inr ⟨by rfl, rfl⟩) (by assumption) ?_
 (try simp only [Act.put, Row.pB0, Row.pB1, Row.pB2])
 refine wpAnyH_take (i := 7) (oi := ⟨some 33, .call ⟨.value (.func 57), #[.tmp 31, .tmp 32], #[34, 3]⟩, 4, "l11_trust.go:59", #[⟨5, .data⟩, ⟨6, .data⟩, ⟨4, .chain⟩, ⟨4, .guard⟩], some (4, true)⟩) (v := undef) rfl (by kernel_rfl) (by kernel_rfl) (by kernel_rfl) (fun _ _ _ h => h) (Or.inr ⟨by rfl, rfl⟩) (by assumption) ?_
 (try simp only [Act.put, Row.pB0, Row.pB1, Row.pB2])
 refine wpAnyH_take (i := 8) (oi := ⟨some 34, .pick (.tmp 30) (.tmp 33) (.const (Value.bool false)), 4, "l11_trust.go:59", #[⟨4, .data⟩, ⟨7, .data⟩], none⟩) (v := ?_) rfl (by kernel_rfl) (by kernel_rfl) (by kernel_rfl) (fun _ _ _ h => h) (Or.inl ⟨by rfl, ?_⟩) (by assumption) ?_
 rotate_left
 ·
  intro w' hSw; (try dsimp only at hSw); first | (go_simp; done) | (go_simp; with_reducible rfl)
 (try simp only [Act.put, Row.pB0, Row.pB1, Row.pB2])
 refine wpAnyH_take (i := 9) (oi := ⟨some 35, .move (.tmp 34), 4, "l11_trust.go:59", #[⟨8, .data⟩, ⟨7, .chain⟩], none⟩) (v := ?_) rfl (by kernel_rfl) (by kernel_rfl) (by kernel_rfl) (fun _ _ _ h => h) (Or.inl ⟨by rfl, ?_⟩) (by assumption) ?_
 rotate_left
 ·
  intro w' hSw; (try dsimp only at hSw); first | (go_simp; done) | (go_simp; with_reducible rfl)
 (try simp only [Act.put, Row.pB0, Row.pB1, Row.pB2])
 refine wpAnyH_take (i := 10) (oi := ⟨some 36, .fieldAddr 29 (.tmp 3) 0, 0, "l11_trust.go:59", #[⟨9, .guard⟩], some (9, true)⟩) (v := undef) rfl (by kernel_rfl) (by kernel_rfl) (by kernel_rfl) (fun _ _ _ h => h) (Or.inr ⟨by rfl, rfl⟩) (by assumption) ?_
 (try simp only [Act.put, Row.pB0, Row.pB1, Row.pB2])
 refine wpAnyH_take (i := 11) (oi := ⟨some 37, .load 24 (.tmp 36), 24, "l11_trust.go:59", #[⟨10, .data⟩, ⟨9, .guard⟩], some (9, true)⟩) (v := undef) rfl (by kernel_rfl) (by kernel_rfl) (by kernel_rfl) (fun _ _ _ h => h) (Or.inr ⟨by rfl, rfl⟩) (by assumption) ?_
 (try simp only [Act.put, Row.pB0, Row.pB1, Row.pB2])
 refine wpAnyH_take (i := 12) (oi := ⟨some 38, .load 34 (.tmp 8), 34, "l11_trust.go:59", #[⟨9, .guard⟩], some (9, true)⟩) (v := undef) rfl (by kernel_rfl) (by kernel_rfl) (by kernel_rfl) (fun _ _ _ h => h) (Or.inr ⟨by rfl, rfl⟩) (by assumption) ?_
 (try simp only [Act.put, Row.pB0, Row.pB1, Row.pB2])
 refine wpAnyH_take (i := 13) (oi := ⟨some 39, .call ⟨.value (.func 37), #[.tmp 37, .tmp 38], #[24, 34]⟩, 4, "l11_trust.go:59", #[⟨11, .data⟩, ⟨12, .data⟩, ⟨9, .chain⟩, ⟨9, .guard⟩], some (9, true)⟩) (v := undef) rfl (by kernel_rfl) (by kernel_rfl) (by kernel_rfl) (fun _ _ _ h => h) (Or.inr ⟨by rfl, rfl⟩) (by assumption) ?_
 (try simp only [Act.put, Row.pB0, Row.pB1, Row.pB2])
 refine wpAnyH_take (i := 14) (oi := ⟨some 40, .pick (.tmp 35) (.tmp 39) (.const (Value.bool false)), 4, "l11_trust.go:59", #[⟨9, .data⟩, ⟨13, .data⟩], none⟩) (v := ?_) rfl (by kernel_rfl) (by kernel_rfl) (by kernel_rfl) (fun _ _ _ h => h) (Or.inl ⟨by rfl, ?_⟩) (by assumption) ?_
 rotate_left
 ·
  intro w' hSw; (try dsimp only at hSw); first | (go_simp; done) | (go_simp; with_reducible rfl)
 (try simp only [Act.put, Row.pB0, Row.pB1, Row.pB2])
 refine wpAnyH_take (i := 15) (oi := ⟨some 41, .move (.tmp 40), 4, "l11_trust.go:59", #[⟨14, .data⟩, ⟨13, .chain⟩], none⟩) (v := ?_) rfl (by kernel_rfl) (by kernel_rfl) (by kernel_rfl) (fun _ _ _ h => h) (Or.inl ⟨by rfl, ?_⟩) (by assumption) ?_
 rotate_left
 ·
  intro w' hSw; (try dsimp only at hSw); first | (go_simp; done) | (go_simp; with_reducible rfl)
 (try simp only [Act.put, Row.pB0, Row.pB1, Row.pB2])
 refine wpAnyH_take (i := 16) (oi := ⟨some 42, .fieldAddr 34 (.tmp 8) 1, 0, "l11_trust.go:59", #[⟨15, .guard⟩], some (15, true)⟩) (v := undef) rfl (by kernel_rfl) (by kernel_rfl) (by kernel_rfl) (fun _ _ _ h => h) (Or.inr ⟨by rfl, rfl⟩) (by assumption) ?_
 (try simp only [Act.put, Row.pB0, Row.pB1, Row.pB2])
 refine wpAnyH_take (i := 17) (oi := ⟨some 43, .load 22 (.tmp 42), 22, "l11_trust.go:59", #[⟨16, .data⟩, ⟨15, .guard⟩], some (15, true)⟩) (v := undef) rfl (by kernel_rfl) (by kernel_rfl) (by kernel_rfl) (fun _ _ _ h => h) (Or.inr ⟨by rfl, rfl⟩) (by assumption) ?_
 (try simp only [Act.put, Row.pB0, Row.pB1, Row.pB2])
 refine wpAnyH_take (i := 18) (oi := ⟨some 44, .fieldAddr 29 (.tmp 3) 0, 0, "l11_trust.go:59", #[⟨15, .guard⟩], some (15, true)⟩) (v := undef) rfl (by kernel_rfl) (by kernel_rfl) (by kernel_rfl) (fun _ _ _ h => h) (Or.inr ⟨by rfl, rfl⟩) (by assumption) ?_
 (try simp only [Act.put, Row.pB0, Row.pB1, Row.pB2])
 refine wpAnyH_take (i := 19) (oi := ⟨some 45, .load 24 (.tmp 44), 24, "l11_trust.go:59", #[⟨18, .data⟩, ⟨15, .guard⟩], some (15, true)⟩) (v := undef) rfl (by kernel_rfl) (by kernel_rfl) (by kernel_rfl) (fun _ _ _ h => h) (Or.inr ⟨by rfl, rfl⟩) (by assumption) ?_
 (try simp only [Act.put, Row.pB0, Row.pB1, Row.pB2])
 refine wpAnyH_take (i := 20) (oi := ⟨some 46, .load 32 (.tmp 4), 32, "l11_trust.go:59", #[⟨15, .guard⟩], some (15, true)⟩) (v := undef) rfl (by kernel_rfl) (by kernel_rfl) (by kernel_rfl) (fun _ _ _ h => h) (Or.inr ⟨by rfl, rfl⟩) (by assumption) ?_
 (try simp only [Act.put, Row.pB0, Row.pB1, Row.pB2])
 refine wpAnyH_take (i := 21) (oi := ⟨some 47, .call ⟨.value (.func 27), #[.tmp 45, .tmp 46], #[24, 32]⟩, 22, "l11_trust.go:59", #[⟨19, .data⟩, ⟨20, .data⟩, ⟨15, .chain⟩, ⟨15, .guard⟩], some (15, true)⟩) (v := undef) rfl (by kernel_rfl) (by kernel_rfl) (by kernel_rfl) (fun _ _ _ h => h) (Or.inr ⟨by rfl, rfl⟩) (by assumption) ?_
 (try simp only [Act.put, Row.pB0, Row.pB1, Row.pB2])
 refine wpAnyH_take (i := 22) (oi := ⟨some 48, .call ⟨.value (.func 58), #[.tmp 43, .tmp 47], #[22, 22]⟩, 4, "l11_trust.go:59", #[⟨17, .data⟩, ⟨21, .data⟩, ⟨21, .chain⟩, ⟨15, .guard⟩], some (15, true)⟩) (v := undef) rfl (by kernel_rfl) (by kernel_rfl) (by kernel_rfl) (fun _ _ _ h => h) (Or.inr ⟨by rfl, rfl⟩) (by assumption) ?_
 (try simp only [Act.put, Row.pB0, Row.pB1, Row.pB2])
 refine wpAnyH_take (i := 23) (oi := ⟨some 49, .pick (.tmp 41) (.tmp 48) (.const (Value.bool false)), 4, "l11_trust.go:59", #[⟨15, .data⟩, ⟨22, .data⟩], none⟩) (v := ?_) rfl (by kernel_rfl) (by kernel_rfl) (by kernel_rfl) (fun _ _ _ h => h) (Or.inl ⟨by rfl, ?_⟩) (by assumption) ?_
 rotate_left
 ·
  intro w' hSw; (try dsimp only at hSw); first | (go_simp; done) | (go_simp; with_reducible rfl)
 (try simp only [Act.put, Row.pB0, Row.pB1, Row.pB2])
 refine wpAnyH_done (by kernel_rfl) ?_ _
 exact NoPanic.normal (HQ.out _ _ _ _ _ _ _ _ _ _ _ _ _ _ _ _ _ _ _ _ _ _ _  _  BB.out)
set_option maxRecDepth 100000 in
set_option maxHeartbeats 4000000 in
theorem rfc2 {Q : Exit → Act → World → Prop} {v0 v1 v5 v6 v7 v9 v10 v11 v12 v13 v14 v15 v16 v17 v18 v19 v20 v21 v22 v23 v24 v25 v26 v27 v28 v29 v30 v31 v32 v33 v34 v35 v36 v37 v38 v39 v40 v41 v42 v43 v44 v45 v46 v47 v48 v49 v50 : Value} {w : World} {b r g ma da mb db mc dc_ nn cn n0 c0 : Nat} {ya yb yc xn x0 : Option Addr} {f s now : Int} {x : Dt} {T : Ring.Kt} {m : List ByteArray} (H_x : Hid (kD.At w (.agg #[.slice ya ma da, .slice yb mb db, .slice yc mc dc_, .int .i64 f, .int .i64 s]) x)) (H_m : Hid (kN.At w (.agg #[.slice xn nn cn]) m)) (H_n : Hid (kN.At w (.agg #[.slice ya ma da]) x.1)) (H_b : Hid (Sl.Holds .u8 w (.slice yb mb db) x.2.1)) (H_t : Hid (Ring.kK.At w (.slice x0 n0 c0) T)) (HF : Hid (FitD x)) (HM : Hid (bulk m ≤ 1200000)) (HT : Hid (Ring.bulkT T ≤ 1200000)) (H1 : Hid (decide (x.1 = m) = true)) (H2 : Hid (decide (now ≤ x.2.2.2.1) = false)) (K0 : Hid (w.cell? ⟨b, 0, none⟩ = some (.slice ya ma da))) (K1 : Hid (w.cell? ⟨b, 1, none⟩ = some (.slice yb mb db))) (K2 : Hid (w.cell? ⟨b, 2, none⟩ = some (.slice yc mc dc_))) (K3 : Hid (w.cell? ⟨b, 3, none⟩ = some (.int .i64 f))) (K4 : Hid (w.cell? ⟨b, 4, none⟩ = some (.int .i64 s))) (K5 : Hid (w.cell? ⟨g, 0, none⟩ = some (.slice xn nn cn))) (K6 : Hid (w.cell? ⟨r, 0, none⟩ = some (.slice x0 n0 c0)))
  (hQ : ∀ (u26 u27 u28 u29 u30 u31 u32 u33 u34 u35 u36 u37 u38 u39 u40 u41 u42 u43 u44 u45 u46 u47 u48 : Value)  (wx : World), Below w.heap.size w wx → Q .normal ⟨#[v0, v1, .int .i64 now, .pointer (some ⟨r, 0, none⟩), .pointer (some ⟨g, 0, none⟩), v5, v6, v7, .pointer (some ⟨b, 0, none⟩), v9, v10, v11, v12, v13, v14, v15, v16, v17, v18, v19, v20, v21, v22, v23, v24, v25, u26, u27, u28, u29, u30, u31, u32, u33, u34, u35, u36, u37, u38, u39, u40, u41, u42, u43, u44, u45, u46, u47, u48, .bool false, v50], []⟩ wx) :
  (Code.region 7 #[⟨some 26, .fieldAddr 34 (.tmp 8) 0, 0, "l11_trust.go:59", #[], none⟩,
   ⟨some 27, .load 32 (.tmp 26), 32, "l11_trust.go:59", #[⟨0, .data⟩], none⟩,
   ⟨some 28, .load 32 (.tmp 4), 32, "l11_trust.go:59", #[], none⟩,
   ⟨some 29, .call ⟨.value (.func 56), #[.tmp 27, .tmp 28], #[32, 32]⟩, 4, "l11_trust.go:59", #[⟨1, .data⟩, ⟨2, .data⟩], none⟩,
   ⟨some 30, .move (.tmp 29), 4, "l11_trust.go:59", #[⟨3, .data⟩, ⟨3, .chain⟩], none⟩,
   ⟨some 31, .load 34 (.tmp 8), 34, "l11_trust.go:59", #[⟨4, .guard⟩], some (4, true)⟩,
   ⟨some 32, .move (.tmp 2), 3, "l11_trust.go:59", #[⟨4, .guard⟩], some (4, true)⟩,
   ⟨some 33, .call ⟨.value (.func 57), #[.tmp 31, .tmp 32], #[34, 3]⟩, 4, "l11_trust.go:59", #[⟨5, .data⟩, ⟨6, .data⟩, ⟨4, .chain⟩, ⟨4, .guard⟩], some (4, true)⟩,
   ⟨some 34, .pick (.tmp 30) (.tmp 33) (.const (Value.bool false)), 4, "l11_trust.go:59", #[⟨4, .data⟩, ⟨7, .data⟩], none⟩,
   ⟨some 35, .move (.tmp 34), 4, "l11_trust.go:59", #[⟨8, .data⟩, ⟨7, .chain⟩], none⟩,
   ⟨some 36, .fieldAddr 29 (.tmp 3) 0, 0, "l11_trust.go:59", #[⟨9, .guard⟩], some (9, true)⟩,
   ⟨some 37, .load 24 (.tmp 36), 24, "l11_trust.go:59", #[⟨10, .data⟩, ⟨9, .guard⟩], some (9, true)⟩,
   ⟨some 38, .load 34 (.tmp 8), 34, "l11_trust.go:59", #[⟨9, .guard⟩], some (9, true)⟩,
   ⟨some 39, .call ⟨.value (.func 37), #[.tmp 37, .tmp 38], #[24, 34]⟩, 4, "l11_trust.go:59", #[⟨11, .data⟩, ⟨12, .data⟩, ⟨9, .chain⟩, ⟨9, .guard⟩], some (9, true)⟩,
   ⟨some 40, .pick (.tmp 35) (.tmp 39) (.const (Value.bool false)), 4, "l11_trust.go:59", #[⟨9, .data⟩, ⟨13, .data⟩], none⟩,
   ⟨some 41, .move (.tmp 40), 4, "l11_trust.go:59", #[⟨14, .data⟩, ⟨13, .chain⟩], none⟩,
   ⟨some 42, .fieldAddr 34 (.tmp 8) 1, 0, "l11_trust.go:59", #[⟨15, .guard⟩], some (15, true)⟩,
   ⟨some 43, .load 22 (.tmp 42), 22, "l11_trust.go:59", #[⟨16, .data⟩, ⟨15, .guard⟩], some (15, true)⟩,
   ⟨some 44, .fieldAddr 29 (.tmp 3) 0, 0, "l11_trust.go:59", #[⟨15, .guard⟩], some (15, true)⟩,
   ⟨some 45, .load 24 (.tmp 44), 24, "l11_trust.go:59", #[⟨18, .data⟩, ⟨15, .guard⟩], some (15, true)⟩,
   ⟨some 46, .load 32 (.tmp 4), 32, "l11_trust.go:59", #[⟨15, .guard⟩], some (15, true)⟩,
   ⟨some 47, .call ⟨.value (.func 27), #[.tmp 45, .tmp 46], #[24, 32]⟩, 22, "l11_trust.go:59", #[⟨19, .data⟩, ⟨20, .data⟩, ⟨15, .chain⟩, ⟨15, .guard⟩], some (15, true)⟩,
   ⟨some 48, .call ⟨.value (.func 58), #[.tmp 43, .tmp 47], #[22, 22]⟩, 4, "l11_trust.go:59", #[⟨17, .data⟩, ⟨21, .data⟩, ⟨21, .chain⟩, ⟨15, .guard⟩], some (15, true)⟩,
   ⟨some 49, .pick (.tmp 41) (.tmp 48) (.const (Value.bool false)), 4, "l11_trust.go:59", #[⟨15, .data⟩, ⟨22, .data⟩], none⟩] true).wp Tryz.prog Q ⟨#[v0, v1, .int .i64 now, .pointer (some ⟨r, 0, none⟩), .pointer (some ⟨g, 0, none⟩), v5, v6, v7, .pointer (some ⟨b, 0, none⟩), v9, v10, v11, v12, v13, v14, v15, v16, v17, v18, v19, v20, v21, v22, v23, v24, v25, v26, v27, v28, v29, v30, v31, v32, v33, v34, v35, v36, v37, v38, v39, v40, v41, v42, v43, v44, v45, v46, v47, v48, v49, v50], []⟩ w := by
 have HQ := Lib.hid hQ; clear hQ
 have hdr : Below w.heap.size w w.drew := (Below.refl _ _).drew
 have BB := Lib.hid hdr
 refine wp_region_noPanic ?_
 refine wp_region_held_drew (S := (fun w' => w'.cell? ⟨b, 0, none⟩ = some (.slice ya ma da) ∧ w'.cell? ⟨b, 1, none⟩ = some (.slice yb mb db) ∧ w'.cell? ⟨b, 2, none⟩ = some (.slice yc mc dc_) ∧ w'.cell? ⟨b, 3, none⟩ = some (.int .i64 f) ∧ w'.cell? ⟨b, 4, none⟩ = some (.int .i64 s) ∧ w'.cell? ⟨g, 0, none⟩ = some (.slice xn nn cn) ∧ w'.cell? ⟨r, 0, none⟩ = some (.slice x0 n0 c0))) (by kernel_rfl) ?_ (fun hHeld => ?_)
 ·
  exact ⟨kc K0.out BB.out, kc K1.out BB.out, kc K2.out BB.out, kc K3.out BB.out, kc K4.out BB.out, kc K5.out BB.out, kc K6.out BB.out⟩
 clear hdr
 generalize w.drew = wd at *
 refine wpAnyH_take (i := 0) (oi := ⟨some 26, .fieldAddr 34 (.tmp 8) 0, 0, "l11_trust.go:59", #[], none⟩) (v := ?_) rfl (by kernel_rfl) (by kernel_rfl) (by kernel_rfl) (fun _ _ _ h => h) (Or.inl ⟨by rfl, ?_⟩) (by assumption) ?_
 rotate_left
 ·
  intro w' hSw; (try dsimp only at hSw); first | (go_simp; done) | (go_simp; with_reducible rfl)
 (try simp only [Act.put, Row.pB0, Row.pB1, Row.pB2])
 refine wpAnyH_take (i := 1) (oi := ⟨some 27, .load 32 (.tmp 26), 32, "l11_trust.go:59", #[⟨0, .data⟩], none⟩) (v := ?_) rfl (by kernel_rfl) (by kernel_rfl) (by kernel_rfl) (fun _ _ _ h => h) (Or.inl ⟨by rfl, ?_⟩) (by assumption) ?_
 rotate_left
 ·
  intro w' hSw; (try dsimp only at hSw); first | (go_simp; done) | (go_simp; with_reducible rfl)
 (try simp only [Act.put, Row.pB0, Row.pB1, Row.pB2])
 refine wpAnyH_take (i := 2) (oi := ⟨some 28, .load 32 (.tmp 4), 32, "l11_trust.go:59", #[], none⟩) (v := ?_) rfl (by kernel_rfl) (by kernel_rfl) (by kernel_rfl) (fun _ _ _ h => h) (Or.inl ⟨by rfl, ?_⟩) (by assumption) ?_
 rotate_left
 ·
  intro w' hSw; (try dsimp only at hSw); first | (go_simp; done) | (go_simp; with_reducible rfl)
 (try simp only [Act.put, Row.pB0, Row.pB1, Row.pB2])
 refine wpAnyH_ready (rs := [3]) (by kernel_rfl) (by simp) ?_
 refine AllReadyH.cons (o := ⟨some 29, .call ⟨.value (.func 56), #[.tmp 27, .tmp 28], #[32, 32]⟩, 4, "l11_trust.go:59", #[⟨1, .data⟩, ⟨2, .data⟩], none⟩) rfl (fun K hK => ?_) AllReadyH.nil
 go_simp
 refine (eqNV10 true H1.out (H_n.out.on BB.out) (H_m.out.on BB.out) (Nat.le_trans HF.out.name (by decide)) (Nat.le_trans HM.out (by decide))).mono ?_
 rintro e wn1 ⟨rfl, hb⟩
 replace BB := Lib.hid (BB.out.trans (hb.mono BB.out.size))
 clear hb
 (try go_wp2_with fail)
 clear hHeld
 refine hK.out _ _ ?_ (fun hHeld => ?_)
 ·
  (try dsimp only); exact ⟨kc K0.out BB.out, kc K1.out BB.out, kc K2.out BB.out, kc K3.out BB.out, kc K4.out BB.out, kc K5.out BB.out, kc K6.out BB.out⟩
 clear hK K
 (try simp only [Act.put, Row.pB0, Row.pB1, Row.pB2])
 refine wpAnyH_take (i := 4) (oi := ⟨some 30, .move (.tmp 29), 4, "l11_trust.go:59", #[⟨3, .data⟩, ⟨3, .chain⟩], none⟩) (v := ?_) rfl (by kernel_rfl) (by kernel_rfl) (by kernel_rfl) (fun _ _ _ h => h) (Or.inl ⟨by rfl, ?_⟩) (by assumption) ?_
 rotate_left
 ·
  intro w' hSw; (try dsimp only at hSw); first | (go_simp; done) | (go_simp; with_reducible rfl)
 (try simp only [Act.put, Row.pB0, Row.pB1, Row.pB2])
 refine wpAnyH_take (i := 5) (oi := ⟨some 31, .load 34 (.tmp 8), 34, "l11_trust.go:59", #[⟨4, .guard⟩], some (4, true)⟩) (v := ?_) rfl (by kernel_rfl) (by kernel_rfl) (by kernel_rfl) (fun _ _ _ h => h) (Or.inl ⟨by rfl, ?_⟩) (by assumption) ?_
 rotate_left
 ·
  intro w' hSw; (try dsimp only at hSw); first | (go_simp; done) | (go_simp; with_reducible rfl)
 (try simp only [Act.put, Row.pB0, Row.pB1, Row.pB2])
 refine wpAnyH_take (i := 6) (oi := ⟨some 32, .move (.tmp 2), 3, "l11_trust.go:59", #[⟨4, .guard⟩], some (4, true)⟩) (v := ?_) rfl (by kernel_rfl) (by kernel_rfl) (by kernel_rfl) (fun _ _ _ h => h) (Or.inl ⟨by rfl, ?_⟩) (by assumption) ?_
 rotate_left
 ·
  intro w' hSw; (try dsimp only at hSw); first | (go_simp; done) | (go_simp; with_reducible rfl)
 (try simp only [Act.put, Row.pB0, Row.pB1, Row.pB2])
 refine wpAnyH_ready (rs := [7]) (by kernel_rfl) (by simp) ?_
 refine AllReadyH.cons (o := ⟨some 33, .call ⟨.value (.func 57), #[.tmp 31, .tmp 32], #[34, 3]⟩, 4, "l11_trust.go:59", #[⟨5, .data⟩, ⟨6, .data⟩, ⟨4, .chain⟩, ⟨4, .guard⟩], some (4, true)⟩) rfl (fun K hK => ?_) AllReadyH.nil
 go_simp
 refine (sFrV false H2.out (H_x.out.on BB.out)).mono ?_
 rintro e wn2 ⟨rfl, hb⟩
 replace BB := Lib.hid (BB.out.trans (hb.mono BB.out.size))
 clear hb
 (try go_wp2_with fail)
 clear hHeld
 refine hK.out _ _ ?_ (fun hHeld => ?_)
 ·
  (try dsimp only); exact ⟨kc K0.out BB.out, kc K1.out BB.out, kc K2.out BB.out, kc K3.out BB.out, kc K4.out BB.out, kc K5.out BB.out, kc K6.out BB.out⟩
 clear hK K
 (try simp only [Act.put, Row.pB0, Row.pB1, Row.pB2])
 refine wpAnyH_take (i := 8) (oi := ⟨some 34, .pick (.tmp 30) (.tmp 33) (.const (Value.bool false)), 4, "l11_trust.go:59", #[⟨4, .data⟩, ⟨7, .data⟩], none⟩) (v := ?_) rfl (by kernel_rfl) (by kernel_rfl) (by kernel_rfl) (fun _ _ _ h => h) (Or.inl ⟨by rfl, ?_⟩) (by assumption) ?_
 rotate_left
 ·
  intro w' hSw; (try dsimp only at hSw); first | (go_simp; done) | (go_simp; with_reducible rfl)
 (try simp only [Act.put, Row.pB0, Row.pB1, Row.pB2])
 refine wpAnyH_take (i := 9) (oi := ⟨some 35, .move (.tmp 34), 4, "l11_trust.go:59", #[⟨8, .data⟩, ⟨7, .chain⟩], none⟩) (v := ?_) rfl (by kernel_rfl) (by kernel_rfl) (by kernel_rfl) (fun _ _ _ h => h) (Or.inl ⟨by rfl, ?_⟩) (by assumption) ?_
 rotate_left
 ·
  intro w' hSw; (try dsimp only at hSw); first | (go_simp; done) | (go_simp; with_reducible rfl)
 (try simp only [Act.put, Row.pB0, Row.pB1, Row.pB2])
 refine wpAnyH_take (i := 10) (oi := ⟨some 36, .fieldAddr 29 (.tmp 3) 0, 0, "l11_trust.go:59", #[⟨9, .guard⟩], some (9, true)⟩) (v := undef) rfl (by kernel_rfl) (by kernel_rfl) (by kernel_rfl) (fun _ _ _ h => h) (Or.inr ⟨by rfl, rfl⟩) (by assumption) ?_
 (try simp only [Act.put, Row.pB0, Row.pB1, Row.pB2])
 refine wpAnyH_take (i := 11) (oi := ⟨some 37, .load 24 (.tmp 36), 24, "l11_trust.go:59", #[⟨10, .data⟩, ⟨9, .guard⟩], some (9, true)⟩) (v := undef) rfl (by kernel_rfl) (by kernel_rfl) (by kernel_rfl) (fun _ _ _ h => h) (Or.inr ⟨by rfl, rfl⟩) (by assumption) ?_
 (try simp only [Act.put, Row.pB0, Row.pB1, Row.pB2])
 refine wpAnyH_take (i := 12) (oi := ⟨some 38, .load 34 (.tmp 8), 34, "l11_trust.go:59", #[⟨9, .guard⟩], some (9, true)⟩) (v := undef) rfl (by kernel_rfl) (by kernel_rfl) (by kernel_rfl) (fun _ _ _ h => h) (Or.inr ⟨by rfl, rfl⟩) (by assumption) ?_
 (try simp only [Act.put, Row.pB0, Row.pB1, Row.pB2])
 refine wpAnyH_take (i := 13) (oi := ⟨some 39, .call ⟨.value (.func 37), #[.tmp 37, .tmp 38], #[24, 34]⟩, 4, "l11_trust.go:59", #[⟨11, .data⟩, ⟨12, .data⟩, ⟨9, .chain⟩, ⟨9, .guard⟩], some (9, true)⟩) (v := undef) rfl (by kernel_rfl) (by kernel_rfl) (by kernel_rfl) (fun _ _ _ h => h) (Or.inr ⟨by rfl, rfl⟩) (by assumption) ?_
 (try simp only [Act.put, Row.pB0, Row.pB1, Row.pB2])
 refine wpAnyH_take (i := 14) (oi := ⟨some 40, .pick (.tmp 35) (.tmp 39) (.const (Value.bool false)), 4, "l11_trust.go:59", #[⟨9, .data⟩, ⟨13, .data⟩], none⟩) (v := ?_) rfl (by kernel_rfl) (by kernel_rfl) (by kernel_rfl) (fun _ _ _ h => h) (Or.inl ⟨by rfl, ?_⟩) (by assumption) ?_
 rotate_left
 ·
  intro w' hSw; (try dsimp only at hSw); first | (go_simp; done) | (go_simp; with_reducible rfl)
 (try simp only [Act.put, Row.pB0, Row.pB1, Row.pB2])
 refine wpAnyH_take (i := 15) (oi := ⟨some 41, .move (.tmp 40), 4, "l11_trust.go:59", #[⟨14, .data⟩, ⟨13, .chain⟩], none⟩) (v := ?_) rfl (by kernel_rfl) (by kernel_rfl) (by kernel_rfl) (fun _ _ _ h => h) (Or.inl ⟨by rfl, ?_⟩) (by assumption) ?_
 rotate_left
 ·
  intro w' hSw; (try dsimp only at hSw); first | (go_simp; done) | (go_simp; with_reducible rfl)
 (try simp only [Act.put, Row.pB0, Row.pB1, Row.pB2])
 refine wpAnyH_take (i := 16) (oi := ⟨some 42, .fieldAddr 34 (.tmp 8) 1, 0, "l11_trust.go:59", #[⟨15, .guard⟩], some (15, true)⟩) (v := undef) rfl (by kernel_rfl) (by kernel_rfl) (by kernel_rfl) (fun _ _ _ h => h) (Or.inr ⟨by rfl, rfl⟩) (by assumption) ?_
 (try simp only [Act.put, Row.pB0, Row.pB1, Row.pB2])
 refine wpAnyH_take (i := 17) (oi := ⟨some 43, .load 22 (.tmp 42), 22, "l11_trust.go:59", #[⟨16, .data⟩, ⟨15, .guard⟩], some (15, true)⟩) (v := undef) rfl (by kernel_rfl) (by kernel_rfl) (by kernel_rfl) (fun _ _ _ h => h) (Or.inr ⟨by rfl, rfl⟩) (by assumption) ?_
 (try simp only [Act.put, Row.pB0, Row.pB1, Row.pB2])
 refine wpAnyH_take (i := 18) (oi := ⟨some 44, .fieldAddr 29 (.tmp 3) 0, 0, "l11_trust.go:59", #[⟨15, .guard⟩], some (15, true)⟩) (v := undef) rfl (by kernel_rfl) (by kernel_rfl) (by kernel_rfl) (fun _ _ _ h => h) (Or.inr ⟨by rfl, rfl⟩) (by assumption) ?_
 (try simp only [Act.put, Row.pB0, Row.pB1, Row.pB2])
 refine wpAnyH_take (i := 19) (oi := ⟨some 45, .load 24 (.tmp 44), 24, "l11_trust.go:59", #[⟨18, .data⟩, ⟨15, .guard⟩], some (15, true)⟩) (v := undef) rfl (by kernel_rfl) (by kernel_rfl) (by kernel_rfl) (fun _ _ _ h => h) (Or.inr ⟨by rfl, rfl⟩) (by assumption) ?_
 (try simp only [Act.put, Row.pB0, Row.pB1, Row.pB2])
 refine wpAnyH_take (i := 20) (oi := ⟨some 46, .load 32 (.tmp 4), 32, "l11_trust.go:59", #[⟨15, .guard⟩], some (15, true)⟩) (v := undef) rfl (by kernel_rfl) (by kernel_rfl) (by kernel_rfl) (fun _ _ _ h => h) (Or.inr ⟨by rfl, rfl⟩) (by assumption) ?_
 (try simp only [Act.put, Row.pB0, Row.pB1, Row.pB2])
 refine wpAnyH_take (i := 21) (oi := ⟨some 47, .call ⟨.value (.func 27), #[.tmp 45, .tmp 46], #[24, 32]⟩, 22, "l11_trust.go:59", #[⟨19, .data⟩, ⟨20, .data⟩, ⟨15, .chain⟩, ⟨15, .guard⟩], some (15, true)⟩) (v := undef) rfl (by kernel_rfl) (by kernel_rfl) (by kernel_rfl) (fun _ _ _ h => h) (Or.inr ⟨by rfl, rfl⟩) (by assumption) ?_
 (try simp only [Act.put, Row.pB0, Row.pB1, Row.pB2])
 refine wpAnyH_take (i := 22) (oi := ⟨some 48, .call ⟨.value (.func 58), #[.tmp 43, .tmp 47], #[22, 22]⟩, 4, "l11_trust.go:59", #[⟨17, .data⟩, ⟨21, .data⟩, ⟨21, .chain⟩, ⟨15, .guard⟩], some (15, true)⟩) (v := undef) rfl (by kernel_rfl) (by kernel_rfl) (by kernel_rfl) (fun _ _ _ h => h) (Or.inr ⟨by rfl, rfl⟩) (by assumption) ?_
 (try simp only [Act.put, Row.pB0, Row.pB1, Row.pB2])
 refine wpAnyH_take (i := 23) (oi := ⟨some 49, .pick (.tmp 41) (.tmp 48) (.const (Value.bool false)), 4, "l11_trust.go:59", #[⟨15, .data⟩, ⟨22, .data⟩], none⟩) (v := ?_) rfl (by kernel_rfl) (by kernel_rfl) (by kernel_rfl) (fun _ _ _ h => h) (Or.inl ⟨by rfl, ?_⟩) (by assumption) ?_
 rotate_left
 ·
  intro w' hSw; (try dsimp only at hSw); first | (go_simp; done) | (go_simp; with_reducible rfl)
 (try simp only [Act.put, Row.pB0, Row.pB1, Row.pB2])
 refine wpAnyH_done (by kernel_rfl) ?_ _
 exact NoPanic.normal (HQ.out _ _ _ _ _ _ _ _ _ _ _ _ _ _ _ _ _ _ _ _ _ _ _  _  BB.out)
set_option maxRecDepth 100000 in
set_option maxHeartbeats 4000000 in
theorem rfc3 {Q : Exit → Act → World → Prop} {v0 v1 v5 v6 v7 v9 v10 v11 v12 v13 v14 v15 v16 v17 v18 v19 v20 v21 v22 v23 v24 v25 v26 v27 v28 v29 v30 v31 v32 v33 v34 v35 v36 v37 v38 v39 v40 v41 v42 v43 v44 v45 v46 v47 v48 v49 v50 : Value} {w : World} {b r g ma da mb db mc dc_ nn cn n0 c0 : Nat} {ya yb yc xn x0 : Option Addr} {f s now : Int} {x : Dt} {T : Ring.Kt} {m : List ByteArray} (H_x : Hid (kD.At w (.agg #[.slice ya ma da, .slice yb mb db, .slice yc mc dc_, .int .i64 f, .int .i64 s]) x)) (H_m : Hid (kN.At w (.agg #[.slice xn nn cn]) m)) (H_n : Hid (kN.At w (.agg #[.slice ya ma da]) x.1)) (H_b : Hid (Sl.Holds .u8 w (.slice yb mb db) x.2.1)) (H_t : Hid (Ring.kK.At w (.slice x0 n0 c0) T)) (HF : Hid (FitD x)) (HM : Hid (bulk m ≤ 1200000)) (HT : Hid (Ring.bulkT T ≤ 1200000)) (H1 : Hid (decide (x.1 = m) = true)) (H2 : Hid (decide (now ≤ x.2.2.2.1) = true)) (H3 : Hid (verD (Ring.lkN T x.2.2.1) x = false)) (K0 : Hid (w.cell? ⟨b, 0, none⟩ = some (.slice ya ma da))) (K1 : Hid (w.cell? ⟨b, 1, none⟩ = some (.slice yb mb db))) (K2 : Hid (w.cell? ⟨b, 2, none⟩ = some (.slice yc mc dc_))) (K3 : Hid (w.cell? ⟨b, 3, none⟩ = some (.int .i64 f))) (K4 : Hid (w.cell? ⟨b, 4, none⟩ = some (.int .i64 s))) (K5 : Hid (w.cell? ⟨g, 0, none⟩ = some (.slice xn nn cn))) (K6 : Hid (w.cell? ⟨r, 0, none⟩ = some (.slice x0 n0 c0)))
  (hQ : ∀ (u26 u27 u28 u29 u30 u31 u32 u33 u34 u35 u36 u37 u38 u39 u40 u41 u42 u43 u44 u45 u46 u47 u48 : Value)  (wx : World), Below w.heap.size w wx → Q .normal ⟨#[v0, v1, .int .i64 now, .pointer (some ⟨r, 0, none⟩), .pointer (some ⟨g, 0, none⟩), v5, v6, v7, .pointer (some ⟨b, 0, none⟩), v9, v10, v11, v12, v13, v14, v15, v16, v17, v18, v19, v20, v21, v22, v23, v24, v25, u26, u27, u28, u29, u30, u31, u32, u33, u34, u35, u36, u37, u38, u39, u40, u41, u42, u43, u44, u45, u46, u47, u48, .bool false, v50], []⟩ wx) :
  (Code.region 7 #[⟨some 26, .fieldAddr 34 (.tmp 8) 0, 0, "l11_trust.go:59", #[], none⟩,
   ⟨some 27, .load 32 (.tmp 26), 32, "l11_trust.go:59", #[⟨0, .data⟩], none⟩,
   ⟨some 28, .load 32 (.tmp 4), 32, "l11_trust.go:59", #[], none⟩,
   ⟨some 29, .call ⟨.value (.func 56), #[.tmp 27, .tmp 28], #[32, 32]⟩, 4, "l11_trust.go:59", #[⟨1, .data⟩, ⟨2, .data⟩], none⟩,
   ⟨some 30, .move (.tmp 29), 4, "l11_trust.go:59", #[⟨3, .data⟩, ⟨3, .chain⟩], none⟩,
   ⟨some 31, .load 34 (.tmp 8), 34, "l11_trust.go:59", #[⟨4, .guard⟩], some (4, true)⟩,
   ⟨some 32, .move (.tmp 2), 3, "l11_trust.go:59", #[⟨4, .guard⟩], some (4, true)⟩,
   ⟨some 33, .call ⟨.value (.func 57), #[.tmp 31, .tmp 32], #[34, 3]⟩, 4, "l11_trust.go:59", #[⟨5, .data⟩, ⟨6, .data⟩, ⟨4, .chain⟩, ⟨4, .guard⟩], some (4, true)⟩,
   ⟨some 34, .pick (.tmp 30) (.tmp 33) (.const (Value.bool false)), 4, "l11_trust.go:59", #[⟨4, .data⟩, ⟨7, .data⟩], none⟩,
   ⟨some 35, .move (.tmp 34), 4, "l11_trust.go:59", #[⟨8, .data⟩, ⟨7, .chain⟩], none⟩,
   ⟨some 36, .fieldAddr 29 (.tmp 3) 0, 0, "l11_trust.go:59", #[⟨9, .guard⟩], some (9, true)⟩,
   ⟨some 37, .load 24 (.tmp 36), 24, "l11_trust.go:59", #[⟨10, .data⟩, ⟨9, .guard⟩], some (9, true)⟩,
   ⟨some 38, .load 34 (.tmp 8), 34, "l11_trust.go:59", #[⟨9, .guard⟩], some (9, true)⟩,
   ⟨some 39, .call ⟨.value (.func 37), #[.tmp 37, .tmp 38], #[24, 34]⟩, 4, "l11_trust.go:59", #[⟨11, .data⟩, ⟨12, .data⟩, ⟨9, .chain⟩, ⟨9, .guard⟩], some (9, true)⟩,
   ⟨some 40, .pick (.tmp 35) (.tmp 39) (.const (Value.bool false)), 4, "l11_trust.go:59", #[⟨9, .data⟩, ⟨13, .data⟩], none⟩,
   ⟨some 41, .move (.tmp 40), 4, "l11_trust.go:59", #[⟨14, .data⟩, ⟨13, .chain⟩], none⟩,
   ⟨some 42, .fieldAddr 34 (.tmp 8) 1, 0, "l11_trust.go:59", #[⟨15, .guard⟩], some (15, true)⟩,
   ⟨some 43, .load 22 (.tmp 42), 22, "l11_trust.go:59", #[⟨16, .data⟩, ⟨15, .guard⟩], some (15, true)⟩,
   ⟨some 44, .fieldAddr 29 (.tmp 3) 0, 0, "l11_trust.go:59", #[⟨15, .guard⟩], some (15, true)⟩,
   ⟨some 45, .load 24 (.tmp 44), 24, "l11_trust.go:59", #[⟨18, .data⟩, ⟨15, .guard⟩], some (15, true)⟩,
   ⟨some 46, .load 32 (.tmp 4), 32, "l11_trust.go:59", #[⟨15, .guard⟩], some (15, true)⟩,
   ⟨some 47, .call ⟨.value (.func 27), #[.tmp 45, .tmp 46], #[24, 32]⟩, 22, "l11_trust.go:59", #[⟨19, .data⟩, ⟨20, .data⟩, ⟨15, .chain⟩, ⟨15, .guard⟩], some (15, true)⟩,
   ⟨some 48, .call ⟨.value (.func 58), #[.tmp 43, .tmp 47], #[22, 22]⟩, 4, "l11_trust.go:59", #[⟨17, .data⟩, ⟨21, .data⟩, ⟨21, .chain⟩, ⟨15, .guard⟩], some (15, true)⟩,
   ⟨some 49, .pick (.tmp 41) (.tmp 48) (.const (Value.bool false)), 4, "l11_trust.go:59", #[⟨15, .data⟩, ⟨22, .data⟩], none⟩] true).wp Tryz.prog Q ⟨#[v0, v1, .int .i64 now, .pointer (some ⟨r, 0, none⟩), .pointer (some ⟨g, 0, none⟩), v5, v6, v7, .pointer (some ⟨b, 0, none⟩), v9, v10, v11, v12, v13, v14, v15, v16, v17, v18, v19, v20, v21, v22, v23, v24, v25, v26, v27, v28, v29, v30, v31, v32, v33, v34, v35, v36, v37, v38, v39, v40, v41, v42, v43, v44, v45, v46, v47, v48, v49, v50], []⟩ w := by
 have HQ := Lib.hid hQ; clear hQ
 have hdr : Below w.heap.size w w.drew := (Below.refl _ _).drew
 have BB := Lib.hid hdr
 refine wp_region_noPanic ?_
 refine wp_region_held_drew (S := (fun w' => w'.cell? ⟨b, 0, none⟩ = some (.slice ya ma da) ∧ w'.cell? ⟨b, 1, none⟩ = some (.slice yb mb db) ∧ w'.cell? ⟨b, 2, none⟩ = some (.slice yc mc dc_) ∧ w'.cell? ⟨b, 3, none⟩ = some (.int .i64 f) ∧ w'.cell? ⟨b, 4, none⟩ = some (.int .i64 s) ∧ w'.cell? ⟨g, 0, none⟩ = some (.slice xn nn cn) ∧ w'.cell? ⟨r, 0, none⟩ = some (.slice x0 n0 c0))) (by kernel_rfl) ?_ (fun hHeld => ?_)
 ·
  exact ⟨kc K0.out BB.out, kc K1.out BB.out, kc K2.out BB.out, kc K3.out BB.out, kc K4.out BB.out, kc K5.out BB.out, kc K6.out BB.out⟩
 clear hdr
 generalize w.drew = wd at *
 refine wpAnyH_take (i := 0) (oi := ⟨some 26, .fieldAddr 34 (.tmp 8) 0, 0, "l11_trust.go:59", #[], none⟩) (v := ?_) rfl (by kernel_rfl) (by kernel_rfl) (by kernel_rfl) (fun _ _ _ h => h) (Or.inl ⟨by rfl, ?_⟩) (by assumption) ?_
 rotate_left
 ·
  intro w' hSw; (try dsimp only at hSw); first | (go_simp; done) | (go_simp; with_reducible rfl)
 (try simp only [Act.put, Row.pB0, Row.pB1, Row.pB2])
 refine wpAnyH_take (i := 1) (oi := ⟨some 27, .load 32 (.tmp 26), 32, "l11_trust.go:59", #[⟨0, .data⟩], none⟩) (v := ?_) rfl (by kernel_rfl) (by kernel_rfl) (by kernel_rfl) (fun _ _ _ h => h) (Or.inl ⟨by rfl, ?_⟩) (by assumption) ?_
 rotate_left
 ·
  intro w' hSw; (try dsimp only at hSw); first | (go_simp; done) | (go_simp; with_reducible rfl)
 (try simp only [Act.put, Row.pB0, Row.pB1, Row.pB2])
 refine wpAnyH_take (i := 2) (oi := ⟨some 28, .load 32 (.tmp 4), 32, "l11_trust.go:59", #[], none⟩) (v := ?_) rfl (by kernel_rfl) (by kernel_rfl) (by kernel_rfl) (fun _ _ _ h => h) (Or.inl ⟨by rfl, ?_⟩) (by assumption) ?_
 rotate_left
 ·
  intro w' hSw; (try dsimp only at hSw); first | (go_simp; done) | (go_simp; with_reducible rfl)
 (try simp only [Act.put, Row.pB0, Row.pB1, Row.pB2])
 refine wpAnyH_ready (rs := [3]) (by kernel_rfl) (by simp) ?_
 refine AllReadyH.cons (o := ⟨some 29, .call ⟨.value (.func 56), #[.tmp 27, .tmp 28], #[32, 32]⟩, 4, "l11_trust.go:59", #[⟨1, .data⟩, ⟨2, .data⟩], none⟩) rfl (fun K hK => ?_) AllReadyH.nil
 go_simp
 refine (eqNV10 true H1.out (H_n.out.on BB.out) (H_m.out.on BB.out) (Nat.le_trans HF.out.name (by decide)) (Nat.le_trans HM.out (by decide))).mono ?_
 rintro e wn1 ⟨rfl, hb⟩
 replace BB := Lib.hid (BB.out.trans (hb.mono BB.out.size))
 clear hb
 (try go_wp2_with fail)
 clear hHeld
 refine hK.out _ _ ?_ (fun hHeld => ?_)
 ·
  (try dsimp only); exact ⟨kc K0.out BB.out, kc K1.out BB.out, kc K2.out BB.out, kc K3.out BB.out, kc K4.out BB.out, kc K5.out BB.out, kc K6.out BB.out⟩
 clear hK K
 (try simp only [Act.put, Row.pB0, Row.pB1, Row.pB2])
 refine wpAnyH_take (i := 4) (oi := ⟨some 30, .move (.tmp 29), 4, "l11_trust.go:59", #[⟨3, .data⟩, ⟨3, .chain⟩], none⟩) (v := ?_) rfl (by kernel_rfl) (by kernel_rfl) (by kernel_rfl) (fun _ _ _ h => h) (Or.inl ⟨by rfl, ?_⟩) (by assumption) ?_
 rotate_left
 ·
  intro w' hSw; (try dsimp only at hSw); first | (go_simp; done) | (go_simp; with_reducible rfl)
 (try simp only [Act.put, Row.pB0, Row.pB1, Row.pB2])
 refine wpAnyH_take (i := 5) (oi := ⟨some 31, .load 34 (.tmp 8), 34, "l11_trust.go:59", #[⟨4, .guard⟩], some (4, true)⟩) (v := ?_) rfl (by kernel_rfl) (by kernel_rfl) (by kernel_rfl) (fun _ _ _ h => h) (Or.inl ⟨by rfl, ?_⟩) (by assumption) ?_
 rotate_left
 ·
  intro w' hSw; (try dsimp only at hSw); first | (go_simp; done) | (go_simp; with_reducible rfl)
 (try simp only [Act.put, Row.pB0, Row.pB1, Row.pB2])
 refine wpAnyH_take (i := 6) (oi := ⟨some 32, .move (.tmp 2), 3, "l11_trust.go:59", #[⟨4, .guard⟩], some (4, true)⟩) (v := ?_) rfl (by kernel_rfl) (by kernel_rfl) (by kernel_rfl) (fun _ _ _ h => h) (Or.inl ⟨by rfl, ?_⟩) (by assumption) ?_
 rotate_left
 ·
  intro w' hSw; (try dsimp only at hSw); first | (go_simp; done) | (go_simp; with_reducible rfl)
 (try simp only [Act.put, Row.pB0, Row.pB1, Row.pB2])
 refine wpAnyH_ready (rs := [7]) (by kernel_rfl) (by simp) ?_
 refine AllReadyH.cons (o := ⟨some 33, .call ⟨.value (.func 57), #[.tmp 31, .tmp 32], #[34, 3]⟩, 4, "l11_trust.go:59", #[⟨5, .data⟩, ⟨6, .data⟩, ⟨4, .chain⟩, ⟨4, .guard⟩], some (4, true)⟩) rfl (fun K hK => ?_) AllReadyH.nil
 go_simp
 refine (sFrV true H2.out (H_x.out.on BB.out)).mono ?_
 rintro e wn2 ⟨rfl, hb⟩
 replace BB := Lib.hid (BB.out.trans (hb.mono BB.out.size))
 clear hb
 (try go_wp2_with fail)
 clear hHeld
 refine hK.out _ _ ?_ (fun hHeld => ?_)
 ·
  (try dsimp only); exact ⟨kc K0.out BB.out, kc K1.out BB.out, kc K2.out BB.out, kc K3.out BB.out, kc K4.out BB.out, kc K5.out BB.out, kc K6.out BB.out⟩
 clear hK K
 (try simp only [Act.put, Row.pB0, Row.pB1, Row.pB2])
 refine wpAnyH_take (i := 8) (oi := ⟨some 34, .pick (.tmp 30) (.tmp 33) (.const (Value.bool false)), 4, "l11_trust.go:59", #[⟨4, .data⟩, ⟨7, .data⟩], none⟩) (v := ?_) rfl (by kernel_rfl) (by kernel_rfl) (by kernel_rfl) (fun _ _ _ h => h) (Or.inl ⟨by rfl, ?_⟩) (by assumption) ?_
 rotate_left
 ·
  intro w' hSw; (try dsimp only at hSw); first | (go_simp; done) | (go_simp; with_reducible rfl)
 (try simp only [Act.put, Row.pB0, Row.pB1, Row.pB2])
 refine wpAnyH_take (i := 9) (oi := ⟨some 35, .move (.tmp 34), 4, "l11_trust.go:59", #[⟨8, .data⟩, ⟨7, .chain⟩], none⟩) (v := ?_) rfl (by kernel_rfl) (by kernel_rfl) (by kernel_rfl) (fun _ _ _ h => h) (Or.inl ⟨by rfl, ?_⟩) (by assumption) ?_
 rotate_left
 ·
  intro w' hSw; (try dsimp only at hSw); first | (go_simp; done) | (go_simp; with_reducible rfl)
 (try simp only [Act.put, Row.pB0, Row.pB1, Row.pB2])
 refine wpAnyH_take (i := 10) (oi := ⟨some 36, .fieldAddr 29 (.tmp 3) 0, 0, "l11_trust.go:59", #[⟨9, .guard⟩], some (9, true)⟩) (v := ?_) rfl (by kernel_rfl) (by kernel_rfl) (by kernel_rfl) (fun _ _ _ h => h) (Or.inl ⟨by rfl, ?_⟩) (by assumption) ?_
 rotate_left
 ·
  intro w' hSw; (try dsimp only at hSw); first | (go_simp; done) | (go_simp; with_reducible rfl)
 (try simp only [Act.put, Row.pB0, Row.pB1, Row.pB2])
 refine wpAnyH_take (i := 11) (oi := ⟨some 37, .load 24 (.tmp 36), 24, "l11_trust.go:59", #[⟨10, .data⟩, ⟨9, .guard⟩], some (9, true)⟩) (v := ?_) rfl (by kernel_rfl) (by kernel_rfl) (by kernel_rfl) (fun _ _ _ h => h) (Or.inl ⟨by rfl, ?_⟩) (by assumption) ?_
 rotate_left
 ·
  intro w' hSw; (try dsimp only at hSw); first | (go_simp; done) | (go_simp; with_reducible rfl)
 (try simp only [Act.put, Row.pB0, Row.pB1, Row.pB2])
 refine wpAnyH_take (i := 12) (oi := ⟨some 38, .load 34 (.tmp 8), 34, "l11_trust.go:59", #[⟨9, .guard⟩], some (9, true)⟩) (v := ?_) rfl (by kernel_rfl) (by kernel_rfl) (by kernel_rfl) (fun _ _ _ h => h) (Or.inl ⟨by rfl, ?_⟩) (by assumption) ?_
 rotate_left
 ·
  intro w' hSw; (try dsimp only at hSw); first | (go_simp; done) | (go_simp; with_reducible rfl)
 (try simp only [Act.put, Row.pB0, Row.pB1, Row.pB2])
 refine wpAnyH_ready (rs := [13]) (by kernel_rfl) (by simp) ?_
 refine AllReadyH.cons (o := ⟨some 39, .call ⟨.value (.func 37), #[.tmp 37, .tmp 38], #[24, 34]⟩, 4, "l11_trust.go:59", #[⟨11, .data⟩, ⟨12, .data⟩, ⟨9, .chain⟩, ⟨9, .guard⟩], some (9, true)⟩) rfl (fun K hK => ?_) AllReadyH.nil
 go_simp
 refine (sVsV false H3.out (H_t.out.on BB.out) (H_x.out.on BB.out) HF.out.wf HT.out HF.out.bulk).mono ?_
 rintro e wn3 ⟨rfl, hb⟩
 replace BB := Lib.hid (BB.out.trans (hb.mono BB.out.size))
 clear hb
 (try go_wp2_with fail)
 clear hHeld
 refine hK.out _ _ ?_ (fun hHeld => ?_)
 ·
  (try dsimp only); exact ⟨kc K0.out BB.out, kc K1.out BB.out, kc K2.out BB.out, kc K3.out BB.out, kc K4.out BB.out, kc K5.out BB.out, kc K6.out BB.out⟩
 clear hK K
 (try simp only [Act.put, Row.pB0, Row.pB1, Row.pB2])
 refine wpAnyH_take (i := 14) (oi := ⟨some 40, .pick (.tmp 35) (.tmp 39) (.const (Value.bool false)), 4, "l11_trust.go:59", #[⟨9, .data⟩, ⟨13, .data⟩], none⟩) (v := ?_) rfl (by kernel_rfl) (by kernel_rfl) (by kernel_rfl) (fun _ _ _ h => h) (Or.inl ⟨by rfl, ?_⟩) (by assumption) ?_
 rotate_left
 ·
  intro w' hSw; (try dsimp only at hSw); first | (go_simp; done) | (go_simp; with_reducible rfl)
 (try simp only [Act.put, Row.pB0, Row.pB1, Row.pB2])
 refine wpAnyH_take (i := 15) (oi := ⟨some 41, .move (.tmp 40), 4, "l11_trust.go:59", #[⟨14, .data⟩, ⟨13, .chain⟩], none⟩) (v := ?_) rfl (by kernel_rfl) (by kernel_rfl) (by kernel_rfl) (fun _ _ _ h => h) (Or.inl ⟨by rfl, ?_⟩) (by assumption) ?_
 rotate_left
 ·
  intro w' hSw; (try dsimp only at hSw); first | (go_simp; done) | (go_simp; with_reducible rfl)
 (try simp only [Act.put, Row.pB0, Row.pB1, Row.pB2])
 refine wpAnyH_take (i := 16) (oi := ⟨some 42, .fieldAddr 34 (.tmp 8) 1, 0, "l11_trust.go:59", #[⟨15, .guard⟩], some (15, true)⟩) (v := undef) rfl (by kernel_rfl) (by kernel_rfl) (by kernel_rfl) (fun _ _ _ h => h) (Or.inr ⟨by rfl, rfl⟩) (by assumption) ?_
 (try simp only [Act.put, Row.pB0, Row.pB1, Row.pB2])
 refine wpAnyH_take (i := 17) (oi := ⟨some 43, .load 22 (.tmp 42), 22, "l11_trust.go:59", #[⟨16, .data⟩, ⟨15, .guard⟩], some (15, true)⟩) (v := undef) rfl (by kernel_rfl) (by kernel_rfl) (by kernel_rfl) (fun _ _ _ h => h) (Or.inr ⟨by rfl, rfl⟩) (by assumption) ?_
 (try simp only [Act.put, Row.pB0, Row.pB1, Row.pB2])
 refine wpAnyH_take (i := 18) (oi := ⟨some 44, .fieldAddr 29 (.tmp 3) 0, 0, "l11_trust.go:59", #[⟨15, .guard⟩], some (15, true)⟩) (v := undef) rfl (by kernel_rfl) (by kernel_rfl) (by kernel_rfl) (fun _ _ _ h => h) (Or.inr ⟨by rfl, rfl⟩) (by assumption) ?_
 (try simp only [Act.put, Row.pB0, Row.pB1, Row.pB2])
 refine wpAnyH_take (i := 19) (oi := ⟨some 45, .load 24 (.tmp 44), 24, "l11_trust.go:59", #[⟨18, .data⟩, ⟨15, .guard⟩], some (15, true)⟩) (v := undef) rfl (by kernel_rfl) (by kernel_rfl) (by kernel_rfl) (fun _ _ _ h => h) (Or.inr ⟨by rfl, rfl⟩) (by assumption) ?_
 (try simp only [Act.put, Row.pB0, Row.pB1, Row.pB2])
 refine wpAnyH_take (i := 20) (oi := ⟨some 46, .load 32 (.tmp 4), 32, "l11_trust.go:59", #[⟨15, .guard⟩], some (15, true)⟩) (v := undef) rfl (by kernel_rfl) (by kernel_rfl) (by kernel_rfl) (fun _ _ _ h => h) (Or.inr ⟨by rfl, rfl⟩) (by assumption) ?_
 (try simp only [Act.put, Row.pB0, Row.pB1, Row.pB2])
 refine wpAnyH_take (i := 21) (oi := ⟨some 47, .call ⟨.value (.func 27), #[.tmp 45, .tmp 46], #[24, 32]⟩, 22, "l11_trust.go:59", #[⟨19, .data⟩, ⟨20, .data⟩, ⟨15, .chain⟩, ⟨15, .guard⟩], some (15, true)⟩) (v := undef) rfl (by kernel_rfl) (by kernel_rfl) (by kernel_rfl) (fun _ _ _ h => h) (Or.inr ⟨by rfl, rfl⟩) (by assumption) ?_
 (try simp only [Act.put, Row.pB0, Row.pB1, Row.pB2])
 refine wpAnyH_take (i := 22) (oi := ⟨some 48, .call ⟨.value (.func 58), #[.tmp 43, .tmp 47], #[22, 22]⟩, 4, "l11_trust.go:59", #[⟨17, .data⟩, ⟨21, .data⟩, ⟨21, .chain⟩, ⟨15, .guard⟩], some (15, true)⟩) (v := undef) rfl (by kernel_rfl) (by kernel_rfl) (by kernel_rfl) (fun _ _ _ h => h) (Or.inr ⟨by rfl, rfl⟩) (by assumption) ?_
 (try simp only [Act.put, Row.pB0, Row.pB1, Row.pB2])
 refine wpAnyH_take (i := 23) (oi := ⟨some 49, .pick (.tmp 41) (.tmp 48) (.const (Value.bool false)), 4, "l11_trust.go:59", #[⟨15, .data⟩, ⟨22, .data⟩], none⟩) (v := ?_) rfl (by kernel_rfl) (by kernel_rfl) (by kernel_rfl) (fun _ _ _ h => h) (Or.inl ⟨by rfl, ?_⟩) (by assumption) ?_
 rotate_left
 ·
  intro w' hSw; (try dsimp only at hSw); first | (go_simp; done) | (go_simp; with_reducible rfl)
 (try simp only [Act.put, Row.pB0, Row.pB1, Row.pB2])
 refine wpAnyH_done (by kernel_rfl) ?_ _
 exact NoPanic.normal (HQ.out _ _ _ _ _ _ _ _ _ _ _ _ _ _ _ _ _ _ _ _ _ _ _  _  BB.out)
set_option maxRecDepth 100000 in
set_option maxHeartbeats 4000000 in
theorem rfc4 {Q : Exit → Act → World → Prop} {v0 v1 v5 v6 v7 v9 v10 v11 v12 v13 v14 v15 v16 v17 v18 v19 v20 v21 v22 v23 v24 v25 v26 v27 v28 v29 v30 v31 v32 v33 v34 v35 v36 v37 v38 v39 v40 v41 v42 v43 v44 v45 v46 v47 v48 v49 v50 : Value} {w : World} {b r g ma da mb db mc dc_ nn cn n0 c0 : Nat} {ya yb yc xn x0 : Option Addr} {f s now : Int} {x : Dt} {T : Ring.Kt} {m : List ByteArray} (H_x : Hid (kD.At w (.agg #[.slice ya ma da, .slice yb mb db, .slice yc mc dc_, .int .i64 f, .int .i64 s]) x)) (H_m : Hid (kN.At w (.agg #[.slice xn nn cn]) m)) (H_n : Hid (kN.At w (.agg #[.slice ya ma da]) x.1)) (H_b : Hid (Sl.Holds .u8 w (.slice yb mb db) x.2.1)) (H_t : Hid (Ring.kK.At w (.slice x0 n0 c0) T)) (HF : Hid (FitD x)) (HM : Hid (bulk m ≤ 1200000)) (HT : Hid (Ring.bulkT T ≤ 1200000)) (H1 : Hid (decide (x.1 = m) = true)) (H2 : Hid (decide (now ≤ x.2.2.2.1) = true)) (H3 : Hid (verD (Ring.lkN T x.2.2.1) x = true)) {q : Bool} (H4 : Hid (decide (x.2.1 = digK T m) = q)) (K0 : Hid (w.cell? ⟨b, 0, none⟩ = some (.slice ya ma da))) (K1 : Hid (w.cell? ⟨b, 1, none⟩ = some (.slice yb mb db))) (K2 : Hid (w.cell? ⟨b, 2, none⟩ = some (.slice yc mc dc_))) (K3 : Hid (w.cell? ⟨b, 3, none⟩ = some (.int .i64 f))) (K4 : Hid (w.cell? ⟨b, 4, none⟩ = some (.int .i64 s))) (K5 : Hid (w.cell? ⟨g, 0, none⟩ = some (.slice xn nn cn))) (K6 : Hid (w.cell? ⟨r, 0, none⟩ = some (.slice x0 n0 c0)))
  (hQ : ∀ (u26 u27 u28 u29 u30 u31 u32 u33 u34 u35 u36 u37 u38 u39 u40 u41 u42 u43 u44 u45 u46 u47 u48 : Value)  (wx : World), Below w.heap.size w wx → Q .normal ⟨#[v0, v1, .int .i64 now, .pointer (some ⟨r, 0, none⟩), .pointer (some ⟨g, 0, none⟩), v5, v6, v7, .pointer (some ⟨b, 0, none⟩), v9, v10, v11, v12, v13, v14, v15, v16, v17, v18, v19, v20, v21, v22, v23, v24, v25, u26, u27, u28, u29, u30, u31, u32, u33, u34, u35, u36, u37, u38, u39, u40, u41, u42, u43, u44, u45, u46, u47, u48, .bool q, v50], []⟩ wx) :
  (Code.region 7 #[⟨some 26, .fieldAddr 34 (.tmp 8) 0, 0, "l11_trust.go:59", #[], none⟩,
   ⟨some 27, .load 32 (.tmp 26), 32, "l11_trust.go:59", #[⟨0, .data⟩], none⟩,
   ⟨some 28, .load 32 (.tmp 4), 32, "l11_trust.go:59", #[], none⟩,
   ⟨some 29, .call ⟨.value (.func 56), #[.tmp 27, .tmp 28], #[32, 32]⟩, 4, "l11_trust.go:59", #[⟨1, .data⟩, ⟨2, .data⟩], none⟩,
   ⟨some 30, .move (.tmp 29), 4, "l11_trust.go:59", #[⟨3, .data⟩, ⟨3, .chain⟩], none⟩,
   ⟨some 31, .load 34 (.tmp 8), 34, "l11_trust.go:59", #[⟨4, .guard⟩], some (4, true)⟩,
   ⟨some 32, .move (.tmp 2), 3, "l11_trust.go:59", #[⟨4, .guard⟩], some (4, true)⟩,
   ⟨some 33, .call ⟨.value (.func 57), #[.tmp 31, .tmp 32], #[34, 3]⟩, 4, "l11_trust.go:59", #[⟨5, .data⟩, ⟨6, .data⟩, ⟨4, .chain⟩, ⟨4, .guard⟩], some (4, true)⟩,
   ⟨some 34, .pick (.tmp 30) (.tmp 33) (.const (Value.bool false)), 4, "l11_trust.go:59", #[⟨4, .data⟩, ⟨7, .data⟩], none⟩,
   ⟨some 35, .move (.tmp 34), 4, "l11_trust.go:59", #[⟨8, .data⟩, ⟨7, .chain⟩], none⟩,
   ⟨some 36, .fieldAddr 29 (.tmp 3) 0, 0, "l11_trust.go:59", #[⟨9, .guard⟩], some (9, true)⟩,
   ⟨some 37, .load 24 (.tmp 36), 24, "l11_trust.go:59", #[⟨10, .data⟩, ⟨9, .guard⟩], some (9, true)⟩,
   ⟨some 38, .load 34 (.tmp 8), 34, "l11_trust.go:59", #[⟨9, .guard⟩], some (9, true)⟩,
   ⟨some 39, .call ⟨.value (.func 37), #[.tmp 37, .tmp 38], #[24, 34]⟩, 4, "l11_trust.go:59", #[⟨11, .data⟩, ⟨12, .data⟩, ⟨9, .chain⟩, ⟨9, .guard⟩], some (9, true)⟩,
   ⟨some 40, .pick (.tmp 35) (.tmp 39) (.const (Value.bool false)), 4, "l11_trust.go:59", #[⟨9, .data⟩, ⟨13, .data⟩], none⟩,
   ⟨some 41, .move (.tmp 40), 4, "l11_trust.go:59", #[⟨14, .data⟩, ⟨13, .chain⟩], none⟩,
   ⟨some 42, .fieldAddr 34 (.tmp 8) 1, 0, "l11_trust.go:59", #[⟨15, .guard⟩], some (15, true)⟩,
   ⟨some 43, .load 22 (.tmp 42), 22, "l11_trust.go:59", #[⟨16, .data⟩, ⟨15, .guard⟩], some (15, true)⟩,
   ⟨some 44, .fieldAddr 29 (.tmp 3) 0, 0, "l11_trust.go:59", #[⟨15, .guard⟩], some (15, true)⟩,
   ⟨some 45, .load 24 (.tmp 44), 24, "l11_trust.go:59", #[⟨18, .data⟩, ⟨15, .guard⟩], some (15, true)⟩,
   ⟨some 46, .load 32 (.tmp 4), 32, "l11_trust.go:59", #[⟨15, .guard⟩], some (15, true)⟩,
   ⟨some 47, .call ⟨.value (.func 27), #[.tmp 45, .tmp 46], #[24, 32]⟩, 22, "l11_trust.go:59", #[⟨19, .data⟩, ⟨20, .data⟩, ⟨15, .chain⟩, ⟨15, .guard⟩], some (15, true)⟩,
   ⟨some 48, .call ⟨.value (.func 58), #[.tmp 43, .tmp 47], #[22, 22]⟩, 4, "l11_trust.go:59", #[⟨17, .data⟩, ⟨21, .data⟩, ⟨21, .chain⟩, ⟨15, .guard⟩], some (15, true)⟩,
   ⟨some 49, .pick (.tmp 41) (.tmp 48) (.const (Value.bool false)), 4, "l11_trust.go:59", #[⟨15, .data⟩, ⟨22, .data⟩], none⟩] true).wp Tryz.prog Q ⟨#[v0, v1, .int .i64 now, .pointer (some ⟨r, 0, none⟩), .pointer (some ⟨g, 0, none⟩), v5, v6, v7, .pointer (some ⟨b, 0, none⟩), v9, v10, v11, v12, v13, v14, v15, v16, v17, v18, v19, v20, v21, v22, v23, v24, v25, v26, v27, v28, v29, v30, v31, v32, v33, v34, v35, v36, v37, v38, v39, v40, v41, v42, v43, v44, v45, v46, v47, v48, v49, v50], []⟩ w := by
 have HQ := Lib.hid hQ; clear hQ
 have hdr : Below w.heap.size w w.drew := (Below.refl _ _).drew
 have BB := Lib.hid hdr
 refine wp_region_noPanic ?_
 refine wp_region_held_drew (S := (fun w' => w'.cell? ⟨b, 0, none⟩ = some (.slice ya ma da) ∧ w'.cell? ⟨b, 1, none⟩ = some (.slice yb mb db) ∧ w'.cell? ⟨b, 2, none⟩ = some (.slice yc mc dc_) ∧ w'.cell? ⟨b, 3, none⟩ = some (.int .i64 f) ∧ w'.cell? ⟨b, 4, none⟩ = some (.int .i64 s) ∧ w'.cell? ⟨g, 0, none⟩ = some (.slice xn nn cn) ∧ w'.cell? ⟨r, 0, none⟩ = some (.slice x0 n0 c0))) (by kernel_rfl) ?_ (fun hHeld => ?_)
 ·
  exact ⟨kc K0.out BB.out, kc K1.out BB.out, kc K2.out BB.out, kc K3.out BB.out, kc K4.out BB.out, kc K5.out BB.out, kc K6.out BB.out⟩
 clear hdr
 generalize w.drew = wd at *
 refine wpAnyH_take (i := 0) (oi := ⟨some 26, .fieldAddr 34 (.tmp 8) 0, 0, "l11_trust.go:59", #[], none⟩) (v := ?_) rfl (by kernel_rfl) (by kernel_rfl) (by kernel_rfl) (fun _ _ _ h => h) (Or.inl ⟨by rfl, ?_⟩) (by assumption) ?_
 rotate_left
 ·
  intro w' hSw; (try dsimp only at hSw); first | (go_simp; done) | (go_simp; with_reducible rfl)
 (try simp only [Act.put, Row.pB0, Row.pB1, Row.pB2])
 refine wpAnyH_take (i := 1) (oi := ⟨some 27, .load 32 (.tmp 26), 32, "l11_trust.go:59", #[⟨0, .data⟩], none⟩) (v := ?_) rfl (by kernel_rfl) (by kernel_rfl) (by kernel_rfl) (fun _ _ _ h => h) (Or.inl ⟨by rfl, ?_⟩) (by assumption) ?_
 rotate_left
 ·
  intro w' hSw; (try dsimp only at hSw); first | (go_simp; done) | (go_simp; with_reducible rfl)
 (try simp only [Act.put, Row.pB0, Row.pB1, Row.pB2])
 refine wpAnyH_take (i := 2) (oi := ⟨some 28, .load 32 (.tmp 4), 32, "l11_trust.go:59", #[], none⟩) (v := ?_) rfl (by kernel_rfl) (by kernel_rfl) (by kernel_rfl) (fun _ _ _ h => h) (Or.inl ⟨by rfl, ?_⟩) (by assumption) ?_
 rotate_left
 ·
  intro w' hSw; (try dsimp only at hSw); first | (go_simp; done) | (go_simp; with_reducible rfl)
 (try simp only [Act.put, Row.pB0, Row.pB1, Row.pB2])
 refine wpAnyH_ready (rs := [3]) (by kernel_rfl) (by simp) ?_
 refine AllReadyH.cons (o := ⟨some 29, .call ⟨.value (.func 56), #[.tmp 27, .tmp 28], #[32, 32]⟩, 4, "l11_trust.go:59", #[⟨1, .data⟩, ⟨2, .data⟩], none⟩) rfl (fun K hK => ?_) AllReadyH.nil
 go_simp
 refine (eqNV10 true H1.out (H_n.out.on BB.out) (H_m.out.on BB.out) (Nat.le_trans HF.out.name (by decide)) (Nat.le_trans HM.out (by decide))).mono ?_
 rintro e wn1 ⟨rfl, hb⟩
 replace BB := Lib.hid (BB.out.trans (hb.mono BB.out.size))
 clear hb
 (try go_wp2_with fail)
 clear hHeld
 refine hK.out _ _ ?_ (fun hHeld => ?_)
 ·
  (try dsimp only); exact ⟨kc K0.out BB.out, kc K1.out BB.out, kc K2.out BB.out, kc K3.out BB.out, kc K4.out BB.out, kc K5.out BB.out, kc K6.out BB.out⟩
 clear hK K
 (try simp only [Act.put, Row.pB0, Row.pB1, Row.pB2])
 refine wpAnyH_take (i := 4) (oi := ⟨some 30, .move (.tmp 29), 4, "l11_trust.go:59", #[⟨3, .data⟩, ⟨3, .chain⟩], none⟩) (v := ?_) rfl (by kernel_rfl) (by kernel_rfl) (by kernel_rfl) (fun _ _ _ h => h) (Or.inl ⟨by rfl, ?_⟩) (by assumption) ?_
 rotate_left
 ·
  intro w' hSw; (try dsimp only at hSw); first | (go_simp; done) | (go_simp; with_reducible rfl)
 (try simp only [Act.put, Row.pB0, Row.pB1, Row.pB2])
 refine wpAnyH_take (i := 5) (oi := ⟨some 31, .load 34 (.tmp 8), 34, "l11_trust.go:59", #[⟨4, .guard⟩], some (4, true)⟩) (v := ?_) rfl (by kernel_rfl) (by kernel_rfl) (by kernel_rfl) (fun _ _ _ h => h) (Or.inl ⟨by rfl, ?_⟩) (by assumption) ?_
 rotate_left
 ·
  intro w' hSw; (try dsimp only at hSw); first | (go_simp; done) | (go_simp; with_reducible rfl)
 (try simp only [Act.put, Row.pB0, Row.pB1, Row.pB2])
 refine wpAnyH_take (i := 6) (oi := ⟨some 32, .move (.tmp 2), 3, "l11_trust.go:59", #[⟨4, .guard⟩], some (4, true)⟩) (v := ?_) rfl (by kernel_rfl) (by kernel_rfl) (by kernel_rfl) (fun _ _ _ h => h) (Or.inl ⟨by rfl, ?_⟩) (by assumption) ?_
 rotate_left
 ·
  intro w' hSw; (try dsimp only at hSw); first | (go_simp; done) | (go_simp; with_reducible rfl)
 (try simp only [Act.put, Row.pB0, Row.pB1, Row.pB2])
 refine wpAnyH_ready (rs := [7]) (by kernel_rfl) (by simp) ?_
 refine AllReadyH.cons (o := ⟨some 33, .call ⟨.value (.func 57), #[.tmp 31, .tmp 32], #[34, 3]⟩, 4, "l11_trust.go:59", #[⟨5, .data⟩, ⟨6, .data⟩, ⟨4, .chain⟩, ⟨4, .guard⟩], some (4, true)⟩) rfl (fun K hK => ?_) AllReadyH.nil
 go_simp
 refine (sFrV true H2.out (H_x.out.on BB.out)).mono ?_
 rintro e wn2 ⟨rfl, hb⟩
 replace BB := Lib.hid (BB.out.trans (hb.mono BB.out.size))
 clear hb
 (try go_wp2_with fail)
 clear hHeld
 refine hK.out _ _ ?_ (fun hHeld => ?_)
 ·
  (try dsimp only); exact ⟨kc K0.out BB.out, kc K1.out BB.out, kc K2.out BB.out, kc K3.out BB.out, kc K4.out BB.out, kc K5.out BB.out, kc K6.out BB.out⟩
 clear hK K
 (try simp only [Act.put, Row.pB0, Row.pB1, Row.pB2])
 refine wpAnyH_take (i := 8) (oi := ⟨some 34, .pick (.tmp 30) (.tmp 33) (.const (Value.bool false)), 4, "l11_trust.go:59", #[⟨4, .data⟩, ⟨7, .data⟩], none⟩) (v := ?_) rfl (by kernel_rfl) (by kernel_rfl) (by kernel_rfl) (fun _ _ _ h => h) (Or.inl ⟨by rfl, ?_⟩) (by assumption) ?_
 rotate_left
 ·
  intro w' hSw; (try dsimp only at hSw); first | (go_simp; done) | (go_simp; with_reducible rfl)
 (try simp only [Act.put, Row.pB0, Row.pB1, Row.pB2])
 refine wpAnyH_take (i := 9) (oi := ⟨some 35, .move (.tmp 34), 4, "l11_trust.go:59", #[⟨8, .data⟩, ⟨7, .chain⟩], none⟩) (v := ?_) rfl (by kernel_rfl) (by kernel_rfl) (by kernel_rfl) (fun _ _ _ h => h) (Or.inl ⟨by rfl, ?_⟩) (by assumption) ?_
 rotate_left
 ·
  intro w' hSw; (try dsimp only at hSw); first | (go_simp; done) | (go_simp; with_reducible rfl)
 (try simp only [Act.put, Row.pB0, Row.pB1, Row.pB2])
 refine wpAnyH_take (i := 10) (oi := ⟨some 36, .fieldAddr 29 (.tmp 3) 0, 0, "l11_trust.go:59", #[⟨9, .guard⟩], some (9, true)⟩) (v := ?_) rfl (by kernel_rfl) (by kernel_rfl) (by kernel_rfl) (fun _ _ _ h => h) (Or.inl ⟨by rfl, ?_⟩) (by assumption) ?_
 rotate_left
 ·
  intro w' hSw; (try dsimp only at hSw); first | (go_simp; done) | (go_simp; with_reducible rfl)
 (try simp only [Act.put, Row.pB0, Row.pB1, Row.pB2])
 refine wpAnyH_take (i := 11) (oi := ⟨some 37, .load 24 (.tmp 36), 24, "l11_trust.go:59", #[⟨10, .data⟩, ⟨9, .guard⟩], some (9, true)⟩) (v := ?_) rfl (by kernel_rfl) (by kernel_rfl) (by kernel_rfl) (fun _ _ _ h => h) (Or.inl ⟨by rfl, ?_⟩) (by assumption) ?_
 rotate_left
 ·
  intro w' hSw; (try dsimp only at hSw); first | (go_simp; done) | (go_simp; with_reducible rfl)
 (try simp only [Act.put, Row.pB0, Row.pB1, Row.pB2])
 refine wpAnyH_take (i := 12) (oi := ⟨some 38, .load 34 (.tmp 8), 34, "l11_trust.go:59", #[⟨9, .guard⟩], some (9, true)⟩) (v := ?_) rfl (by kernel_rfl) (by kernel_rfl) (by kernel_rfl) (fun _ _ _ h => h) (Or.inl ⟨by rfl, ?_⟩) (by assumption) ?_
 rotate_left
 ·
  intro w' hSw; (try dsimp only at hSw); first | (go_simp; done) | (go_simp; with_reducible rfl)
 (try simp only [Act.put, Row.pB0, Row.pB1, Row.pB2])
 refine wpAnyH_ready (rs := [13]) (by kernel_rfl) (by simp) ?_
 refine AllReadyH.cons (o := ⟨some 39, .call ⟨.value (.func 37), #[.tmp 37, .tmp 38], #[24, 34]⟩, 4, "l11_trust.go:59", #[⟨11, .data⟩, ⟨12, .data⟩, ⟨9, .chain⟩, ⟨9, .guard⟩], some (9, true)⟩) rfl (fun K hK => ?_) AllReadyH.nil
 go_simp
 refine (sVsV true H3.out (H_t.out.on BB.out) (H_x.out.on BB.out) HF.out.wf HT.out HF.out.bulk).mono ?_
 rintro e wn3 ⟨rfl, hb⟩
 replace BB := Lib.hid (BB.out.trans (hb.mono BB.out.size))
 clear hb
 (try go_wp2_with fail)
 clear hHeld
 refine hK.out _ _ ?_ (fun hHeld => ?_)
 ·
  (try dsimp only); exact ⟨kc K0.out BB.out, kc K1.out BB.out, kc K2.out BB.out, kc K3.out BB.out, kc K4.out BB.out, kc K5.out BB.out, kc K6.out BB.out⟩
 clear hK K
 (try simp only [Act.put, Row.pB0, Row.pB1, Row.pB2])
 refine wpAnyH_take (i := 14) (oi := ⟨some 40, .pick (.tmp 35) (.tmp 39) (.const (Value.bool false)), 4, "l11_trust.go:59", #[⟨9, .data⟩, ⟨13, .data⟩], none⟩) (v := ?_) rfl (by kernel_rfl) (by kernel_rfl) (by kernel_rfl) (fun _ _ _ h => h) (Or.inl ⟨by rfl, ?_⟩) (by assumption) ?_
 rotate_left
 ·
  intro w' hSw; (try dsimp only at hSw); first | (go_simp; done) | (go_simp; with_reducible rfl)
 (try simp only [Act.put, Row.pB0, Row.pB1, Row.pB2])
 refine wpAnyH_take (i := 15) (oi := ⟨some 41, .move (.tmp 40), 4, "l11_trust.go:59", #[⟨14, .data⟩, ⟨13, .chain⟩], none⟩) (v := ?_) rfl (by kernel_rfl) (by kernel_rfl) (by kernel_rfl) (fun _ _ _ h => h) (Or.inl ⟨by rfl, ?_⟩) (by assumption) ?_
 rotate_left
 ·
  intro w' hSw; (try dsimp only at hSw); first | (go_simp; done) | (go_simp; with_reducible rfl)
 (try simp only [Act.put, Row.pB0, Row.pB1, Row.pB2])
 refine wpAnyH_take (i := 16) (oi := ⟨some 42, .fieldAddr 34 (.tmp 8) 1, 0, "l11_trust.go:59", #[⟨15, .guard⟩], some (15, true)⟩) (v := ?_) rfl (by kernel_rfl) (by kernel_rfl) (by kernel_rfl) (fun _ _ _ h => h) (Or.inl ⟨by rfl, ?_⟩) (by assumption) ?_
 rotate_left
 ·
  intro w' hSw; (try dsimp only at hSw); first | (go_simp; done) | (go_simp; with_reducible rfl)
 (try simp only [Act.put, Row.pB0, Row.pB1, Row.pB2])
 refine wpAnyH_take (i := 17) (oi := ⟨some 43, .load 22 (.tmp 42), 22, "l11_trust.go:59", #[⟨16, .data⟩, ⟨15, .guard⟩], some (15, true)⟩) (v := ?_) rfl (by kernel_rfl) (by kernel_rfl) (by kernel_rfl) (fun _ _ _ h => h) (Or.inl ⟨by rfl, ?_⟩) (by assumption) ?_
 rotate_left
 ·
  intro w' hSw; (try dsimp only at hSw); first | (go_simp; done) | (go_simp; with_reducible rfl)
 (try simp only [Act.put, Row.pB0, Row.pB1, Row.pB2])
 refine wpAnyH_take (i := 18) (oi := ⟨some 44, .fieldAddr 29 (.tmp 3) 0, 0, "l11_trust.go:59", #[⟨15, .guard⟩], some (15, true)⟩) (v := ?_) rfl (by kernel_rfl) (by kernel_rfl) (by kernel_rfl) (fun _ _ _ h => h) (Or.inl ⟨by rfl, ?_⟩) (by assumption) ?_
 rotate_left
 ·
  intro w' hSw; (try dsimp only at hSw); first | (go_simp; done) | (go_simp; with_reducible rfl)
 (try simp only [Act.put, Row.pB0, Row.pB1, Row.pB2])
 refine wpAnyH_take (i := 19) (oi := ⟨some 45, .load 24 (.tmp 44), 24, "l11_trust.go:59", #[⟨18, .data⟩, ⟨15, .guard⟩], some (15, true)⟩) (v := ?_) rfl (by kernel_rfl) (by kernel_rfl) (by kernel_rfl) (fun _ _ _ h => h) (Or.inl ⟨by rfl, ?_⟩) (by assumption) ?_
 rotate_left
 ·
  intro w' hSw; (try dsimp only at hSw); first | (go_simp; done) | (go_simp; with_reducible rfl)
 (try simp only [Act.put, Row.pB0, Row.pB1, Row.pB2])
 refine wpAnyH_take (i := 20) (oi := ⟨some 46, .load 32 (.tmp 4), 32, "l11_trust.go:59", #[⟨15, .guard⟩], some (15, true)⟩) (v := ?_) rfl (by kernel_rfl) (by kernel_rfl) (by kernel_rfl) (fun _ _ _ h => h) (Or.inl ⟨by rfl, ?_⟩) (by assumption) ?_
 rotate_left
 ·
  intro w' hSw; (try dsimp only at hSw); first | (go_simp; done) | (go_simp; with_reducible rfl)
 (try simp only [Act.put, Row.pB0, Row.pB1, Row.pB2])
 refine wpAnyH_ready (rs := [21]) (by kernel_rfl) (by simp) ?_
 refine AllReadyH.cons (o := ⟨some 47, .call ⟨.value (.func 27), #[.tmp 45, .tmp 46], #[24, 32]⟩, 22, "l11_trust.go:59", #[⟨19, .data⟩, ⟨20, .data⟩, ⟨15, .chain⟩, ⟨15, .guard⟩], some (15, true)⟩) rfl (fun K hK => ?_) AllReadyH.nil
 go_simp
 refine (specKeyDigest _ _ T m _ _ rfl (H_t.out.on BB.out) (H_m.out.on BB.out) HT.out HM.out).mono ?_
 rintro e wn4 ⟨v47, rfl, ho, hb⟩
 obtain ⟨x47, n47, rfl, -, h47⟩ := ho.holds.shape
 have H47 := Lib.hid h47; clear ho h47
 replace BB := Lib.hid (BB.out.trans (hb.mono BB.out.size))
 clear hb
 (try go_wp2_with fail)
 clear hHeld
 refine hK.out _ _ ?_ (fun hHeld => ?_)
 ·
  (try dsimp only); exact ⟨kc K0.out BB.out, kc K1.out BB.out, kc K2.out BB.out, kc K3.out BB.out, kc K4.out BB.out, kc K5.out BB.out, kc K6.out BB.out⟩
 clear hK K
 (try simp only [Act.put, Row.pB0, Row.pB1, Row.pB2])
 refine wpAnyH_ready (rs := [22]) (by kernel_rfl) (by simp) ?_
 refine AllReadyH.cons (o := ⟨some 48, .call ⟨.value (.func 58), #[.tmp 43, .tmp 47], #[22, 22]⟩, 4, "l11_trust.go:59", #[⟨17, .data⟩, ⟨21, .data⟩, ⟨21, .chain⟩, ⟨15, .guard⟩], some (15, true)⟩) rfl (fun K hK => ?_) AllReadyH.nil
 go_simp
 refine (sEbV q H4.out (H_b.out.on BB.out) H47.out HF.out.wf.byt (digK_byt T m)).mono ?_
 rintro e wn5 ⟨rfl, hw⟩
 subst hw
 have hb := Below.refl wn4.heap.size wn4
 replace H47 := Lib.hid (H47.out.on hb)
 replace BB := Lib.hid (BB.out.trans (hb.mono BB.out.size))
 clear hb
 (try go_wp2_with fail)
 clear hHeld
 refine hK.out _ _ ?_ (fun hHeld => ?_)
 ·
  (try dsimp only); exact ⟨kc K0.out BB.out, kc K1.out BB.out, kc K2.out BB.out, kc K3.out BB.out, kc K4.out BB.out, kc K5.out BB.out, kc K6.out BB.out⟩
 clear hK K
 (try simp only [Act.put, Row.pB0, Row.pB1, Row.pB2])
 refine wpAnyH_take (i := 23) (oi := ⟨some 49, .pick (.tmp 41) (.tmp 48) (.const (Value.bool false)), 4, "l11_trust.go:59", #[⟨15, .data⟩, ⟨22, .data⟩], none⟩) (v := ?_) rfl (by kernel_rfl) (by kernel_rfl) (by kernel_rfl) (fun _ _ _ h => h) (Or.inl ⟨by rfl, ?_⟩) (by assumption) ?_
 rotate_left
 ·
  intro w' hSw; (try dsimp only at hSw); first | (go_simp; done) | (go_simp; with_reducible rfl)
 (try simp only [Act.put, Row.pB0, Row.pB1, Row.pB2])
 refine wpAnyH_done (by kernel_rfl) ?_ _
 exact NoPanic.normal (HQ.out _ _ _ _ _ _ _ _ _ _ _ _ _ _ _ _ _ _ _ _ _ _ _  _  BB.out)
end Go.Proofs.YtlhchmjnaanjpaaGreatDoor.Row
