/- Contracts and mathematics, joined: CacheS, CacheG. No conditions but those that each states. -/
import Derived.WalkKit
import Derived.Deep.RegionHeld3
import Derived.Test.YtfglcmanmfenpaaGreatB8
/- The model's content store: l12Find, ValidContentStore, EqualContentStores. No conditions but that lengths fit. -/
namespace Go.Proofs.YtfglcmanmfenpaaGreat.Row
open Go.ChangeShapes Go.WideShapes Go.ChangeAt Go.RowKit Go.Instr
set_option linter.unusedVariables false
set_option maxRecDepth 100000
set_option maxRecDepth 100000 in
set_option maxHeartbeats 4000000 in
theorem rfe {Q : Exit → Act → World → Prop} {v1 v2 v4 v6 v7 v8 v9 v10 v11 v12 v13 v14 v15 v16 v17 v18 v19 v20 : Value} {w : World} {b off n c g k na ca : Nat} {xa : Option Addr} {a m : List ByteArray} {z : Bool} {xn : Option Addr} {nn cn : Nat} (hk : k < n) (hkc : k ≤ c) (hn : n ≤ 9000000) (HZ : Hid (decide (a = m) = z)) (H_a : Hid (kN.At w (.agg #[.slice xa na ca]) a)) (H_m : Hid (kN.At w (.agg #[.slice xn nn cn]) m)) (HAB : Hid (bulk a ≤ 1200000)) (HMB : Hid (bulk m ≤ 1200000)) (K0 : Hid (w.cell? ⟨g, 0, none⟩ = some (.slice xn nn cn))) (K1 : Hid (w.cell? ⟨b, off + k * 6, none⟩ = some (.slice xa na ca)))
  (hQ : ∀ (u12 u13 u14 u15 u16 u17 u18 : Value)  (wx : World), Below w.heap.size w wx → Q .normal ⟨#[.slice (some ⟨b, off, none⟩) n c, v1, v2, .pointer (some ⟨g, 0, none⟩), v4, .int .i64 k, v6, v7, v8, v9, v10, v11, u12, u13, u14, u15, u16, u17, u18, .bool z, v20], []⟩ wx) :
  (Code.region 4 #[⟨some 12, .move (.tmp 0), 24, "l12_cache.go:14", #[], none⟩,
   ⟨some 13, .move (.tmp 5), 3, "l12_cache.go:14", #[], none⟩,
   ⟨some 14, .indexAddr 24 (.tmp 12) (.tmp 13), 0, "l12_cache.go:14", #[⟨0, .data⟩, ⟨1, .data⟩], none⟩,
   ⟨some 15, .fieldAddr 64 (.tmp 14) 0, 0, "l12_cache.go:14", #[⟨2, .data⟩], none⟩,
   ⟨some 16, .fieldAddr 31 (.tmp 15) 0, 0, "l12_cache.go:14", #[⟨3, .data⟩], none⟩,
   ⟨some 17, .load 29 (.tmp 16), 29, "l12_cache.go:14", #[⟨4, .data⟩], none⟩,
   ⟨some 18, .load 29 (.tmp 3), 29, "l12_cache.go:14", #[], none⟩,
   ⟨some 19, .call ⟨.value (.func 44), #[.tmp 17, .tmp 18], #[29, 29]⟩, 4, "l12_cache.go:14", #[⟨5, .data⟩, ⟨6, .data⟩], none⟩] true).wp Tryz.prog Q ⟨#[.slice (some ⟨b, off, none⟩) n c, v1, v2, .pointer (some ⟨g, 0, none⟩), v4, .int .i64 k, v6, v7, v8, v9, v10, v11, v12, v13, v14, v15, v16, v17, v18, v19, v20], []⟩ w := by
 have HQ := Lib.hid hQ; clear hQ
 have hdr : Below w.heap.size w w.drew := (Below.refl _ _).drew
 have BB := Lib.hid hdr
 refine wp_region_noPanic ?_
 refine wp_region_held_drew (S := (fun w' => w'.cell? ⟨g, 0, none⟩ = some (.slice xn nn cn) ∧ w'.cell? ⟨b, off + k * 6, none⟩ = some (.slice xa na ca))) (by kernel_rfl) ?_ (fun hHeld => ?_)
 ·
  exact ⟨kc K0.out BB.out, kc K1.out BB.out⟩
 clear hdr
 generalize w.drew = wd at *
 refine wpAnyH_take (i := 0) (oi := ⟨some 12, .move (.tmp 0), 24, "l12_cache.go:14", #[], none⟩) (v := ?_) rfl (by kernel_rfl) (by kernel_rfl) (by kernel_rfl) (fun _ _ _ h => h) (Or.inl ⟨by rfl, ?_⟩) (by assumption) ?_
 rotate_left
 ·
  intro w' hSw; (try dsimp only at hSw); first | (go_simp; done) | (go_simp; with_reducible rfl)
 (try simp only [Act.put, Row.pB0, Row.pB1, Row.pB2])
 refine wpAnyH_take (i := 1) (oi := ⟨some 13, .move (.tmp 5), 3, "l12_cache.go:14", #[], none⟩) (v := ?_) rfl (by kernel_rfl) (by kernel_rfl) (by kernel_rfl) (fun _ _ _ h => h) (Or.inl ⟨by rfl, ?_⟩) (by assumption) ?_
 rotate_left
 ·
  intro w' hSw; (try dsimp only at hSw); first | (go_simp; done) | (go_simp; with_reducible rfl)
 (try simp only [Act.put, Row.pB0, Row.pB1, Row.pB2])
 refine wpAnyH_take (i := 2) (oi := ⟨some 14, .indexAddr 24 (.tmp 12) (.tmp 13), 0, "l12_cache.go:14", #[⟨0, .data⟩, ⟨1, .data⟩], none⟩) (v := ?_) rfl (by kernel_rfl) (by kernel_rfl) (by kernel_rfl) (fun _ _ _ h => h) (Or.inl ⟨by rfl, ?_⟩) (by assumption) ?_
 rotate_left
 ·
  intro w' hSw; (try dsimp only at hSw); first | (go_simp; done) | (go_simp; with_reducible rfl)
 (try simp only [Act.put, Row.pB0, Row.pB1, Row.pB2])
 refine wpAnyH_take (i := 3) (oi := ⟨some 15, .fieldAddr 64 (.tmp 14) 0, 0, "l12_cache.go:14", #[⟨2, .data⟩], none⟩) (v := ?_) rfl (by kernel_rfl) (by kernel_rfl) (by kernel_rfl) (fun _ _ _ h => h) (Or.inl ⟨by rfl, ?_⟩) (by assumption) ?_
 rotate_left
 ·
  intro w' hSw; (try dsimp only at hSw); first | (go_simp; done) | (go_simp; with_reducible rfl)
 (try simp only [Act.put, Row.pB0, Row.pB1, Row.pB2])
 refine wpAnyH_take (i := 4) (oi := ⟨some 16, .fieldAddr 31 (.tmp 15) 0, 0, "l12_cache.go:14", #[⟨3, .data⟩], none⟩) (v := ?_) rfl (by kernel_rfl) (by kernel_rfl) (by kernel_rfl) (fun _ _ _ h => h) (Or.inl ⟨by rfl, ?_⟩) (by assumption) ?_
 rotate_left
 ·
  intro w' hSw; (try dsimp only at hSw); first | (go_simp; done) | (go_simp; with_reducible rfl)
 (try simp only [Act.put, Row.pB0, Row.pB1, Row.pB2])
 refine wpAnyH_take (i := 5) (oi := ⟨some 17, .load 29 (.tmp 16), 29, "l12_cache.go:14", #[⟨4, .data⟩], none⟩) (v := ?_) rfl (by kernel_rfl) (by kernel_rfl) (by kernel_rfl) (fun _ _ _ h => h) (Or.inl ⟨by rfl, ?_⟩) (by assumption) ?_
 rotate_left
 ·
  intro w' hSw; (try dsimp only at hSw); first | (go_simp; done) | (go_simp; with_reducible rfl)
 (try simp only [Act.put, Row.pB0, Row.pB1, Row.pB2])
 refine wpAnyH_take (i := 6) (oi := ⟨some 18, .load 29 (.tmp 3), 29, "l12_cache.go:14", #[], none⟩) (v := ?_) rfl (by kernel_rfl) (by kernel_rfl) (by kernel_rfl) (fun _ _ _ h => h) (Or.inl ⟨by rfl, ?_⟩) (by assumption) ?_
 rotate_left
 ·
  intro w' hSw; (try dsimp only at hSw); first | (go_simp; done) | (go_simp; with_reducible rfl)
 (try simp only [Act.put, Row.pB0, Row.pB1, Row.pB2])
 refine wpAnyH_ready (rs := [7]) (by kernel_rfl) (by simp) ?_
 refine AllReadyH.cons (o := ⟨some 19, .call ⟨.value (.func 44), #[.tmp 17, .tmp 18], #[29, 29]⟩, 4, "l12_cache.go:14", #[⟨5, .data⟩, ⟨6, .data⟩], none⟩) rfl (fun K hK => ?_) AllReadyH.nil
 go_simp
 refine (sEqK z HZ.out (H_a.out.on BB.out) (H_m.out.on BB.out) (Nat.le_trans HAB.out (by decide)) (Nat.le_trans HMB.out (by decide))).mono ?_
 rintro e wn1 ⟨rfl, hb⟩
 replace BB := Lib.hid (BB.out.trans (hb.mono BB.out.size))
 clear hb
 (try go_wp2_with fail)
 clear hHeld
 refine hK.out _ _ ?_ (fun hHeld => ?_)
 ·
  (try dsimp only); exact ⟨kc K0.out BB.out, kc K1.out BB.out⟩
 clear hK K
 (try simp only [Act.put, Row.pB0, Row.pB1, Row.pB2])
 refine wpAnyH_done (by kernel_rfl) ?_ _
 exact NoPanic.normal (HQ.out _ _ _ _ _ _ _  _  BB.out)
set_option maxHeartbeats 4000000 in
theorem sFindE (V U : Value) (l : List Cet) (m : List ByteArray) (w : World) (z : Int) (hz : ixL (isE m) l = z) (h : kLCe.At w V l) (g : kN.At w U m) (hl : l.length ≤ 9000000) (hp : ∀ x ∈ l, wtCe x ≤ 1200000) (hm : bulk m ≤ 1200000) :
    Calls Tryz.prog 51 #[V, U] w fun e w' => e = .returned (.int .i64 z) ∧ Below w.heap.size w w' := by
  obtain ⟨x, n, cx, L, rfl, hn, ht, hh, hel⟩ := kLCe_at h
  have hlen : l.length = n := by rw [← ht, List.length_map]; exact hn.symm
  rw [hlen] at hl
  have hcap : n ≤ cx := by obtain ⟨x', n', cap', hv, hn', hc', -⟩ := hh.shapeN; cases hv; exact hc'
  obtain ⟨xn, nn, cn, rfl, g⟩ := kN_shapeA g
  have b1 := (Below.refl w.heap.size w).alloc (Nat.le_refl _) (.cells #[.slice xn nn cn] 29)
  have HX := Lib.hid (Ret.Blk.new w #[.slice xn nn cn] 29)
  have HG := Lib.hid (g.on b1); have HB := Lib.hid b1; have HZ := Lib.hid hz; have HM := Lib.hid hm
  have HN := Lib.hid hn; have HT := Lib.hid ht; have HH := Lib.hid hh; have HEL := Lib.hid hel; have HLEN := Lib.hid hlen; have HP := Lib.hid hp
  clear b1 g hz hm hn ht hh hel hlen hp h
  go_enter Tryz.func51, Tryz.ntmps51
  go_wp2
  go_loopw [5] (fun iv wr => ∃ i : Nat, i ≤ n ∧ iv = .int .i64 i ∧ Hid (noL (isE m) l i) ∧ Hid (Ret.Blk wr w.heap.size #[.slice xn nn cn] 29) ∧ Hid (kN.At wr (.agg #[.slice xn nn cn]) m) ∧ Hid (Below w.heap.size w wr)) (fun iv _ => n - (intOf iv).toNat)
  case atStart => exact ⟨0, Nat.zero_le _, rfl, Lib.hid (noL_zero _ _), HX, HG, HB⟩
  case round =>
    obtain ⟨k, hk, rfl, ha, hx, hg, hb⟩ := hrel
    by_cases hlt : k < n
    · have hlen := HN.out
      obtain ⟨b, off, y0, m0, d0, y1, m1, d1, y2, m2, d2, rfl, -, hc0, hc1, hc2, hc3, hc4, hc5, hA⟩ := kLCe_elem (HH.out.on hb.out) (fun y hy => kCe.holds_on (HEL.out y hy) hb.out) (j := k) (by omega)
      have hpt : nth l k = kCe.strip (nth L k) := by rw [← HT.out, nth_map _ (by omega)]
      have hps := HP.out (nth l k) (nth_mem (by have := HLEN.out; omega))
      rw [← hpt] at hA hc3 hc4 hc5
      obtain ⟨hD, hNM⟩ := kCe_parts hA
      have HA := Lib.hid hA; have HD := Lib.hid hD; have HNM := Lib.hid hNM; have HPS := Lib.hid hps; have HPD := Lib.hid (show wtDz (nth l k).1 ≤ 1200000 from hps); have HPN := Lib.hid (show bulk (nth l k).1.1 ≤ 1200000 from (wtDz_lens _ hps).1)
      have H0 := Lib.hid hc0; have H1 := Lib.hid hc1; have H2 := Lib.hid hc2; have H3 := Lib.hid hc3; have H4 := Lib.hid hc4; have H5 := Lib.hid hc5
      clear hlen hpt hps hA hD hNM
      obtain ⟨q, hq⟩ : ∃ q, decide ((nth l k).1.1 = m) = q := ⟨_, rfl⟩
      have HQ := Lib.hid hq; clear hq hc0 hc1 hc2 hc3 hc4 hc5
      go_wp2_with fail
      refine rfe hlt (by omega) hl HQ HNM hg HPN HM (Lib.hid (hx.out.cell 0)) H0 ?_
      intro u12 u13 u14 u15 u16 u17 u18 wx hbx
      have hx2 := Lib.hid (hx.out.on hbx); have hg2 := Lib.hid (hg.out.on hbx); have hb2 := Lib.hid (hb.out.trans (hbx.mono hb.out.size))
      clear hbx
      cases q with
      | true =>
        have HV := Lib.hid (show z = (k : Int) from HZ.out.symm.trans (ixL_at (by have := HLEN.out; omega) ha.out HQ.out))
        go_wp2
        go_ret
        exact ⟨ret_int HV.out.symm, hb2.out⟩
      | false =>
        have HA2 := Lib.hid (noL_succ ha.out HQ.out)
        go_wp2
        go_roundw
        case rel => exact ⟨k + 1, by omega, by go_num, HA2, hx2, hg2, hb2⟩
        case measure => simp [intOf]; omega
    · obtain rfl : k = n := by omega
      have HV := Lib.hid (show z = -1 from HZ.out.symm.trans (ixL_none (by rw [HLEN.out]; exact ha.out)))
      clear hlt
      go_wp2
      go_ret
      exact ⟨ret_int HV.out.symm, hb.out⟩
set_option maxRecDepth 100000 in
set_option maxHeartbeats 4000000 in
theorem rvc0 {Q : Exit → Act → World → Prop} {v0 v2 v4 v5 v6 v7 v8 v9 v10 v11 v12 v13 v14 v15 v16 v17 v18 v19 v20 v21 v22 v23 v24 v25 v26 v27 v28 v29 v30 v31 v32 v33 v34 v35 v36 v37 v38 v39 v40 v41 v42 v43 v44 : Value} {w : World} {b off n c g k na ca nb cb nc cc : Nat} {xa xb xc : Option Addr} {f s : Int} {d : Dzt}   (hk : k < n) (hkc : k ≤ c) (hn : n ≤ 9000000) (HV : Hid (validD d = false)) (H_d : Hid (kDz.At w (.agg #[.slice xa na ca, .slice xb nb cb, .slice xc nc cc, .int .i64 f, .int .i64 s]) d)) (HDB : Hid (wtDz d ≤ 1200000)) (K0 : Hid (w.cell? ⟨g, 1, none⟩ = some (.slice (some ⟨b, off, none⟩) n c))) (E0 : Hid (w.cell? ⟨b, off + k * 6, none⟩ = some (.slice xa na ca))) (E1 : Hid (w.cell? ⟨b, off + k * 6 + 1, none⟩ = some (.slice xb nb cb))) (E2 : Hid (w.cell? ⟨b, off + k * 6 + 2, none⟩ = some (.slice xc nc cc))) (E3 : Hid (w.cell? ⟨b, off + k * 6 + 3, none⟩ = some (.int .i64 f))) (E4 : Hid (w.cell? ⟨b, off + k * 6 + 4, none⟩ = some (.int .i64 s)))
  (hQ : ∀ (u11 u12 u13 u14 u15 u16 u17 u18 u19 u20 u21 u22 u23 u24 u25 u26 u27 u28 u29 u30 u31 u32 : Value)  (wx : World), Below w.heap.size w wx → Q .normal ⟨#[v0, .pointer (some ⟨g, 0, none⟩), v2, .int .i64 k, v4, v5, v6, v7, v8, v9, v10, u11, u12, u13, u14, u15, u16, u17, u18, u19, u20, u21, u22, u23, u24, u25, u26, u27, u28, u29, u30, u31, u32, .bool true, v34, v35, v36, v37, v38, v39, v40, v41, v42, v43, v44], []⟩ wx) :
  (Code.region 4 #[⟨some 11, .fieldAddr 26 (.tmp 1) 1, 0, "l12_cache.go:23", #[], none⟩,
   ⟨some 12, .load 24 (.tmp 11), 24, "l12_cache.go:23", #[⟨0, .data⟩], none⟩,
   ⟨some 13, .move (.tmp 3), 3, "l12_cache.go:23", #[], none⟩,
   ⟨some 14, .indexAddr 24 (.tmp 12) (.tmp 13), 0, "l12_cache.go:23", #[⟨1, .data⟩, ⟨2, .data⟩], none⟩,
   ⟨some 15, .fieldAddr 64 (.tmp 14) 0, 0, "l12_cache.go:23", #[⟨3, .data⟩], none⟩,
   ⟨some 16, .load 31 (.tmp 15), 31, "l12_cache.go:23", #[⟨4, .data⟩], none⟩,
   ⟨some 17, .call ⟨.value (.func 50), #[.tmp 16], #[31]⟩, 4, "l12_cache.go:23", #[⟨5, .data⟩], none⟩,
   ⟨some 18, .unOp UnOp.not 4 (.tmp 17), 4, "l12_cache.go:23", #[⟨6, .data⟩], none⟩,
   ⟨some 19, .move (.tmp 18), 4, "l12_cache.go:23", #[⟨7, .data⟩, ⟨6, .chain⟩], none⟩,
   ⟨some 20, .fieldAddr 26 (.tmp 1) 1, 0, "l12_cache.go:23", #[⟨8, .guard⟩], some (8, false)⟩,
   ⟨some 21, .load 24 (.tmp 20), 24, "l12_cache.go:23", #[⟨9, .data⟩, ⟨8, .guard⟩], some (8, false)⟩,
   ⟨some 22, .move (.tmp 3), 3, "l12_cache.go:23", #[⟨8, .guard⟩], some (8, false)⟩,
   ⟨some 23, .slice 24 (.tmp 21) none (some (.tmp 22)) none, 24, "l12_cache.go:23", #[⟨10, .data⟩, ⟨11, .data⟩, ⟨8, .guard⟩], some (8, false)⟩,
   ⟨some 24, .fieldAddr 26 (.tmp 1) 1, 0, "l12_cache.go:23", #[⟨8, .guard⟩], some (8, false)⟩,
   ⟨some 25, .load 24 (.tmp 24), 24, "l12_cache.go:23", #[⟨13, .data⟩, ⟨8, .guard⟩], some (8, false)⟩,
   ⟨some 26, .move (.tmp 3), 3, "l12_cache.go:23", #[⟨8, .guard⟩], some (8, false)⟩,
   ⟨some 27, .indexAddr 24 (.tmp 25) (.tmp 26), 0, "l12_cache.go:23", #[⟨14, .data⟩, ⟨15, .data⟩, ⟨8, .guard⟩], some (8, false)⟩,
   ⟨some 28, .fieldAddr 64 (.tmp 27) 0, 0, "l12_cache.go:23", #[⟨16, .data⟩, ⟨8, .guard⟩], some (8, false)⟩,
   ⟨some 29, .fieldAddr 31 (.tmp 28) 0, 0, "l12_cache.go:23", #[⟨17, .data⟩, ⟨8, .guard⟩], some (8, false)⟩,
   ⟨some 30, .load 29 (.tmp 29), 29, "l12_cache.go:23", #[⟨18, .data⟩, ⟨8, .guard⟩], some (8, false)⟩,
   ⟨some 31, .call ⟨.value (.func 51), #[.tmp 23, .tmp 30], #[24, 29]⟩, 3, "l12_cache.go:23", #[⟨12, .data⟩, ⟨19, .data⟩, ⟨8, .chain⟩, ⟨8, .guard⟩], some (8, false)⟩,
   ⟨some 32, .binOp BinOp.geq 3 (.tmp 31) (.const (Value.int IntKind.i64 0)) 3, 4, "l12_cache.go:23", #[⟨20, .data⟩, ⟨8, .guard⟩], some (8, false)⟩,
   ⟨some 33, .pick (.tmp 19) (.const (Value.bool true)) (.tmp 32), 4, "l12_cache.go:23", #[⟨8, .data⟩, ⟨21, .data⟩], none⟩] true).wp Tryz.prog Q ⟨#[v0, .pointer (some ⟨g, 0, none⟩), v2, .int .i64 k, v4, v5, v6, v7, v8, v9, v10, v11, v12, v13, v14, v15, v16, v17, v18, v19, v20, v21, v22, v23, v24, v25, v26, v27, v28, v29, v30, v31, v32, v33, v34, v35, v36, v37, v38, v39, v40, v41, v42, v43, v44], []⟩ w := by
 have HQ := Lib.hid hQ; clear hQ
 have hdr : Below w.heap.size w w.drew := (Below.refl _ _).drew
 have BB := Lib.hid hdr
 refine wp_region_noPanic ?_
 refine wp_region_held_drew (S := (fun w' => w'.cell? ⟨g, 1, none⟩ = some (.slice (some ⟨b, off, none⟩) n c) ∧ w'.cell? ⟨b, off + k * 6, none⟩ = some (.slice xa na ca) ∧ w'.cell? ⟨b, off + k * 6 + 1, none⟩ = some (.slice xb nb cb) ∧ w'.cell? ⟨b, off + k * 6 + 2, none⟩ = some (.slice xc nc cc) ∧ w'.cell? ⟨b, off + k * 6 + 3, none⟩ = some (.int .i64 f) ∧ w'.cell? ⟨b, off + k * 6 + 4, none⟩ = some (.int .i64 s))) (by kernel_rfl) ?_ (fun hHeld => ?_)
 ·
  exact ⟨kc K0.out BB.out, kc E0.out BB.out, kc E1.out BB.out, kc E2.out BB.out, kc E3.out BB.out, kc E4.out BB.out⟩
 clear hdr
 generalize w.drew = wd at *
 refine wpAnyH_take (i := 0) (oi := ⟨some 11, .fieldAddr 26 (.tmp 1) 1, 0, "l12_cache.go:23", #[], none⟩) (v := ?_) rfl (by kernel_rfl) (by kernel_rfl) (by kernel_rfl) (fun _ _ _ h => h) (Or.inl ⟨by rfl, ?_⟩) (by assumption) ?_
 rotate_left
 ·
  intro w' hSw; (try dsimp only at hSw); first | (go_simp; done) | (go_simp; with_reducible rfl)
 (try simp only [Act.put, Row.pB0, Row.pB1, Row.pB2])
 refine wpAnyH_take (i := 1) (oi := ⟨some 12, .load 24 (.tmp 11), 24, "l12_cache.go:23", #[⟨0, .data⟩], none⟩) (v := ?_) rfl (by kernel_rfl) (by kernel_rfl) (by kernel_rfl) (fun _ _ _ h => h) (Or.inl ⟨by rfl, ?_⟩) (by assumption) ?_
 rotate_left
 ·
  intro w' hSw; (try dsimp only at hSw); first | (go_simp; done) | (go_simp; with_reducible rfl)
 (try simp only [Act.put, Row.pB0, Row.pB1, Row.pB2])
 refine wpAnyH_take (i := 2) (oi := ⟨some 13, .move (.tmp 3), 3, "l12_cache.go:23", #[], none⟩) (v := ?_) rfl (by kernel_rfl) (by kernel_rfl) (by kernel_rfl) (fun _ _ _ h => h) (Or.inl ⟨by rfl, ?_⟩) (by assumption) ?_
 rotate_left
 ·
  intro w' hSw; (try dsimp only at hSw); first | (go_simp; done) | (go_simp; with_reducible rfl)
 (try simp only [Act.put, Row.pB0, Row.pB1, Row.pB2])
 refine wpAnyH_take (i := 3) (oi := ⟨some 14, .indexAddr 24 (.tmp 12) (.tmp 13), 0, "l12_cache.go:23", #[⟨1, .data⟩, ⟨2, .data⟩], none⟩) (v := ?_) rfl (by kernel_rfl) (by kernel_rfl) (by kernel_rfl) (fun _ _ _ h => h) (Or.inl ⟨by rfl, ?_⟩) (by assumption) ?_
 rotate_left
 ·
  intro w' hSw; (try dsimp only at hSw); first | (go_simp; done) | (go_simp; with_reducible rfl)
 (try simp only [Act.put, Row.pB0, Row.pB1, Row.pB2])
 refine wpAnyH_take (i := 4) (oi := ⟨some 15, .fieldAddr 64 (.tmp 14) 0, 0, "l12_cache.go:23", #[⟨3, .data⟩], none⟩) (v := ?_) rfl (by kernel_rfl) (by kernel_rfl) (by kernel_rfl) (fun _ _ _ h => h) (Or.inl ⟨by rfl, ?_⟩) (by assumption) ?_
 rotate_left
 ·
  intro w' hSw; (try dsimp only at hSw); first | (go_simp; done) | (go_simp; with_reducible rfl)
 (try simp only [Act.put, Row.pB0, Row.pB1, Row.pB2])
 refine wpAnyH_take (i := 5) (oi := ⟨some 16, .load 31 (.tmp 15), 31, "l12_cache.go:23", #[⟨4, .data⟩], none⟩) (v := ?_) rfl (by kernel_rfl) (by kernel_rfl) (by kernel_rfl) (fun _ _ _ h => h) (Or.inl ⟨by rfl, ?_⟩) (by assumption) ?_
 rotate_left
 ·
  intro w' hSw; (try dsimp only at hSw); first | (go_simp; done) | (go_simp; with_reducible rfl)
 (try simp only [Act.put, Row.pB0, Row.pB1, Row.pB2])
 refine wpAnyH_ready (rs := [6]) (by kernel_rfl) (by simp) ?_
 refine AllReadyH.cons (o := ⟨some 17, .call ⟨.value (.func 50), #[.tmp 16], #[31]⟩, 4, "l12_cache.go:23", #[⟨5, .data⟩], none⟩) rfl (fun K hK => ?_) AllReadyH.nil
 go_simp
 refine (sValZ false HV.out (H_d.out.on BB.out) (Nat.le_trans HDB.out (by decide))).mono ?_
 rintro e wn1 ⟨rfl, hb⟩
 replace BB := Lib.hid (BB.out.trans (hb.mono BB.out.size))
 clear hb
 (try go_wp2_with fail)
 clear hHeld
 refine hK.out _ _ ?_ (fun hHeld => ?_)
 ·
  (try dsimp only); exact ⟨kc K0.out BB.out, kc E0.out BB.out, kc E1.out BB.out, kc E2.out BB.out, kc E3.out BB.out, kc E4.out BB.out⟩
 clear hK K
 (try simp only [Act.put, Row.pB0, Row.pB1, Row.pB2])
 refine wpAnyH_take (i := 7) (oi := ⟨some 18, .unOp UnOp.not 4 (.tmp 17), 4, "l12_cache.go:23", #[⟨6, .data⟩], none⟩) (v := ?_) rfl (by kernel_rfl) (by kernel_rfl) (by kernel_rfl) (fun _ _ _ h => h) (Or.inl ⟨by rfl, ?_⟩) (by assumption) ?_
 rotate_left
 ·
  intro w' hSw; (try dsimp only at hSw); first | (go_simp; done) | (go_simp; with_reducible rfl)
 (try simp only [Act.put, Row.pB0, Row.pB1, Row.pB2])
 refine wpAnyH_take (i := 8) (oi := ⟨some 19, .move (.tmp 18), 4, "l12_cache.go:23", #[⟨7, .data⟩, ⟨6, .chain⟩], none⟩) (v := ?_) rfl (by kernel_rfl) (by kernel_rfl) (by kernel_rfl) (fun _ _ _ h => h) (Or.inl ⟨by rfl, ?_⟩) (by assumption) ?_
 rotate_left
 ·
  intro w' hSw; (try dsimp only at hSw); first | (go_simp; done) | (go_simp; with_reducible rfl)
 (try simp only [Act.put, Row.pB0, Row.pB1, Row.pB2])
 refine wpAnyH_take (i := 9) (oi := ⟨some 20, .fieldAddr 26 (.tmp 1) 1, 0, "l12_cache.go:23", #[⟨8, .guard⟩], some (8, false)⟩) (v := undef) rfl (by kernel_rfl) (by kernel_rfl) (by kernel_rfl) (fun _ _ _ h => h) (Or.inr ⟨by rfl, rfl⟩) (by assumption) ?_
 (try simp only [Act.put, Row.pB0, Row.pB1, Row.pB2])
 refine wpAnyH_take (i := 10) (oi := ⟨some 21, .load 24 (.tmp 20), 24, "l12_cache.go:23", #[⟨9, .data⟩, ⟨8, .guard⟩], some (8, false)⟩) (v := undef) rfl (by kernel_rfl) (by kernel_rfl) (by kernel_rfl) (fun _ _ _ h => h) (Or.inr ⟨by rfl, rfl⟩) (by assumption) ?_
 (try simp only [Act.put, Row.pB0, Row.pB1, Row.pB2])
 refine wpAnyH_take (i := 11) (oi := ⟨some 22, .move (.tmp 3), 3, "l12_cache.go:23", #[⟨8, .guard⟩], some (8, false)⟩) (v := undef) rfl (by kernel_rfl) (by kernel_rfl) (by kernel_rfl) (fun _ _ _ h => h) (Or.inr ⟨by rfl, rfl⟩) (by assumption) ?_
 (try simp only [Act.put, Row.pB0, Row.pB1, Row.pB2])
 refine wpAnyH_take (i := 12) (oi := ⟨some 23, .slice 24 (.tmp 21) none (some (.tmp 22)) none, 24, "l12_cache.go:23", #[⟨10, .data⟩, ⟨11, .data⟩, ⟨8, .guard⟩], some (8, false)⟩) (v := undef) rfl (by kernel_rfl) (by kernel_rfl) (by kernel_rfl) (fun _ _ _ h => h) (Or.inr ⟨by rfl, rfl⟩) (by assumption) ?_
 (try simp only [Act.put, Row.pB0, Row.pB1, Row.pB2])
 refine wpAnyH_take (i := 13) (oi := ⟨some 24, .fieldAddr 26 (.tmp 1) 1, 0, "l12_cache.go:23", #[⟨8, .guard⟩], some (8, false)⟩) (v := undef) rfl (by kernel_rfl) (by kernel_rfl) (by kernel_rfl) (fun _ _ _ h => h) (Or.inr ⟨by rfl, rfl⟩) (by assumption) ?_
 (try simp only [Act.put, Row.pB0, Row.pB1, Row.pB2])
 refine wpAnyH_take (i := 14) (oi := ⟨some 25, .load 24 (.tmp 24), 24, "l12_cache.go:23", #[⟨13, .data⟩, ⟨8, .guard⟩], some (8, false)⟩) (v := undef) rfl (by kernel_rfl) (by kernel_rfl) (by kernel_rfl) (fun _ _ _ h => h) (Or.inr ⟨by rfl, rfl⟩) (by assumption) ?_
 (try simp only [Act.put, Row.pB0, Row.pB1, Row.pB2])
 refine wpAnyH_take (i := 15) (oi := ⟨some 26, .move (.tmp 3), 3, "l12_cache.go:23", #[⟨8, .guard⟩], some (8, false)⟩) (v := undef) rfl (by kernel_rfl) (by kernel_rfl) (by kernel_rfl) (fun _ _ _ h => h) (Or.inr ⟨by rfl, rfl⟩) (by assumption) ?_
 (try simp only [Act.put, Row.pB0, Row.pB1, Row.pB2])
 refine wpAnyH_take (i := 16) (oi := ⟨some 27, .indexAddr 24 (.tmp 25) (.tmp 26), 0, "l12_cache.go:23", #[⟨14, .data⟩, ⟨15, .data⟩, ⟨8, .guard⟩], some (8, false)⟩) (v := undef) rfl (by kernel_rfl) (by kernel_rfl) (by kernel_rfl) (fun _ _ _ h => h) (Or.inr ⟨by rfl, rfl⟩) (by assumption) ?_
 (try simp only [Act.put, Row.pB0, Row.pB1, Row.pB2])
 refine wpAnyH_take (i := 17) (oi := ⟨some 28, .fieldAddr 64 (.tmp 27) 0, 0, "l12_cache.go:23", #[⟨16, .data⟩, ⟨8, .guard⟩], some (8, false)⟩) (v := undef) rfl (by kernel_rfl) (by kernel_rfl) (by kernel_rfl) (fun _ _ _ h => h) (Or.inr ⟨by rfl, rfl⟩) (by assumption) ?_
 (try simp only [Act.put, Row.pB0, Row.pB1, Row.pB2])
 refine wpAnyH_take (i := 18) (oi := ⟨some 29, .fieldAddr 31 (.tmp 28) 0, 0, "l12_cache.go:23", #[⟨17, .data⟩, ⟨8, .guard⟩], some (8, false)⟩) (v := undef) rfl (by kernel_rfl) (by kernel_rfl) (by kernel_rfl) (fun _ _ _ h => h) (Or.inr ⟨by rfl, rfl⟩) (by assumption) ?_
 (try simp only [Act.put, Row.pB0, Row.pB1, Row.pB2])
 refine wpAnyH_take (i := 19) (oi := ⟨some 30, .load 29 (.tmp 29), 29, "l12_cache.go:23", #[⟨18, .data⟩, ⟨8, .guard⟩], some (8, false)⟩) (v := undef) rfl (by kernel_rfl) (by kernel_rfl) (by kernel_rfl) (fun _ _ _ h => h) (Or.inr ⟨by rfl, rfl⟩) (by assumption) ?_
 (try simp only [Act.put, Row.pB0, Row.pB1, Row.pB2])
 refine wpAnyH_take (i := 20) (oi := ⟨some 31, .call ⟨.value (.func 51), #[.tmp 23, .tmp 30], #[24, 29]⟩, 3, "l12_cache.go:23", #[⟨12, .data⟩, ⟨19, .data⟩, ⟨8, .chain⟩, ⟨8, .guard⟩], some (8, false)⟩) (v := undef) rfl (by kernel_rfl) (by kernel_rfl) (by kernel_rfl) (fun _ _ _ h => h) (Or.inr ⟨by rfl, rfl⟩) (by assumption) ?_
 (try simp only [Act.put, Row.pB0, Row.pB1, Row.pB2])
 refine wpAnyH_take (i := 21) (oi := ⟨some 32, .binOp BinOp.geq 3 (.tmp 31) (.const (Value.int IntKind.i64 0)) 3, 4, "l12_cache.go:23", #[⟨20, .data⟩, ⟨8, .guard⟩], some (8, false)⟩) (v := undef) rfl (by kernel_rfl) (by kernel_rfl) (by kernel_rfl) (fun _ _ _ h => h) (Or.inr ⟨by rfl, rfl⟩) (by assumption) ?_
 (try simp only [Act.put, Row.pB0, Row.pB1, Row.pB2])
 refine wpAnyH_take (i := 22) (oi := ⟨some 33, .pick (.tmp 19) (.const (Value.bool true)) (.tmp 32), 4, "l12_cache.go:23", #[⟨8, .data⟩, ⟨21, .data⟩], none⟩) (v := ?_) rfl (by kernel_rfl) (by kernel_rfl) (by kernel_rfl) (fun _ _ _ h => h) (Or.inl ⟨by rfl, ?_⟩) (by assumption) ?_
 rotate_left
 ·
  intro w' hSw; (try dsimp only at hSw); first | (go_simp; done) | (go_simp; with_reducible rfl)
 (try simp only [Act.put, Row.pB0, Row.pB1, Row.pB2])
 refine wpAnyH_done (by kernel_rfl) ?_ _
 exact NoPanic.normal (HQ.out _ _ _ _ _ _ _ _ _ _ _ _ _ _ _ _ _ _ _ _ _ _  _  BB.out)
set_option maxRecDepth 100000 in
set_option maxHeartbeats 4000000 in
theorem rvc1 {Q : Exit → Act → World → Prop} {v0 v2 v4 v5 v6 v7 v8 v9 v10 v11 v12 v13 v14 v15 v16 v17 v18 v19 v20 v21 v22 v23 v24 v25 v26 v27 v28 v29 v30 v31 v32 v33 v34 v35 v36 v37 v38 v39 v40 v41 v42 v43 v44 : Value} {w : World} {b off n c g k na ca nb cb nc cc : Nat} {xa xb xc : Option Addr} {f s : Int} {d : Dzt} {l : List Cet} {r : Int} (hk : k < n) (hkc : k ≤ c) (hn : n ≤ 9000000) (HV : Hid (validD d = true)) (H_d : Hid (kDz.At w (.agg #[.slice xa na ca, .slice xb nb cb, .slice xc nc cc, .int .i64 f, .int .i64 s]) d)) (HDB : Hid (wtDz d ≤ 1200000)) (H_a : Hid (kN.At w (.agg #[.slice xa na ca]) d.1)) (HAB : Hid (bulk d.1 ≤ 1200000)) (HR : Hid (ixL (isE d.1) (l.take k) = r)) (H_l : Hid (kLCe.At w (.slice (some ⟨b, off, none⟩) k c) (l.take k))) (HLL : Hid ((l.take k).length ≤ 9000000)) (HLP : Hid (∀ x ∈ l.take k, wtCe x ≤ 1200000)) (K0 : Hid (w.cell? ⟨g, 1, none⟩ = some (.slice (some ⟨b, off, none⟩) n c))) (E0 : Hid (w.cell? ⟨b, off + k * 6, none⟩ = some (.slice xa na ca))) (E1 : Hid (w.cell? ⟨b, off + k * 6 + 1, none⟩ = some (.slice xb nb cb))) (E2 : Hid (w.cell? ⟨b, off + k * 6 + 2, none⟩ = some (.slice xc nc cc))) (E3 : Hid (w.cell? ⟨b, off + k * 6 + 3, none⟩ = some (.int .i64 f))) (E4 : Hid (w.cell? ⟨b, off + k * 6 + 4, none⟩ = some (.int .i64 s)))
  (hQ : ∀ (u11 u12 u13 u14 u15 u16 u17 u18 u19 u20 u21 u22 u23 u24 u25 u26 u27 u28 u29 u30 u31 u32 : Value)  (wx : World), Below w.heap.size w wx → Q .normal ⟨#[v0, .pointer (some ⟨g, 0, none⟩), v2, .int .i64 k, v4, v5, v6, v7, v8, v9, v10, u11, u12, u13, u14, u15, u16, u17, u18, u19, u20, u21, u22, u23, u24, u25, u26, u27, u28, u29, u30, u31, u32, .bool (decide (0 ≤ r)), v34, v35, v36, v37, v38, v39, v40, v41, v42, v43, v44], []⟩ wx) :
  (Code.region 4 #[⟨some 11, .fieldAddr 26 (.tmp 1) 1, 0, "l12_cache.go:23", #[], none⟩,
   ⟨some 12, .load 24 (.tmp 11), 24, "l12_cache.go:23", #[⟨0, .data⟩], none⟩,
   ⟨some 13, .move (.tmp 3), 3, "l12_cache.go:23", #[], none⟩,
   ⟨some 14, .indexAddr 24 (.tmp 12) (.tmp 13), 0, "l12_cache.go:23", #[⟨1, .data⟩, ⟨2, .data⟩], none⟩,
   ⟨some 15, .fieldAddr 64 (.tmp 14) 0, 0, "l12_cache.go:23", #[⟨3, .data⟩], none⟩,
   ⟨some 16, .load 31 (.tmp 15), 31, "l12_cache.go:23", #[⟨4, .data⟩], none⟩,
   ⟨some 17, .call ⟨.value (.func 50), #[.tmp 16], #[31]⟩, 4, "l12_cache.go:23", #[⟨5, .data⟩], none⟩,
   ⟨some 18, .unOp UnOp.not 4 (.tmp 17), 4, "l12_cache.go:23", #[⟨6, .data⟩], none⟩,
   ⟨some 19, .move (.tmp 18), 4, "l12_cache.go:23", #[⟨7, .data⟩, ⟨6, .chain⟩], none⟩,
   ⟨some 20, .fieldAddr 26 (.tmp 1) 1, 0, "l12_cache.go:23", #[⟨8, .guard⟩], some (8, false)⟩,
   ⟨some 21, .load 24 (.tmp 20), 24, "l12_cache.go:23", #[⟨9, .data⟩, ⟨8, .guard⟩], some (8, false)⟩,
   ⟨some 22, .move (.tmp 3), 3, "l12_cache.go:23", #[⟨8, .guard⟩], some (8, false)⟩,
   ⟨some 23, .slice 24 (.tmp 21) none (some (.tmp 22)) none, 24, "l12_cache.go:23", #[⟨10, .data⟩, ⟨11, .data⟩, ⟨8, .guard⟩], some (8, false)⟩,
   ⟨some 24, .fieldAddr 26 (.tmp 1) 1, 0, "l12_cache.go:23", #[⟨8, .guard⟩], some (8, false)⟩,
   ⟨some 25, .load 24 (.tmp 24), 24, "l12_cache.go:23", #[⟨13, .data⟩, ⟨8, .guard⟩], some (8, false)⟩,
   ⟨some 26, .move (.tmp 3), 3, "l12_cache.go:23", #[⟨8, .guard⟩], some (8, false)⟩,
   ⟨some 27, .indexAddr 24 (.tmp 25) (.tmp 26), 0, "l12_cache.go:23", #[⟨14, .data⟩, ⟨15, .data⟩, ⟨8, .guard⟩], some (8, false)⟩,
   ⟨some 28, .fieldAddr 64 (.tmp 27) 0, 0, "l12_cache.go:23", #[⟨16, .data⟩, ⟨8, .guard⟩], some (8, false)⟩,
   ⟨some 29, .fieldAddr 31 (.tmp 28) 0, 0, "l12_cache.go:23", #[⟨17, .data⟩, ⟨8, .guard⟩], some (8, false)⟩,
   ⟨some 30, .load 29 (.tmp 29), 29, "l12_cache.go:23", #[⟨18, .data⟩, ⟨8, .guard⟩], some (8, false)⟩,
   ⟨some 31, .call ⟨.value (.func 51), #[.tmp 23, .tmp 30], #[24, 29]⟩, 3, "l12_cache.go:23", #[⟨12, .data⟩, ⟨19, .data⟩, ⟨8, .chain⟩, ⟨8, .guard⟩], some (8, false)⟩,
   ⟨some 32, .binOp BinOp.geq 3 (.tmp 31) (.const (Value.int IntKind.i64 0)) 3, 4, "l12_cache.go:23", #[⟨20, .data⟩, ⟨8, .guard⟩], some (8, false)⟩,
   ⟨some 33, .pick (.tmp 19) (.const (Value.bool true)) (.tmp 32), 4, "l12_cache.go:23", #[⟨8, .data⟩, ⟨21, .data⟩], none⟩] true).wp Tryz.prog Q ⟨#[v0, .pointer (some ⟨g, 0, none⟩), v2, .int .i64 k, v4, v5, v6, v7, v8, v9, v10, v11, v12, v13, v14, v15, v16, v17, v18, v19, v20, v21, v22, v23, v24, v25, v26, v27, v28, v29, v30, v31, v32, v33, v34, v35, v36, v37, v38, v39, v40, v41, v42, v43, v44], []⟩ w := by
 have HQ := Lib.hid hQ; clear hQ
 have hdr : Below w.heap.size w w.drew := (Below.refl _ _).drew
 have BB := Lib.hid hdr
 refine wp_region_noPanic ?_
 refine wp_region_held_drew (S := (fun w' => w'.cell? ⟨g, 1, none⟩ = some (.slice (some ⟨b, off, none⟩) n c) ∧ w'.cell? ⟨b, off + k * 6, none⟩ = some (.slice xa na ca) ∧ w'.cell? ⟨b, off + k * 6 + 1, none⟩ = some (.slice xb nb cb) ∧ w'.cell? ⟨b, off + k * 6 + 2, none⟩ = some (.slice xc nc cc) ∧ w'.cell? ⟨b, off + k * 6 + 3, none⟩ = some (.int .i64 f) ∧ w'.cell? ⟨b, off + k * 6 + 4, none⟩ = some (.int .i64 s))) (by kernel_rfl) ?_ (fun hHeld => ?_)
 ·
  exact ⟨kc K0.out BB.out, kc E0.out BB.out, kc E1.out BB.out, kc E2.out BB.out, kc E3.out BB.out, kc E4.out BB.out⟩
 clear hdr
 generalize w.drew = wd at *
 refine wpAnyH_take (i := 0) (oi := ⟨some 11, .fieldAddr 26 (.tmp 1) 1, 0, "l12_cache.go:23", #[], none⟩) (v := ?_) rfl (by kernel_rfl) (by kernel_rfl) (by kernel_rfl) (fun _ _ _ h => h) (Or.inl ⟨by rfl, ?_⟩) (by assumption) ?_
 rotate_left
 ·
  intro w' hSw; (try dsimp only at hSw); first | (go_simp; done) | (go_simp; with_reducible rfl)
 (try simp only [Act.put, Row.pB0, Row.pB1, Row.pB2])
 refine wpAnyH_take (i := 1) (oi := ⟨some 12, .load 24 (.tmp 11), 24, "l12_cache.go:23", #[⟨0, .data⟩], none⟩) (v := ?_) rfl (by kernel_rfl) (by kernel_rfl) (by kernel_rfl) (fun _ _ _ h => h) (Or.inl ⟨by rfl, ?_⟩) (by assumption) ?_
 rotate_left
 ·
  intro w' hSw; (try dsimp only at hSw); first | (go_simp; done) | (go_simp; with_reducible rfl)
 (try simp only [Act.put, Row.pB0, Row.pB1, Row.pB2])
 refine wpAnyH_take (i := 2) (oi := ⟨some 13, .move (.tmp 3), 3, "l12_cache.go:23", #[], none⟩) (v := ?_) rfl (by kernel_rfl) (by kernel_rfl) (by kernel_rfl) (fun _ _ _ h => h) (Or.inl ⟨by rfl, ?_⟩) (by assumption) ?_
 rotate_left
 ·
  intro w' hSw; (try dsimp only at hSw); first | (go_simp; done) | (go_simp; with_reducible rfl)
 (try simp only [Act.put, Row.pB0, Row.pB1, Row.pB2])
 refine wpAnyH_take (i := 3) (oi := ⟨some 14, .indexAddr 24 (.tmp 12) (.tmp 13), 0, "l12_cache.go:23", #[⟨1, .data⟩, ⟨2, .data⟩], none⟩) (v := ?_) rfl (by kernel_rfl) (by kernel_rfl) (by kernel_rfl) (fun _ _ _ h => h) (Or.inl ⟨by rfl, ?_⟩) (by assumption) ?_
 rotate_left
 ·
  intro w' hSw; (try dsimp only at hSw); first | (go_simp; done) | (go_simp; with_reducible rfl)
 (try simp only [Act.put, Row.pB0, Row.pB1, Row.pB2])
 refine wpAnyH_take (i := 4) (oi := ⟨some 15, .fieldAddr 64 (.tmp 14) 0, 0, "l12_cache.go:23", #[⟨3, .data⟩], none⟩) (v := ?_) rfl (by kernel_rfl) (by kernel_rfl) (by kernel_rfl) (fun _ _ _ h => h) (Or.inl ⟨by rfl, ?_⟩) (by assumption) ?_
 rotate_left
 ·
  intro w' hSw; (try dsimp only at hSw); first | (go_simp; done) | (go_simp; with_reducible rfl)
 (try simp only [Act.put, Row.pB0, Row.pB1, Row.pB2])
 refine wpAnyH_take (i := 5) (oi := ⟨some 16, .load 31 (.tmp 15), 31, "l12_cache.go:23", #[⟨4, .data⟩], none⟩) (v := ?_) rfl (by kernel_rfl) (by kernel_rfl) (by kernel_rfl) (fun _ _ _ h => h) (Or.inl ⟨by rfl, ?_⟩) (by assumption) ?_
 rotate_left
 ·
  intro w' hSw; (try dsimp only at hSw); first | (go_simp; done) | (go_simp; with_reducible rfl)
 (try simp only [Act.put, Row.pB0, Row.pB1, Row.pB2])
 refine wpAnyH_ready (rs := [6]) (by kernel_rfl) (by simp) ?_
 refine AllReadyH.cons (o := ⟨some 17, .call ⟨.value (.func 50), #[.tmp 16], #[31]⟩, 4, "l12_cache.go:23", #[⟨5, .data⟩], none⟩) rfl (fun K hK => ?_) AllReadyH.nil
 go_simp
 refine (sValZ true HV.out (H_d.out.on BB.out) (Nat.le_trans HDB.out (by decide))).mono ?_
 rintro e wn1 ⟨rfl, hb⟩
 replace BB := Lib.hid (BB.out.trans (hb.mono BB.out.size))
 clear hb
 (try go_wp2_with fail)
 clear hHeld
 refine hK.out _ _ ?_ (fun hHeld => ?_)
 ·
  (try dsimp only); exact ⟨kc K0.out BB.out, kc E0.out BB.out, kc E1.out BB.out, kc E2.out BB.out, kc E3.out BB.out, kc E4.out BB.out⟩
 clear hK K
 (try simp only [Act.put, Row.pB0, Row.pB1, Row.pB2])
 refine wpAnyH_take (i := 7) (oi := ⟨some 18, .unOp UnOp.not 4 (.tmp 17), 4, "l12_cache.go:23", #[⟨6, .data⟩], none⟩) (v := ?_) rfl (by kernel_rfl) (by kernel_rfl) (by kernel_rfl) (fun _ _ _ h => h) (Or.inl ⟨by rfl, ?_⟩) (by assumption) ?_
 rotate_left
 ·
  intro w' hSw; (try dsimp only at hSw); first | (go_simp; done) | (go_simp; with_reducible rfl)
 (try simp only [Act.put, Row.pB0, Row.pB1, Row.pB2])
 refine wpAnyH_take (i := 8) (oi := ⟨some 19, .move (.tmp 18), 4, "l12_cache.go:23", #[⟨7, .data⟩, ⟨6, .chain⟩], none⟩) (v := ?_) rfl (by kernel_rfl) (by kernel_rfl) (by kernel_rfl) (fun _ _ _ h => h) (Or.inl ⟨by rfl, ?_⟩) (by assumption) ?_
 rotate_left
 ·
  intro w' hSw; (try dsimp only at hSw); first | (go_simp; done) | (go_simp; with_reducible rfl)
 (try simp only [Act.put, Row.pB0, Row.pB1, Row.pB2])
 refine wpAnyH_take (i := 9) (oi := ⟨some 20, .fieldAddr 26 (.tmp 1) 1, 0, "l12_cache.go:23", #[⟨8, .guard⟩], some (8, false)⟩) (v := ?_) rfl (by kernel_rfl) (by kernel_rfl) (by kernel_rfl) (fun _ _ _ h => h) (Or.inl ⟨by rfl, ?_⟩) (by assumption) ?_
 rotate_left
 ·
  intro w' hSw; (try dsimp only at hSw); first | (go_simp; done) | (go_simp; with_reducible rfl)
 (try simp only [Act.put, Row.pB0, Row.pB1, Row.pB2])
 refine wpAnyH_take (i := 10) (oi := ⟨some 21, .load 24 (.tmp 20), 24, "l12_cache.go:23", #[⟨9, .data⟩, ⟨8, .guard⟩], some (8, false)⟩) (v := ?_) rfl (by kernel_rfl) (by kernel_rfl) (by kernel_rfl) (fun _ _ _ h => h) (Or.inl ⟨by rfl, ?_⟩) (by assumption) ?_
 rotate_left
 ·
  intro w' hSw; (try dsimp only at hSw); first | (go_simp; done) | (go_simp; with_reducible rfl)
 (try simp only [Act.put, Row.pB0, Row.pB1, Row.pB2])
 refine wpAnyH_take (i := 11) (oi := ⟨some 22, .move (.tmp 3), 3, "l12_cache.go:23", #[⟨8, .guard⟩], some (8, false)⟩) (v := ?_) rfl (by kernel_rfl) (by kernel_rfl) (by kernel_rfl) (fun _ _ _ h => h) (Or.inl ⟨by rfl, ?_⟩) (by assumption) ?_
 rotate_left
 ·
  intro w' hSw; (try dsimp only at hSw); first | (go_simp; done) | (go_simp; with_reducible rfl)
 (try simp only [Act.put, Row.pB0, Row.pB1, Row.pB2])
 refine wpAnyH_take (i := 12) (oi := ⟨some 23, .slice 24 (.tmp 21) none (some (.tmp 22)) none, 24, "l12_cache.go:23", #[⟨10, .data⟩, ⟨11, .data⟩, ⟨8, .guard⟩], some (8, false)⟩) (v := ?_) rfl (by kernel_rfl) (by kernel_rfl) (by kernel_rfl) (fun _ _ _ h => h) (Or.inl ⟨by rfl, ?_⟩) (by assumption) ?_
 rotate_left
 ·
  intro w' hSw; (try dsimp only at hSw); first | (go_simp; done) | (go_simp; with_reducible rfl)
 (try simp only [Act.put, Row.pB0, Row.pB1, Row.pB2])
 refine wpAnyH_take (i := 13) (oi := ⟨some 24, .fieldAddr 26 (.tmp 1) 1, 0, "l12_cache.go:23", #[⟨8, .guard⟩], some (8, false)⟩) (v := ?_) rfl (by kernel_rfl) (by kernel_rfl) (by kernel_rfl) (fun _ _ _ h => h) (Or.inl ⟨by rfl, ?_⟩) (by assumption) ?_
 rotate_left
 ·
  intro w' hSw; (try dsimp only at hSw); first | (go_simp; done) | (go_simp; with_reducible rfl)
 (try simp only [Act.put, Row.pB0, Row.pB1, Row.pB2])
 refine wpAnyH_take (i := 14) (oi := ⟨some 25, .load 24 (.tmp 24), 24, "l12_cache.go:23", #[⟨13, .data⟩, ⟨8, .guard⟩], some (8, false)⟩) (v := ?_) rfl (by kernel_rfl) (by kernel_rfl) (by kernel_rfl) (fun _ _ _ h => h) (Or.inl ⟨by rfl, ?_⟩) (by assumption) ?_
 rotate_left
 ·
  intro w' hSw; (try dsimp only at hSw); first | (go_simp; done) | (go_simp; with_reducible rfl)
 (try simp only [Act.put, Row.pB0, Row.pB1, Row.pB2])
 refine wpAnyH_take (i := 15) (oi := ⟨some 26, .move (.tmp 3), 3, "l12_cache.go:23", #[⟨8, .guard⟩], some (8, false)⟩) (v := ?_) rfl (by kernel_rfl) (by kernel_rfl) (by kernel_rfl) (fun _ _ _ h => h) (Or.inl ⟨by rfl, ?_⟩) (by assumption) ?_
 rotate_left
 ·
  intro w' hSw; (try dsimp only at hSw); first | (go_simp; done) | (go_simp; with_reducible rfl)
 (try simp only [Act.put, Row.pB0, Row.pB1, Row.pB2])
 refine wpAnyH_take (i := 16) (oi := ⟨some 27, .indexAddr 24 (.tmp 25) (.tmp 26), 0, "l12_cache.go:23", #[⟨14, .data⟩, ⟨15, .data⟩, ⟨8, .guard⟩], some (8, false)⟩) (v := ?_) rfl (by kernel_rfl) (by kernel_rfl) (by kernel_rfl) (fun _ _ _ h => h) (Or.inl ⟨by rfl, ?_⟩) (by assumption) ?_
 rotate_left
 ·
  intro w' hSw; (try dsimp only at hSw); first | (go_simp; done) | (go_simp; with_reducible rfl)
 (try simp only [Act.put, Row.pB0, Row.pB1, Row.pB2])
 refine wpAnyH_take (i := 17) (oi := ⟨some 28, .fieldAddr 64 (.tmp 27) 0, 0, "l12_cache.go:23", #[⟨16, .data⟩, ⟨8, .guard⟩], some (8, false)⟩) (v := ?_) rfl (by kernel_rfl) (by kernel_rfl) (by kernel_rfl) (fun _ _ _ h => h) (Or.inl ⟨by rfl, ?_⟩) (by assumption) ?_
 rotate_left
 ·
  intro w' hSw; (try dsimp only at hSw); first | (go_simp; done) | (go_simp; with_reducible rfl)
 (try simp only [Act.put, Row.pB0, Row.pB1, Row.pB2])
 refine wpAnyH_take (i := 18) (oi := ⟨some 29, .fieldAddr 31 (.tmp 28) 0, 0, "l12_cache.go:23", #[⟨17, .data⟩, ⟨8, .guard⟩], some (8, false)⟩) (v := ?_) rfl (by kernel_rfl) (by kernel_rfl) (by kernel_rfl) (fun _ _ _ h => h) (Or.inl ⟨by rfl, ?_⟩) (by assumption) ?_
 rotate_left
 ·
  intro w' hSw; (try dsimp only at hSw); first | (go_simp; done) | (go_simp; with_reducible rfl)
 (try simp only [Act.put, Row.pB0, Row.pB1, Row.pB2])
 refine wpAnyH_take (i := 19) (oi := ⟨some 30, .load 29 (.tmp 29), 29, "l12_cache.go:23", #[⟨18, .data⟩, ⟨8, .guard⟩], some (8, false)⟩) (v := ?_) rfl (by kernel_rfl) (by kernel_rfl) (by kernel_rfl) (fun _ _ _ h => h) (Or.inl ⟨by rfl, ?_⟩) (by assumption) ?_
 rotate_left
 ·
  intro w' hSw; (try dsimp only at hSw); first | (go_simp; done) | (go_simp; with_reducible rfl)
 (try simp only [Act.put, Row.pB0, Row.pB1, Row.pB2])
 refine wpAnyH_ready (rs := [20]) (by kernel_rfl) (by simp) ?_
 refine AllReadyH.cons (o := ⟨some 31, .call ⟨.value (.func 51), #[.tmp 23, .tmp 30], #[24, 29]⟩, 3, "l12_cache.go:23", #[⟨12, .data⟩, ⟨19, .data⟩, ⟨8, .chain⟩, ⟨8, .guard⟩], some (8, false)⟩) rfl (fun K hK => ?_) AllReadyH.nil
 go_simp
 refine (sFindE _ _ (l.take k) d.1 _ r HR.out (H_l.out.on BB.out) (H_a.out.on BB.out) HLL.out HLP.out HAB.out).mono ?_
 rintro e wn2 ⟨rfl, hb⟩
 replace BB := Lib.hid (BB.out.trans (hb.mono BB.out.size))
 clear hb
 (try go_wp2_with fail)
 clear hHeld
 refine hK.out _ _ ?_ (fun hHeld => ?_)
 ·
  (try dsimp only); exact ⟨kc K0.out BB.out, kc E0.out BB.out, kc E1.out BB.out, kc E2.out BB.out, kc E3.out BB.out, kc E4.out BB.out⟩
 clear hK K
 (try simp only [Act.put, Row.pB0, Row.pB1, Row.pB2])
 refine wpAnyH_take (i := 21) (oi := ⟨some 32, .binOp BinOp.geq 3 (.tmp 31) (.const (Value.int IntKind.i64 0)) 3, 4, "l12_cache.go:23", #[⟨20, .data⟩, ⟨8, .guard⟩], some (8, false)⟩) (v := ?_) rfl (by kernel_rfl) (by kernel_rfl) (by kernel_rfl) (fun _ _ _ h => h) (Or.inl ⟨by rfl, ?_⟩) (by assumption) ?_
 rotate_left
 ·
  intro w' hSw; (try dsimp only at hSw); first | (go_simp; done) | (go_simp; with_reducible rfl)
 (try simp only [Act.put, Row.pB0, Row.pB1, Row.pB2])
 refine wpAnyH_take (i := 22) (oi := ⟨some 33, .pick (.tmp 19) (.const (Value.bool true)) (.tmp 32), 4, "l12_cache.go:23", #[⟨8, .data⟩, ⟨21, .data⟩], none⟩) (v := ?_) rfl (by kernel_rfl) (by kernel_rfl) (by kernel_rfl) (fun _ _ _ h => h) (Or.inl ⟨by rfl, ?_⟩) (by assumption) ?_
 rotate_left
 ·
  intro w' hSw; (try dsimp only at hSw); first | (go_simp; done) | (go_simp; with_reducible rfl)
 (try simp only [Act.put, Row.pB0, Row.pB1, Row.pB2])
 refine wpAnyH_done (by kernel_rfl) ?_ _
 exact NoPanic.normal (HQ.out _ _ _ _ _ _ _ _ _ _ _ _ _ _ _ _ _ _ _ _ _ _  _  BB.out)
theorem kLCe_take {w : World} {x : Option Addr} {n cap k : Nat} {l : List Cet} (h : kLCe.At w (.slice x n cap) l) (hk : k ≤ l.length) : kLCe.At w (.slice x k cap) (l.take k) := by
  obtain ⟨ad, n', cap', L, e, hn, rfl, hh, hel⟩ := kLCe_at h
  cases e
  rw [List.length_map] at hk
  exact ⟨⟨x, k, cap, L.take k⟩, rfl, by show (L.take k).map kCe.strip = _; rw [List.map_take], hh.take szCe_cells hk, fun y hy => hel y (List.mem_of_mem_take hy)⟩
def FitC (x : Cnt) : Prop := wtCn x ≤ 1100000
theorem FitC.len {x : Cnt} (h : FitC x) : x.2.length ≤ 9000000 := Nat.le_trans (bulkK_len wtCe x.2) (Nat.le_trans (show bulkK wtCe x.2 ≤ 1100000 from h) (by decide))
theorem FitC.len' {x : Cnt} (h : FitC x) : x.2.length ≤ 1100000 := Nat.le_trans (bulkK_len wtCe x.2) (show bulkK wtCe x.2 ≤ 1100000 from h)
theorem FitC.each {x : Cnt} (h : FitC x) : ∀ e ∈ x.2, wtCe e ≤ 1200000 := fun e he => Nat.le_trans (bulkK_mem he) (Nat.le_trans (show bulkK wtCe x.2 ≤ 1100000 from h) (by decide))
set_option maxHeartbeats 8000000 in
theorem specValidContentStore (V : Value) (x : Cnt) (w : World) (z : Bool) (hz : validC x = z) (h : kCn.At w V x) (hp : FitC x) :
    Calls Tryz.prog 27 #[V] w fun e w' => e = .returned (.bool z) ∧ Below w.heap.size w w' := by
  obtain ⟨x1_0, n1_0, c1_0, rfl, g1⟩ := kCn_at h
  have hp9 := hp.each; have hl := hp.len
  obtain ⟨cc, l⟩ := x
  dsimp only at g1 hp9 hl hz ⊢
  clear hp
  have hp := hp9; clear hp9 h
  have h := g1; clear g1
  have b1 := (Below.refl w.heap.size w).alloc (Nat.le_refl _) (.cells #[.int .i64 cc, .slice x1_0 n1_0 c1_0] 26)
  obtain ⟨x, n, cx, L, e9, hn, ht, hh, hel⟩ := kLCe_at h
  cases e9
  have hlen : l.length = n1_0 := by rw [← ht, List.length_map]; exact hn.symm
  rw [hlen] at hl
  have hcap : n1_0 ≤ c1_0 := by obtain ⟨x', n', cap', hv, hn', hc', -⟩ := hh.shapeN; cases hv; exact hc'
  have hz2 := hz
  unfold validC at hz2
  dsimp only at hz2
  rw [hlen] at hz2
  have HX := Lib.hid (Ret.Blk.new w #[.int .i64 cc, .slice x1_0 n1_0 c1_0] 26)
  have HAT := Lib.hid h; have HB := Lib.hid b1; have HZ := Lib.hid hz2
  have HN := Lib.hid hn; have HT := Lib.hid ht; have HH := Lib.hid hh; have HEL := Lib.hid hel; have HLEN := Lib.hid hlen; have HP := Lib.hid hp
  clear b1 hz hz2 hn ht hh hel hlen hp h
  go_enter Tryz.func27, Tryz.ntmps27
  go_wp2
  go_loopw [3] (fun iv wr => ∃ i : Nat, i ≤ n1_0 ∧ iv = .int .i64 i ∧ Hid (validE l i = true) ∧ Hid (Ret.Blk wr w.heap.size #[.int .i64 cc, .slice x1_0 n1_0 c1_0] 26) ∧ Hid (Below w.heap.size w wr)) (fun iv _ => n1_0 - (intOf iv).toNat)
  case atStart => exact ⟨0, Nat.zero_le _, rfl, Lib.hid rfl, HX, HB⟩
  case round =>
    obtain ⟨k, hk, rfl, ha, hx, hb⟩ := hrel
    have q0 : wr.cell? ⟨w.heap.size, 0, none⟩ = some (.int .i64 cc) := hx.out.cell 0
    have q1 : wr.cell? ⟨w.heap.size, 1, none⟩ = some (.slice x1_0 n1_0 c1_0) := hx.out.cell 1
    by_cases hlt : k < n1_0
    · have hlen := HN.out
      obtain ⟨b, off, y0, m0, d0, y1, m1, d1, y2, m2, d2, rfl, -, hc0, hc1, hc2, hc3, hc4, hc5, hA⟩ := kLCe_elem (HH.out.on hb.out) (fun y hy => kCe.holds_on (HEL.out y hy) hb.out) (j := k) (by omega)
      have hpt : nth l k = kCe.strip (nth L k) := by rw [← HT.out, nth_map _ (by omega)]
      have hps := HP.out (nth l k) (nth_mem (by have := HLEN.out; omega))
      rw [← hpt] at hA hc3 hc4 hc5
      obtain ⟨hD, hNM⟩ := kCe_parts hA
      have HA := Lib.hid hA; have HD := Lib.hid hD; have HNM := Lib.hid hNM; have HPS := Lib.hid hps; have HPD := Lib.hid (show wtDz (nth l k).1 ≤ 1200000 from hps); have HPN := Lib.hid (show bulk (nth l k).1.1 ≤ 1200000 from (wtDz_lens _ hps).1)
      have H0 := Lib.hid hc0; have H1 := Lib.hid hc1; have H2 := Lib.hid hc2; have H3 := Lib.hid hc3; have H4 := Lib.hid hc4; have H5 := Lib.hid hc5
      clear hlen hpt hps hA hD hNM
      have HTK := Lib.hid (kLCe_take (k := k) (HAT.out.on hb.out) (by have := HLEN.out; omega))
      have HTL := Lib.hid (show (l.take k).length ≤ 9000000 by rw [List.length_take]; omega)
      have HTP := Lib.hid (fun x hx => HP.out x (List.mem_of_mem_take hx) : ∀ x ∈ l.take k, wtCe x ≤ 1200000)
      obtain ⟨v, hv⟩ : ∃ v, validD (nth l k).1 = v := ⟨_, rfl⟩
      obtain ⟨r, hr⟩ : ∃ r, ixL (isE (nth l k).1.1) (l.take k) = r := ⟨_, rfl⟩
      have HV := Lib.hid hv; have HR := Lib.hid hr; clear hv hr hc0 hc1 hc2 hc3 hc4 hc5
      go_wp2_with fail
      clear q0 q1
      cases v with
      | false =>
        refine rvc0 hlt (by omega) hl HV HD HPD (Lib.hid (hx.out.cell 1)) H0 H1 H2 H3 H4 ?_
        intro u11 u12 u13 u14 u15 u16 u17 u18 u19 u20 u21 u22 u23 u24 u25 u26 u27 u28 u29 u30 u31 u32 wx hbx
        have hb2 := Lib.hid (hb.out.trans (hbx.mono hb.out.size))
        have HE : Hid (z = false) := Lib.hid (by
          rw [← HZ.out, validE_le (k := k + 1) (by unfold validE; rw [HV.out]; simp) (by omega)]; rfl)
        clear hbx
        go_wp2
        go_ret
        exact ⟨ret_bool HE.out.symm, hb2.out⟩
      | true =>
        refine rvc1 (l := l) hlt (by omega) hl HV HD HPD HNM HPN HR HTK HTL HTP (Lib.hid (hx.out.cell 1)) H0 H1 H2 H3 H4 ?_
        intro u11 u12 u13 u14 u15 u16 u17 u18 u19 u20 u21 u22 u23 u24 u25 u26 u27 u28 u29 u30 u31 u32 wx hbx
        have hb2 := Lib.hid (hb.out.trans (hbx.mono hb.out.size)); have hx2 := Lib.hid (hx.out.on hbx)
        clear hbx
        by_cases h0 : 0 ≤ r
        · have HE : Hid (z = false) := Lib.hid (by
            rw [← HZ.out, validE_le (k := k + 1) (by unfold validE; rw [any_find, HR.out, decide_eq_true h0]; simp) (by omega)]; rfl)
          have t0 : decide (0 ≤ r) = true := decide_eq_true h0
          go_wp2
          go_ret
          exact ⟨ret_bool HE.out.symm, hb2.out⟩
        · have t0 : decide (0 ≤ r) = false := decide_eq_false h0
          have HA2 : Hid (validE l (k + 1) = true) := Lib.hid (by unfold validE; rw [ha.out, any_find, HR.out, t0, HV.out]; rfl)
          go_wp2
          go_roundw
          case rel => exact ⟨k + 1, by omega, by go_num, HA2, hx2, hb2⟩
          case measure => simp [intOf]; omega
    · obtain rfl : k = n1_0 := by omega
      clear hlt
      have HZ2 : Hid ((Num.inB cc 0 8 && decide ((k : Int) ≤ cc)) = z) := Lib.hid (by rw [← HZ.out, ha.out]; rfl)
      obtain ⟨q, hq⟩ : ∃ q, Num.inB cc 0 8 = q := ⟨_, rfl⟩
      have HQ := Lib.hid hq; clear hq
      go_wp2_with fail
      refine (sInV q HQ.out).mono ?_
      rintro e w1 ⟨rfl, hb1⟩
      have hx2 := Lib.hid (hx.out.on hb1); have hb2 := Lib.hid (hb.out.trans (hb1.mono hb.out.size))
      clear hb1 q0 q1
      have q0 : w1.cell? ⟨w.heap.size, 0, none⟩ = some (.int .i64 cc) := hx2.out.cell 0
      have q1 : w1.cell? ⟨w.heap.size, 1, none⟩ = some (.slice x1_0 k c1_0) := hx2.out.cell 1
      have HZ3 : Hid ((q && decide ((k : Int) ≤ cc)) = z) := Lib.hid (by rw [← HZ2.out, HQ.out])
      cases q with
      | false =>
        go_wp2
        go_ret
        exact ⟨ret_bool HZ3.out, hb2.out⟩
      | true =>
        go_wp2
        go_ret
        exact ⟨ret_bool (by rw [← HZ3.out]; simp), hb2.out⟩
end Go.Proofs.YtfglcmanmfenpaaGreat.Row
/- Rows of entries that grow by one, stores as results. No conditions. -/
namespace Go.Proofs.YtfglcmanmfenpaaGreat.Row
open Go.ChangeShapes Go.WideShapes Go.ChangeAt Go.RowKit Go.Instr
set_option linter.unusedVariables false
set_option maxRecDepth 100000
theorem kCe_own {B E : Nat} {w : World} {m : Dzm} (h : kDz.Own B E w m) (u : Int) (hBE : B ≤ E) : kCe.Own B E w (m, u) := Kd.Own.pair h (Kd.own_scalar E E w u) hBE (Nat.le_refl _)
theorem ce_grow {B : Nat} {wr w1 W w4 : World} {r : Rw Cem} {m1 : Dzm} {u : Int} {x4 : Option Addr} {n4 c4 : Nat} (h : kLCe.Own B wr.heap.size wr r) (hb1 : Below wr.heap.size wr w1) (hm : kDz.Own wr.heap.size w1.heap.size w1 m1) (hbW : Below w1.heap.size w1 W)
    (ho : OwnK 64 kCe.cells 6 B w4 (.slice x4 n4 c4) (r.els ++ [((m1, u) : Cem)])) (hg : W.grownBy w4 r.v.ownBlock) (hB : B ≤ wr.heap.size) : kLCe.Own B w4.heap.size w4 ⟨x4, n4, c4, r.els ++ [((m1, u) : Cem)]⟩ :=
  Kd.push_later noRow_kCe ((h.on hb1).on (hbW.mono (Nat.le_refl _))) (kCe_own (hm.on hbW) u hb1.size) hB ho hg
theorem ce_grow2 {B : Nat} {wr w1 W w4 : World} {r : Rw Cem} {m1 : Cem} {x4 : Option Addr} {n4 c4 : Nat} (h : kLCe.Own B wr.heap.size wr r) (hb1 : Below wr.heap.size wr w1) (hm : kCe.Own wr.heap.size w1.heap.size w1 m1) (hbW : Below w1.heap.size w1 W)
    (ho : OwnK 64 kCe.cells 6 B w4 (.slice x4 n4 c4) (r.els ++ [m1])) (hg : W.grownBy w4 r.v.ownBlock) (hB : B ≤ wr.heap.size) : kLCe.Own B w4.heap.size w4 ⟨x4, n4, c4, r.els ++ [m1]⟩ :=
  Kd.push_later noRow_kCe ((h.on hb1).on hbW) (hm.on hbW) hB ho hg
theorem le_nil (B : Nat) (w : World) : kLCe.Own B w.heap.size w ⟨none, 0, 0, []⟩ := Kd.own_row (OwnK.nil _ _ _ _ _) rfl
theorem cn_own {B E : Nat} {w : World} {r : Rw Cem} {cc : Int} (h : kLCe.Own B E w r) (hBE : B ≤ E) : kCn.Own B E w (cc, r) := Kd.Own.pair (Kd.own_scalar B B w cc) h (Nat.le_refl _) hBE
theorem cn_in {B B' E : Nat} {w : World} {x : Option Addr} {n c : Nat} {L : List Cem} {cc : Int} {l : List Cet} (h : kLCe.Own B' E w ⟨x, n, c, L⟩) (hB : B ≤ B') (hl : L.map kCe.strip = l) (hBE : B ≤ E) : kCn.In B E w (.agg #[.int .i64 cc, .slice x n c]) (cc, l) := by
  subst hl
  exact (cn_own (cc := cc) (h.mono hB (Nat.le_refl _)) hBE).in
theorem cn_of {w : World} {V : Value} {cc : Int} {l : List Cet} (h : kLCe.At w V l) : kCn.At w (.agg #[.int .i64 cc, V]) (cc, l) := by
  obtain ⟨x, n, c, rfl, h⟩ := kLCe_shapeA h
  exact kCn_of (x := (cc, l)) h
theorem aggSt : Ret.AggOf Tryz.prog 60 2 := ⟨by kernel_rfl, by kernel_rfl⟩
theorem own_setS {α M : Type} {k : Kd α M} {B g i : Nat} {u : Value} {w : World} {m : M} (h : k.Own B w.heap.size w m) (hg : g < B) : k.Own B (w.setCell ⟨g, i, none⟩ u).heap.size (w.setCell ⟨g, i, none⟩ u) m := by
  rw [World.size_setCell]; exact h.set hg
theorem FitC.fields {cc : Int} {l : List Cet} (h : FitC (cc, l)) : l.length ≤ 1100000 ∧ ∀ e ∈ l, wtCe e ≤ 1200000 := ⟨h.len', h.each⟩
theorem one_ce {W : World} {m1 : Dzm} {u : Int} {g : Nat} {a b c : Value} {f s : Int} (hd : kDz.cells m1 = [a, b, c, .int .i64 f, .int .i64 s]) (hg : g = W.heap.size) : HoldsK kCe.cells 6 (W.alloc (.cells #[a, b, c, .int .i64 f, .int .i64 s, .int .i64 u] 64)) (.slice (some ⟨g, 0, none⟩) 1 1) [((m1, u) : Cem)] := by
  subst hg
  have h := holdsK_one szCe_cells 64 W ((m1, u) : Cem)
  have e : kCe.cells ((m1, u) : Cem) = [a, b, c, .int .i64 f, .int .i64 s, .int .i64 u] := by
    show kDz.cells m1 ++ kInt.cells u = _
    rw [hd]; rfl
  rw [e] at h
  exact h
theorem one_ce2 {W : World} {m1 : Cem} {g : Nat} {cs : List Value} (hd : kCe.cells m1 = cs) (hg : g = W.heap.size) : HoldsK kCe.cells 6 (W.alloc (.cells cs.toArray 64)) (.slice (some ⟨g, 0, none⟩) 1 1) [m1] := by
  subst hg
  subst hd
  exact holdsK_one szCe_cells 64 W m1
theorem kDz_split {B E : Nat} {w : World} {V : Value} {x : Dzt} (h : kDz.In B E w V x) : ∃ (m1 : Dzm) (ya : Option Addr) (ma da : Nat) (yb : Option Addr) (mb db : Nat) (yc : Option Addr) (mc dc_ : Nat), V = .agg #[.slice ya ma da, .slice yb mb db, .slice yc mc dc_, .int .i64 x.2.2.2.1, .int .i64 x.2.2.2.2] ∧ kDz.strip m1 = x ∧ kDz.cells m1 = [.slice ya ma da, .slice yb mb db, .slice yc mc dc_, .int .i64 x.2.2.2.1, .int .i64 x.2.2.2.2] ∧ kDz.Own B E w m1 := by
  obtain ⟨m1, rfl, rfl, ho⟩ := h.split
  obtain ⟨ya, ma, da, yb, mb, db, yc, mc, dc_, e, -⟩ := kDz_shapeA (Kd.at_of (k := kDz) ho.holds)
  exact ⟨m1, ya, ma, da, yb, mb, db, yc, mc, dc_, e, rfl, by injection e with e; exact congrArg Array.toList e, ho⟩
theorem kCe_split {B E : Nat} {w : World} {V : Value} {x : Cet} (h : kCe.In B E w V x) : ∃ (m1 : Cem) (ya : Option Addr) (ma da : Nat) (yb : Option Addr) (mb db : Nat) (yc : Option Addr) (mc dc_ : Nat), V = .agg #[.slice ya ma da, .slice yb mb db, .slice yc mc dc_, .int .i64 x.1.2.2.2.1, .int .i64 x.1.2.2.2.2, .int .i64 x.2] ∧ kCe.strip m1 = x ∧ kCe.cells m1 = [.slice ya ma da, .slice yb mb db, .slice yc mc dc_, .int .i64 x.1.2.2.2.1, .int .i64 x.1.2.2.2.2, .int .i64 x.2] ∧ kCe.Own B E w m1 := by
  obtain ⟨m1, rfl, rfl, ho⟩ := h.split
  obtain ⟨ya, ma, da, yb, mb, db, yc, mc, dc_, e, -⟩ := kCe_shapeA (Kd.at_of (k := kCe) ho.holds)
  exact ⟨m1, ya, ma, da, yb, mb, db, yc, mc, dc_, e, rfl, by injection e with e; exact congrArg Array.toList e, ho⟩
end Go.Proofs.YtfglcmanmfenpaaGreat.Row
