/- Contracts and mathematics, joined: CacheI. No conditions but those that each states. -/
import Derived.WalkKit
import Derived.Deep.RegionHeld3
import Derived.Test.YtfglcmanmfenpaaGreatB9
/- The program's search in a content store, isNamed, ValidContentStore; NewContentStore, model and program. No conditions but that lengths fit. -/
namespace Go.Proofs.YtfglcmanmfenpaaGreat.Row
open Go.ChangeShapes Go.WideShapes Go.ChangeAt Go.RowKit Go.Instr
set_option linter.unusedVariables false
set_option maxRecDepth 100000
set_option maxHeartbeats 2000000 in
theorem closNd (b : Nat) (y : Option Addr) (q cy : Nat) (m : List ByteArray) (w : World) (row : Option Nat) (hr : some b ≠ row) (hc : Ret.Blk w b #[.slice y q cy] 29) (hg : ∀ W, w.grownBy W row → kN.At W (.agg #[.slice y q cy]) m) (hm : bulk m ≤ 1200000) :
    ClosR Tryz.prog kCe 72 #[.pointer (some ⟨b, 0, none⟩)] (isE m) (fun x => wtCe x ≤ 1200000) w row := by
  intro x V W hW hx hxl
  obtain ⟨x0, n0, c0, x1, n1, c1, x2, n2, c2, rfl, hx⟩ := kCe_shapeA hx
  have hcW := hc.grown hW hr
  have hB := (Below.refl W.heap.size W).alloc (Nat.le_refl _) (.cells #[.slice x0 n0 c0, .slice x1 n1 c1, .slice x2 n2 c2, .int .i64 x.1.2.2.2.1, .int .i64 x.1.2.2.2.2, .int .i64 x.2] 64)
  have hcA := hcW.on hB
  have hX := Ret.Blk.new W #[.slice x0 n0 c0, .slice x1 n1 c1, .slice x2 n2 c2, .int .i64 x.1.2.2.2.1, .int .i64 x.1.2.2.2.2, .int .i64 x.2] 64
  have q0 : (W.alloc (.cells #[.slice x0 n0 c0, .slice x1 n1 c1, .slice x2 n2 c2, .int .i64 x.1.2.2.2.1, .int .i64 x.1.2.2.2.2, .int .i64 x.2] 64)).cell? ⟨b, 0, none⟩ = some (.slice y q cy) := hcA.cell 0
  have q1 : (W.alloc (.cells #[.slice x0 n0 c0, .slice x1 n1 c1, .slice x2 n2 c2, .int .i64 x.1.2.2.2.1, .int .i64 x.1.2.2.2.2, .int .i64 x.2] 64)).cell? ⟨W.heap.size, 0, none⟩ = some (.slice x0 n0 c0) := hX.cell 0
  have HNM := Lib.hid ((kCe_parts hx).2.on hB)
  have HG := Lib.hid ((hg W hW).on hB)
  have HB := Lib.hid hB
  have HXL := Lib.hid (show bulk x.1.1 ≤ 9000000 from Nat.le_trans (wtDz_lens x.1 (show wtDz x.1 ≤ 1200000 from hxl)).1 (by decide))
  have HM := Lib.hid (Nat.le_trans hm (by decide) : bulk m ≤ 9000000)
  clear hcW hB hcA hX hx hg hc hW hxl hr hm
  go_enter Tryz.func72, Tryz.ntmps72
  go_wp2_with fail
  refine (iEqK _ rfl HNM.out HG.out HXL.out HM.out).mono ?_
  rintro e w1 ⟨rfl, hb⟩
  have HB2 := Lib.hid (HB.out.trans (hb.mono HB.out.size)); clear hb
  go_wp2_with fail
  go_ret
  exact ⟨rfl, HB2.out⟩
theorem iNamed (y : Option Addr) (q cy : Nat) (w : World) :
    Calls Tryz.prog 36 #[.agg #[.slice y q cy]] w fun e w' => ∃ g, e = .returned (.func (.func 72) #[] #[.pointer (some ⟨g, 0, none⟩)]) ∧ w.heap.size ≤ g ∧ Ret.Blk w' g #[.slice y q cy] 29 ∧ Below w.heap.size w w' := by
  have HX := Lib.hid (Ret.Blk.new w #[.slice y q cy] 29)
  have HB := Lib.hid ((Below.refl w.heap.size w).alloc (Nat.le_refl _) (.cells #[.slice y q cy] 29))
  have hmf : ∀ (fn : Fn) (first cap : Array Value) (w : World), (Instr.makeFunc fn first cap).run Tryz.prog w = .ok (.func fn first cap) w := fun _ _ _ _ => rfl
  go_enter Tryz.func36, Tryz.ntmps36
  go_wp2
  go_ret
  exact ⟨_, rfl, Nat.le_refl _, HX.out, HB.out⟩
set_option maxHeartbeats 2000000 in
theorem indexNd (b0 : Addr) (p : Cet → Bool) (ok : Cet → Prop) (v : Value) (l : List Cet) (w : World) (z : Int) (hz : ixL p l = z) (h : kLCe.At w v l) (hl : l.length ≤ 9000000) (hp : ∀ x ∈ l, ok x) (hc : ClosK Tryz.prog kCe 72 #[.pointer (some b0)] p ok w) :
    Calls Tryz.prog 76 #[v, .func (.func 72) #[] #[.pointer (some b0)]] w fun e w' => e = .returned (.int .i64 z) ∧ Below w.heap.size w w' := by
  obtain ⟨x, n, cx, L, rfl, hn, ht, hh, hel⟩ := kLCe_at h
  have hlen : l.length = n := by rw [← ht, List.length_map]; exact hn.symm
  rw [hlen] at hl
  have hcap : n ≤ cx := by obtain ⟨x', n', cap', hv, hn', hc', -⟩ := hh.shapeN; cases hv; exact hc'
  have HN := Lib.hid hn; have HT := Lib.hid ht; have HH := Lib.hid hh; have HEL := Lib.hid hel; have HLEN := Lib.hid hlen; have HP := Lib.hid hp; have HC := Lib.hid hc; have HZ := Lib.hid hz
  clear hn h hh hc hp ht hel hlen hz
  go_enter Tryz.func76, Tryz.ntmps76
  go_wp2
  go_loopw [8] (fun iv wr => ∃ i : Nat, i ≤ n ∧ iv = .int .i64 i ∧ Hid (noL p l i) ∧ Hid (Below w.heap.size w wr)) (fun iv _ => n - (intOf iv).toNat)
  case atStart => exact ⟨0, Nat.zero_le _, rfl, Lib.hid (noL_zero _ _), Lib.hid (Below.refl _ _)⟩
  case round =>
    obtain ⟨k, hk, rfl, ha, hb⟩ := hrel
    by_cases hlt : k < n
    · have hlen := HN.out
      obtain ⟨b, off, y0, m0, d0, y1, m1, d1, y2, m2, d2, rfl, -, hc0, hc1, hc2, hc3, hc4, hc5, hA⟩ := kLCe_elem (HH.out.on hb.out) (fun y hy => kCe.holds_on (HEL.out y hy) hb.out) (j := k) (by omega)
      have hpt : nth l k = kCe.strip (nth L k) := by rw [← HT.out, nth_map _ (by omega)]
      have hps := HP.out (nth l k) (nth_mem (by have := HLEN.out; omega))
      rw [hpt] at hps
      obtain ⟨q, hq⟩ : ∃ q, p (kCe.strip (nth L k)) = q := ⟨_, rfl⟩
      have HCL := HC.out _ _ wr hb.out hA hps
      rw [hq] at HCL
      rw [← hpt] at hq
      replace HCL := Lib.hid HCL
      have HQ := Lib.hid hq
      clear hlen hpt hps hA hq
      go_wp2_with fail
      refine HCL.out.mono ?_
      rintro e w2 ⟨rfl, hb2⟩
      have HB2 := Lib.hid (hb.out.trans (hb2.mono hb.out.size))
      clear hb2 hc0 hc1 hc2 hc3 hc4 hc5 HCL
      cases q with
      | true =>
        have HV := Lib.hid (show z = (k : Int) from HZ.out.symm.trans (ixL_at (by have := HLEN.out; omega) ha.out HQ.out))
        go_wp2
        go_ret
        exact ⟨ret_int HV.out.symm, HB2.out⟩
      | false =>
        have HA := Lib.hid (noL_succ ha.out HQ.out)
        go_wp2
        go_roundw
        case rel => exact ⟨k + 1, by omega, by go_num, HA, HB2⟩
        case measure => simp [intOf]; omega
    · obtain rfl : k = n := by omega
      have HV := Lib.hid (show z = -1 from HZ.out.symm.trans (ixL_none (by rw [HLEN.out]; exact ha.out)))
      clear hlt
      go_wp2
      go_ret
      exact ⟨ret_int HV.out.symm, hb.out⟩
set_option maxHeartbeats 2000000 in
theorem findNd (b0 : Addr) (p : Cet → Bool) (ok : Cet → Prop) (x : Option Addr) (n c : Nat) (cc : Int) (l : List Cet) (w : World) (z : Int) (hz : ixL p l = z) (h : kLCe.At w (.slice x n c) l) (hl : l.length ≤ 9000000) (hp : ∀ x ∈ l, ok x) (hc : ClosK Tryz.prog kCe 72 #[.pointer (some b0)] p ok w) :
    Calls Tryz.prog 41 #[.agg #[.int .i64 cc, .slice x n c], .func (.func 72) #[] #[.pointer (some b0)]] w fun e w' => e = .returned (.int .i64 z) ∧ Below w.heap.size w w' := by
  have hB := (Below.refl w.heap.size w).alloc (Nat.le_refl _) (.cells #[.int .i64 cc, .slice x n c] 60)
  have hX := Ret.Blk.new w #[.int .i64 cc, .slice x n c] 60
  have q1 : (w.alloc (.cells #[.int .i64 cc, .slice x n c] 60)).cell? ⟨w.heap.size, 1, none⟩ = some (.slice x n c) := hX.cell 1
  have HH := Lib.hid (h.on hB); have HC := Lib.hid (hc.on hB); have HP := Lib.hid hp; have HZ := Lib.hid hz; have HB := Lib.hid hB
  clear hB hX h hc hp hz
  go_enter Tryz.func41, Tryz.ntmps41
  go_wp2_with fail
  refine (indexNd b0 p ok _ l _ z HZ.out HH.out hl HP.out HC.out).mono ?_
  rintro e w1 ⟨rfl, hb⟩
  have HB2 := Lib.hid (HB.out.trans (hb.mono HB.out.size)); clear hb
  go_wp2
  go_ret
  exact ⟨rfl, HB2.out⟩
theorem iFindNd (gN : Nat) (y : Option Addr) (q cy : Nat) (m : List ByteArray) (x : Option Addr) (n c : Nat) (cc : Int) (l : List Cet) (w : World) (z : Int) (hz : ixL (isE m) l = z) (h : kLCe.At w (.slice x n c) l) (hx : Ret.Blk w gN #[.slice y q cy] 29) (hm : kN.At w (.agg #[.slice y q cy]) m) (hl : l.length ≤ 9000000) (hp : ∀ x ∈ l, wtCe x ≤ 1200000) (hmb : bulk m ≤ 1200000) :
    Calls Tryz.prog 41 #[.agg #[.int .i64 cc, .slice x n c], .func (.func 72) #[] #[.pointer (some ⟨gN, 0, none⟩)]] w fun e w' => e = .returned (.int .i64 z) ∧ Below w.heap.size w w' :=
  findNd ⟨gN, 0, none⟩ (isE m) (fun x => wtCe x ≤ 1200000) x n c cc l w z hz h hl hp (fun e V W hW => closNd gN y q cy m w none (by simp) hx (fun W hW => by
    have hb : Below w.heap.size w W := ⟨hW.os, hW.tape, hW.output, hW.size, fun i hi => hW.block i hi (by simp)⟩
    exact hm.on hb) hmb e V W (Sl.grown_of_below hW none))
set_option maxRecDepth 100000 in
set_option maxHeartbeats 4000000 in
theorem rhv0 {Q : Exit → Act → World → Prop} {v0 v2 v5 v6 v7 v8 v9 v10 v11 v12 v13 v14 v15 v16 v17 v18 v19 v20 v21 v22 v23 v24 v25 v26 v27 : Value} {w : World} {g p k na ca nb cb nc cc_ : Nat} {xa xb xc : Option Addr} {f s : Int} {d : Dzt}   (HV : Hid (validD d = false)) (H_d : Hid (kDz.At w (.agg #[.slice xa na ca, .slice xb nb cb, .slice xc nc cc_, .int .i64 f, .int .i64 s]) d)) (HDB : Hid (wtDz d ≤ 1200000)) (E0 : Hid (w.cell? ⟨p, 0, none⟩ = some (.slice xa na ca))) (E1 : Hid (w.cell? ⟨p, 1, none⟩ = some (.slice xb nb cb))) (E2 : Hid (w.cell? ⟨p, 2, none⟩ = some (.slice xc nc cc_))) (E3 : Hid (w.cell? ⟨p, 3, none⟩ = some (.int .i64 f))) (E4 : Hid (w.cell? ⟨p, 4, none⟩ = some (.int .i64 s)))
  (hQ : ∀ (u13 u14 u15 u16 u17 u18 u19 u20 u21 u22 u23 u24 u25 : Value)  (wx : World), Below w.heap.size w wx → Q .normal ⟨#[v0, .pointer (some ⟨g, 0, none⟩), v2, .int .i64 k, .pointer (some ⟨p, 0, none⟩), v5, v6, v7, v8, v9, v10, v11, v12, u13, u14, u15, u16, u17, u18, u19, u20, u21, u22, u23, u24, u25, .bool true, v27], []⟩ wx) :
  (Code.region 4 #[⟨some 13, .fieldAddr 64 (.tmp 4) 0, 0, "l12_cache.go:79", #[], none⟩,
   ⟨some 14, .load 31 (.tmp 13), 31, "l12_cache.go:79", #[⟨0, .data⟩], none⟩,
   ⟨some 15, .call ⟨.value (.func 28), #[.tmp 14], #[31]⟩, 4, "l12_cache.go:79", #[⟨1, .data⟩], none⟩,
   ⟨some 16, .unOp UnOp.not 4 (.tmp 15), 4, "l12_cache.go:79", #[⟨2, .data⟩], none⟩,
   ⟨some 17, .move (.tmp 16), 4, "l12_cache.go:79", #[⟨3, .data⟩, ⟨2, .chain⟩], none⟩,
   ⟨some 18, .load 60 (.tmp 1), 60, "l12_cache.go:79", #[⟨4, .guard⟩], some (4, false)⟩,
   ⟨some 19, .fieldAddr 64 (.tmp 4) 0, 0, "l12_cache.go:79", #[⟨4, .guard⟩], some (4, false)⟩,
   ⟨some 20, .fieldAddr 31 (.tmp 19) 0, 0, "l12_cache.go:79", #[⟨6, .data⟩, ⟨4, .guard⟩], some (4, false)⟩,
   ⟨some 21, .load 29 (.tmp 20), 29, "l12_cache.go:79", #[⟨7, .data⟩, ⟨4, .guard⟩], some (4, false)⟩,
   ⟨some 22, .call ⟨.value (.func 36), #[.tmp 21], #[29]⟩, 65, "l12_cache.go:79", #[⟨8, .data⟩, ⟨4, .chain⟩, ⟨4, .guard⟩], some (4, false)⟩,
   ⟨some 23, .call ⟨.value (.func 41), #[.tmp 18, .tmp 22], #[60, 65]⟩, 3, "l12_cache.go:79", #[⟨5, .data⟩, ⟨9, .data⟩, ⟨9, .chain⟩, ⟨4, .guard⟩], some (4, false)⟩,
   ⟨some 24, .move (.tmp 3), 3, "l12_cache.go:79", #[⟨4, .guard⟩], some (4, false)⟩,
   ⟨some 25, .binOp BinOp.lss 3 (.tmp 23) (.tmp 24) 3, 4, "l12_cache.go:79", #[⟨10, .data⟩, ⟨11, .data⟩, ⟨4, .guard⟩], some (4, false)⟩,
   ⟨some 26, .pick (.tmp 17) (.const (Value.bool true)) (.tmp 25), 4, "l12_cache.go:79", #[⟨4, .data⟩, ⟨12, .data⟩], none⟩] true).wp Tryz.prog Q ⟨#[v0, .pointer (some ⟨g, 0, none⟩), v2, .int .i64 k, .pointer (some ⟨p, 0, none⟩), v5, v6, v7, v8, v9, v10, v11, v12, v13, v14, v15, v16, v17, v18, v19, v20, v21, v22, v23, v24, v25, v26, v27], []⟩ w := by
 have HQ := Lib.hid hQ; clear hQ
 have hdr : Below w.heap.size w w.drew := (Below.refl _ _).drew
 have BB := Lib.hid hdr
 refine wp_region_noPanic ?_
 refine wp_region_held_drew (S := (fun w' => w'.cell? ⟨p, 0, none⟩ = some (.slice xa na ca) ∧ w'.cell? ⟨p, 1, none⟩ = some (.slice xb nb cb) ∧ w'.cell? ⟨p, 2, none⟩ = some (.slice xc nc cc_) ∧ w'.cell? ⟨p, 3, none⟩ = some (.int .i64 f) ∧ w'.cell? ⟨p, 4, none⟩ = some (.int .i64 s))) (by kernel_rfl) ?_ (fun hHeld => ?_)
 ·
  exact ⟨kc E0.out BB.out, kc E1.out BB.out, kc E2.out BB.out, kc E3.out BB.out, kc E4.out BB.out⟩
 clear hdr
 generalize w.drew = wd at *
 refine wpAnyH_take (i := 0) (oi := ⟨some 13, .fieldAddr 64 (.tmp 4) 0, 0, "l12_cache.go:79", #[], none⟩) (v := ?_) rfl (by kernel_rfl) (by kernel_rfl) (by kernel_rfl) (fun _ _ _ h => h) (Or.inl ⟨by rfl, ?_⟩) (by assumption) ?_
 rotate_left
 ·
  intro w' hSw; (try dsimp only at hSw); first | (go_simp; done) | (go_simp; with_reducible rfl)
 (try simp only [Act.put, Row.pB0, Row.pB1, Row.pB2])
 refine wpAnyH_take (i := 1) (oi := ⟨some 14, .load 31 (.tmp 13), 31, "l12_cache.go:79", #[⟨0, .data⟩], none⟩) (v := ?_) rfl (by kernel_rfl) (by kernel_rfl) (by kernel_rfl) (fun _ _ _ h => h) (Or.inl ⟨by rfl, ?_⟩) (by assumption) ?_
 rotate_left
 ·
  intro w' hSw; (try dsimp only at hSw); first | (go_simp; done) | (go_simp; with_reducible rfl)
 (try simp only [Act.put, Row.pB0, Row.pB1, Row.pB2])
 refine wpAnyH_ready (rs := [2]) (by kernel_rfl) (by simp) ?_
 refine AllReadyH.cons (o := ⟨some 15, .call ⟨.value (.func 28), #[.tmp 14], #[31]⟩, 4, "l12_cache.go:79", #[⟨1, .data⟩], none⟩) rfl (fun K hK => ?_) AllReadyH.nil
 go_simp
 refine (iValZ false HV.out (H_d.out.on BB.out) (Nat.le_trans HDB.out (by decide))).mono ?_
 rintro e wn1 ⟨rfl, hb⟩
 replace BB := Lib.hid (BB.out.trans (hb.mono BB.out.size))
 clear hb
 (try go_wp2_with fail)
 clear hHeld
 refine hK.out _ _ ?_ (fun hHeld => ?_)
 ·
  (try dsimp only); exact ⟨kc E0.out BB.out, kc E1.out BB.out, kc E2.out BB.out, kc E3.out BB.out, kc E4.out BB.out⟩
 clear hK K
 (try simp only [Act.put, Row.pB0, Row.pB1, Row.pB2])
 refine wpAnyH_take (i := 3) (oi := ⟨some 16, .unOp UnOp.not 4 (.tmp 15), 4, "l12_cache.go:79", #[⟨2, .data⟩], none⟩) (v := ?_) rfl (by kernel_rfl) (by kernel_rfl) (by kernel_rfl) (fun _ _ _ h => h) (Or.inl ⟨by rfl, ?_⟩) (by assumption) ?_
 rotate_left
 ·
  intro w' hSw; (try dsimp only at hSw); first | (go_simp; done) | (go_simp; with_reducible rfl)
 (try simp only [Act.put, Row.pB0, Row.pB1, Row.pB2])
 refine wpAnyH_take (i := 4) (oi := ⟨some 17, .move (.tmp 16), 4, "l12_cache.go:79", #[⟨3, .data⟩, ⟨2, .chain⟩], none⟩) (v := ?_) rfl (by kernel_rfl) (by kernel_rfl) (by kernel_rfl) (fun _ _ _ h => h) (Or.inl ⟨by rfl, ?_⟩) (by assumption) ?_
 rotate_left
 ·
  intro w' hSw; (try dsimp only at hSw); first | (go_simp; done) | (go_simp; with_reducible rfl)
 (try simp only [Act.put, Row.pB0, Row.pB1, Row.pB2])
 refine wpAnyH_take (i := 5) (oi := ⟨some 18, .load 60 (.tmp 1), 60, "l12_cache.go:79", #[⟨4, .guard⟩], some (4, false)⟩) (v := undef) rfl (by kernel_rfl) (by kernel_rfl) (by kernel_rfl) (fun _ _ _ h => h) (Or.inr ⟨by rfl, rfl⟩) (by assumption) ?_
 (try simp only [Act.put, Row.pB0, Row.pB1, Row.pB2])
 refine wpAnyH_take (i := 6) (oi := ⟨some 19, .fieldAddr 64 (.tmp 4) 0, 0, "l12_cache.go:79", #[⟨4, .guard⟩], some (4, false)⟩) (v := undef) rfl (by kernel_rfl) (by kernel_rfl) (by kernel_rfl) (fun _ _ _ h => h) (Or.inr ⟨by rfl, rfl⟩) (by assumption) ?_
 (try simp only [Act.put, Row.pB0, Row.pB1, Row.pB2])
 refine wpAnyH_take (i := 7) (oi := ⟨some 20, .fieldAddr 31 (.tmp 19) 0, 0, "l12_cache.go:79", #[⟨6, .data⟩, ⟨4, .guard⟩], some (4, false)⟩) (v := undef) rfl (by kernel_rfl) (by kernel_rfl) (by kernel_rfl) (fun _ _ _ h => h) (Or.inr ⟨by rfl, rfl⟩) (by assumption) ?_
 (try simp only [Act.put, Row.pB0, Row.pB1, Row.pB2])
 refine wpAnyH_take (i := 8) (oi := ⟨some 21, .load 29 (.tmp 20), 29, "l12_cache.go:79", #[⟨7, .data⟩, ⟨4, .guard⟩], some (4, false)⟩) (v := undef) rfl (by kernel_rfl) (by kernel_rfl) (by kernel_rfl) (fun _ _ _ h => h) (Or.inr ⟨by rfl, rfl⟩) (by assumption) ?_
 (try simp only [Act.put, Row.pB0, Row.pB1, Row.pB2])
 refine wpAnyH_take (i := 9) (oi := ⟨some 22, .call ⟨.value (.func 36), #[.tmp 21], #[29]⟩, 65, "l12_cache.go:79", #[⟨8, .data⟩, ⟨4, .chain⟩, ⟨4, .guard⟩], some (4, false)⟩) (v := undef) rfl (by kernel_rfl) (by kernel_rfl) (by kernel_rfl) (fun _ _ _ h => h) (Or.inr ⟨by rfl, rfl⟩) (by assumption) ?_
 (try simp only [Act.put, Row.pB0, Row.pB1, Row.pB2])
 refine wpAnyH_take (i := 10) (oi := ⟨some 23, .call ⟨.value (.func 41), #[.tmp 18, .tmp 22], #[60, 65]⟩, 3, "l12_cache.go:79", #[⟨5, .data⟩, ⟨9, .data⟩, ⟨9, .chain⟩, ⟨4, .guard⟩], some (4, false)⟩) (v := undef) rfl (by kernel_rfl) (by kernel_rfl) (by kernel_rfl) (fun _ _ _ h => h) (Or.inr ⟨by rfl, rfl⟩) (by assumption) ?_
 (try simp only [Act.put, Row.pB0, Row.pB1, Row.pB2])
 refine wpAnyH_take (i := 11) (oi := ⟨some 24, .move (.tmp 3), 3, "l12_cache.go:79", #[⟨4, .guard⟩], some (4, false)⟩) (v := undef) rfl (by kernel_rfl) (by kernel_rfl) (by kernel_rfl) (fun _ _ _ h => h) (Or.inr ⟨by rfl, rfl⟩) (by assumption) ?_
 (try simp only [Act.put, Row.pB0, Row.pB1, Row.pB2])
 refine wpAnyH_take (i := 12) (oi := ⟨some 25, .binOp BinOp.lss 3 (.tmp 23) (.tmp 24) 3, 4, "l12_cache.go:79", #[⟨10, .data⟩, ⟨11, .data⟩, ⟨4, .guard⟩], some (4, false)⟩) (v := undef) rfl (by kernel_rfl) (by kernel_rfl) (by kernel_rfl) (fun _ _ _ h => h) (Or.inr ⟨by rfl, rfl⟩) (by assumption) ?_
 (try simp only [Act.put, Row.pB0, Row.pB1, Row.pB2])
 refine wpAnyH_take (i := 13) (oi := ⟨some 26, .pick (.tmp 17) (.const (Value.bool true)) (.tmp 25), 4, "l12_cache.go:79", #[⟨4, .data⟩, ⟨12, .data⟩], none⟩) (v := ?_) rfl (by kernel_rfl) (by kernel_rfl) (by kernel_rfl) (fun _ _ _ h => h) (Or.inl ⟨by rfl, ?_⟩) (by assumption) ?_
 rotate_left
 ·
  intro w' hSw; (try dsimp only at hSw); first | (go_simp; done) | (go_simp; with_reducible rfl)
 (try simp only [Act.put, Row.pB0, Row.pB1, Row.pB2])
 refine wpAnyH_done (by kernel_rfl) ?_ _
 exact NoPanic.normal (HQ.out _ _ _ _ _ _ _ _ _ _ _ _ _  _  BB.out)
set_option maxRecDepth 100000 in
set_option maxHeartbeats 4000000 in
theorem rhv1 {Q : Exit → Act → World → Prop} {v0 v2 v5 v6 v7 v8 v9 v10 v11 v12 v13 v14 v15 v16 v17 v18 v19 v20 v21 v22 v23 v24 v25 v26 v27 : Value} {w : World} {b off n c g p k na ca nb cb nc cc_ : Nat} {xa xb xc : Option Addr} {f s cc : Int} {d : Dzt} {l : List Cet} {r : Int} (HV : Hid (validD d = true)) (H_d : Hid (kDz.At w (.agg #[.slice xa na ca, .slice xb nb cb, .slice xc nc cc_, .int .i64 f, .int .i64 s]) d)) (HDB : Hid (wtDz d ≤ 1200000)) (H_a : Hid (kN.At w (.agg #[.slice xa na ca]) d.1)) (HAB : Hid (bulk d.1 ≤ 1200000)) (HR : Hid (ixL (isE d.1) l = r)) (H_l : Hid (kLCe.At w (.slice (some ⟨b, off, none⟩) n c) l)) (HLL : Hid (l.length ≤ 9000000)) (HLP : Hid (∀ x ∈ l, wtCe x ≤ 1200000)) (K0 : Hid (w.cell? ⟨g, 0, none⟩ = some (.int .i64 cc))) (K1 : Hid (w.cell? ⟨g, 1, none⟩ = some (.slice (some ⟨b, off, none⟩) n c))) (E0 : Hid (w.cell? ⟨p, 0, none⟩ = some (.slice xa na ca))) (E1 : Hid (w.cell? ⟨p, 1, none⟩ = some (.slice xb nb cb))) (E2 : Hid (w.cell? ⟨p, 2, none⟩ = some (.slice xc nc cc_))) (E3 : Hid (w.cell? ⟨p, 3, none⟩ = some (.int .i64 f))) (E4 : Hid (w.cell? ⟨p, 4, none⟩ = some (.int .i64 s)))
  (hQ : ∀ (u13 u14 u15 u16 u17 u18 u19 u20 u21 u22 u23 u24 u25 : Value)  (wx : World), Below w.heap.size w wx → Q .normal ⟨#[v0, .pointer (some ⟨g, 0, none⟩), v2, .int .i64 k, .pointer (some ⟨p, 0, none⟩), v5, v6, v7, v8, v9, v10, v11, v12, u13, u14, u15, u16, u17, u18, u19, u20, u21, u22, u23, u24, u25, .bool (decide (r < (k : Int))), v27], []⟩ wx) :
  (Code.region 4 #[⟨some 13, .fieldAddr 64 (.tmp 4) 0, 0, "l12_cache.go:79", #[], none⟩,
   ⟨some 14, .load 31 (.tmp 13), 31, "l12_cache.go:79", #[⟨0, .data⟩], none⟩,
   ⟨some 15, .call ⟨.value (.func 28), #[.tmp 14], #[31]⟩, 4, "l12_cache.go:79", #[⟨1, .data⟩], none⟩,
   ⟨some 16, .unOp UnOp.not 4 (.tmp 15), 4, "l12_cache.go:79", #[⟨2, .data⟩], none⟩,
   ⟨some 17, .move (.tmp 16), 4, "l12_cache.go:79", #[⟨3, .data⟩, ⟨2, .chain⟩], none⟩,
   ⟨some 18, .load 60 (.tmp 1), 60, "l12_cache.go:79", #[⟨4, .guard⟩], some (4, false)⟩,
   ⟨some 19, .fieldAddr 64 (.tmp 4) 0, 0, "l12_cache.go:79", #[⟨4, .guard⟩], some (4, false)⟩,
   ⟨some 20, .fieldAddr 31 (.tmp 19) 0, 0, "l12_cache.go:79", #[⟨6, .data⟩, ⟨4, .guard⟩], some (4, false)⟩,
   ⟨some 21, .load 29 (.tmp 20), 29, "l12_cache.go:79", #[⟨7, .data⟩, ⟨4, .guard⟩], some (4, false)⟩,
   ⟨some 22, .call ⟨.value (.func 36), #[.tmp 21], #[29]⟩, 65, "l12_cache.go:79", #[⟨8, .data⟩, ⟨4, .chain⟩, ⟨4, .guard⟩], some (4, false)⟩,
   ⟨some 23, .call ⟨.value (.func 41), #[.tmp 18, .tmp 22], #[60, 65]⟩, 3, "l12_cache.go:79", #[⟨5, .data⟩, ⟨9, .data⟩, ⟨9, .chain⟩, ⟨4, .guard⟩], some (4, false)⟩,
   ⟨some 24, .move (.tmp 3), 3, "l12_cache.go:79", #[⟨4, .guard⟩], some (4, false)⟩,
   ⟨some 25, .binOp BinOp.lss 3 (.tmp 23) (.tmp 24) 3, 4, "l12_cache.go:79", #[⟨10, .data⟩, ⟨11, .data⟩, ⟨4, .guard⟩], some (4, false)⟩,
   ⟨some 26, .pick (.tmp 17) (.const (Value.bool true)) (.tmp 25), 4, "l12_cache.go:79", #[⟨4, .data⟩, ⟨12, .data⟩], none⟩] true).wp Tryz.prog Q ⟨#[v0, .pointer (some ⟨g, 0, none⟩), v2, .int .i64 k, .pointer (some ⟨p, 0, none⟩), v5, v6, v7, v8, v9, v10, v11, v12, v13, v14, v15, v16, v17, v18, v19, v20, v21, v22, v23, v24, v25, v26, v27], []⟩ w := by
 have HQ := Lib.hid hQ; clear hQ
 have hdr : Below w.heap.size w w.drew := (Below.refl _ _).drew
 have BB := Lib.hid hdr
 refine wp_region_noPanic ?_
 refine wp_region_held_drew (S := (fun w' => w'.cell? ⟨g, 0, none⟩ = some (.int .i64 cc) ∧ w'.cell? ⟨g, 1, none⟩ = some (.slice (some ⟨b, off, none⟩) n c) ∧ w'.cell? ⟨p, 0, none⟩ = some (.slice xa na ca) ∧ w'.cell? ⟨p, 1, none⟩ = some (.slice xb nb cb) ∧ w'.cell? ⟨p, 2, none⟩ = some (.slice xc nc cc_) ∧ w'.cell? ⟨p, 3, none⟩ = some (.int .i64 f) ∧ w'.cell? ⟨p, 4, none⟩ = some (.int .i64 s))) (by kernel_rfl) ?_ (fun hHeld => ?_)
 ·
  exact ⟨kc K0.out BB.out, kc K1.out BB.out, kc E0.out BB.out, kc E1.out BB.out, kc E2.out BB.out, kc E3.out BB.out, kc E4.out BB.out⟩
 clear hdr
 generalize w.drew = wd at *
 refine wpAnyH_take (i := 0) (oi := ⟨some 13, .fieldAddr 64 (.tmp 4) 0, 0, "l12_cache.go:79", #[], none⟩) (v := ?_) rfl (by kernel_rfl) (by kernel_rfl) (by kernel_rfl) (fun _ _ _ h => h) (Or.inl ⟨by rfl, ?_⟩) (by assumption) ?_
 rotate_left
 ·
  intro w' hSw; (try dsimp only at hSw); first | (go_simp; done) | (go_simp; with_reducible rfl)
 (try simp only [Act.put, Row.pB0, Row.pB1, Row.pB2])
 refine wpAnyH_take (i := 1) (oi := ⟨some 14, .load 31 (.tmp 13), 31, "l12_cache.go:79", #[⟨0, .data⟩], none⟩) (v := ?_) rfl (by kernel_rfl) (by kernel_rfl) (by kernel_rfl) (fun _ _ _ h => h) (Or.inl ⟨by rfl, ?_⟩) (by assumption) ?_
 rotate_left
 ·
  intro w' hSw; (try dsimp only at hSw); first | (go_simp; done) | (go_simp; with_reducible rfl)
 (try simp only [Act.put, Row.pB0, Row.pB1, Row.pB2])
 refine wpAnyH_ready (rs := [2]) (by kernel_rfl) (by simp) ?_
 refine AllReadyH.cons (o := ⟨some 15, .call ⟨.value (.func 28), #[.tmp 14], #[31]⟩, 4, "l12_cache.go:79", #[⟨1, .data⟩], none⟩) rfl (fun K hK => ?_) AllReadyH.nil
 go_simp
 refine (iValZ true HV.out (H_d.out.on BB.out) (Nat.le_trans HDB.out (by decide))).mono ?_
 rintro e wn1 ⟨rfl, hb⟩
 replace BB := Lib.hid (BB.out.trans (hb.mono BB.out.size))
 clear hb
 (try go_wp2_with fail)
 clear hHeld
 refine hK.out _ _ ?_ (fun hHeld => ?_)
 ·
  (try dsimp only); exact ⟨kc K0.out BB.out, kc K1.out BB.out, kc E0.out BB.out, kc E1.out BB.out, kc E2.out BB.out, kc E3.out BB.out, kc E4.out BB.out⟩
 clear hK K
 (try simp only [Act.put, Row.pB0, Row.pB1, Row.pB2])
 refine wpAnyH_take (i := 3) (oi := ⟨some 16, .unOp UnOp.not 4 (.tmp 15), 4, "l12_cache.go:79", #[⟨2, .data⟩], none⟩) (v := ?_) rfl (by kernel_rfl) (by kernel_rfl) (by kernel_rfl) (fun _ _ _ h => h) (Or.inl ⟨by rfl, ?_⟩) (by assumption) ?_
 rotate_left
 ·
  intro w' hSw; (try dsimp only at hSw); first | (go_simp; done) | (go_simp; with_reducible rfl)
 (try simp only [Act.put, Row.pB0, Row.pB1, Row.pB2])
 refine wpAnyH_take (i := 4) (oi := ⟨some 17, .move (.tmp 16), 4, "l12_cache.go:79", #[⟨3, .data⟩, ⟨2, .chain⟩], none⟩) (v := ?_) rfl (by kernel_rfl) (by kernel_rfl) (by kernel_rfl) (fun _ _ _ h => h) (Or.inl ⟨by rfl, ?_⟩) (by assumption) ?_
 rotate_left
 ·
  intro w' hSw; (try dsimp only at hSw); first | (go_simp; done) | (go_simp; with_reducible rfl)
 (try simp only [Act.put, Row.pB0, Row.pB1, Row.pB2])
 refine wpAnyH_take (i := 5) (oi := ⟨some 18, .load 60 (.tmp 1), 60, "l12_cache.go:79", #[⟨4, .guard⟩], some (4, false)⟩) (v := ?_) rfl (by kernel_rfl) (by kernel_rfl) (by kernel_rfl) (fun _ _ _ h => h) (Or.inl ⟨by rfl, ?_⟩) (by assumption) ?_
 rotate_left
 ·
  intro w' hSw; (try dsimp only at hSw); first | (go_simp; done) | (go_simp; with_reducible rfl)
 (try simp only [Act.put, Row.pB0, Row.pB1, Row.pB2])
 refine wpAnyH_take (i := 6) (oi := ⟨some 19, .fieldAddr 64 (.tmp 4) 0, 0, "l12_cache.go:79", #[⟨4, .guard⟩], some (4, false)⟩) (v := ?_) rfl (by kernel_rfl) (by kernel_rfl) (by kernel_rfl) (fun _ _ _ h => h) (Or.inl ⟨by rfl, ?_⟩) (by assumption) ?_
 rotate_left
 ·
  intro w' hSw; (try dsimp only at hSw); first | (go_simp; done) | (go_simp; with_reducible rfl)
 (try simp only [Act.put, Row.pB0, Row.pB1, Row.pB2])
 refine wpAnyH_take (i := 7) (oi := ⟨some 20, .fieldAddr 31 (.tmp 19) 0, 0, "l12_cache.go:79", #[⟨6, .data⟩, ⟨4, .guard⟩], some (4, false)⟩) (v := ?_) rfl (by kernel_rfl) (by kernel_rfl) (by kernel_rfl) (fun _ _ _ h => h) (Or.inl ⟨by rfl, ?_⟩) (by assumption) ?_
 rotate_left
 ·
  intro w' hSw; (try dsimp only at hSw); first | (go_simp; done) | (go_simp; with_reducible rfl)
 (try simp only [Act.put, Row.pB0, Row.pB1, Row.pB2])
 refine wpAnyH_take (i := 8) (oi := ⟨some 21, .load 29 (.tmp 20), 29, "l12_cache.go:79", #[⟨7, .data⟩, ⟨4, .guard⟩], some (4, false)⟩) (v := ?_) rfl (by kernel_rfl) (by kernel_rfl) (by kernel_rfl) (fun _ _ _ h => h) (Or.inl ⟨by rfl, ?_⟩) (by assumption) ?_
 rotate_left
 ·
  intro w' hSw; (try dsimp only at hSw); first | (go_simp; done) | (go_simp; with_reducible rfl)
 (try simp only [Act.put, Row.pB0, Row.pB1, Row.pB2])
 refine wpAnyH_take (i := 11) (oi := ⟨some 24, .move (.tmp 3), 3, "l12_cache.go:79", #[⟨4, .guard⟩], some (4, false)⟩) (v := ?_) rfl (by kernel_rfl) (by kernel_rfl) (by kernel_rfl) (fun _ _ _ h => h) (Or.inl ⟨by rfl, ?_⟩) (by assumption) ?_
 rotate_left
 ·
  intro w' hSw; (try dsimp only at hSw); first | (go_simp; done) | (go_simp; with_reducible rfl)
 (try simp only [Act.put, Row.pB0, Row.pB1, Row.pB2])
 refine wpAnyH_ready (rs := [9]) (by kernel_rfl) (by simp) ?_
 refine AllReadyH.cons (o := ⟨some 22, .call ⟨.value (.func 36), #[.tmp 21], #[29]⟩, 65, "l12_cache.go:79", #[⟨8, .data⟩, ⟨4, .chain⟩, ⟨4, .guard⟩], some (4, false)⟩) rfl (fun K hK => ?_) AllReadyH.nil
 go_simp
 refine (iNamed _ _ _ _).mono ?_
 rintro e wn2 ⟨gN, rfl, hgN, hXN, hb⟩
 have HXN := Lib.hid hXN; clear hXN hgN
 replace BB := Lib.hid (BB.out.trans (hb.mono BB.out.size))
 clear hb
 (try go_wp2_with fail)
 clear hHeld
 refine hK.out _ _ ?_ (fun hHeld => ?_)
 ·
  (try dsimp only); exact ⟨kc K0.out BB.out, kc K1.out BB.out, kc E0.out BB.out, kc E1.out BB.out, kc E2.out BB.out, kc E3.out BB.out, kc E4.out BB.out⟩
 clear hK K
 (try simp only [Act.put, Row.pB0, Row.pB1, Row.pB2])
 refine wpAnyH_ready (rs := [10]) (by kernel_rfl) (by simp) ?_
 refine AllReadyH.cons (o := ⟨some 23, .call ⟨.value (.func 41), #[.tmp 18, .tmp 22], #[60, 65]⟩, 3, "l12_cache.go:79", #[⟨5, .data⟩, ⟨9, .data⟩, ⟨9, .chain⟩, ⟨4, .guard⟩], some (4, false)⟩) rfl (fun K hK => ?_) AllReadyH.nil
 go_simp
 refine (iFindNd gN _ _ _ d.1 _ _ _ cc l _ r HR.out (H_l.out.on BB.out) HXN.out (H_a.out.on BB.out) HLL.out HLP.out HAB.out).mono ?_
 rintro e wn3 ⟨rfl, hb⟩
 replace HXN := Lib.hid (HXN.out.on hb)
 replace BB := Lib.hid (BB.out.trans (hb.mono BB.out.size))
 clear hb
 (try go_wp2_with fail)
 clear hHeld
 refine hK.out _ _ ?_ (fun hHeld => ?_)
 ·
  (try dsimp only); exact ⟨kc K0.out BB.out, kc K1.out BB.out, kc E0.out BB.out, kc E1.out BB.out, kc E2.out BB.out, kc E3.out BB.out, kc E4.out BB.out⟩
 clear hK K
 (try simp only [Act.put, Row.pB0, Row.pB1, Row.pB2])
 refine wpAnyH_take (i := 12) (oi := ⟨some 25, .binOp BinOp.lss 3 (.tmp 23) (.tmp 24) 3, 4, "l12_cache.go:79", #[⟨10, .data⟩, ⟨11, .data⟩, ⟨4, .guard⟩], some (4, false)⟩) (v := ?_) rfl (by kernel_rfl) (by kernel_rfl) (by kernel_rfl) (fun _ _ _ h => h) (Or.inl ⟨by rfl, ?_⟩) (by assumption) ?_
 rotate_left
 ·
  intro w' hSw; (try dsimp only at hSw); first | (go_simp; done) | (go_simp; with_reducible rfl)
 (try simp only [Act.put, Row.pB0, Row.pB1, Row.pB2])
 refine wpAnyH_take (i := 13) (oi := ⟨some 26, .pick (.tmp 17) (.const (Value.bool true)) (.tmp 25), 4, "l12_cache.go:79", #[⟨4, .data⟩, ⟨12, .data⟩], none⟩) (v := ?_) rfl (by kernel_rfl) (by kernel_rfl) (by kernel_rfl) (fun _ _ _ h => h) (Or.inl ⟨by rfl, ?_⟩) (by assumption) ?_
 rotate_left
 ·
  intro w' hSw; (try dsimp only at hSw); first | (go_simp; done) | (go_simp; with_reducible rfl)
 (try simp only [Act.put, Row.pB0, Row.pB1, Row.pB2])
 refine wpAnyH_done (by kernel_rfl) ?_ _
 exact NoPanic.normal (HQ.out _ _ _ _ _ _ _ _ _ _ _ _ _  _  BB.out)
set_option maxHeartbeats 8000000 in
theorem implHasValid (x : Option Addr) (n c : Nat) (cc : Int) (l : List Cet) (w : World) (z : Bool) (hz : validE l l.length = z) (h : kLCe.At w (.slice x n c) l) (hl : l.length ≤ 9000000) (hp : ∀ x ∈ l, wtCe x ≤ 1200000) :
    Calls Tryz.prog 62 #[.agg #[.int .i64 cc, .slice x n c]] w fun e w' => e = .returned (.bool z) ∧ Below w.heap.size w w' := by
  have HAT := Lib.hid h
  obtain ⟨x', n', c', L, e9, hn, ht, hh, hel⟩ := kLCe_at h
  cases e9
  have hlen : l.length = n := by rw [← ht, List.length_map]; exact hn.symm
  rw [hlen] at hl hz
  have hcap : n ≤ c := by obtain ⟨x', n', cap', hv, hn', hc', -⟩ := hh.shapeN; cases hv; exact hc'
  have b1 := (Below.refl w.heap.size w).alloc (Nat.le_refl _) (.cells #[.int .i64 cc, .slice x n c] 60)
  have HX := Lib.hid (Ret.Blk.new w #[.int .i64 cc, .slice x n c] 60)
  have HB := Lib.hid b1; have HZ := Lib.hid hz
  have HN := Lib.hid hn; have HT := Lib.hid ht; have HH := Lib.hid hh; have HEL := Lib.hid hel; have HLEN := Lib.hid hlen; have HP := Lib.hid hp
  clear b1 hz hn ht hh hel hlen hp h
  go_enter Tryz.func62, Tryz.ntmps62
  go_wp2
  go_loopw [8] (fun iv wr => ∃ i : Nat, i ≤ n ∧ iv = .int .i64 i ∧ Hid (validE l i = true) ∧ Hid (Ret.Blk wr w.heap.size #[.int .i64 cc, .slice x n c] 60) ∧ Hid (Below w.heap.size w wr)) (fun iv _ => n - (intOf iv).toNat)
  case atStart => exact ⟨0, Nat.zero_le _, rfl, Lib.hid rfl, HX, HB⟩
  case round =>
    obtain ⟨k, hk, rfl, ha, hx, hb⟩ := hrel
    by_cases hlt : k < n
    · have hlen := HN.out
      obtain ⟨b, off, y0, m0, d0, y1, m1, d1, y2, m2, d2, rfl, -, hc0, hc1, hc2, hc3, hc4, hc5, hA⟩ := kLCe_elem (HH.out.on hb.out) (fun y hy => kCe.holds_on (HEL.out y hy) hb.out) (j := k) (by omega)
      have hpt : nth l k = kCe.strip (nth L k) := by rw [← HT.out, nth_map _ (by omega)]
      have hps := HP.out (nth l k) (nth_mem (by have := HLEN.out; omega))
      rw [← hpt] at hA hc3 hc4 hc5
      obtain ⟨hD, hNM⟩ := kCe_parts hA
      have HA := Lib.hid hA; have HD := Lib.hid hD; have HNM := Lib.hid hNM; have HPS := Lib.hid hps; have HPD := Lib.hid (show wtDz (nth l k).1 ≤ 1200000 from hps); have HPN := Lib.hid (show bulk (nth l k).1.1 ≤ 1200000 from (wtDz_lens _ hps).1)
      have H0 := Lib.hid hc0; have H1 := Lib.hid hc1; have H2 := Lib.hid hc2; have H3 := Lib.hid hc3; have H4 := Lib.hid hc4; have H5 := Lib.hid hc5
      clear hlen hpt hps hA hD hNM
      have hal := (Below.refl wr.heap.size wr).alloc (Nat.le_refl _) (.cells #[.slice y0 m0 d0, .slice y1 m1 d1, .slice y2 m2 d2, .int .i64 (nth l k).1.2.2.2.1, .int .i64 (nth l k).1.2.2.2.2, .int .i64 (nth l k).2] 64)
      have hXE := Ret.Blk.new wr #[.slice y0 m0 d0, .slice y1 m1 d1, .slice y2 m2 d2, .int .i64 (nth l k).1.2.2.2.1, .int .i64 (nth l k).1.2.2.2.2, .int .i64 (nth l k).2] 64
      have hx2 := Lib.hid (hx.out.on hal); have hb2 := Lib.hid (hb.out.trans (hal.mono hb.out.size))
      have HD2 := Lib.hid (HD.out.on hal); have HN2 := Lib.hid (HNM.out.on hal); have HL2 := Lib.hid (HAT.out.on (hb.out.trans (hal.mono hb.out.size)))
      have F0 := Lib.hid (hXE.cell 0); have F1 := Lib.hid (hXE.cell 1); have F2 := Lib.hid (hXE.cell 2); have F3 := Lib.hid (hXE.cell 3); have F4 := Lib.hid (hXE.cell 4)
      have G0 := Lib.hid (hx2.out.cell 0); have G1 := Lib.hid (hx2.out.cell 1)
      have HLL := Lib.hid (show l.length ≤ 9000000 by have := HLEN.out; omega)
      obtain ⟨v, hv⟩ : ∃ v, validD (nth l k).1 = v := ⟨_, rfl⟩
      obtain ⟨r, hr⟩ : ∃ r, ixL (isE (nth l k).1.1) l = r := ⟨_, rfl⟩
      have HV := Lib.hid hv; have HR := Lib.hid hr; clear hv hr hal hXE
      go_wp2_with fail
      clear hc0 hc1 hc2 hc3 hc4 hc5
      cases v with
      | false =>
        refine rhv0 HV HD2 HPD F0 F1 F2 F3 F4 ?_
        intro u13 u14 u15 u16 u17 u18 u19 u20 u21 u22 u23 u24 u25 wx hbx
        have hb3 := Lib.hid (hb2.out.trans (hbx.mono hb2.out.size))
        have HE : Hid (z = false) := Lib.hid (by
          rw [← HZ.out]; exact validE_le (k := k + 1) (by unfold validE; rw [HV.out]; simp) (by omega))
        clear hbx
        go_wp2
        go_ret
        exact ⟨ret_bool HE.out.symm, hb3.out⟩
      | true =>
        refine rhv1 (l := l) HV HD2 HPD HN2 HPN HR HL2 HLL HP G0 G1 F0 F1 F2 F3 F4 ?_
        intro u13 u14 u15 u16 u17 u18 u19 u20 u21 u22 u23 u24 u25 wx hbx
        have hb3 := Lib.hid (hb2.out.trans (hbx.mono hb2.out.size)); have hx3 := Lib.hid (hx2.out.on hbx)
        have HTK : Hid (decide (r < (k : Int)) = (l.take k).any (isE (nth l k).1.1)) := Lib.hid (by rw [← HR.out]; exact ixL_take (by have := HLEN.out; omega) rfl)
        clear hbx
        by_cases h0 : r < (k : Int)
        · have t0 : decide (r < (k : Int)) = true := decide_eq_true h0
          have HE : Hid (z = false) := Lib.hid (by
            rw [← HZ.out]; exact validE_le (k := k + 1) (by unfold validE; rw [← HTK.out, t0]; simp) (by omega))
          go_wp2
          go_ret
          exact ⟨ret_bool HE.out.symm, hb3.out⟩
        · have t0 : decide (r < (k : Int)) = false := decide_eq_false h0
          have HA2 : Hid (validE l (k + 1) = true) := Lib.hid (by unfold validE; rw [ha.out, ← HTK.out, t0, HV.out]; rfl)
          go_wp2
          go_roundw
          case rel => exact ⟨k + 1, by omega, by go_num, HA2, hx3, hb3⟩
          case measure => simp [intOf]; omega
    · obtain rfl : k = n := by omega
      clear hlt
      have HE : Hid (z = true) := Lib.hid (by rw [← HZ.out]; exact ha.out)
      go_wp2
      go_ret
      exact ⟨ret_bool HE.out.symm, hb.out⟩
set_option maxHeartbeats 4000000 in
theorem implValidContentStore (V : Value) (x : Cnt) (w : World) (z : Bool) (hz : validC x = z) (h : kCn.At w V x) (hp : FitC x) :
    Calls Tryz.prog 26 #[V] w fun e w' => e = .returned (.bool z) ∧ Below w.heap.size w w' := by
  obtain ⟨x1_0, n1_0, c1_0, rfl, g1⟩ := kCn_at h
  clear h
  have hp9 := hp.each; have hl := hp.len
  obtain ⟨cc, l⟩ := x
  dsimp only at g1 hp9 hl hz ⊢
  have hlen : n1_0 = l.length := by obtain ⟨x', n', c', L, e9, hn, ht, -, -⟩ := kLCe_at g1; cases e9; rw [← ht, List.length_map]; exact hn
  have b1 := (Below.refl w.heap.size w).alloc (Nat.le_refl _) (.cells #[.int .i64 cc, .slice x1_0 n1_0 c1_0] 26)
  have hX := Ret.Blk.new w #[.int .i64 cc, .slice x1_0 n1_0 c1_0] 26
  obtain ⟨q, hq⟩ : ∃ q, Num.inB cc 0 8 = q := ⟨_, rfl⟩
  obtain ⟨v, hv⟩ : ∃ v, validE l l.length = v := ⟨_, rfl⟩
  unfold validC at hz
  dsimp only at hz
  rw [hq, hv, ← hlen] at hz
  have HAT := Lib.hid (g1.on b1); have HX := Lib.hid hX; have HB := Lib.hid b1; have HZ := Lib.hid hz; have HQ := Lib.hid hq; have HV := Lib.hid hv; have HL := Lib.hid hl; have HP := Lib.hid hp9
  have q0 : (w.alloc (.cells #[.int .i64 cc, .slice x1_0 n1_0 c1_0] 26)).cell? ⟨w.heap.size, 0, none⟩ = some (.int .i64 cc) := hX.cell 0
  clear g1 hX b1 hz hq hv hl hp9 hp hlen
  go_enter Tryz.func26, Tryz.ntmps26
  go_wp2_with fail
  refine (iInV q HQ.out).mono ?_
  rintro e w1 ⟨rfl, hb1⟩
  have hx2 := Lib.hid (HX.out.on hb1); have hb2 := Lib.hid (HB.out.trans (hb1.mono HB.out.size)); have HAT2 := Lib.hid (HAT.out.on hb1)
  clear hb1 q0
  have q0 : w1.cell? ⟨w.heap.size, 0, none⟩ = some (.int .i64 cc) := hx2.out.cell 0
  have q1 : w1.cell? ⟨w.heap.size, 1, none⟩ = some (.slice x1_0 n1_0 c1_0) := hx2.out.cell 1
  cases q with
  | false =>
    have HE : Hid (z = false) := Lib.hid (by rw [← HZ.out]; simp)
    go_wp2
    go_ret
    exact ⟨ret_bool HE.out.symm, hb2.out⟩
  | true =>
    by_cases h1 : (n1_0 : Int) ≤ cc
    · have HE : Hid (z = v) := Lib.hid (by rw [← HZ.out]; simp [h1])
      go_wp2_with fail
      refine (implHasValid _ _ _ cc l _ v HV.out HAT2.out HL.out HP.out).mono ?_
      rintro e w2 ⟨rfl, hb3⟩
      have hb4 := Lib.hid (hb2.out.trans (hb3.mono hb2.out.size)); clear hb3
      go_wp2
      go_ret
      exact ⟨ret_bool HE.out.symm, hb4.out⟩
    · have HE : Hid (z = false) := Lib.hid (by rw [← HZ.out]; simp [h1])
      go_wp2
      go_ret
      exact ⟨ret_bool HE.out.symm, hb2.out⟩
set_option maxHeartbeats 2000000 in
theorem specNewContentStore (k : Int) (w : World) :
    Calls Tryz.prog 22 #[.int .i64 k] w fun e w' => ∃ U, e = .returned U ∧ kCn.In w.heap.size w'.heap.size w' U (newC k) ∧ Below w.heap.size w w' := by
  obtain ⟨q, hq⟩ : ∃ q, Num.inB k 0 8 = q := ⟨_, rfl⟩
  have hB := (Below.refl w.heap.size w).alloc (Nat.le_refl _) (.cells #[.int .i64 0, .slice none 0 0] 26)
  have HX := Lib.hid (Ret.Blk.new w #[.int .i64 0, .slice none 0 0] 26); have HB := Lib.hid hB; have HQ := Lib.hid hq
  have HK : Hid (newC k = (if q = true then k else 0, [])) := Lib.hid (by unfold newC; rw [hq])
  clear hB hq
  go_enter Tryz.func22, Tryz.ntmps22
  go_wp2_with fail
  refine (sInV q HQ.out).mono ?_
  rintro e w1 ⟨rfl, hb⟩
  have HX2 := Lib.hid (HX.out.on hb); have HB2 := Lib.hid (HB.out.trans (hb.mono HB.out.size)); clear hb
  have q0 := HX2.out.cell 0; have q1 := HX2.out.cell 1; have t0 := HX2.out.frozen 0; have t1 := HX2.out.frozen 1
  cases q with
  | true =>
    have Z := Lib.hid ((HX2.out.set 0 (.int .i64 k)).set 1 (.slice none 0 0))
    have ZB := Lib.hid ((HB2.out.setCell (p := ⟨w.heap.size, 0, none⟩) (Nat.le_refl _) (.int .i64 k)).setCell (p := ⟨w.heap.size, 1, none⟩) (Nat.le_refl _) (.slice none 0 0))
    go_wp2_with fail
    refine bodyPost_ret (Ret.results_c rfl _ _ w.heap.size [.int .i64 k, .slice none 0 0] rfl aggCn Z.out.cells) rfl ?_
    rw [HK.out]
    exact ⟨_, rfl, cn_in (le_nil w.heap.size _) (Nat.le_refl _) rfl ZB.out.size, ZB.out⟩
  | false =>
    have Z := Lib.hid ((HX2.out.set 0 (.int .i64 0)).set 1 (.slice none 0 0))
    have ZB := Lib.hid ((HB2.out.setCell (p := ⟨w.heap.size, 0, none⟩) (Nat.le_refl _) (.int .i64 0)).setCell (p := ⟨w.heap.size, 1, none⟩) (Nat.le_refl _) (.slice none 0 0))
    go_wp2_with fail
    refine bodyPost_ret (Ret.results_c rfl _ _ w.heap.size [.int .i64 0, .slice none 0 0] rfl aggCn Z.out.cells) rfl ?_
    rw [HK.out]
    exact ⟨_, rfl, cn_in (le_nil w.heap.size _) (Nat.le_refl _) rfl ZB.out.size, ZB.out⟩
set_option maxHeartbeats 2000000 in
theorem implNewContentStore (k : Int) (w : World) :
    Calls Tryz.prog 21 #[.int .i64 k] w fun e w' => ∃ U, e = .returned U ∧ kCn.In w.heap.size w'.heap.size w' U (newC k) ∧ Below w.heap.size w w' := by
  obtain ⟨q, hq⟩ : ∃ q, Num.inB k 0 8 = q := ⟨_, rfl⟩
  have hB := (Below.refl w.heap.size w).alloc (Nat.le_refl _) (.cells #[.int .i64 0, .slice none 0 0] 26)
  have HX := Lib.hid (Ret.Blk.new w #[.int .i64 0, .slice none 0 0] 26); have HB := Lib.hid hB; have HQ := Lib.hid hq
  have HK : Hid (newC k = (if q = true then k else 0, [])) := Lib.hid (by unfold newC; rw [hq])
  clear hB hq
  go_enter Tryz.func21, Tryz.ntmps21
  go_wp2_with fail
  refine (iInV q HQ.out).mono ?_
  rintro e w1 ⟨rfl, hb⟩
  have HX2 := Lib.hid (HX.out.on hb); have HB2 := Lib.hid (HB.out.trans (hb.mono HB.out.size)); clear hb
  have q0 := HX2.out.cell 0; have q1 := HX2.out.cell 1; have t0 := HX2.out.frozen 0; have t1 := HX2.out.frozen 1
  cases q with
  | true =>
    have Z := Lib.hid ((HX2.out.set 0 (.int .i64 k)).set 1 (.slice none 0 0))
    have ZB := Lib.hid ((HB2.out.setCell (p := ⟨w.heap.size, 0, none⟩) (Nat.le_refl _) (.int .i64 k)).setCell (p := ⟨w.heap.size, 1, none⟩) (Nat.le_refl _) (.slice none 0 0))
    go_wp2_with fail
    refine bodyPost_ret (Ret.results_c rfl _ _ w.heap.size [.int .i64 k, .slice none 0 0] rfl aggCn Z.out.cells) rfl ?_
    rw [HK.out]
    exact ⟨_, rfl, cn_in (le_nil w.heap.size _) (Nat.le_refl _) rfl ZB.out.size, ZB.out⟩
  | false =>
    have Z := Lib.hid ((HX2.out.set 0 (.int .i64 0)).set 1 (.slice none 0 0))
    have ZB := Lib.hid ((HB2.out.setCell (p := ⟨w.heap.size, 0, none⟩) (Nat.le_refl _) (.int .i64 0)).setCell (p := ⟨w.heap.size, 1, none⟩) (Nat.le_refl _) (.slice none 0 0))
    go_wp2_with fail
    refine bodyPost_ret (Ret.results_c rfl _ _ w.heap.size [.int .i64 0, .slice none 0 0] rfl aggCn Z.out.cells) rfl ?_
    rw [HK.out]
    exact ⟨_, rfl, cn_in (le_nil w.heap.size _) (Nat.le_refl _) rfl ZB.out.size, ZB.out⟩
end Go.Proofs.YtfglcmanmfenpaaGreat.Row
