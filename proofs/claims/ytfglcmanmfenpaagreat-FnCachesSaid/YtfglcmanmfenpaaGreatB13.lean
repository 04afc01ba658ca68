/- Contracts and mathematics, joined: CacheX, MarkK. No conditions but those that each states. -/
import Derived.WalkKit
import Derived.Deep.RegionHeld3
import Derived.Deep.RegionLaw
import Derived.Test.YtfglcmanmfenpaaGreatB11
import Derived.Test.YtfglcmanmfenpaaGreatB12
import Derived.Test.YtfglcmanmfenpaaGreatB2
/- The program's content store: remove, leastUsed, add, CacheData, EvictStale, Touch. No conditions but that lengths fit. -/
namespace Go.Proofs.YtfglcmanmfenpaaGreat.Row
open Go.ChangeShapes Go.WideShapes Go.ChangeAt Go.RowKit Go.Instr
set_option linter.unusedVariables false
set_option maxRecDepth 100000
theorem iLast (x0 x1 x2 : Option Addr) (n0 c0 n1 c1 n2 c2 : Nat) (f s u : Int) (w : World) :
    Calls Tryz.prog 39 #[.agg #[.slice x0 n0 c0, .slice x1 n1 c1, .slice x2 n2 c2, .int .i64 f, .int .i64 s, .int .i64 u]] w fun e w' => e = .returned (.int .i64 u) ∧ Below w.heap.size w w' := by
  have HB := Lib.hid ((Below.refl w.heap.size w).alloc (Nat.le_refl _) (.cells #[.slice x0 n0 c0, .slice x1 n1 c1, .slice x2 n2 c2, .int .i64 f, .int .i64 s, .int .i64 u] 64))
  go_enter Tryz.func39, Tryz.ntmps39
  go_wp2
  go_ret
  exact ⟨rfl, HB.out⟩
set_option maxRecDepth 100000 in
set_option maxHeartbeats 4000000 in
theorem rlu {Q : Exit → Act → World → Prop} {v0 v3 v4 v6 v8 v9 v10 v11 v12 v13 v14 v15 v16 v17 v18 v19 v20 v21 v22 v23 v24 v25 v26 v27 v28 v29 : Value} {w : World} {b off n c g p k na ca nb cb nc cc_ nd cd ne ce nf cf : Nat} {xa xb xc xd xe xf : Option Addr} {f1 s1 u1 f2 s2 u2 : Int} (hk : k < n) (hkc : k ≤ c) (hn : n ≤ 9000000) (K1 : Hid (w.cell? ⟨g, 1, none⟩ = some (.slice (some ⟨b, off, none⟩) n c))) (E0 : Hid (w.cell? ⟨p, 0, none⟩ = some (.slice xa na ca))) (E1 : Hid (w.cell? ⟨p, 1, none⟩ = some (.slice xb nb cb))) (E2 : Hid (w.cell? ⟨p, 2, none⟩ = some (.slice xc nc cc_))) (E3 : Hid (w.cell? ⟨p, 3, none⟩ = some (.int .i64 f1))) (E4 : Hid (w.cell? ⟨p, 4, none⟩ = some (.int .i64 s1))) (E5 : Hid (w.cell? ⟨p, 5, none⟩ = some (.int .i64 u1))) (J0 : Hid (w.cell? ⟨b, off + k * 6, none⟩ = some (.slice xd nd cd))) (J1 : Hid (w.cell? ⟨b, off + k * 6 + 1, none⟩ = some (.slice xe ne ce))) (J2 : Hid (w.cell? ⟨b, off + k * 6 + 2, none⟩ = some (.slice xf nf cf))) (J3 : Hid (w.cell? ⟨b, off + k * 6 + 3, none⟩ = some (.int .i64 f2))) (J4 : Hid (w.cell? ⟨b, off + k * 6 + 4, none⟩ = some (.int .i64 s2))) (J5 : Hid (w.cell? ⟨b, off + k * 6 + 5, none⟩ = some (.int .i64 u2)))
  (hQ : ∀ (u16 u17 u18 u19 u20 u21 u22 u23 u24 u25 : Value)  (wx : World), Below w.heap.size w wx → Q .normal ⟨#[v0, .func (.func 39) #[] #[], .pointer (some ⟨g, 0, none⟩), v3, v4, .int .i64 k, v6, .pointer (some ⟨p, 0, none⟩), v8, v9, v10, v11, v12, v13, v14, v15, u16, u17, u18, u19, u20, u21, u22, u23, u24, u25, .bool (decide (u1 < u2)), v27, v28, v29], []⟩ wx) :
  (Code.region 5 #[⟨some 16, .move (.tmp 1), 69, "l12_cache.go:55", #[], none⟩,
   ⟨some 17, .load 64 (.tmp 7), 64, "l12_cache.go:55", #[], none⟩,
   ⟨some 18, .call ⟨.value (.tmp 16), #[.tmp 17], #[64]⟩, 3, "l12_cache.go:55", #[⟨0, .data⟩, ⟨1, .data⟩], none⟩,
   ⟨some 19, .move (.tmp 1), 69, "l12_cache.go:55", #[], none⟩,
   ⟨some 20, .fieldAddr 60 (.tmp 2) 1, 0, "l12_cache.go:55", #[], none⟩,
   ⟨some 21, .load 24 (.tmp 20), 24, "l12_cache.go:55", #[⟨4, .data⟩], none⟩,
   ⟨some 22, .move (.tmp 5), 3, "l12_cache.go:55", #[], none⟩,
   ⟨some 23, .indexAddr 24 (.tmp 21) (.tmp 22), 0, "l12_cache.go:55", #[⟨5, .data⟩, ⟨6, .data⟩], none⟩,
   ⟨some 24, .load 64 (.tmp 23), 64, "l12_cache.go:55", #[⟨7, .data⟩], none⟩,
   ⟨some 25, .call ⟨.value (.tmp 19), #[.tmp 24], #[64]⟩, 3, "l12_cache.go:55", #[⟨3, .data⟩, ⟨8, .data⟩, ⟨2, .chain⟩], none⟩,
   ⟨some 26, .binOp BinOp.lss 3 (.tmp 18) (.tmp 25) 3, 4, "l12_cache.go:55", #[⟨2, .data⟩, ⟨9, .data⟩], none⟩] true).wp Tryz.prog Q ⟨#[v0, .func (.func 39) #[] #[], .pointer (some ⟨g, 0, none⟩), v3, v4, .int .i64 k, v6, .pointer (some ⟨p, 0, none⟩), v8, v9, v10, v11, v12, v13, v14, v15, v16, v17, v18, v19, v20, v21, v22, v23, v24, v25, v26, v27, v28, v29], []⟩ w := by
 have HQ := Lib.hid hQ; clear hQ
 have hdr : Below w.heap.size w w.drew := (Below.refl _ _).drew
 have BB := Lib.hid hdr
 refine wp_region_noPanic ?_
 refine wp_region_held_drew (S := (fun w' => w'.cell? ⟨g, 1, none⟩ = some (.slice (some ⟨b, off, none⟩) n c) ∧ w'.cell? ⟨p, 0, none⟩ = some (.slice xa na ca) ∧ w'.cell? ⟨p, 1, none⟩ = some (.slice xb nb cb) ∧ w'.cell? ⟨p, 2, none⟩ = some (.slice xc nc cc_) ∧ w'.cell? ⟨p, 3, none⟩ = some (.int .i64 f1) ∧ w'.cell? ⟨p, 4, none⟩ = some (.int .i64 s1) ∧ w'.cell? ⟨p, 5, none⟩ = some (.int .i64 u1) ∧ w'.cell? ⟨b, off + k * 6, none⟩ = some (.slice xd nd cd) ∧ w'.cell? ⟨b, off + k * 6 + 1, none⟩ = some (.slice xe ne ce) ∧ w'.cell? ⟨b, off + k * 6 + 2, none⟩ = some (.slice xf nf cf) ∧ w'.cell? ⟨b, off + k * 6 + 3, none⟩ = some (.int .i64 f2) ∧ w'.cell? ⟨b, off + k * 6 + 4, none⟩ = some (.int .i64 s2) ∧ w'.cell? ⟨b, off + k * 6 + 5, none⟩ = some (.int .i64 u2))) (by kernel_rfl) ?_ (fun hHeld => ?_)
 ·
  exact ⟨kc K1.out BB.out, kc E0.out BB.out, kc E1.out BB.out, kc E2.out BB.out, kc E3.out BB.out, kc E4.out BB.out, kc E5.out BB.out, kc J0.out BB.out, kc J1.out BB.out, kc J2.out BB.out, kc J3.out BB.out, kc J4.out BB.out, kc J5.out BB.out⟩
 clear hdr
 generalize w.drew = wd at *
 refine wpAnyH_take (i := 0) (oi := ⟨some 16, .move (.tmp 1), 69, "l12_cache.go:55", #[], none⟩) (v := ?_) rfl (by kernel_rfl) (by kernel_rfl) (by kernel_rfl) (fun _ _ _ h => h) (Or.inl ⟨by rfl, ?_⟩) (by assumption) ?_
 rotate_left
 ·
  intro w' hSw; (try dsimp only at hSw); first | (go_simp; done) | (go_simp; with_reducible rfl)
 (try simp only [Act.put, Row.pB0, Row.pB1, Row.pB2])
 refine wpAnyH_take (i := 1) (oi := ⟨some 17, .load 64 (.tmp 7), 64, "l12_cache.go:55", #[], none⟩) (v := ?_) rfl (by kernel_rfl) (by kernel_rfl) (by kernel_rfl) (fun _ _ _ h => h) (Or.inl ⟨by rfl, ?_⟩) (by assumption) ?_
 rotate_left
 ·
  intro w' hSw; (try dsimp only at hSw); first | (go_simp; done) | (go_simp; with_reducible rfl)
 (try simp only [Act.put, Row.pB0, Row.pB1, Row.pB2])
 refine wpAnyH_take (i := 3) (oi := ⟨some 19, .move (.tmp 1), 69, "l12_cache.go:55", #[], none⟩) (v := ?_) rfl (by kernel_rfl) (by kernel_rfl) (by kernel_rfl) (fun _ _ _ h => h) (Or.inl ⟨by rfl, ?_⟩) (by assumption) ?_
 rotate_left
 ·
  intro w' hSw; (try dsimp only at hSw); first | (go_simp; done) | (go_simp; with_reducible rfl)
 (try simp only [Act.put, Row.pB0, Row.pB1, Row.pB2])
 refine wpAnyH_take (i := 4) (oi := ⟨some 20, .fieldAddr 60 (.tmp 2) 1, 0, "l12_cache.go:55", #[], none⟩) (v := ?_) rfl (by kernel_rfl) (by kernel_rfl) (by kernel_rfl) (fun _ _ _ h => h) (Or.inl ⟨by rfl, ?_⟩) (by assumption) ?_
 rotate_left
 ·
  intro w' hSw; (try dsimp only at hSw); first | (go_simp; done) | (go_simp; with_reducible rfl)
 (try simp only [Act.put, Row.pB0, Row.pB1, Row.pB2])
 refine wpAnyH_take (i := 5) (oi := ⟨some 21, .load 24 (.tmp 20), 24, "l12_cache.go:55", #[⟨4, .data⟩], none⟩) (v := ?_) rfl (by kernel_rfl) (by kernel_rfl) (by kernel_rfl) (fun _ _ _ h => h) (Or.inl ⟨by rfl, ?_⟩) (by assumption) ?_
 rotate_left
 ·
  intro w' hSw; (try dsimp only at hSw); first | (go_simp; done) | (go_simp; with_reducible rfl)
 (try simp only [Act.put, Row.pB0, Row.pB1, Row.pB2])
 refine wpAnyH_take (i := 6) (oi := ⟨some 22, .move (.tmp 5), 3, "l12_cache.go:55", #[], none⟩) (v := ?_) rfl (by kernel_rfl) (by kernel_rfl) (by kernel_rfl) (fun _ _ _ h => h) (Or.inl ⟨by rfl, ?_⟩) (by assumption) ?_
 rotate_left
 ·
  intro w' hSw; (try dsimp only at hSw); first | (go_simp; done) | (go_simp; with_reducible rfl)
 (try simp only [Act.put, Row.pB0, Row.pB1, Row.pB2])
 refine wpAnyH_take (i := 7) (oi := ⟨some 23, .indexAddr 24 (.tmp 21) (.tmp 22), 0, "l12_cache.go:55", #[⟨5, .data⟩, ⟨6, .data⟩], none⟩) (v := ?_) rfl (by kernel_rfl) (by kernel_rfl) (by kernel_rfl) (fun _ _ _ h => h) (Or.inl ⟨by rfl, ?_⟩) (by assumption) ?_
 rotate_left
 ·
  intro w' hSw; (try dsimp only at hSw); first | (go_simp; done) | (go_simp; with_reducible rfl)
 (try simp only [Act.put, Row.pB0, Row.pB1, Row.pB2])
 refine wpAnyH_take (i := 8) (oi := ⟨some 24, .load 64 (.tmp 23), 64, "l12_cache.go:55", #[⟨7, .data⟩], none⟩) (v := ?_) rfl (by kernel_rfl) (by kernel_rfl) (by kernel_rfl) (fun _ _ _ h => h) (Or.inl ⟨by rfl, ?_⟩) (by assumption) ?_
 rotate_left
 ·
  intro w' hSw; (try dsimp only at hSw); first | (go_simp; done) | (go_simp; with_reducible rfl)
 (try simp only [Act.put, Row.pB0, Row.pB1, Row.pB2])
 refine wpAnyH_ready (rs := [2]) (by kernel_rfl) (by simp) ?_
 refine AllReadyH.cons (o := ⟨some 18, .call ⟨.value (.tmp 16), #[.tmp 17], #[64]⟩, 3, "l12_cache.go:55", #[⟨0, .data⟩, ⟨1, .data⟩], none⟩) rfl (fun K hK => ?_) AllReadyH.nil
 go_simp
 refine (iLast _ _ _ _ _ _ _ _ _ _ _ _ _).mono ?_
 rintro e wn1 ⟨rfl, hb⟩
 replace BB := Lib.hid (BB.out.trans (hb.mono BB.out.size))
 clear hb
 (try go_wp2_with fail)
 clear hHeld
 refine hK.out _ _ ?_ (fun hHeld => ?_)
 ·
  (try dsimp only); exact ⟨kc K1.out BB.out, kc E0.out BB.out, kc E1.out BB.out, kc E2.out BB.out, kc E3.out BB.out, kc E4.out BB.out, kc E5.out BB.out, kc J0.out BB.out, kc J1.out BB.out, kc J2.out BB.out, kc J3.out BB.out, kc J4.out BB.out, kc J5.out BB.out⟩
 clear hK K
 (try simp only [Act.put, Row.pB0, Row.pB1, Row.pB2])
 refine wpAnyH_ready (rs := [9]) (by kernel_rfl) (by simp) ?_
 refine AllReadyH.cons (o := ⟨some 25, .call ⟨.value (.tmp 19), #[.tmp 24], #[64]⟩, 3, "l12_cache.go:55", #[⟨3, .data⟩, ⟨8, .data⟩, ⟨2, .chain⟩], none⟩) rfl (fun K hK => ?_) AllReadyH.nil
 go_simp
 refine (iLast _ _ _ _ _ _ _ _ _ _ _ _ _).mono ?_
 rintro e wn2 ⟨rfl, hb⟩
 replace BB := Lib.hid (BB.out.trans (hb.mono BB.out.size))
 clear hb
 (try go_wp2_with fail)
 clear hHeld
 refine hK.out _ _ ?_ (fun hHeld => ?_)
 ·
  (try dsimp only); exact ⟨kc K1.out BB.out, kc E0.out BB.out, kc E1.out BB.out, kc E2.out BB.out, kc E3.out BB.out, kc E4.out BB.out, kc E5.out BB.out, kc J0.out BB.out, kc J1.out BB.out, kc J2.out BB.out, kc J3.out BB.out, kc J4.out BB.out, kc J5.out BB.out⟩
 clear hK K
 (try simp only [Act.put, Row.pB0, Row.pB1, Row.pB2])
 refine wpAnyH_take (i := 10) (oi := ⟨some 26, .binOp BinOp.lss 3 (.tmp 18) (.tmp 25) 3, 4, "l12_cache.go:55", #[⟨2, .data⟩, ⟨9, .data⟩], none⟩) (v := ?_) rfl (by kernel_rfl) (by kernel_rfl) (by kernel_rfl) (fun _ _ _ h => h) (Or.inl ⟨by rfl, ?_⟩) (by assumption) ?_
 rotate_left
 ·
  intro w' hSw; (try dsimp only at hSw); first | (go_simp; done) | (go_simp; with_reducible rfl)
 (try simp only [Act.put, Row.pB0, Row.pB1, Row.pB2])
 refine wpAnyH_done (by kernel_rfl) ?_ _
 exact NoPanic.normal (HQ.out _ _ _ _ _ _ _ _ _ _  _  BB.out)
set_option maxHeartbeats 8000000 in
theorem iLeast (x : Option Addr) (n c : Nat) (cc : Int) (l : List Cet) (w : World) (h : kLCe.At w (.slice x n c) l) (hl : l.length ≤ 9000000) (z : Nat) (hz : leastE l l.length = z) :
    Calls Tryz.prog 73 #[.agg #[.int .i64 cc, .slice x n c], .func (.func 39) #[] #[]] w fun e w' => e = .returned (.int .i64 z) ∧ Below w.heap.size w w' := by
  obtain ⟨x', n', c', L, e9, hn, ht, hh, hel⟩ := kLCe_at h
  cases e9
  have hlen : l.length = n := by rw [← ht, List.length_map]; exact hn.symm
  rw [hlen] at hl hz
  have hcap : n ≤ c := by obtain ⟨x', n', cap', hv, hn', hc', -⟩ := hh.shapeN; cases hv; exact hc'
  have HX := Lib.hid (Ret.Blk.new w #[.int .i64 cc, .slice x n c] 60)
  have HB := Lib.hid ((Below.refl w.heap.size w).alloc (Nat.le_refl _) (.cells #[.int .i64 cc, .slice x n c] 60)); have HZ := Lib.hid hz
  have HN := Lib.hid hn; have HT := Lib.hid ht; have HH := Lib.hid hh; have HEL := Lib.hid hel; have HLEN := Lib.hid hlen
  clear hn ht hh hel hlen h hz
  go_enter Tryz.func73, Tryz.ntmps73
  go_wp2
  go_loopw [5, 11] (fun lv iv wr => ∃ i : Nat, i ≤ n ∧ iv = .int .i64 i ∧ ∃ j : Nat, lv = .int .i64 j ∧ Hid (j = leastE l i) ∧ (j < i ∨ j = 0) ∧ Hid (Ret.Blk wr w.heap.size #[.int .i64 cc, .slice x n c] 60) ∧ Hid (Below w.heap.size w wr)) (fun _ iv _ => n - (intOf iv).toNat)
  case atStart => exact ⟨0, Nat.zero_le _, rfl, 0, rfl, Lib.hid rfl, Or.inr rfl, HX, HB⟩
  case round =>
    obtain ⟨k, hk, rfl, j, rfl, hj, hjk, hx, hb⟩ := hrel
    by_cases hlt : k < n
    · have hlen := HN.out
      have hjn : j < n := by omega
      obtain ⟨b, off, y0, m0, d0, y1, m1, d1, y2, m2, d2, rfl, -, hc0, hc1, hc2, hc3, hc4, hc5, hA⟩ := kLCe_elem (HH.out.on hb.out) (fun y hy => kCe.holds_on (HEL.out y hy) hb.out) (j := k) (by omega)
      have hpt : nth l k = kCe.strip (nth L k) := by rw [← HT.out, nth_map _ (by omega)]
      obtain ⟨b', off', z0, m3, d3, z1, m4, d4, z2, m5, d5, e8, -, gc0, gc1, gc2, gc3, gc4, gc5, -⟩ := kLCe_elem (HH.out.on hb.out) (fun y hy => kCe.holds_on (HEL.out y hy) hb.out) (j := j) (by omega)
      cases e8
      have hpj : nth l j = kCe.strip (nth L j) := by rw [← HT.out, nth_map _ (by omega)]
      rw [← hpt] at hc3 hc4 hc5
      rw [← hpj] at gc3 gc4 gc5
      have hal := (Below.refl wr.heap.size wr).alloc (Nat.le_refl _) (.cells #[.slice y0 m0 d0, .slice y1 m1 d1, .slice y2 m2 d2, .int .i64 (nth l k).1.2.2.2.1, .int .i64 (nth l k).1.2.2.2.2, .int .i64 (nth l k).2] 64)
      have hXE := Ret.Blk.new wr #[.slice y0 m0 d0, .slice y1 m1 d1, .slice y2 m2 d2, .int .i64 (nth l k).1.2.2.2.1, .int .i64 (nth l k).1.2.2.2.2, .int .i64 (nth l k).2] 64
      have hx2 := Lib.hid (hx.out.on hal); have hb2 := Lib.hid (hb.out.trans (hal.mono hb.out.size))
      have F0 := Lib.hid (hXE.cell 0); have F1 := Lib.hid (hXE.cell 1); have F2 := Lib.hid (hXE.cell 2); have F3 := Lib.hid (hXE.cell 3); have F4 := Lib.hid (hXE.cell 4); have F5 := Lib.hid (hXE.cell 5)
      have J0 := Lib.hid (kc gc0 hal); have J1 := Lib.hid (kc gc1 hal); have J2 := Lib.hid (kc gc2 hal); have J3 := Lib.hid (kc gc3 hal); have J4 := Lib.hid (kc gc4 hal); have J5 := Lib.hid (kc gc5 hal)
      have G1 := Lib.hid (hx2.out.cell 1)
      clear gc0 gc1 gc2 gc3 gc4 gc5 hlen hpt hpj hA hal hXE
      go_wp2_with fail
      clear hc0 hc1 hc2 hc3 hc4 hc5
      refine rlu (k := j) hjn (by omega) hl G1 F0 F1 F2 F3 F4 F5 J0 J1 J2 J3 J4 J5 ?_
      intro u16 u17 u18 u19 u20 u21 u22 u23 u24 u25 wx hbx
      have hb3 := Lib.hid (hb2.out.trans (hbx.mono hb2.out.size)); have hx3 := Lib.hid (hx2.out.on hbx)
      clear hbx
      by_cases h0 : (nth l k).2 < (nth l j).2
      · have t0 : decide ((nth l k).2 < (nth l j).2) = true := decide_eq_true h0
        have HJ : Hid (k = leastE l (k + 1)) := Lib.hid (by unfold leastE; rw [← hj.out, if_pos h0])
        go_wp2
        go_roundw
        case rel => exact ⟨k + 1, by omega, by go_num, k, rfl, HJ, Or.inl (by omega), hx3, hb3⟩
        case measure => simp [intOf]; omega
      · have t0 : decide ((nth l k).2 < (nth l j).2) = false := decide_eq_false h0
        have HJ : Hid (j = leastE l (k + 1)) := Lib.hid (by
          conv => rhs; unfold leastE
          rw [← hj.out, if_neg h0])
        go_wp2
        go_roundw
        case rel => exact ⟨k + 1, by omega, by go_num, j, rfl, HJ, by omega, hx3, hb3⟩
        case measure => simp [intOf]; omega
    · obtain rfl : k = n := by omega
      clear hlt
      have HE : Hid ((j : Int) = (z : Int)) := Lib.hid (by rw [hj.out, HZ.out])
      go_wp2
      go_ret
      exact ⟨ret_int HE.out, hb.out⟩
set_option maxHeartbeats 4000000 in
theorem removeNd (b0 : Addr) (p : Cet → Bool) (ok : Cet → Prop) (B C gD : Nat) (cc : Int) (ad : Option Addr) (n cap : Nat) (L : List Cem) (w : World) (hx : Ret.Blk w gD #[.int .i64 cc, .slice ad n cap] 60) (h : kLCe.Own B w.heap.size w ⟨ad, n, cap, L⟩) (hl : L.length ≤ 1100000) (hp : ∀ x ∈ L.map kCe.strip, ok x) (hc : ClosR Tryz.prog kCe 72 #[.pointer (some b0)] p ok w (Value.slice ad n cap).ownBlock) (hCB : C ≤ B) (hCg : C ≤ gD) (hCw : C ≤ w.heap.size) :
    Calls Tryz.prog 35 #[.pointer (some ⟨gD, 0, none⟩), .func (.func 72) #[] #[.pointer (some b0)]] w fun e w' => e = .returned (.tuple #[]) ∧ ∃ ad' n' cap' L', Ret.Blk w' gD #[.int .i64 cc, .slice ad' n' cap'] 60 ∧ kLCe.Own B w'.heap.size w' ⟨ad', n', cap', L'⟩ ∧ L'.map kCe.strip = (L.map kCe.strip).filter (fun x => !p x) ∧ L'.length ≤ L.length ∧ Below C w w' := by
  have HC := Lib.hid (delFNd b0 p ok B ⟨ad, n, cap, L⟩ w h hl hp hc)
  have HX := Lib.hid hx; have HO := Lib.hid h
  have q1 : w.cell? ⟨gD, 1, none⟩ = some (.slice ad n cap) := hx.cell 1
  clear hx h hp hc
  go_enter Tryz.func35, Tryz.ntmps35
  go_wp2_with fail
  refine (show Calls Tryz.prog _ #[.slice ad n cap, _] w _ from HC.out).mono ?_
  rintro e w1 ⟨⟨ad', n', cap', L'⟩, rfl, ho, hs, hle, hg⟩
  have hX1 := HX.out.grown hg (row_ne_blk HO.out.1.1 HX.out (by decide))
  have t1 := hX1.frozen 1; have r1 := hX1.cell 1
  have HX1 := Lib.hid hX1; have HO1 := Lib.hid ho; have HS := Lib.hid hs; have HLE := Lib.hid hle
  have HB1 := Lib.hid ((Below.refl C w).grown hg hCw (fun g hg' => Nat.le_trans hCB (HO.out.1.1.lt g hg').1))
  clear ho hs hle hg hX1 q1 HC
  rw [show (Rw.v (⟨ad', n', cap', L'⟩ : Rw Cem)) = .slice ad' n' cap' from rfl]
  go_wp2_with fail
  go_end0
  exact ⟨rfl, ad', n', cap', L', HX1.out.set 1 (.slice ad' n' cap'), by rw [World.size_setCell]; exact own_setT noRow_St HO1.out HX1.out, HS.out, HLE.out, HB1.out.setCell (p := ⟨gD, 1, none⟩) hCg _⟩
set_option maxHeartbeats 4000000 in
theorem removeEv (b0 : Addr) (p : Cet → Bool) (ok : Cet → Prop) (B C gD : Nat) (cc : Int) (ad : Option Addr) (n cap : Nat) (L : List Cem) (w : World) (hx : Ret.Blk w gD #[.int .i64 cc, .slice ad n cap] 60) (h : kLCe.Own B w.heap.size w ⟨ad, n, cap, L⟩) (hl : L.length ≤ 1100000) (hp : ∀ x ∈ L.map kCe.strip, ok x) (hc : ClosR Tryz.prog kCe 55 #[.pointer (some b0)] p ok w (Value.slice ad n cap).ownBlock) (hCB : C ≤ B) (hCg : C ≤ gD) (hCw : C ≤ w.heap.size) :
    Calls Tryz.prog 35 #[.pointer (some ⟨gD, 0, none⟩), .func (.func 55) #[] #[.pointer (some b0)]] w fun e w' => e = .returned (.tuple #[]) ∧ ∃ ad' n' cap' L', Ret.Blk w' gD #[.int .i64 cc, .slice ad' n' cap'] 60 ∧ kLCe.Own B w'.heap.size w' ⟨ad', n', cap', L'⟩ ∧ L'.map kCe.strip = (L.map kCe.strip).filter (fun x => !p x) ∧ L'.length ≤ L.length ∧ Below C w w' := by
  have HC := Lib.hid (delFEv b0 p ok B ⟨ad, n, cap, L⟩ w h hl hp hc)
  have HX := Lib.hid hx; have HO := Lib.hid h
  have q1 : w.cell? ⟨gD, 1, none⟩ = some (.slice ad n cap) := hx.cell 1
  clear hx h hp hc
  go_enter Tryz.func35, Tryz.ntmps35
  go_wp2_with fail
  refine (show Calls Tryz.prog _ #[.slice ad n cap, _] w _ from HC.out).mono ?_
  rintro e w1 ⟨⟨ad', n', cap', L'⟩, rfl, ho, hs, hle, hg⟩
  have hX1 := HX.out.grown hg (row_ne_blk HO.out.1.1 HX.out (by decide))
  have t1 := hX1.frozen 1; have r1 := hX1.cell 1
  have HX1 := Lib.hid hX1; have HO1 := Lib.hid ho; have HS := Lib.hid hs; have HLE := Lib.hid hle
  have HB1 := Lib.hid ((Below.refl C w).grown hg hCw (fun g hg' => Nat.le_trans hCB (HO.out.1.1.lt g hg').1))
  clear ho hs hle hg hX1 q1 HC
  rw [show (Rw.v (⟨ad', n', cap', L'⟩ : Rw Cem)) = .slice ad' n' cap' from rfl]
  go_wp2_with fail
  go_end0
  exact ⟨rfl, ad', n', cap', L', HX1.out.set 1 (.slice ad' n' cap'), by rw [World.size_setCell]; exact own_setT noRow_St HO1.out HX1.out, HS.out, HLE.out, HB1.out.setCell (p := ⟨gD, 1, none⟩) hCg _⟩
def StPost (B C gD : Nat) (cc : Int) (T : List Cet) (w w' : World) : Prop := ∃ ad' n' cap' L', Ret.Blk w' gD #[.int .i64 cc, .slice ad' n' cap'] 60 ∧ kLCe.Own B w'.heap.size w' ⟨ad', n', cap', L'⟩ ∧ L'.map kCe.strip = T ∧ Below C w w'
theorem add_own {B C E0 : Nat} {w W w4 : World} {r : Rw Cem} {m9 : Cem} {x4 : Option Addr} {n4 c4 : Nat} (h : kLCe.Own B C w r) (hm : kCe.Own B E0 w m9) (hd : ∀ g ∈ kCe.blocks m9, g ∉ kLCe.blocks r) (hb : Below w.heap.size w W)
    (ho : OwnK 64 kCe.cells 6 B w4 (.slice x4 n4 c4) (r.els ++ [m9])) (hg : W.grownBy w4 r.v.ownBlock) : kLCe.Own B w4.heap.size w4 ⟨x4, n4, c4, r.els ++ [m9]⟩ :=
  Kd.push noRow_kCe (h.on hb) (hm.on hb) hd ho hg
theorem delOneS (B : Nat) (ad : Option Addr) (n cap : Nat) (L : List Cem) (i : Nat) (w : World) (h : kLCe.Own B w.heap.size w ⟨ad, n, cap, L⟩) (hi : i < L.length) (hl : L.length ≤ 1100000) :
    Calls Tryz.prog 74 #[.slice ad n cap, .int .i64 i, .int .i64 ((i : Int) + 1)] w fun e w' => ∃ ad' n' cap' L', e = .returned (.slice ad' n' cap') ∧ kLCe.Own B w'.heap.size w' ⟨ad', n', cap', L'⟩ ∧ L' = L.eraseIdx i ∧ w.grownBy w' (Value.slice ad n cap).ownBlock :=
  (delOne B ⟨ad, n, cap, L⟩ i w h hi hl).mono fun e w' ⟨⟨ad', n', cap', L'⟩, h1, h2, h3, h4⟩ => ⟨ad', n', cap', L', h1, h2, h3, h4⟩
theorem apart_row {B : Nat} {w : World} {ad : Option Addr} {n cap : Nat} {L : List Cem} {m9 : Cem} (ho : OwnK 64 kCe.cells kCe.size B w (.slice ad n cap) L) (hm : kCe.own B w m9) (hd : ∀ g ∈ kCe.blocks m9, g ∉ L.flatMap kCe.blocks) : ∀ g ∈ kCe.blocks m9, g ∉ kLCe.blocks (⟨ad, n, cap, L⟩ : Rw Cem) := fun g hg hr => by
  rcases List.mem_append.1 (show g ∈ (Value.slice ad n cap).ownBlock.toList ++ L.flatMap kCe.blocks from hr) with h1 | h1
  · obtain ⟨cs, hc⟩ := ho.row (Option.mem_toList.1 h1)
    exact noRow_kCe B w m9 hm g hg cs hc
  · exact hd g hg h1
set_option maxRecDepth 100000 in
set_option maxHeartbeats 4000000 in
theorem rad1 {Q : Exit → Act → World → Prop} {v1 v2 v3 v4 v5 v6 v7 v8 v9 v10 v11 v12 v13 v14 v15 v16 v17 v18 v19 v20 v21 v22 v23 v24 v25 v26 v27 v28 v29 v30 v31 v32 v33 v34 v35 v36 v37 v38 v39 v40 v41 v42 : Value} {w : World} {gD n cap : Nat} {ad : Option Addr} {cc : Int} (K0 : Hid (w.cell? ⟨gD, 0, none⟩ = some (.int .i64 cc))) (K1 : Hid (w.cell? ⟨gD, 1, none⟩ = some (.slice ad n cap)))
  (hQ : ∀ (u7 u8 u9 u10 u11 u12 u13 u14 u15 : Value)  (wx : World), Below w.heap.size w wx → Q .normal ⟨#[.pointer (some ⟨gD, 0, none⟩), v1, v2, v3, v4, v5, v6, u7, u8, u9, u10, u11, u12, u13, u14, u15, .bool (decide (cc ≤ (n : Int))), v17, v18, v19, v20, v21, v22, v23, v24, v25, v26, v27, v28, v29, v30, v31, v32, v33, v34, v35, v36, v37, v38, v39, v40, v41, v42], []⟩ wx) :
  (Code.region 1 #[⟨some 7, .move (.tmp 0), 92, "l12_cache.go:44", #[], none⟩,
   ⟨some 8, .nilCheck (.tmp 7), 0, "l12_cache.go:44", #[⟨0, .data⟩], none⟩,
   ⟨some 9, .fieldAddr 60 (.tmp 8) 1, 0, "l12_cache.go:44", #[⟨1, .data⟩], none⟩,
   ⟨some 10, .load 24 (.tmp 9), 24, "l12_cache.go:44", #[⟨2, .data⟩], none⟩,
   ⟨some 11, .call ⟨.builtin .len, #[.tmp 10], #[24]⟩, 3, "l12_cache.go:44", #[⟨3, .data⟩], none⟩,
   ⟨some 12, .move (.tmp 0), 92, "l12_cache.go:44", #[], none⟩,
   ⟨some 13, .nilCheck (.tmp 12), 0, "l12_cache.go:44", #[⟨5, .data⟩], none⟩,
   ⟨some 14, .fieldAddr 60 (.tmp 13) 0, 0, "l12_cache.go:44", #[⟨6, .data⟩], none⟩,
   ⟨some 15, .load 3 (.tmp 14), 3, "l12_cache.go:44", #[⟨7, .data⟩], none⟩,
   ⟨some 16, .binOp BinOp.geq 3 (.tmp 11) (.tmp 15) 3, 4, "l12_cache.go:44", #[⟨4, .data⟩, ⟨8, .data⟩], none⟩] true).wp Tryz.prog Q ⟨#[.pointer (some ⟨gD, 0, none⟩), v1, v2, v3, v4, v5, v6, v7, v8, v9, v10, v11, v12, v13, v14, v15, v16, v17, v18, v19, v20, v21, v22, v23, v24, v25, v26, v27, v28, v29, v30, v31, v32, v33, v34, v35, v36, v37, v38, v39, v40, v41, v42], []⟩ w := by
 have HQ := Lib.hid hQ; clear hQ
 have hdr : Below w.heap.size w w.drew := (Below.refl _ _).drew
 have BB := Lib.hid hdr
 refine wp_region_noPanic ?_
 refine wp_region_held_drew (S := (fun w' => w'.cell? ⟨gD, 0, none⟩ = some (.int .i64 cc) ∧ w'.cell? ⟨gD, 1, none⟩ = some (.slice ad n cap))) (by kernel_rfl) ?_ (fun hHeld => ?_)
 ·
  exact ⟨kc K0.out BB.out, kc K1.out BB.out⟩
 clear hdr
 generalize w.drew = wd at *
 refine wpAnyH_take (i := 0) (oi := ⟨some 7, .move (.tmp 0), 92, "l12_cache.go:44", #[], none⟩) (v := ?_) rfl (by kernel_rfl) (by kernel_rfl) (by kernel_rfl) (fun _ _ _ h => h) (Or.inl ⟨by rfl, ?_⟩) (by assumption) ?_
 rotate_left
 ·
  intro w' hSw; (try dsimp only at hSw); first | (go_simp; done) | (go_simp; with_reducible rfl)
 (try simp only [Act.put, Row.pB0, Row.pB1, Row.pB2])
 refine wpAnyH_take (i := 1) (oi := ⟨some 8, .nilCheck (.tmp 7), 0, "l12_cache.go:44", #[⟨0, .data⟩], none⟩) (v := ?_) rfl (by kernel_rfl) (by kernel_rfl) (by kernel_rfl) (fun _ _ _ h => h) (Or.inl ⟨by rfl, ?_⟩) (by assumption) ?_
 rotate_left
 ·
  intro w' hSw; (try dsimp only at hSw); first | (go_simp; done) | (go_simp; with_reducible rfl)
 (try simp only [Act.put, Row.pB0, Row.pB1, Row.pB2])
 refine wpAnyH_take (i := 2) (oi := ⟨some 9, .fieldAddr 60 (.tmp 8) 1, 0, "l12_cache.go:44", #[⟨1, .data⟩], none⟩) (v := ?_) rfl (by kernel_rfl) (by kernel_rfl) (by kernel_rfl) (fun _ _ _ h => h) (Or.inl ⟨by rfl, ?_⟩) (by assumption) ?_
 rotate_left
 ·
  intro w' hSw; (try dsimp only at hSw); first | (go_simp; done) | (go_simp; with_reducible rfl)
 (try simp only [Act.put, Row.pB0, Row.pB1, Row.pB2])
 refine wpAnyH_take (i := 3) (oi := ⟨some 10, .load 24 (.tmp 9), 24, "l12_cache.go:44", #[⟨2, .data⟩], none⟩) (v := ?_) rfl (by kernel_rfl) (by kernel_rfl) (by kernel_rfl) (fun _ _ _ h => h) (Or.inl ⟨by rfl, ?_⟩) (by assumption) ?_
 rotate_left
 ·
  intro w' hSw; (try dsimp only at hSw); first | (go_simp; done) | (go_simp; with_reducible rfl)
 (try simp only [Act.put, Row.pB0, Row.pB1, Row.pB2])
 refine wpAnyH_take (i := 4) (oi := ⟨some 11, .call ⟨.builtin .len, #[.tmp 10], #[24]⟩, 3, "l12_cache.go:44", #[⟨3, .data⟩], none⟩) (v := ?_) rfl (by kernel_rfl) (by kernel_rfl) (by kernel_rfl) (fun _ _ _ h => h) (Or.inl ⟨by rfl, ?_⟩) (by assumption) ?_
 rotate_left
 ·
  intro w' hSw; (try dsimp only at hSw); first | (go_simp; done) | (go_simp; with_reducible rfl)
 (try simp only [Act.put, Row.pB0, Row.pB1, Row.pB2])
 refine wpAnyH_take (i := 5) (oi := ⟨some 12, .move (.tmp 0), 92, "l12_cache.go:44", #[], none⟩) (v := ?_) rfl (by kernel_rfl) (by kernel_rfl) (by kernel_rfl) (fun _ _ _ h => h) (Or.inl ⟨by rfl, ?_⟩) (by assumption) ?_
 rotate_left
 ·
  intro w' hSw; (try dsimp only at hSw); first | (go_simp; done) | (go_simp; with_reducible rfl)
 (try simp only [Act.put, Row.pB0, Row.pB1, Row.pB2])
 refine wpAnyH_take (i := 6) (oi := ⟨some 13, .nilCheck (.tmp 12), 0, "l12_cache.go:44", #[⟨5, .data⟩], none⟩) (v := ?_) rfl (by kernel_rfl) (by kernel_rfl) (by kernel_rfl) (fun _ _ _ h => h) (Or.inl ⟨by rfl, ?_⟩) (by assumption) ?_
 rotate_left
 ·
  intro w' hSw; (try dsimp only at hSw); first | (go_simp; done) | (go_simp; with_reducible rfl)
 (try simp only [Act.put, Row.pB0, Row.pB1, Row.pB2])
 refine wpAnyH_take (i := 7) (oi := ⟨some 14, .fieldAddr 60 (.tmp 13) 0, 0, "l12_cache.go:44", #[⟨6, .data⟩], none⟩) (v := ?_) rfl (by kernel_rfl) (by kernel_rfl) (by kernel_rfl) (fun _ _ _ h => h) (Or.inl ⟨by rfl, ?_⟩) (by assumption) ?_
 rotate_left
 ·
  intro w' hSw; (try dsimp only at hSw); first | (go_simp; done) | (go_simp; with_reducible rfl)
 (try simp only [Act.put, Row.pB0, Row.pB1, Row.pB2])
 refine wpAnyH_take (i := 8) (oi := ⟨some 15, .load 3 (.tmp 14), 3, "l12_cache.go:44", #[⟨7, .data⟩], none⟩) (v := ?_) rfl (by kernel_rfl) (by kernel_rfl) (by kernel_rfl) (fun _ _ _ h => h) (Or.inl ⟨by rfl, ?_⟩) (by assumption) ?_
 rotate_left
 ·
  intro w' hSw; (try dsimp only at hSw); first | (go_simp; done) | (go_simp; with_reducible rfl)
 (try simp only [Act.put, Row.pB0, Row.pB1, Row.pB2])
 refine wpAnyH_take (i := 9) (oi := ⟨some 16, .binOp BinOp.geq 3 (.tmp 11) (.tmp 15) 3, 4, "l12_cache.go:44", #[⟨4, .data⟩, ⟨8, .data⟩], none⟩) (v := ?_) rfl (by kernel_rfl) (by kernel_rfl) (by kernel_rfl) (fun _ _ _ h => h) (Or.inl ⟨by rfl, ?_⟩) (by assumption) ?_
 rotate_left
 ·
  intro w' hSw; (try dsimp only at hSw); first | (go_simp; done) | (go_simp; with_reducible rfl)
 (try simp only [Act.put, Row.pB0, Row.pB1, Row.pB2])
 refine wpAnyH_done (by kernel_rfl) ?_ _
 exact NoPanic.normal (HQ.out _ _ _ _ _ _ _ _ _  _  BB.out)
set_option maxHeartbeats 16000000 in
theorem implAdd (B C gD : Nat) (cc : Int) (ad : Option Addr) (n cap : Nat) (L : List Cem) (x : Cet) (m9 : Cem) (xa : Option Addr) (na ca : Nat) (xb : Option Addr) (nb cb : Nat) (xc : Option Addr) (nc cc_ : Nat) (w : World) (hx : Ret.Blk w gD #[.int .i64 cc, .slice ad n cap] 60) (h : kLCe.Own B w.heap.size w ⟨ad, n, cap, L⟩) (hl : L.length ≤ 1100000) (hcc : 1 ≤ cc) (hs9 : kCe.strip m9 = x) (hd9 : kCe.cells m9 = [.slice xa na ca, .slice xb nb cb, .slice xc nc cc_, .int .i64 x.1.2.2.2.1, .int .i64 x.1.2.2.2.2, .int .i64 x.2]) (hm : kCe.Own B w.heap.size w m9) (hd : ∀ g ∈ kCe.blocks m9, g ∉ L.flatMap kCe.blocks) (hCB : C ≤ B) (hCg : C ≤ gD) (hBw : B ≤ w.heap.size) :
    Calls Tryz.prog 37 #[.pointer (some ⟨gD, 0, none⟩), .agg #[.slice xa na ca, .slice xb nb cb, .slice xc nc cc_, .int .i64 x.1.2.2.2.1, .int .i64 x.1.2.2.2.2, .int .i64 x.2], .func (.func 39) #[] #[]] w fun e w' => e = .returned (.tuple #[]) ∧ StPost B C gD cc (roomE cc (L.map kCe.strip) ++ [x]) w w' := by
  have hnl : n = L.length := h.1.1.holds.lenEq
  have hb0 := (Below.refl w.heap.size w).alloc (Nat.le_refl _) (.cells #[.slice xa na ca, .slice xb nb cb, .slice xc nc cc_, .int .i64 x.1.2.2.2.1, .int .i64 x.1.2.2.2.2, .int .i64 x.2] 64)
  have HX := Lib.hid (hx.on hb0); have HO := Lib.hid (h.upto hb0); have HM := Lib.hid ((hm.on hb0).mono (Nat.le_refl _) hb0.size); have HD := Lib.hid hd; have HS9 := Lib.hid hs9; have HD9 := Lib.hid hd9; have HNL := Lib.hid hnl
  have HE := Lib.hid (Ret.Blk.new w #[.slice xa na ca, .slice xb nb cb, .slice xc nc cc_, .int .i64 x.1.2.2.2.1, .int .i64 x.1.2.2.2.2, .int .i64 x.2] 64); have HB := Lib.hid ((hb0.mono hBw).mono hCB); have HBW := Lib.hid (Nat.le_trans hBw hb0.size)
  have HLL := Lib.hid hl
  have HLT := Lib.hid (fun g hg => (h.1.1.lt g hg).2)
  have hGD := hx.lt
  clear hx h hs9 hd9 hm hd hb0 hnl hl
  go_enter Tryz.func37, Tryz.ntmps37
  go_wp2_with fail
  revert HX HO HM HE HB HBW
  generalize w.alloc (.cells #[.slice xa na ca, .slice xb nb cb, .slice xc nc cc_, .int .i64 x.1.2.2.2.1, .int .i64 x.1.2.2.2.2, .int .i64 x.2] 64) = v
  intro HX HO HM HE HB HBW
  refine rad1 (Lib.hid (HX.out.cell 0)) (Lib.hid (HX.out.cell 1)) ?_
  intro u7 u8 u9 u10 u11 u12 u13 u14 u15 wx hbx
  replace HX := Lib.hid (HX.out.on hbx); replace HO := Lib.hid (HO.out.upto hbx); replace HM := Lib.hid ((HM.out.on hbx).mono (Nat.le_refl _) hbx.size); replace HE := Lib.hid (HE.out.on hbx); replace HB := Lib.hid (HB.out.trans (hbx.mono (Nat.le_trans hCB HBW.out))); replace HBW := Lib.hid (Nat.le_trans HBW.out hbx.size)
  clear hbx
  by_cases hfull : cc ≤ (n : Int)
  · have t0 : decide (cc ≤ (n : Int)) = true := decide_eq_true hfull
    have hnpos : 0 < n := by omega
    have k0 : wx.cell? ⟨gD, 0, none⟩ = some (.int .i64 cc) := HX.out.cell 0
    have k1 : wx.cell? ⟨gD, 1, none⟩ = some (.slice ad n cap) := HX.out.cell 1
    obtain ⟨z, hz⟩ : ∃ z, leastE (L.map kCe.strip) (L.map kCe.strip).length = z := ⟨_, rfl⟩
    have hzn : z < n := by
      rw [← hz, HNL.out]
      exact Nat.lt_of_lt_of_eq (leastE_lt (L.map kCe.strip) (L.map kCe.strip).length (by rw [List.length_map, ← HNL.out]; exact hnpos)) (List.length_map _)
    have HZ := Lib.hid hz; clear hz
    have hzb : z ≤ 1099999 := by have := HLL.out; have := HNL.out; omega
    have HRM : Hid (roomE cc (L.map kCe.strip) = (L.eraseIdx z).map kCe.strip) := Lib.hid (by
      unfold roomE
      rw [HZ.out, if_pos (by rw [List.length_map, ← HNL.out]; exact hfull), erase_parts, erase_parts, List.map_append, List.map_take, List.map_drop])
    go_wp2_with fail
    refine (iLeast ad n cap cc (L.map kCe.strip) _ ⟨⟨ad, n, cap, L⟩, rfl, rfl, HO.out.holds⟩ (by rw [List.length_map]; have := HLL.out; omega) z HZ.out).mono ?_
    rintro e w2 ⟨rfl, hb2⟩
    replace HX := Lib.hid (HX.out.on hb2); replace HO := Lib.hid (HO.out.upto hb2); replace HM := Lib.hid ((HM.out.on hb2).mono (Nat.le_refl _) hb2.size); replace HE := Lib.hid (HE.out.on hb2); replace HB := Lib.hid (HB.out.trans (hb2.mono (Nat.le_trans hCB HBW.out))); replace HBW := Lib.hid (Nat.le_trans HBW.out hb2.size)
    clear hb2 k0 k1
    have k1 : w2.cell? ⟨gD, 1, none⟩ = some (.slice ad n cap) := HX.out.cell 1
    go_wp2_with fail
    refine (delOneS B ad n cap L z w2 HO.out (by rw [← HNL.out]; exact hzn) (by have := HLL.out; omega)).mono ?_
    rintro e w3 ⟨ad', n', cap', L', rfl, ho3, he3, hg3⟩
    have hX3 := HX.out.grown hg3 (row_ne_blk HO.out.1.1 HX.out (by decide))
    have t1 := hX3.frozen 1; have r1 := hX3.cell 1
    have hE3 := HE.out.grown hg3 (fun er => by have := HLT.out _ er.symm; omega)
    have hM3 : kCe.Own B w3.heap.size w3 m9 := (HM.out.grown hg3 (fun g hg hgm => apart_row HO.out.1.1 HM.out.1 HD.out g hgm (List.mem_append_left _ (Option.mem_toList.2 hg)))).mono (Nat.le_refl _) hg3.size
    have HX3 := Lib.hid hX3; have HO3 := Lib.hid ho3; have HE3' := Lib.hid hE3; have HM3 := Lib.hid hM3
    have HB3' := Lib.hid (HB.out.grown hg3 (Nat.le_trans hCB HBW.out) (fun g hg => Nat.le_trans hCB (HO.out.1.1.lt g hg).1))
    have HBW3 := Lib.hid (Nat.le_trans HBW.out hg3.size)
    have HL3 : Hid (L'.length ≤ 1100000) := Lib.hid (by rw [he3, List.length_eraseIdx]; have := HLL.out; split <;> omega)
    have HD3 : Hid (∀ g ∈ kCe.blocks m9, g ∉ L'.flatMap kCe.blocks) := Lib.hid (fun g hg hgm => by
      obtain ⟨y, hy, hyg⟩ := List.mem_flatMap.1 hgm
      rw [he3] at hy
      exact HD.out g hg (List.mem_flatMap.2 ⟨y, List.mem_of_mem_eraseIdx hy, hyg⟩))
    have HRS : Hid (roomE cc (L.map kCe.strip) = L'.map kCe.strip) := Lib.hid (by rw [HRM.out, he3])
    clear ho3 hg3 hX3 hE3 hM3 he3 k1 HX HO HM HE HB HBW HLL HD HRM HZ
    go_wp2_with fail
    clear r1 t1
    have HX := Lib.hid (HX3.out.set 1 (.slice ad' n' cap'))
    have HO := Lib.hid (show kLCe.Own B (w3.setCell ⟨gD, 1, none⟩ (.slice ad' n' cap')).heap.size (w3.setCell ⟨gD, 1, none⟩ (.slice ad' n' cap')) ⟨ad', n', cap', L'⟩ by rw [World.size_setCell]; exact own_setT noRow_St HO3.out HX3.out)
    have HM := Lib.hid (show kCe.Own B (w3.setCell ⟨gD, 1, none⟩ (.slice ad' n' cap')).heap.size (w3.setCell ⟨gD, 1, none⟩ (.slice ad' n' cap')) m9 by rw [World.size_setCell]; exact own_setT ((noRow_kDz _ (by decide) (by decide)).pair Kd.noRow_scalar) HM3.out HX3.out)
    have HE := Lib.hid (HE3'.out.other (a := ⟨gD, 1, none⟩) (by show gD ≠ w.heap.size; omega) (.slice ad' n' cap'))
    have HB := Lib.hid (HB3'.out.setCell (p := ⟨gD, 1, none⟩) hCg (.slice ad' n' cap'))
    have HBW : Hid (B ≤ (w3.setCell ⟨gD, 1, none⟩ (.slice ad' n' cap')).heap.size) := Lib.hid (by rw [World.size_setCell]; exact HBW3.out)
    clear HX3 HO3 HE3' HM3 HB3' HBW3
    revert HX HO HM HE HB HBW
    generalize w3.setCell ⟨gD, 1, none⟩ (.slice ad' n' cap') = wz
    intro HX HO HM HE HB HBW
    have hdr := (Below.refl wz.heap.size wz).drew
    have hbl := hdr.alloc hdr.size (.cells #[.slice xa na ca, .slice xb nb cb, .slice xc nc cc_, .int .i64 x.1.2.2.2.1, .int .i64 x.1.2.2.2.2, .int .i64 x.2] 64)
    have e0 : wz.cell? ⟨w.heap.size, 0, none⟩ = some (.slice xa na ca) := HE.out.cell 0
    have e0d : wz.drew.cell? ⟨w.heap.size, 0, none⟩ = some (.slice xa na ca) := HE.out.cell 0
    have e1 : wz.cell? ⟨w.heap.size, 1, none⟩ = some (.slice xb nb cb) := HE.out.cell 1
    have e1d : wz.drew.cell? ⟨w.heap.size, 1, none⟩ = some (.slice xb nb cb) := HE.out.cell 1
    have e2 : wz.cell? ⟨w.heap.size, 2, none⟩ = some (.slice xc nc cc_) := HE.out.cell 2
    have e2d : wz.drew.cell? ⟨w.heap.size, 2, none⟩ = some (.slice xc nc cc_) := HE.out.cell 2
    have e3 : wz.cell? ⟨w.heap.size, 3, none⟩ = some (.int .i64 x.1.2.2.2.1) := HE.out.cell 3
    have e3d : wz.drew.cell? ⟨w.heap.size, 3, none⟩ = some (.int .i64 x.1.2.2.2.1) := HE.out.cell 3
    have e4 : wz.cell? ⟨w.heap.size, 4, none⟩ = some (.int .i64 x.1.2.2.2.2) := HE.out.cell 4
    have e4d : wz.drew.cell? ⟨w.heap.size, 4, none⟩ = some (.int .i64 x.1.2.2.2.2) := HE.out.cell 4
    have e5 : wz.cell? ⟨w.heap.size, 5, none⟩ = some (.int .i64 x.2) := HE.out.cell 5
    have e5d : wz.drew.cell? ⟨w.heap.size, 5, none⟩ = some (.int .i64 x.2) := HE.out.cell 5
    have g1 : wz.cell? ⟨gD, 1, none⟩ = some (.slice ad' n' cap') := HX.out.cell 1
    have g1d : wz.drew.cell? ⟨gD, 1, none⟩ = some (.slice ad' n' cap') := HX.out.cell 1
    have g1L : (wz.alloc (.cells #[.slice xa na ca, .slice xb nb cb, .slice xc nc cc_, .int .i64 x.1.2.2.2.1, .int .i64 x.1.2.2.2.2, .int .i64 x.2] 64)).cell? ⟨gD, 1, none⟩ = some (.slice ad' n' cap') := (HX.out.on hbl).cell 1
    have g1M : (wz.alloc (.cells #[.slice xa na ca, .slice xb nb cb, .slice xc nc cc_, .int .i64 x.1.2.2.2.1, .int .i64 x.1.2.2.2.2, .int .i64 x.2] 64)).drew.cell? ⟨gD, 1, none⟩ = some (.slice ad' n' cap') := g1L
    have hap := apart_row HO.out.1.1 HM.out.1 HD3.out
    have HAP := Lib.hid hap
    have HOA := Lib.hid (show OwnK 64 kCe.cells 6 B (wz.drew.alloc (.cells #[.slice xa na ca, .slice xb nb cb, .slice xc nc cc_, .int .i64 x.1.2.2.2.1, .int .i64 x.1.2.2.2.2, .int .i64 x.2] 64)) (.slice ad' n' cap') L' from (HO.out.on hbl).1.1)
    have HSO := Lib.hid (show HoldsK kCe.cells 6 (wz.drew.alloc (.cells #[.slice xa na ca, .slice xb nb cb, .slice xc nc cc_, .int .i64 x.1.2.2.2.1, .int .i64 x.1.2.2.2.2, .int .i64 x.2] 64)) (.slice (some ⟨wz.heap.size, 0, none⟩) 1 1) [m9] from one_ce2 (W := wz.drew) HD9.out rfl)
    have HLM := Lib.hid (show (L'.length + 1) * 96 ≤ 140737488355328 by have := HL3.out; omega)
    have HLX := Lib.hid (show L'.length + 1 ≤ maxLen by have := HL3.out; unfold maxLen; omega)
    have HB3 := Lib.hid (show B ≤ (wz.drew.alloc (.cells #[.slice xa na ca, .slice xb nb cb, .slice xc nc cc_, .int .i64 x.1.2.2.2.1, .int .i64 x.1.2.2.2.2, .int .i64 x.2] 64)).heap.size from Nat.le_trans HBW.out hbl.size)
    have HXL := Lib.hid (HX.out.on hbl); have HBL := Lib.hid hbl
    have HBC := Lib.hid (HB.out.trans (hbl.mono (Nat.le_trans hCB HBW.out)))
    clear hdr hbl hap
    go_wp2_with fail
    go_region_law (refine step_appK kindCe (B := B) (l := L') (m := [m9]) rfl _ _ (by rfl) Tryz.underlying24 (by rfl) (by rfl) HOA.out HSO.out HLM.out HLX.out HB3.out ?_; intro v4 w4 ho4 hg4; obtain ⟨x4, n4, c4, rfl, -, -, ho4⟩ := ho4.shapeN; have hX4 := HXL.out.grown hg4 (row_ne_blk HOA.out HXL.out (by decide)); have z0 := hX4.cell 1; have z1 := hX4.frozen 1; have HX4 := Lib.hid hX4; have HO4 := Lib.hid (add_own HO.out HM.out HAP.out HBL.out ho4 hg4); have HB4 := Lib.hid (HBC.out.grown hg4 (Nat.le_trans hCB HB3.out) (fun g hg => Nat.le_trans hCB (HOA.out.lt g hg).1)); clear ho4 hg4 hX4)
    all_goals
      go_wp2_with fail
      go_end0
      exact ⟨rfl, x4, n4, c4, L' ++ [m9], HX4.out.set 1 (.slice x4 n4 c4), by rw [World.size_setCell]; exact own_setT noRow_St HO4.out HX4.out, by rw [HRS.out, List.map_append]; show _ ++ [kCe.strip m9] = _; rw [HS9.out], HB4.out.setCell (p := ⟨gD, 1, none⟩) hCg _⟩
  · have t0 : decide (cc ≤ (n : Int)) = false := decide_eq_false hfull
    have HRS : Hid (roomE cc (L.map kCe.strip) = L.map kCe.strip) := Lib.hid (by unfold roomE; rw [if_neg (by rw [List.length_map, ← HNL.out]; exact hfull)])
    have hdr := (Below.refl wx.heap.size wx).drew
    have hbl := hdr.alloc hdr.size (.cells #[.slice xa na ca, .slice xb nb cb, .slice xc nc cc_, .int .i64 x.1.2.2.2.1, .int .i64 x.1.2.2.2.2, .int .i64 x.2] 64)
    have e0 : wx.cell? ⟨w.heap.size, 0, none⟩ = some (.slice xa na ca) := HE.out.cell 0
    have e0d : wx.drew.cell? ⟨w.heap.size, 0, none⟩ = some (.slice xa na ca) := HE.out.cell 0
    have e1 : wx.cell? ⟨w.heap.size, 1, none⟩ = some (.slice xb nb cb) := HE.out.cell 1
    have e1d : wx.drew.cell? ⟨w.heap.size, 1, none⟩ = some (.slice xb nb cb) := HE.out.cell 1
    have e2 : wx.cell? ⟨w.heap.size, 2, none⟩ = some (.slice xc nc cc_) := HE.out.cell 2
    have e2d : wx.drew.cell? ⟨w.heap.size, 2, none⟩ = some (.slice xc nc cc_) := HE.out.cell 2
    have e3 : wx.cell? ⟨w.heap.size, 3, none⟩ = some (.int .i64 x.1.2.2.2.1) := HE.out.cell 3
    have e3d : wx.drew.cell? ⟨w.heap.size, 3, none⟩ = some (.int .i64 x.1.2.2.2.1) := HE.out.cell 3
    have e4 : wx.cell? ⟨w.heap.size, 4, none⟩ = some (.int .i64 x.1.2.2.2.2) := HE.out.cell 4
    have e4d : wx.drew.cell? ⟨w.heap.size, 4, none⟩ = some (.int .i64 x.1.2.2.2.2) := HE.out.cell 4
    have e5 : wx.cell? ⟨w.heap.size, 5, none⟩ = some (.int .i64 x.2) := HE.out.cell 5
    have e5d : wx.drew.cell? ⟨w.heap.size, 5, none⟩ = some (.int .i64 x.2) := HE.out.cell 5
    have g1 : wx.cell? ⟨gD, 1, none⟩ = some (.slice ad n cap) := HX.out.cell 1
    have g1d : wx.drew.cell? ⟨gD, 1, none⟩ = some (.slice ad n cap) := HX.out.cell 1
    have g1L : (wx.alloc (.cells #[.slice xa na ca, .slice xb nb cb, .slice xc nc cc_, .int .i64 x.1.2.2.2.1, .int .i64 x.1.2.2.2.2, .int .i64 x.2] 64)).cell? ⟨gD, 1, none⟩ = some (.slice ad n cap) := (HX.out.on hbl).cell 1
    have g1M : (wx.alloc (.cells #[.slice xa na ca, .slice xb nb cb, .slice xc nc cc_, .int .i64 x.1.2.2.2.1, .int .i64 x.1.2.2.2.2, .int .i64 x.2] 64)).drew.cell? ⟨gD, 1, none⟩ = some (.slice ad n cap) := g1L
    have hap := apart_row HO.out.1.1 HM.out.1 HD.out
    have HAP := Lib.hid hap
    have HOA := Lib.hid (show OwnK 64 kCe.cells 6 B (wx.drew.alloc (.cells #[.slice xa na ca, .slice xb nb cb, .slice xc nc cc_, .int .i64 x.1.2.2.2.1, .int .i64 x.1.2.2.2.2, .int .i64 x.2] 64)) (.slice ad n cap) L from (HO.out.on hbl).1.1)
    have HSO := Lib.hid (show HoldsK kCe.cells 6 (wx.drew.alloc (.cells #[.slice xa na ca, .slice xb nb cb, .slice xc nc cc_, .int .i64 x.1.2.2.2.1, .int .i64 x.1.2.2.2.2, .int .i64 x.2] 64)) (.slice (some ⟨wx.heap.size, 0, none⟩) 1 1) [m9] from one_ce2 (W := wx.drew) HD9.out rfl)
    have HLM := Lib.hid (show (L.length + 1) * 96 ≤ 140737488355328 by have := HLL.out; omega)
    have HLX := Lib.hid (show L.length + 1 ≤ maxLen by have := HLL.out; unfold maxLen; omega)
    have HB3 := Lib.hid (show B ≤ (wx.drew.alloc (.cells #[.slice xa na ca, .slice xb nb cb, .slice xc nc cc_, .int .i64 x.1.2.2.2.1, .int .i64 x.1.2.2.2.2, .int .i64 x.2] 64)).heap.size from Nat.le_trans HBW.out hbl.size)
    have HXL := Lib.hid (HX.out.on hbl); have HBL := Lib.hid hbl
    have HBC := Lib.hid (HB.out.trans (hbl.mono (Nat.le_trans hCB HBW.out)))
    clear hdr hbl hap
    go_wp2_with fail
    go_region_law (refine step_appK kindCe (B := B) (l := L) (m := [m9]) rfl _ _ (by rfl) Tryz.underlying24 (by rfl) (by rfl) HOA.out HSO.out HLM.out HLX.out HB3.out ?_; intro v4 w4 ho4 hg4; obtain ⟨x4, n4, c4, rfl, -, -, ho4⟩ := ho4.shapeN; have hX4 := HXL.out.grown hg4 (row_ne_blk HOA.out HXL.out (by decide)); have z0 := hX4.cell 1; have z1 := hX4.frozen 1; have HX4 := Lib.hid hX4; have HO4 := Lib.hid (add_own HO.out HM.out HAP.out HBL.out ho4 hg4); have HB4 := Lib.hid (HBC.out.grown hg4 (Nat.le_trans hCB HB3.out) (fun g hg => Nat.le_trans hCB (HOA.out.lt g hg).1)); clear ho4 hg4 hX4)
    all_goals
      go_wp2_with fail
      go_end0
      exact ⟨rfl, x4, n4, c4, L ++ [m9], HX4.out.set 1 (.slice x4 n4 c4), by rw [World.size_setCell]; exact own_setT noRow_St HO4.out HX4.out, by rw [HRS.out, List.map_append]; show _ ++ [kCe.strip m9] = _; rw [HS9.out], HB4.out.setCell (p := ⟨gD, 1, none⟩) hCg _⟩
end Go.Proofs.YtfglcmanmfenpaaGreat.Row
/- Lists of elements of a kind, marked part by part: what a part's marking leaves of the list. For any kind and any program. No conditions. -/
namespace Go.Proofs.YtfglcmanmfenpaaGreat.Row
open Go.ChangeShapes Go.WideShapes Go.ChangeAt Go.RowKit Go.Instr
set_option linter.unusedVariables false
set_option linter.unusedSectionVars false
set_option maxRecDepth 100000
section
variable {α M β N : Type} [Inhabited M] {k : Kd α M} {l : Kd β N} {B E : Nat} {w w' : World} {P : Program}
def MarkF (P : Program) (k : Kd α M) (fn : FuncId) (arg : M → Value) (adv : α → Nat) (mk : Int → α → α) : Prop :=
  ∀ (B E : Nat) (x : M) (w : World) (q : Int), k.Own B E w x → adv (k.strip x) ≤ 100000000 → 0 ≤ q → q + (adv (k.strip x) : Int) ≤ 100000000000 →
    Calls P fn #[arg x, .int .i64 q] w fun e w' => e = .returned (.int .i64 (q + (adv (k.strip x) : Int))) ∧ ∃ x', k.cells x' = k.cells x ∧ k.blocks x' = k.blocks x ∧ k.strip x' = mk q (k.strip x) ∧ k.Own B E w' x' ∧ WroteBy (k.blocks x) w w'
theorem MarkF.fst {fn : FuncId} {arg : M → Value} {adv : α → Nat} {mk : Int → α → α} (h : MarkF P k fn arg adv mk) (l : Kd β N) : MarkF P (k.pair l) fn (fun x => arg x.1) (fun a => adv a.1) (fun q a => (mk q a.1, a.2)) := by
  intro B E x w q ho hl h0 h1
  obtain ⟨m, n⟩ := x
  obtain ⟨o1, o2, hd⟩ := ho.parts
  refine (h B E m w q o1 hl h0 h1).mono ?_
  rintro e w' ⟨rfl, m', c, b, s, o, hw⟩
  refine ⟨rfl, (m', n), ?_, ?_, ?_, ?_, ?_⟩
  · show k.cells m' ++ l.cells n = k.cells m ++ l.cells n
    rw [c]
  · show k.blocks m' ++ l.blocks n = k.blocks m ++ l.blocks n
    rw [b]
  · show (k.strip m', l.strip n) = (mk q (k.strip m), l.strip n)
    rw [s]
  · exact Kd.Own.join o (hw.own o2 (fun g hg hg2 => hd g hg2 hg)) (by rw [b]; exact hd)
  · exact hw.more (fun g hg => List.mem_append_left _ hg)
theorem MarkF.snd {fn : FuncId} {arg : N → Value} {adv : β → Nat} {mk : Int → β → β} (h : MarkF P l fn arg adv mk) (k : Kd α M) : MarkF P (k.pair l) fn (fun x => arg x.2) (fun a => adv a.2) (fun q a => (a.1, mk q a.2)) := by
  intro B E x w q ho hl h0 h1
  obtain ⟨m, n⟩ := x
  obtain ⟨o1, o2, hd⟩ := ho.parts
  refine (h B E n w q o2 hl h0 h1).mono ?_
  rintro e w' ⟨rfl, n', c, b, s, o, hw⟩
  refine ⟨rfl, (m, n'), ?_, ?_, ?_, ?_, ?_⟩
  · show k.cells m ++ l.cells n' = k.cells m ++ l.cells n
    rw [c]
  · show k.blocks m ++ l.blocks n' = k.blocks m ++ l.blocks n
    rw [b]
  · show (k.strip m, l.strip n') = (k.strip m, mk q (l.strip n))
    rw [s]
  · exact Kd.Own.join (hw.own o1 (fun g hg hg2 => hd g hg hg2)) o (by rw [b]; exact hd)
  · exact hw.more (fun g hg => List.mem_append_right _ hg)
theorem flatB_one {γ : Type} {f : γ → List Nat} {L : List γ} (h : (L.flatMap f).Nodup) {j : Nat} (hj : j < L.length) : (f L[j]).Nodup :=
  (List.pairwise_flatMap.1 h).1 _ (List.getElem_mem hj)
theorem flatMap_set {γ δ : Type} {f : γ → List δ} {L : List γ} {j : Nat} (hj : j < L.length) {y : γ} (e : f y = f L[j]) : (L.set j y).flatMap f = L.flatMap f := by
  rw [List.flatMap_def, List.flatMap_def, List.map_set]
  congr 1
  have : f y = (L.map f)[j]'(by simpa using hj) := by simp [e]
  rw [this, List.set_getElem_self]
variable {e : TypeId} {ad : Option Addr} {n cap j : Nat} {L : List M}
theorem Kd.Own.row (h : (k.slice e).Own B E w ⟨ad, n, cap, L⟩) : OwnK e k.cells k.size B w (.slice ad n cap) L := h.1.1
theorem Kd.Own.apart (h : (k.slice e).Own B E w ⟨ad, n, cap, L⟩) : (L.flatMap k.blocks).Nodup ∧ ∀ g, (Value.slice ad n cap).ownBlock = some g → g ∉ L.flatMap k.blocks := by
  have h2 : ((Value.slice ad n cap).ownBlock.toList ++ L.flatMap k.blocks).Nodup := h.2.1
  have h3 := List.nodup_append.1 h2
  exact ⟨h3.2.1, fun g hg hg2 => h3.2.2 g (by simp [hg]) g hg2 rfl⟩
theorem Kd.Own.elem (h : (k.slice e).Own B E w ⟨ad, n, cap, L⟩) (hj : j < L.length) : k.Own B E w (nth L j) := by
  rw [nth_eq hj]
  refine ⟨h.1.2 _ (List.getElem_mem hj), flatB_one h.apart.1 hj, fun g hg => h.2.2 g ?_⟩
  exact List.mem_append_right _ (List.mem_flatMap.2 ⟨_, List.getElem_mem hj, hg⟩)
theorem Kd.Own.put {g : Nat} (h : (k.slice e).Own B E w ⟨some ⟨g, 0, none⟩, n, cap, L⟩) (hn : n = L.length) (hj : j < L.length) {i : Nat} (hi : i < k.size) {u : Value} {x' : M} (hc : k.cells x' = (k.cells (nth L j)).set i u) (hb : k.blocks x' = k.blocks (nth L j)) (ho : ∀ {W : World}, k.own B W (nth L j) → k.own B W x') :
    (k.slice e).Own B E (w.setCell ⟨g, j * k.size + i, none⟩ u) ⟨some ⟨g, 0, none⟩, n, cap, L.set j x'⟩ ∧ w.grownBy (w.setCell ⟨g, j * k.size + i, none⟩ u) (some g) := by
  obtain ⟨a1, a2⟩ := ownK_store (fun m => k.len m) h.row hn hj hi hc
  obtain ⟨hnd, hrow⟩ := h.apart
  have hg0 := hrow g rfl
  have hfb := flatMap_set (f := k.blocks) hj (by rw [hb, nth_eq hj])
  have keep : ∀ {y : M}, y ∈ L → k.own B (w.setCell ⟨g, j * k.size + i, none⟩ u) y := fun {y} hy => k.own_keep (h.1.2 y hy) (fun q hq => a2.block q (k.own_lt (h.1.2 y hy) q hq).2 (fun e1 => hg0 (by cases e1; exact List.mem_flatMap.2 ⟨y, hy, hq⟩)))
  refine ⟨⟨⟨a1, fun y hy => ?_⟩, ?_, ?_⟩, a2⟩
  · rcases List.mem_or_eq_of_mem_set (show y ∈ L.set j x' from hy) with hy | rfl
    · exact keep hy
    · exact ho (keep (nth_mem hj))
  · show ((Value.slice (some ⟨g, 0, none⟩) n cap).ownBlock.toList ++ (L.set j x').flatMap k.blocks).Nodup
    rw [hfb]
    exact h.2.1
  · intro q hq
    have hg2 : q ∈ (Value.slice (some ⟨g, 0, none⟩) n cap).ownBlock.toList ++ (L.set j x').flatMap k.blocks := hq
    rw [hfb] at hg2
    exact h.2.2 q hg2
end
section
variable {α : Type} [Inhabited α] (a : α → Nat) (f : Int → α → α)
def advK : List α → Nat
  | [] => 0
  | x :: r => a x + advK r
def mkLK (q : Int) : List α → List α
  | [] => []
  | x :: r => f q x :: mkLK (q + (a x : Int)) r
end
end Go.Proofs.YtfglcmanmfenpaaGreat.Row
