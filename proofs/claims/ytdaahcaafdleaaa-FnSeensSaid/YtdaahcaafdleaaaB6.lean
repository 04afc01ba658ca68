/- Contracts and mathematics, joined: PendD, PendC1, PendC2, PendN0, MarkK, ByK, MarkF, RequesterSM, PendingInterestSM, SeenNonceSM, NameK, NameSK, NameSM, NameSW, PendZ, PendF, PendS, PendM. No conditions but those that each states. -/
import Derived.WalkKit
import Derived.Deep.RegionHeld3
import Derived.Deep.RegionLaw
import Derived.Test.YtdaahcaafdleaaaB5
import Derived.Lib.AppendZerosOnto
import Derived.Test.YtdaahcaafdleaaaB3
/- slices.Delete and slices.DeleteFunc on rows of pending interests and of seen nonces. No conditions but that lengths fit. -/
namespace Go.Proofs.Ytdaahcaafdleaaa.Row
open Go.ChangeShapes Go.WideShapes Go.ChangeAt Go.RowKit Go.Instr
set_option linter.unusedVariables false
set_option maxRecDepth 100000
theorem zvSn (w : World) : (zeroValue 38).run Try.prog w = .ok (.agg #[.slice none 0 0, .int .i64 0]) w := by kernel_rfl
theorem holds_restSn {w : World} {g n cap i : Nat} {L : List Snm} (h : HoldsK kSn.cells 2 w (.slice (some ⟨g, 0, none⟩) n cap) L) (hi : i ≤ L.length) : HoldsK kSn.cells 2 w (.slice (if cap = i then some ⟨g, 0, none⟩ else some ⟨g, i * 2, none⟩) (n - i) (cap - i)) (L.drop i) := by
  have hn := h.lenEq
  obtain ⟨x', n', cap', hv, hn', hc', -⟩ := h.shapeN
  cases hv
  by_cases e : cap = i
  · rw [if_pos e]
    exact holds_dropIf szSn_cells h hi (Or.inr (by omega))
  · rw [if_neg e]
    exact holds_dropIf szSn_cells h hi (Or.inl (by rw [Nat.zero_add]))
set_option maxHeartbeats 8000000 in
theorem delOneSn (B : Nat) (r : Rw Snm) (i : Nat) (w : World) (h : kLSn.Own B w.heap.size w r) (hi : i < r.els.length) (hl : r.els.length ≤ 1100000) :
    Calls Try.prog 43 #[r.v, .int .i64 i, .int .i64 ((i : Int) + 1)] w fun e w' => ∃ r' : Rw Snm, e = .returned r'.v ∧ kLSn.Own B w'.heap.size w' r' ∧ r'.els = r.els.eraseIdx i ∧ w.grownBy w' r.v.ownBlock ∧ r'.v.ownBlock = r.v.ownBlock := by
  obtain ⟨ad, n, cap, L⟩ := r
  dsimp only at hl hi ⊢
  have HFULL := Lib.hid h
  rcases h.1.1.form with ⟨hv, hL⟩ | ⟨g, cap', hv, g1, g2, g3, g4⟩
  · dsimp only at hL
    rw [hL] at hi
    exact absurd hi (by simp)
  · replace hv : Value.slice ad n cap = .slice (some ⟨g, 0, none⟩) L.length cap' := hv
    cases hv
    dsimp only at g3 g4
    obtain ⟨N, hN⟩ : ∃ N, L.length = N + 1 := ⟨L.length - 1, by omega⟩
    show Calls Try.prog 43 #[.slice (some ⟨g, 0, none⟩) L.length cap, .int .i64 i, .int .i64 ((i : Int) + 1)] w _
    have hh := h.1.1.holds
    have hO : OwnK 38 kSn.cells 2 B w (.slice (some ⟨g, 0, none⟩) i cap) (L.take i) := h.1.1.take szSn_cells (i := i) (by show i ≤ L.length; omega)
    have hR := holds_restSn (i := i + 1) (show HoldsK kSn.cells 2 w (.slice (some ⟨g, 0, none⟩) L.length cap) L from hh) (by omega)
    have hroom : (L.take i).length + (L.drop (i + 1)).length ≤ cap := by rw [List.length_take, List.length_drop]; omega
    have hsum : (L.take i).length + (L.drop (i + 1)).length = N := by rw [List.length_take, List.length_drop]; omega
    have hne : ((i : Int) == (i : Int) + 1) = false := by simp <;> omega
    obtain ⟨j, hj⟩ : ∃ j, j = i + 1 := ⟨_, rfl⟩
    have hg2 : (i : Int) + 1 = (j : Int) := by omega
    rw [hg2] at hne ⊢
    rw [← hj] at hR hroom hsum
    rw [hN] at hR hi hl g3 ⊢
    have hi2 : i ≤ N := by omega
    have hij : i ≤ j := by omega
    have hjN : j ≤ N + 1 := by omega
    have hjc : j ≤ cap := by omega
    have hic : i ≤ cap := by omega
    have u1 : (i : Int) ≤ (j : Int) := by omega
    have u2 : (j : Int) ≤ (N : Int) + 1 := by omega
    have u3 : (N : Int) + 1 ≤ (cap : Int) := by omega
    have HJ := Lib.hid hj
    clear hj hg2 hN
    have HO := Lib.hid (hO.on (Below.refl _ _).drew); have HR := Lib.hid (hR.on (Below.refl w.heap.size w).drew); have HRM := Lib.hid hroom; have HSM := Lib.hid hsum
    clear hh hO hR hroom hsum h
    go_enter Try.func43, Try.ntmps43
    go_wp2_with fail
    go_region_law (refine step_appFits kindSn (B := B) (g := g) (n := i) (cap := cap) (l := L.take i) (m := L.drop j) rfl _ _ (by rfl) Try.underlying24 (by rfl) (by rfl) HO.out HR.out HRM.out ?_; intro w4 M hM ho4 hg4; rw [HSM.out] at hM; subst hM; have HO4 := Lib.hid ho4; have HG4 := Lib.hid hg4; clear ho4 hg4)
    all_goals
      clear HR
      generalize (if cap = j then (some ⟨g, 0, none⟩ : Option Addr) else some ⟨g, j * 2, none⟩) = xo7
      have hc1 : M + 1 ≤ cap := by omega
      have hML : M = (L.take i ++ L.drop j).length := by rw [List.length_append, HSM.out]
      have HML := Lib.hid hML; clear hML
      go_wp2_with (refine wpList_clearPast kindSn rfl zvSn rfl _ rfl Try.underlying24 (i := M) (k := 1) rfl HO4.out HML.out hc1 (by decide) ?_)
      intro w5 ho5 hg5
      have HO5 := Lib.hid ho5; have HG5 := Lib.hid (Go.World.grownBy.trans (Go.World.grownBy.trans (Sl.grown_of_below (Below.refl w.heap.size w).drew (some g)) HG4.out) hg5)
      clear ho5 hg5
      go_wp2_with fail
      go_ret
      exact ⟨⟨some ⟨g, 0, none⟩, M, _, L.take i ++ L.drop j⟩, rfl, Kd.sub noRow_kSn HFULL.out (by rw [HJ.out, ← erase_parts]; exact List.eraseIdx_sublist _ _) HG5.out (fun g' e => e) HO5.out, by rw [HJ.out]; exact (erase_parts L i).symm, HG5.out, rfl⟩
end Go.Proofs.Ytdaahcaafdleaaa.Row
/- Copies: the regions that append one element. No conditions but that lengths fit. -/
namespace Go.Proofs.Ytdaahcaafdleaaa.Row
open Go.ChangeShapes Go.WideShapes Go.ChangeAt Go.RowKit Go.Instr
set_option linter.unusedVariables false
set_option maxRecDepth 100000
set_option maxRecDepth 100000 in
set_option maxHeartbeats 4000000 in
theorem rsp {Q : Exit → Act → World → Prop} {v0 v1 v2 v4 v6 v7 v8 v9 v10 v11 v12 v13 v14 v15 v16 v17 v18 v19 v20 v21 v22 v23 v24 v25 : Value} {w : World} {Lu : List Snm} {B nu cu : Nat} {xu : Option Addr} (HBW : Hid (B ≤ w.heap.size)) (HLM : Hid (Lu.length ≤ 1100000)) {p n0 c0 : Nat} {x0 : Option Addr} {ls : Int} {nm : List ByteArray} (HOL : Hid (kLSn.Own B w.heap.size w ⟨xu, nu, cu, Lu⟩)) (HPR : Hid (some p ≠ (Value.slice xu nu cu).ownBlock)) (H_n : Hid (kN.At w (.agg #[.slice x0 n0 c0]) nm)) (HNB : Hid (bulk nm ≤ 1200000)) (K0 : Hid (w.cell? ⟨p, 0, none⟩ = some (.slice x0 n0 c0))) (K1 : Hid (w.cell? ⟨p, 1, none⟩ = some (.int .i64 ls)))
  (hQ : ∀ (u15 u16 u17 u18 u19 u20 u21 u22 u23 : Value) (x4 : Option Addr) (n4 c4 : Nat) (mm : Snm)  (wx : World), Hid (kSn.strip mm = (nm, ls)) → Hid (kLSn.Own B wx.heap.size wx ⟨x4, n4, c4, Lu ++ [mm]⟩) → Below B w wx → Q .normal ⟨#[v0, v1, v2, .slice x4 n4 c4, v4, .pointer (some ⟨p, 0, none⟩), v6, v7, v8, v9, v10, v11, v12, v13, v14, u15, u16, u17, u18, u19, u20, u21, u22, u23, v24, v25], []⟩ wx) :
  (Code.region 5 #[⟨some 15, .move (.tmp 3), 24, "l13_pend.go:201", #[], none⟩,
   ⟨some 16, .fieldAddr 38 (.tmp 5) 0, 0, "l13_pend.go:201", #[], none⟩,
   ⟨some 17, .load 27 (.tmp 16), 27, "l13_pend.go:201", #[⟨1, .data⟩], none⟩,
   ⟨some 18, .call ⟨.value (.func 68), #[.tmp 17], #[27]⟩, 27, "l13_pend.go:201", #[⟨2, .data⟩], none⟩,
   ⟨some 19, .fieldAddr 38 (.tmp 5) 1, 0, "l13_pend.go:201", #[], none⟩,
   ⟨some 20, .load 3 (.tmp 19), 3, "l13_pend.go:201", #[⟨4, .data⟩], none⟩,
   ⟨some 21, .build 38 #[(0, .tmp 18), (1, .tmp 20)], 38, "l13_pend.go:201", #[⟨3, .data⟩, ⟨5, .data⟩], none⟩,
   ⟨some 22, .buildSlice 24 1 #[(0, .tmp 21)], 24, "l13_pend.go:201", #[⟨6, .data⟩], none⟩,
   ⟨some 23, .call ⟨.builtin .append, #[.tmp 15, .tmp 22], #[24, 24]⟩, 24, "l13_pend.go:201", #[⟨0, .data⟩, ⟨7, .data⟩, ⟨3, .chain⟩], none⟩,
   ⟨some 3, .assign (.tmp 23), 24, "l13_pend.go:201", #[⟨8, .data⟩, ⟨8, .chain⟩, ⟨0, .phase⟩, ⟨1, .phase⟩, ⟨2, .phase⟩, ⟨3, .phase⟩, ⟨4, .phase⟩, ⟨5, .phase⟩, ⟨6, .phase⟩, ⟨7, .phase⟩, ⟨8, .phase⟩], none⟩] true).wp Try.prog Q ⟨#[v0, v1, v2, .slice xu nu cu, v4, .pointer (some ⟨p, 0, none⟩), v6, v7, v8, v9, v10, v11, v12, v13, v14, v15, v16, v17, v18, v19, v20, v21, v22, v23, v24, v25], []⟩ w := by
 have HQ := Lib.hid hQ; clear hQ
 have hdr : Below w.heap.size w w.drew := (Below.refl _ _).drew
 have BB := Lib.hid hdr
 have BX := Lib.hid (BB.out.mono HBW.out)
 refine wp_region_noPanic ?_
 refine wp_region_held_drew (S := (fun w' => w'.cell? ⟨p, 0, none⟩ = some (.slice x0 n0 c0) ∧ w'.cell? ⟨p, 1, none⟩ = some (.int .i64 ls))) (by kernel_rfl) ?_ (fun hHeld => ?_)
 ·
  exact ⟨kc K0.out BB.out, kc K1.out BB.out⟩
 clear hdr
 generalize w.drew = wd at *
 refine wpAnyH_take (i := 0) (oi := ⟨some 15, .move (.tmp 3), 24, "l13_pend.go:201", #[], none⟩) (v := ?_) rfl (by kernel_rfl) (by kernel_rfl) (by kernel_rfl) (fun _ _ _ h => h) (Or.inl ⟨by rfl, ?_⟩) (by assumption) ?_
 rotate_left
 ·
  intro w' hSw; (try dsimp only at hSw); first | (go_simp; done) | (go_simp; with_reducible rfl)
 (try simp only [Act.put, Row.pB0, Row.pB1, Row.pB2])
 refine wpAnyH_take (i := 1) (oi := ⟨some 16, .fieldAddr 38 (.tmp 5) 0, 0, "l13_pend.go:201", #[], none⟩) (v := ?_) rfl (by kernel_rfl) (by kernel_rfl) (by kernel_rfl) (fun _ _ _ h => h) (Or.inl ⟨by rfl, ?_⟩) (by assumption) ?_
 rotate_left
 ·
  intro w' hSw; (try dsimp only at hSw); first | (go_simp; done) | (go_simp; with_reducible rfl)
 (try simp only [Act.put, Row.pB0, Row.pB1, Row.pB2])
 refine wpAnyH_take (i := 2) (oi := ⟨some 17, .load 27 (.tmp 16), 27, "l13_pend.go:201", #[⟨1, .data⟩], none⟩) (v := ?_) rfl (by kernel_rfl) (by kernel_rfl) (by kernel_rfl) (fun _ _ _ h => h) (Or.inl ⟨by rfl, ?_⟩) (by assumption) ?_
 rotate_left
 ·
  intro w' hSw; (try dsimp only at hSw); first | (go_simp; done) | (go_simp; with_reducible rfl)
 (try simp only [Act.put, Row.pB0, Row.pB1, Row.pB2])
 refine wpAnyH_take (i := 4) (oi := ⟨some 19, .fieldAddr 38 (.tmp 5) 1, 0, "l13_pend.go:201", #[], none⟩) (v := ?_) rfl (by kernel_rfl) (by kernel_rfl) (by kernel_rfl) (fun _ _ _ h => h) (Or.inl ⟨by rfl, ?_⟩) (by assumption) ?_
 rotate_left
 ·
  intro w' hSw; (try dsimp only at hSw); first | (go_simp; done) | (go_simp; with_reducible rfl)
 (try simp only [Act.put, Row.pB0, Row.pB1, Row.pB2])
 refine wpAnyH_take (i := 5) (oi := ⟨some 20, .load 3 (.tmp 19), 3, "l13_pend.go:201", #[⟨4, .data⟩], none⟩) (v := ?_) rfl (by kernel_rfl) (by kernel_rfl) (by kernel_rfl) (fun _ _ _ h => h) (Or.inl ⟨by rfl, ?_⟩) (by assumption) ?_
 rotate_left
 ·
  intro w' hSw; (try dsimp only at hSw); first | (go_simp; done) | (go_simp; with_reducible rfl)
 (try simp only [Act.put, Row.pB0, Row.pB1, Row.pB2])
 refine wpAnyH_ready (rs := [3]) (by kernel_rfl) (by simp) ?_
 refine AllReadyH.cons (o := ⟨some 18, .call ⟨.value (.func 68), #[.tmp 17], #[27]⟩, 27, "l13_pend.go:201", #[⟨2, .data⟩], none⟩) rfl (fun K hK => ?_) AllReadyH.nil
 go_simp
 refine (iCpyN (H_n.out.on BB.out) (Nat.le_trans HNB.out (by decide))).mono ?_
 rintro e wn1 ⟨U1, rfl, hi, hb⟩
 obtain ⟨m1, rfl, hs1, hi⟩ := hi.split
 obtain ⟨ya, ma, da, e1, -⟩ := kN_shapeA (Kd.at_of (k := kN) hi.holds)
 have hd1 : kN.cells m1 = [.slice ya ma da] := by injection e1 with e; exact congrArg Array.toList e
 rw [e1]
 (first | have HDJ := Lib.hid (show ∀ g ∈ kN.blocks m1, g ∉ kLRq.blocks m2 from fun g h1 h2 => by have h5 := (hi.lt g h1).1; have h6 := (OQ.out.lt g h2).2.2; omega) | skip)
 have ON := Lib.hid (hi.mono BB.out.size (Nat.le_refl _)); have HS1 := Lib.hid hs1; have HD1 := Lib.hid hd1
 clear hi hs1 hd1 e1
 replace BB := Lib.hid (BB.out.trans (hb.mono BB.out.size))
 replace BX := Lib.hid (BX.out.trans (hb.mono (Nat.le_trans HBW.out BX.out.size)))
 clear hb
 (try go_wp2_with fail)
 clear hHeld
 refine hK.out _ _ ?_ (fun hHeld => ?_)
 ·
  (try dsimp only); exact ⟨kc K0.out BB.out, kc K1.out BB.out⟩
 clear hK K
 (try simp only [Act.put, Row.pB0, Row.pB1, Row.pB2])
 refine wpAnyH_take (i := 6) (oi := ⟨some 21, .build 38 #[(0, .tmp 18), (1, .tmp 20)], 38, "l13_pend.go:201", #[⟨3, .data⟩, ⟨5, .data⟩], none⟩) (v := ?_) rfl (by kernel_rfl) (by kernel_rfl) (by kernel_rfl) (fun _ _ _ h => h) (Or.inl ⟨by rfl, ?_⟩) (by assumption) ?_
 rotate_left
 ·
  intro w' hSw; (try dsimp only at hSw); first | (go_simp; done) | (go_simp; with_reducible rfl)
 (try simp only [Act.put, Row.pB0, Row.pB1, Row.pB2])
 refine wpAnyH_ready (rs := [7]) (by kernel_rfl) (by simp) ?_
 refine AllReadyH.cons (o := ⟨some 22, .buildSlice 24 1 #[(0, .tmp 21)], 24, "l13_pend.go:201", #[⟨6, .data⟩], none⟩) rfl (fun K hK => ?_) AllReadyH.nil
 go_simp
 have hb : Below wn1.heap.size wn1 (wn1.alloc (.cells #[.slice ya ma da, .int .i64 (ls)] 38)) := (Below.refl _ _).alloc (Nat.le_refl _) _
 have HSO := Lib.hid (one_k (k := kSn) szSn_cells (e := 38) (W := wn1) (m := ((m1, ls) : Snm)) (cs := [.slice ya ma da, .int .i64 (ls)]) (by show kN.cells m1 ++ kInt.cells (ls) = _; rw [HD1.out]; rfl))
 have HMM := Lib.hid ((sn_join (u := ls) ON.out wn1.heap.size ON.out.top).on hb)
 replace ON := Lib.hid (ON.out.on hb)
 replace BB := Lib.hid (BB.out.trans (hb.mono BB.out.size))
 replace BX := Lib.hid (BX.out.trans (hb.mono (Nat.le_trans HBW.out BX.out.size)))
 clear hb
 generalize wn1.alloc (.cells #[.slice ya ma da, .int .i64 (ls)] 38) = wn2 at *
 clear hHeld
 refine hK.out _ _ ?_ (fun hHeld => ?_)
 ·
  (try dsimp only); exact ⟨kc K0.out BB.out, kc K1.out BB.out⟩
 clear hK K
 (try simp only [Act.put, Row.pB0, Row.pB1, Row.pB2])
 refine wpAnyH_ready (rs := [8]) (by kernel_rfl) (by simp) ?_
 refine AllReadyH.cons (o := ⟨some 23, .call ⟨.builtin .append, #[.tmp 15, .tmp 22], #[24, 24]⟩, 24, "l13_pend.go:201", #[⟨0, .data⟩, ⟨7, .data⟩, ⟨3, .chain⟩], none⟩) rfl (fun K hK => ?_) AllReadyH.nil
 refine step_appK kindSn (B := B) (v := .slice xu nu cu) (l := Lu) (m := [((m1, ls) : Snm)]) rfl _ _ (by rfl) Try.underlying24 (by rfl) (by rfl) ?_ ?_ ?_ ?_ ?_ ?_
 ·
  exact (HOL.out.on BB.out).1.1
 ·
  exact HSO.out
 ·
  have h5 := HLM.out; simp; omega
 ·
  have h5 := HLM.out; unfold maxLen; simp; omega
 ·
  exact Nat.le_trans HBW.out BB.out.size
 intro v4 wn3 ho4 hg4
 obtain ⟨x4, n4, c4, rfl, -, -, ho4⟩ := ho4.shapeN
 have HO4 := Lib.hid (Kd.push_later noRow_kSn (r := ⟨xu, nu, cu, Lu⟩) (HOL.out.on BB.out) HMM.out HBW.out ho4 hg4)
 replace BX := Lib.hid (BX.out.grown hg4 (Nat.le_trans HBW.out BX.out.size) (fun g e => ((HOL.out.on BB.out).1.1.lt g e).1))
 have k0_ := hg4.cell (kc K0.out BB.out) HPR.out
 have k1_ := hg4.cell (kc K1.out BB.out) HPR.out
 clear ho4 hg4
 clear hHeld
 refine hK.out _ _ ?_ (fun hHeld => ?_)
 ·
  (try dsimp only); exact ⟨k0_, k1_⟩
 clear hK K k0_ k1_
 (try simp only [Act.put, Row.pB0, Row.pB1, Row.pB2])
 refine wpAnyH_take (i := 9) (oi := ⟨some 3, .assign (.tmp 23), 24, "l13_pend.go:201", #[⟨8, .data⟩, ⟨8, .chain⟩, ⟨0, .phase⟩, ⟨1, .phase⟩, ⟨2, .phase⟩, ⟨3, .phase⟩, ⟨4, .phase⟩, ⟨5, .phase⟩, ⟨6, .phase⟩, ⟨7, .phase⟩, ⟨8, .phase⟩], none⟩) (v := ?_) rfl (by kernel_rfl) (by kernel_rfl) (by kernel_rfl) (fun _ _ _ h => h) (Or.inl ⟨by rfl, ?_⟩) (by assumption) ?_
 rotate_left
 ·
  intro w' hSw; (try dsimp only at hSw); first | (go_simp; done) | (go_simp; with_reducible rfl)
 (try simp only [Act.put, Row.pB0, Row.pB1, Row.pB2])
 refine wpAnyH_done (by kernel_rfl) ?_ _
 exact NoPanic.normal (HQ.out _ _ _ _ _ _ _ _ _ x4 n4 c4 (m1, ls) _ (Lib.hid (by show (kN.strip m1, ls) = _; rw [HS1.out])) HO4 BX.out)
set_option maxRecDepth 100000 in
set_option maxHeartbeats 4000000 in
theorem rsm {Q : Exit → Act → World → Prop} {v1 v2 v6 v7 v8 v9 v10 v11 v12 v13 v14 v15 v16 v17 v18 v19 v20 v21 v22 v23 v24 v25 v26 v27 v28 v29 : Value} {w : World} {Lu : List Snm} {B nu cu : Nat} {xu : Option Addr} (HBW : Hid (B ≤ w.heap.size)) (HLM : Hid (Lu.length ≤ 1100000)) {p b off n c k n0 c0 E1 C1 : Nat} {x0 : Option Addr} {ls : Int} {nm : List ByteArray} {m1 : Rw ByteArray} (hk : k < n) (hkc : k ≤ c) (hn : n ≤ 9000000) (HOL : Hid (kLSn.Own B C1 w ⟨xu, nu, cu, Lu⟩)) (HC0 : Hid (B ≤ C1)) (HPR : Hid (some p ≠ (Value.slice xu nu cu).ownBlock)) (HBR : Hid (some b ≠ (Value.slice xu nu cu).ownBlock)) (ON : Hid (kN.Own C1 E1 w m1)) (HS1 : Hid (kN.strip m1 = nm)) (HD1 : Hid (kN.cells m1 = [.slice x0 n0 c0])) (K0 : Hid (w.cell? ⟨p, 0, none⟩ = some (.slice x0 n0 c0))) (K1 : Hid (w.cell? ⟨b, off + k * 2 + 1, none⟩ = some (.int .i64 ls)))
  (hQ : ∀ (u19 u20 u21 u22 u23 u24 u25 u26 u27 u28 : Value) (x4 : Option Addr) (n4 c4 : Nat) (mm : Snm)  (wx : World), Hid (kSn.strip mm = (nm, ls)) → Hid (kLSn.Own B wx.heap.size wx ⟨x4, n4, c4, Lu ++ [mm]⟩) → Below B w wx → Q .normal ⟨#[.slice (some ⟨b, off, none⟩) n c, v1, v2, .slice x4 n4 c4, .int .i64 k, .pointer (some ⟨p, 0, none⟩), v6, v7, v8, v9, v10, v11, v12, v13, v14, v15, v16, v17, v18, u19, u20, u21, u22, u23, u24, u25, u26, u27, u28, v29], []⟩ wx) :
  (Code.region 6 #[⟨some 19, .move (.tmp 3), 24, "l13_pend.go:142", #[], none⟩,
   ⟨some 20, .load 27 (.tmp 5), 27, "l13_pend.go:142", #[], none⟩,
   ⟨some 21, .move (.tmp 0), 24, "l13_pend.go:142", #[], none⟩,
   ⟨some 22, .move (.tmp 4), 3, "l13_pend.go:142", #[], none⟩,
   ⟨some 23, .indexAddr 24 (.tmp 21) (.tmp 22), 0, "l13_pend.go:142", #[⟨2, .data⟩, ⟨3, .data⟩], none⟩,
   ⟨some 24, .fieldAddr 38 (.tmp 23) 1, 0, "l13_pend.go:142", #[⟨4, .data⟩], none⟩,
   ⟨some 25, .load 3 (.tmp 24), 3, "l13_pend.go:142", #[⟨5, .data⟩], none⟩,
   ⟨some 26, .build 38 #[(0, .tmp 20), (1, .tmp 25)], 38, "l13_pend.go:142", #[⟨1, .data⟩, ⟨6, .data⟩], none⟩,
   ⟨some 27, .buildSlice 24 1 #[(0, .tmp 26)], 24, "l13_pend.go:142", #[⟨7, .data⟩], none⟩,
   ⟨some 28, .call ⟨.builtin .append, #[.tmp 19, .tmp 27], #[24, 24]⟩, 24, "l13_pend.go:142", #[⟨0, .data⟩, ⟨8, .data⟩], none⟩,
   ⟨some 3, .assign (.tmp 28), 24, "l13_pend.go:142", #[⟨9, .data⟩, ⟨9, .chain⟩, ⟨0, .phase⟩, ⟨1, .phase⟩, ⟨2, .phase⟩, ⟨3, .phase⟩, ⟨4, .phase⟩, ⟨5, .phase⟩, ⟨6, .phase⟩, ⟨7, .phase⟩, ⟨8, .phase⟩, ⟨9, .phase⟩], none⟩] true).wp Try.prog Q ⟨#[.slice (some ⟨b, off, none⟩) n c, v1, v2, .slice xu nu cu, .int .i64 k, .pointer (some ⟨p, 0, none⟩), v6, v7, v8, v9, v10, v11, v12, v13, v14, v15, v16, v17, v18, v19, v20, v21, v22, v23, v24, v25, v26, v27, v28, v29], []⟩ w := by
 have HQ := Lib.hid hQ; clear hQ
 have hdr : Below w.heap.size w w.drew := (Below.refl _ _).drew
 have BB := Lib.hid hdr
 have BX := Lib.hid (BB.out.mono HBW.out)
 refine wp_region_noPanic ?_
 refine wp_region_held_drew (S := (fun w' => w'.cell? ⟨p, 0, none⟩ = some (.slice x0 n0 c0) ∧ w'.cell? ⟨b, off + k * 2 + 1, none⟩ = some (.int .i64 ls))) (by kernel_rfl) ?_ (fun hHeld => ?_)
 ·
  exact ⟨kc K0.out BB.out, kc K1.out BB.out⟩
 clear hdr
 generalize w.drew = wd at *
 refine wpAnyH_take (i := 0) (oi := ⟨some 19, .move (.tmp 3), 24, "l13_pend.go:142", #[], none⟩) (v := ?_) rfl (by kernel_rfl) (by kernel_rfl) (by kernel_rfl) (fun _ _ _ h => h) (Or.inl ⟨by rfl, ?_⟩) (by assumption) ?_
 rotate_left
 ·
  intro w' hSw; (try dsimp only at hSw); first | (go_simp; done) | (go_simp; with_reducible rfl)
 (try simp only [Act.put, Row.pB0, Row.pB1, Row.pB2])
 refine wpAnyH_take (i := 1) (oi := ⟨some 20, .load 27 (.tmp 5), 27, "l13_pend.go:142", #[], none⟩) (v := ?_) rfl (by kernel_rfl) (by kernel_rfl) (by kernel_rfl) (fun _ _ _ h => h) (Or.inl ⟨by rfl, ?_⟩) (by assumption) ?_
 rotate_left
 ·
  intro w' hSw; (try dsimp only at hSw); first | (go_simp; done) | (go_simp; with_reducible rfl)
 (try simp only [Act.put, Row.pB0, Row.pB1, Row.pB2])
 refine wpAnyH_take (i := 2) (oi := ⟨some 21, .move (.tmp 0), 24, "l13_pend.go:142", #[], none⟩) (v := ?_) rfl (by kernel_rfl) (by kernel_rfl) (by kernel_rfl) (fun _ _ _ h => h) (Or.inl ⟨by rfl, ?_⟩) (by assumption) ?_
 rotate_left
 ·
  intro w' hSw; (try dsimp only at hSw); first | (go_simp; done) | (go_simp; with_reducible rfl)
 (try simp only [Act.put, Row.pB0, Row.pB1, Row.pB2])
 refine wpAnyH_take (i := 3) (oi := ⟨some 22, .move (.tmp 4), 3, "l13_pend.go:142", #[], none⟩) (v := ?_) rfl (by kernel_rfl) (by kernel_rfl) (by kernel_rfl) (fun _ _ _ h => h) (Or.inl ⟨by rfl, ?_⟩) (by assumption) ?_
 rotate_left
 ·
  intro w' hSw; (try dsimp only at hSw); first | (go_simp; done) | (go_simp; with_reducible rfl)
 (try simp only [Act.put, Row.pB0, Row.pB1, Row.pB2])
 refine wpAnyH_take (i := 4) (oi := ⟨some 23, .indexAddr 24 (.tmp 21) (.tmp 22), 0, "l13_pend.go:142", #[⟨2, .data⟩, ⟨3, .data⟩], none⟩) (v := ?_) rfl (by kernel_rfl) (by kernel_rfl) (by kernel_rfl) (fun _ _ _ h => h) (Or.inl ⟨by rfl, ?_⟩) (by assumption) ?_
 rotate_left
 ·
  intro w' hSw; (try dsimp only at hSw); first | (go_simp; done) | (go_simp; with_reducible rfl)
 (try simp only [Act.put, Row.pB0, Row.pB1, Row.pB2])
 refine wpAnyH_take (i := 5) (oi := ⟨some 24, .fieldAddr 38 (.tmp 23) 1, 0, "l13_pend.go:142", #[⟨4, .data⟩], none⟩) (v := ?_) rfl (by kernel_rfl) (by kernel_rfl) (by kernel_rfl) (fun _ _ _ h => h) (Or.inl ⟨by rfl, ?_⟩) (by assumption) ?_
 rotate_left
 ·
  intro w' hSw; (try dsimp only at hSw); first | (go_simp; done) | (go_simp; with_reducible rfl)
 (try simp only [Act.put, Row.pB0, Row.pB1, Row.pB2])
 refine wpAnyH_take (i := 6) (oi := ⟨some 25, .load 3 (.tmp 24), 3, "l13_pend.go:142", #[⟨5, .data⟩], none⟩) (v := ?_) rfl (by kernel_rfl) (by kernel_rfl) (by kernel_rfl) (fun _ _ _ h => h) (Or.inl ⟨by rfl, ?_⟩) (by assumption) ?_
 rotate_left
 ·
  intro w' hSw; (try dsimp only at hSw); first | (go_simp; done) | (go_simp; with_reducible rfl)
 (try simp only [Act.put, Row.pB0, Row.pB1, Row.pB2])
 refine wpAnyH_take (i := 7) (oi := ⟨some 26, .build 38 #[(0, .tmp 20), (1, .tmp 25)], 38, "l13_pend.go:142", #[⟨1, .data⟩, ⟨6, .data⟩], none⟩) (v := ?_) rfl (by kernel_rfl) (by kernel_rfl) (by kernel_rfl) (fun _ _ _ h => h) (Or.inl ⟨by rfl, ?_⟩) (by assumption) ?_
 rotate_left
 ·
  intro w' hSw; (try dsimp only at hSw); first | (go_simp; done) | (go_simp; with_reducible rfl)
 (try simp only [Act.put, Row.pB0, Row.pB1, Row.pB2])
 refine wpAnyH_ready (rs := [8]) (by kernel_rfl) (by simp) ?_
 refine AllReadyH.cons (o := ⟨some 27, .buildSlice 24 1 #[(0, .tmp 26)], 24, "l13_pend.go:142", #[⟨7, .data⟩], none⟩) rfl (fun K hK => ?_) AllReadyH.nil
 go_simp
 have hb : Below wd.heap.size wd (wd.alloc (.cells #[.slice x0 n0 c0, .int .i64 ls] 38)) := (Below.refl _ _).alloc (Nat.le_refl _) _
 have HSO := Lib.hid (one_k (k := kSn) szSn_cells (e := 38) (W := wd) (m := ((m1, ls) : Snm)) (cs := [.slice x0 n0 c0, .int .i64 ls]) (by show kN.cells m1 ++ kInt.cells ls = _; rw [HD1.out]; rfl))
 have HMM := Lib.hid ((sn_join (u := ls) (ON.out.on BB.out) wd.heap.size (ON.out.on BB.out).top).on hb)
 replace BB := Lib.hid (BB.out.trans (hb.mono BB.out.size))
 replace BX := Lib.hid (BX.out.trans (hb.mono (Nat.le_trans HBW.out BX.out.size)))
 clear hb
 generalize wd.alloc (.cells #[.slice x0 n0 c0, .int .i64 ls] 38) = wn1 at *
 clear hHeld
 refine hK.out _ _ ?_ (fun hHeld => ?_)
 ·
  (try dsimp only); exact ⟨kc K0.out BB.out, kc K1.out BB.out⟩
 clear hK K
 (try simp only [Act.put, Row.pB0, Row.pB1, Row.pB2])
 refine wpAnyH_ready (rs := [9]) (by kernel_rfl) (by simp) ?_
 refine AllReadyH.cons (o := ⟨some 28, .call ⟨.builtin .append, #[.tmp 19, .tmp 27], #[24, 24]⟩, 24, "l13_pend.go:142", #[⟨0, .data⟩, ⟨8, .data⟩], none⟩) rfl (fun K hK => ?_) AllReadyH.nil
 refine step_appK kindSn (B := B) (v := .slice xu nu cu) (l := Lu) (m := [((m1, ls) : Snm)]) rfl _ _ (by rfl) Try.underlying24 (by rfl) (by rfl) ?_ ?_ ?_ ?_ ?_ ?_
 ·
  exact (HOL.out.on BB.out).1.1
 ·
  exact HSO.out
 ·
  have h5 := HLM.out; simp; omega
 ·
  have h5 := HLM.out; unfold maxLen; simp; omega
 ·
  exact Nat.le_trans HBW.out BB.out.size
 intro v4 wn2 ho4 hg4
 obtain ⟨x4, n4, c4, rfl, -, -, ho4⟩ := ho4.shapeN
 have HO4 := Lib.hid (Kd.push_later noRow_kSn (r := ⟨xu, nu, cu, Lu⟩) (HOL.out.on BB.out) HMM.out HC0.out ho4 hg4)
 replace BX := Lib.hid (BX.out.grown hg4 (Nat.le_trans HBW.out BX.out.size) (fun g e => ((HOL.out.on BB.out).1.1.lt g e).1))
 have k0_ := hg4.cell (kc K0.out BB.out) HPR.out
 have k1_ := hg4.cell (kc K1.out BB.out) HBR.out
 clear ho4 hg4
 clear hHeld
 refine hK.out _ _ ?_ (fun hHeld => ?_)
 ·
  (try dsimp only); exact ⟨k0_, k1_⟩
 clear hK K k0_ k1_
 (try simp only [Act.put, Row.pB0, Row.pB1, Row.pB2])
 refine wpAnyH_take (i := 10) (oi := ⟨some 3, .assign (.tmp 28), 24, "l13_pend.go:142", #[⟨9, .data⟩, ⟨9, .chain⟩, ⟨0, .phase⟩, ⟨1, .phase⟩, ⟨2, .phase⟩, ⟨3, .phase⟩, ⟨4, .phase⟩, ⟨5, .phase⟩, ⟨6, .phase⟩, ⟨7, .phase⟩, ⟨8, .phase⟩, ⟨9, .phase⟩], none⟩) (v := ?_) rfl (by kernel_rfl) (by kernel_rfl) (by kernel_rfl) (fun _ _ _ h => h) (Or.inl ⟨by rfl, ?_⟩) (by assumption) ?_
 rotate_left
 ·
  intro w' hSw; (try dsimp only at hSw); first | (go_simp; done) | (go_simp; with_reducible rfl)
 (try simp only [Act.put, Row.pB0, Row.pB1, Row.pB2])
 refine wpAnyH_done (by kernel_rfl) ?_ _
 exact NoPanic.normal (HQ.out _ _ _ _ _ _ _ _ _ _ x4 n4 c4 (m1, ls) _ (Lib.hid (by show (kN.strip m1, ls) = _; rw [HS1.out])) HO4 BX.out)
end Go.Proofs.Ytdaahcaafdleaaa.Row
/- Copies of lists of pending interests and of seen nonces, model and program. No conditions but that lengths fit. -/
namespace Go.Proofs.Ytdaahcaafdleaaa.Row
open Go.ChangeShapes Go.WideShapes Go.ChangeAt Go.RowKit Go.Instr
set_option linter.unusedVariables false
set_option maxRecDepth 100000
theorem kLRq_holds {w : World} {x : Option Addr} {n c : Nat} {l : List Rqt} (h : kLRq.At w (.slice x n c) l) : HoldsK kRq.cells 3 w (.slice x n c) l := by
  obtain ⟨ad, n', cap, L, e, hn, ht, hh, -⟩ := kLRq_at h
  cases e
  rw [rq_map] at ht
  exact ht ▸ hh
set_option maxHeartbeats 8000000 in
theorem iCopyS (V : Value) (l : List Snt) (w : World) (h : kLSn.At w V l) (hf : FitS l) :
    Calls Try.prog 41 #[V] w fun e w' => ∃ U, e = .returned U ∧ kLSn.In w.heap.size w'.heap.size w' U l ∧ Below w.heap.size w w' := by
  have hl := hf.len
  have hp := hf.each
  obtain ⟨x, n, cx, L, rfl, hn, ht, hh, hel⟩ := kLSn_at h
  have hlen : l.length = n := by rw [← ht, List.length_map]; exact hn.symm
  rw [hlen] at hl
  have hcap : n ≤ cx := by obtain ⟨x', n', cap', hv, hn', hc', -⟩ := hh.shapeN; cases hv; exact hc'
  have HN := Lib.hid hn; have HT := Lib.hid ht; have HH := Lib.hid hh; have HEL := Lib.hid hel; have HLEN := Lib.hid hlen; have HP := Lib.hid hp
  clear hn ht hh hel hlen hp h
  obtain ⟨i0, hi, hz0, hz1, hz2⟩ := info_parts kindSn.elem
  have HI := Lib.hid hi; have HZ0 := Lib.hid hz0; have HZ1 := Lib.hid hz1; have HZ2 := Lib.hid hz2
  clear hi hz0 hz1 hz2
  go_enter Try.func41, Try.ntmps41
  go_wp2_with (at_make; refine wpList_make_own _ rfl _ _ 24 rfl w.heap.size 38 i0 (.agg #[.slice none 0 0, .int .i64 0]) 2 Try.underlying24 HI.out HZ0.out HZ1.out _ _ _ n rfl rfl rfl (by rw [HZ2.out]; omega) (by unfold maxLen; omega) (Nat.le_refl _) ?_)
  intro w9 hown hgrow
  have HB := Lib.hid ((Below.refl w.heap.size w).grown hgrow (Nat.le_refl _) (fun g hg => by cases hg))
  have HO := Lib.hid (show kLSn.Own w.heap.size w9.heap.size w9 ⟨some ⟨w.heap.size, 0, none⟩, 0, n, []⟩ from Kd.own_row hown rfl)
  clear hown hgrow HI HZ0 HZ1 HZ2
  go_wp2
  go_loopw [3, 11] (fun uv iv wr => ∃ k : Nat, k ≤ n ∧ iv = .int .i64 k ∧ ∃ xu nu cu Lu, uv = .slice xu nu cu ∧ Hid (Lu.length = k) ∧ Hid (Lu.map kSn.strip = l.take k) ∧ Hid (kLSn.Own w.heap.size wr.heap.size wr ⟨xu, nu, cu, Lu⟩) ∧ Hid (Below w.heap.size w wr)) (fun _ iv _ => n - (intOf iv).toNat)
  case atStart => exact ⟨0, Nat.zero_le _, rfl, some ⟨w.heap.size, 0, none⟩, 0, n, [], rfl, Lib.hid rfl, Lib.hid (by simp), HO, HB⟩
  case round =>
    clear HO HB
    obtain ⟨k, hk, rfl, xu, nu, cu, Lu, rfl, hM, hst, ho, hb⟩ := hrel
    by_cases hlt : k < n
    · have hlen := HN.out
      obtain ⟨b, off, y0, m0, d0, rfl, -, hc0, hc1, hA⟩ := kLSn_elem HH.out (fun y hy => HEL.out y hy) (j := k) (by omega)
      have hbw := Ret.cell_lt hc0
      have hpt : nth l k = kSn.strip (nth L k) := by rw [← HT.out, nth_map _ (by omega)]
      have hps := HP.out (nth l k) (nth_mem (by have := HLEN.out; omega))
      rw [← hpt] at hA hc1
      replace hA := hA.on hb.out
      replace hc0 := kc hc0 hb.out
      replace hc1 := kc hc1 hb.out
      have hNM := kSn_parts hA
      have HNM := Lib.hid hNM; have HPN := Lib.hid hps
      obtain ⟨nm, ls, hx⟩ : ∃ nm ls, nth l k = (nm, ls) := ⟨_, _, rfl⟩
      rw [hx] at HNM HPN hc1 hA
      have HXE := Lib.hid hx
      simp only at HNM HPN hc1
      clear hNM hx
      have H0 := Lib.hid hc0; have H1 := Lib.hid hc1
      clear hlen hpt hps hA
      have hal := (Below.refl wr.heap.size wr).alloc (Nat.le_refl _) (.cells #[.slice y0 m0 d0, .int .i64 ls] 38)
      have HXB := Lib.hid (Ret.Blk.new wr #[.slice y0 m0 d0, .int .i64 ls] 38)
      have HPL := Lib.hid (fun e => by have h5 := (ho.out.1.1.lt _ (Eq.symm e)).2; omega : some wr.heap.size ≠ (Value.slice xu nu cu).ownBlock)
      have HOL := Lib.hid (ho.out.upto hal); have hb2 := Lib.hid (hb.out.trans (hal.mono hb.out.size)); have HN2 := Lib.hid (HNM.out.on hal)
      have HBW := Lib.hid (show w.heap.size ≤ (wr.alloc (.cells #[.slice y0 m0 d0, .int .i64 ls] 38)).heap.size from hb2.out.size)
      have HLM := Lib.hid (show Lu.length ≤ 1100000 by have := hM.out; omega)
      clear hal
      go_wp2_with fail
      clear hc0 hc1
      refine rsp (B := w.heap.size) (Lu := Lu) HBW HLM HOL HPL HN2 HPN (Lib.hid (HXB.out.cell 0)) (Lib.hid (HXB.out.cell 1)) ?_
      intro u15 u16 u17 u18 u19 u20 u21 u22 u23 x4 n4 c4 mm wx hs4 ho4 hbx
      have HB4 := Lib.hid (hb2.out.trans hbx)
      have HO4 := ho4
      have HST := Lib.hid (show (Lu ++ [mm]).map kSn.strip = l.take (k + 1) by
        rw [List.map_append, hst.out, take_nx (by have := HLEN.out; omega), HXE.out]
        show _ ++ [kSn.strip mm] = _
        rw [hs4.out])
      clear hbx hs4 ho4
      go_wp2
      go_roundw
      case rel => exact ⟨k + 1, by omega, by go_num, x4, n4, c4, Lu ++ [mm], rfl, Lib.hid (by have := hM.out; simp; omega), HST, HO4, HB4⟩
      case measure => simp [intOf]; omega
    · obtain rfl : k = n := by omega
      clear hlt
      have HE := Lib.hid (show Lu.map kSn.strip = l by rw [hst.out, List.take_of_length_le (by rw [HLEN.out]; exact Nat.le_refl _)])
      go_wp2
      go_ret
      exact ⟨_, rfl, HE.out ▸ (show kLSn.In _ _ _ (.slice xu nu cu) (Lu.map kSn.strip) from ho.out.in), hb.out⟩
set_option maxHeartbeats 8000000 in
theorem sCopyS (V : Value) (l : List Snt) (w : World) (h : kLSn.At w V l) (hf : FitS l) :
    Calls Try.prog 44 #[V] w fun e w' => ∃ U, e = .returned U ∧ kLSn.In w.heap.size w'.heap.size w' U l ∧ Below w.heap.size w w' := by
  have hl := hf.len
  have hp := hf.each
  obtain ⟨x, n, cx, L, rfl, hn, ht, hh, hel⟩ := kLSn_at h
  have hlen : l.length = n := by rw [← ht, List.length_map]; exact hn.symm
  rw [hlen] at hl
  have hcap : n ≤ cx := by obtain ⟨x', n', cap', hv, hn', hc', -⟩ := hh.shapeN; cases hv; exact hc'
  have HN := Lib.hid hn; have HT := Lib.hid ht; have HH := Lib.hid hh; have HEL := Lib.hid hel; have HLEN := Lib.hid hlen; have HP := Lib.hid hp
  clear hn ht hh hel hlen hp h
  have hown := ownK_empty kSn.cells 2 38 w
  have HB := Lib.hid ((Below.refl w.heap.size w).alloc (Nat.le_refl _) (.cells #[] 38))
  have HO := Lib.hid (show kLSn.Own w.heap.size (w.alloc (.cells #[] 38)).heap.size _ ⟨some ⟨w.heap.size, 0, none⟩, 0, 0, []⟩ from Kd.own_row hown rfl)
  clear hown
  go_enter Try.func44, Try.ntmps44
  go_wp2
  go_loopw [3, 4] (fun uv iv wr => ∃ k : Nat, k ≤ n ∧ iv = .int .i64 k ∧ ∃ xu nu cu Lu, uv = .slice xu nu cu ∧ Hid (Lu.length = k) ∧ Hid (Lu.map kSn.strip = l.take k) ∧ Hid (kLSn.Own w.heap.size wr.heap.size wr ⟨xu, nu, cu, Lu⟩) ∧ Hid (Below w.heap.size w wr)) (fun _ iv _ => n - (intOf iv).toNat)
  case atStart => exact ⟨0, Nat.zero_le _, rfl, some ⟨w.heap.size, 0, none⟩, 0, 0, [], rfl, Lib.hid rfl, Lib.hid (by simp), HO, HB⟩
  case round =>
    clear HO HB
    obtain ⟨k, hk, rfl, xu, nu, cu, Lu, rfl, hM, hst, ho, hb⟩ := hrel
    by_cases hlt : k < n
    · have hlen := HN.out
      obtain ⟨b, off, y0, m0, d0, rfl, -, hc0, hc1, hA⟩ := kLSn_elem HH.out (fun y hy => HEL.out y hy) (j := k) (by omega)
      have hbw := Ret.cell_lt hc0
      have hpt : nth l k = kSn.strip (nth L k) := by rw [← HT.out, nth_map _ (by omega)]
      have hps := HP.out (nth l k) (nth_mem (by have := HLEN.out; omega))
      rw [← hpt] at hA hc1
      replace hA := hA.on hb.out
      replace hc0 := kc hc0 hb.out
      replace hc1 := kc hc1 hb.out
      have hNM := kSn_parts hA
      have HNM := Lib.hid hNM; have HPN := Lib.hid hps
      obtain ⟨nm, ls, hx⟩ : ∃ nm ls, nth l k = (nm, ls) := ⟨_, _, rfl⟩
      rw [hx] at HNM HPN hc1 hA
      have HXE := Lib.hid hx
      simp only at HNM HPN hc1
      clear hNM hx
      have H0 := Lib.hid hc0; have H1 := Lib.hid hc1
      clear hlen hpt hps hA
      go_wp2_with fail
      refine (sCpyN HNM.out (Nat.le_trans HPN.out (by decide))).mono ?_
      rintro e w5 ⟨U, rfl, hi5, hb5⟩
      obtain ⟨m5, za, na, ea, rfl, hs5, hd5, ho5⟩ := kN_splitP hi5
      have hal := (Below.refl w5.heap.size w5).alloc (Nat.le_refl _) (.cells #[.slice za na ea] 27)
      have hbl := hb5.trans (hal.mono hb5.size)
      have HXB := Lib.hid (Ret.Blk.new w5 #[.slice za na ea] 27)
      have HPL := Lib.hid (fun e => by have h5 := (ho.out.1.1.lt _ (Eq.symm e)).2; have h6 := hb5.size; omega : some w5.heap.size ≠ (Value.slice xu nu cu).ownBlock)
      have HBR := Lib.hid (fun e => by have h5 := (ho.out.1.1.lt _ (Eq.symm e)).1; omega : some b ≠ (Value.slice xu nu cu).ownBlock)
      have HOL := Lib.hid (ho.out.on hbl); have hb2 := Lib.hid (hb.out.trans (hbl.mono hb.out.size)); have HON := Lib.hid (ho5.on hal); have HS5 := Lib.hid hs5; have HD5 := Lib.hid hd5
      have HBW := Lib.hid (show w.heap.size ≤ (w5.alloc (.cells #[.slice za na ea] 27)).heap.size from hb2.out.size)
      have HC0 := Lib.hid hb.out.size; have HC1 := Lib.hid hbl.size
      have HLM := Lib.hid (show Lu.length ≤ 1100000 by have := hM.out; omega)
      have C1 := Lib.hid (kc H1.out hbl)
      clear hal hbl hi5 hb5 hs5 hd5 ho5 hbw hc0 hc1
      go_wp2_with fail
      refine rsm (B := w.heap.size) (Lu := Lu) HBW HLM hlt (by omega) (by omega) HOL HC0 HPL HBR HON HS5 HD5 (Lib.hid (HXB.out.cell 0)) C1 ?_
      intro u19 u20 u21 u22 u23 u24 u25 u26 u27 u28 x4 n4 c4 mm wx hs4 ho4 hbx
      have HB4 := Lib.hid (hb2.out.trans hbx)
      have HO4 := ho4
      have HST := Lib.hid (show (Lu ++ [mm]).map kSn.strip = l.take (k + 1) by
        rw [List.map_append, hst.out, take_nx (by have := HLEN.out; omega), HXE.out]
        show _ ++ [kSn.strip mm] = _
        rw [hs4.out])
      clear hbx hs4 ho4
      go_wp2
      go_roundw
      case rel => exact ⟨k + 1, by omega, by go_num, x4, n4, c4, Lu ++ [mm], rfl, Lib.hid (by have := hM.out; simp; omega), HST, HO4, HB4⟩
      case measure => simp [intOf]; omega
    · obtain rfl : k = n := by omega
      clear hlt
      have HE := Lib.hid (show Lu.map kSn.strip = l by rw [hst.out, List.take_of_length_le (by rw [HLEN.out]; exact Nat.le_refl _)])
      go_wp2
      go_ret
      exact ⟨_, rfl, HE.out ▸ (show kLSn.In _ _ _ (.slice xu nu cu) (Lu.map kSn.strip) from ho.out.in), hb.out⟩
end Go.Proofs.Ytdaahcaafdleaaa.Row
/- slices.Grow and slices.Concat on seen nonces. No conditions but that lengths fit. -/
namespace Go.Proofs.Ytdaahcaafdleaaa.Row
open Go.ChangeShapes Go.WideShapes Go.ChangeAt Go.RowKit Go.Instr
set_option linter.unusedVariables false
set_option maxRecDepth 100000
def GivesSn (w : World) (L : List Snm) (e : Ending) (w' : World) : Prop := ∃ v, e = .returned v ∧ OwnK 38 kSn.cells 2 w.heap.size w' v L ∧ Below w.heap.size w w'
set_option maxHeartbeats 1000000 in
theorem growNilSn (n : Nat) (w : World) (hn : n ≤ 5000000) :
    Calls Try.prog 76 #[.slice none 0 0, .int .i64 n] w (GivesSn w []) := by
  by_cases h0 : 0 < n
  · obtain ⟨i0, hi, hz0, hz1, hz2⟩ := info_parts kindSn.elem
    have hrz : ∀ ty, (Builtin.append_ #[24, 3] ty #[.slice none 0 0, .int .i64 (n : Int)]).run Try.prog w =
        .ok (.slice (some ⟨w.heap.size, 0, none⟩) (0 + n) (grownCap w (0 + n) 0 38)) (w.drew.alloc (.cells (([] : List Value).toArray ++ Builtin.zeroCells (Value.agg #[.slice none 0 0, .int .i64 0]).cells n ++ Builtin.zeroCells (Value.agg #[.slice none 0 0, .int .i64 0]).cells (grownCap w (0 + n) 0 38 - (0 + n))) 38)) := fun ty => by
      have hfit := growslice_fits (need := 0 + n) (old := 0) (bytes := i0.bytes) (by omega) (by rw [hz2]; omega)
      exact Lib.run_append_grow_zeros w 24 3 ty 38 i0 (.agg #[.slice none 0 0, .int .i64 0]) .i64 .i64 Try.underlying24 Try.underlying3 hi hz0 none 0 0 [] (by rw [hz1]; exact run_firstCells_none w.drew 2 0 0 0) n h0 (by rw [hz1]; decide) (by omega) (by omega) (by rw [hz2]; omega) hfit
    have hGn : 0 + n ≤ grownCap w (0 + n) 0 38 := grownCap_ge w _ _ _
    have hG63 := grownCap_le_maxLen w (0 + n) 0 38 (by unfold maxLen; omega)
    obtain ⟨G, hG⟩ : ∃ G, G = grownCap w (0 + n) 0 38 := ⟨_, rfl⟩
    rw [← hG] at hrz hGn hG63
    have hown : OwnK 38 kSn.cells 2 w.heap.size ((w.alloc (.cells (Builtin.zeroCells #[.slice none 0 0, .int .i64 0] n ++ Builtin.zeroCells #[.slice none 0 0, .int .i64 0] (G - n)) 38)).drew) (.slice (some ⟨w.heap.size, 0, none⟩) 0 G) [] := by
      refine ⟨rfl, .inr ⟨w.heap.size, G, _, rfl, Nat.le_refl _, heap_alloc_new w _, Nat.zero_le _, hG63, ?_, by simp [flat]⟩⟩
      simp only [Array.size_append, size_zeroCells]
      simp; omega
    have HOWN := Lib.hid hown; have HR := Lib.hid hrz
    unfold maxLen at hG63
    clear hi hz0 hz1 hz2 hG hown hrz
    go_enter Try.func76, Try.ntmps76
    go_wp2_with (at_builtin; refine Lib.wpList_append_run _ rfl _ _ _ _ rfl _ _ rfl rfl _ _ (HR.out _) ?_)
    all_goals (go_ret; exact ⟨.slice (some ⟨w.heap.size, 0, none⟩) 0 G, rfl, HOWN.out, ((Below.refl _ _).alloc (Nat.le_refl _) _).drew⟩)
  · obtain rfl : n = 0 := by omega
    go_enter Try.func76, Try.ntmps76
    go_wp2_with fail
    go_ret
    exact ⟨_, rfl, OwnK.nil _ _ _ _ _, Below.refl _ _⟩
def catSn (ls : Nat → List Snm) : Nat → List Snm
  | 0 => []
  | k + 1 => catSn ls k ++ ls k
theorem catSn_mono (ls : Nat → List Snm) {k n : Nat} (h : k ≤ n) : (catSn ls k).length ≤ (catSn ls n).length := by
  induction n with
  | zero => obtain rfl : k = 0 := by omega
            exact Nat.le_refl _
  | succ n ih =>
    by_cases e : k = n + 1
    · subst e; exact Nat.le_refl _
    · have := ih (by omega)
      simp only [catSn, List.length_append]; omega
set_option maxHeartbeats 2000000 in
theorem concatSn (b : Nat) (vs : Nat → Value) (ls : Nat → List Snm) (n : Nat) (w : World) (hn : n ≤ 1000) (hc : ∀ j, j < n → w.cell? ⟨b, j, none⟩ = some (vs j)) (hh : ∀ j, j < n → HoldsK kSn.cells 2 w (vs j) (ls j)) (hlen : (catSn ls n).length ≤ 4000001) :
    Calls Try.prog 42 #[.slice (some ⟨b, 0, none⟩) n n] w (GivesSn w (catSn ls n)) := by
  have HC := Lib.hid hc; have HH := Lib.hid hh
  clear hc hh
  go_enter Try.func42, Try.ntmps42
  go_wp2_with fail
  go_loop [3, 11] (fun sv iv => ∃ k : Nat, k ≤ n ∧ iv = .int .i64 k ∧ sv = .int .i64 ((catSn ls k).length : Nat)) (fun _ iv => n - (intOf iv).toNat)
  case atStart => exact ⟨0, Nat.zero_le _, rfl, rfl⟩
  case round =>
    obtain ⟨k, hk, rfl, rfl⟩ := hrel
    by_cases hlt : k < n
    · have hcell := HC.out k hlt
      obtain ⟨x, cap, hv, hcap, -⟩ := (HH.out k hlt).shape
      rw [hv] at hcell
      have hm := catSn_mono ls (k := k + 1) (n := n) (by omega)
      have HS := Lib.hid (show (catSn ls (k + 1)).length = (catSn ls k).length + (ls k).length by simp [catSn])
      have hm2 : (catSn ls k).length + (ls k).length ≤ 4000001 := by rw [← HS.out]; omega
      obtain ⟨c, hcc⟩ : ∃ c, c = (catSn ls k).length := ⟨_, rfl⟩
      obtain ⟨d, hdd⟩ : ∃ d, d = (ls k).length := ⟨_, rfl⟩
      rw [← hcc, ← hdd] at HS hm2
      rw [← hcc]
      rw [← hdd] at hcell hcap
      clear hv hm hcc hdd
      go_wp2_with fail
      go_round
      case rel => exact ⟨k + 1, by omega, by go_num, by rw [HS.out]; go_num⟩
      case measure => simp [intOf]; omega
    · obtain rfl : k = n := by omega
      clear hlt
      have HG := Lib.hid (growNilSn (catSn ls k).length w (by omega))
      obtain ⟨c, hcc⟩ : ∃ c, c = (catSn ls k).length := ⟨_, rfl⟩
      have HL := Lib.hid hlen
      rw [← hcc] at HG ⊢
      clear hcc hlen
      go_wp2_with fail
      refine HG.out.mono ?_
      rintro e w1 ⟨v1, rfl, ho, hb⟩
      have HO := Lib.hid ho; have HB := Lib.hid hb
      clear ho hb
      go_wp2_with fail
      go_loopw [6, 27] (fun rv iv wr => ∃ j : Nat, j ≤ k ∧ iv = .int .i64 j ∧ Hid (OwnK 38 kSn.cells 2 w.heap.size wr rv (catSn ls j)) ∧ Hid (Below w.heap.size w wr)) (fun _ iv _ => k - (intOf iv).toNat)
      case atStart => exact ⟨0, Nat.zero_le _, rfl, HO, HB⟩
      case round =>
        obtain ⟨j, hj, rfl, hr, hbr⟩ := hrel
        by_cases hlt : j < k
        · have hcell := hbr.out.cell (cell_lt (HC.out j hlt))
          rw [HC.out j hlt] at hcell
          have HHJ := (HH.out j hlt).on hbr.out
          have hmono := catSn_mono ls (k := j + 1) (n := k) (by omega)
          have hsum : (catSn ls j).length + (ls j).length ≤ 4000001 := by
            have := HL.out
            simp only [catSn, List.length_append] at hmono; omega
          obtain ⟨x, cap, hv, hcap, hh⟩ := HHJ.shape
          rw [hv] at hcell
          have HHH := Lib.hid hh
          clear hv hmono HHJ hh
          go_wp2_with (at_builtin; refine wpList_appK kindSn (B := w.heap.size) (l := catSn ls j) (m := ls j) rfl _ _ rfl Try.underlying24 rfl rfl hr.out HHH.out (by omega) (by unfold maxLen; omega) hbr.out.size ?_)
          intro v2 w2 ho hg
          have HO2 := Lib.hid ho; have HB2 := Lib.hid (hbr.out.grown hg hbr.out.size (fun g hh => (hr.out.lt g hh).1))
          clear ho hg
          go_wp2_with fail
          go_roundw
          case rel => exact ⟨j + 1, by omega, by go_num, HO2, HB2⟩
          case measure => simp [intOf]; omega
        · obtain rfl : j = k := by omega
          clear hlt
          go_wp2_with fail
          go_ret
          exact ⟨_, rfl, hr.out, hbr.out⟩
end Go.Proofs.Ytdaahcaafdleaaa.Row
/- Lists of elements of a kind, marked part by part: what a part's marking leaves of the list. For any kind and any program. No conditions. -/
namespace Go.Proofs.Ytdaahcaafdleaaa.Row
open Go.ChangeShapes Go.WideShapes Go.ChangeAt Go.RowKit Go.Instr
set_option linter.unusedVariables false
set_option linter.unusedSectionVars false
set_option maxRecDepth 100000
section
variable {α M β N : Type} [Inhabited M] {k : Kd α M} {l : Kd β N} {B E : Nat} {w w' : World} {P : Program}
def MarkF (P : Program) (k : Kd α M) (fn : FuncId) (arg : M → Value) (adv : α → Nat) (mk : Int → α → α) : Prop :=
  ∀ (B E : Nat) (x : M) (w : World) (q : Int), k.Own B E w x → adv (k.strip x) ≤ 100000000 → 0 ≤ q → q + (adv (k.strip x) : Int) ≤ 100000000000 →
    Calls P fn #[arg x, .int .i64 q] w fun e w' => e = .returned (.int .i64 (q + (adv (k.strip x) : Int))) ∧ ∃ x', k.cells x' = k.cells x ∧ k.blocks x' = k.blocks x ∧ k.strip x' = mk q (k.strip x) ∧ k.Own B E w' x' ∧ WroteBy (k.blocks x) w w'
theorem flatB_one {γ : Type} {f : γ → List Nat} {L : List γ} (h : (L.flatMap f).Nodup) {j : Nat} (hj : j < L.length) : (f L[j]).Nodup :=
  (List.pairwise_flatMap.1 h).1 _ (List.getElem_mem hj)
theorem flatMap_set {γ δ : Type} {f : γ → List δ} {L : List γ} {j : Nat} (hj : j < L.length) {y : γ} (e : f y = f L[j]) : (L.set j y).flatMap f = L.flatMap f := by
  rw [List.flatMap_def, List.flatMap_def, List.map_set]
  congr 1
  have : f y = (L.map f)[j]'(by simpa using hj) := by simp [e]
  rw [this, List.set_getElem_self]
variable {e : TypeId} {ad : Option Addr} {n cap j : Nat} {L : List M}
theorem Kd.Own.row (h : (k.slice e).Own B E w ⟨ad, n, cap, L⟩) : OwnK e k.cells k.size B w (.slice ad n cap) L := h.1.1
theorem Kd.Own.apart (h : (k.slice e).Own B E w ⟨ad, n, cap, L⟩) : (L.flatMap k.blocks).Nodup ∧ ∀ g, (Value.slice ad n cap).ownBlock = some g → g ∉ L.flatMap k.blocks := by
  have h2 : ((Value.slice ad n cap).ownBlock.toList ++ L.flatMap k.blocks).Nodup := h.2.1
  have h3 := List.nodup_append.1 h2
  exact ⟨h3.2.1, fun g hg hg2 => h3.2.2 g (by simp [hg]) g hg2 rfl⟩
theorem Kd.Own.elem (h : (k.slice e).Own B E w ⟨ad, n, cap, L⟩) (hj : j < L.length) : k.Own B E w (nth L j) := by
  rw [nth_eq hj]
  refine ⟨h.1.2 _ (List.getElem_mem hj), flatB_one h.apart.1 hj, fun g hg => h.2.2 g ?_⟩
  exact List.mem_append_right _ (List.mem_flatMap.2 ⟨_, List.getElem_mem hj, hg⟩)
theorem Kd.Own.put {g : Nat} (h : (k.slice e).Own B E w ⟨some ⟨g, 0, none⟩, n, cap, L⟩) (hn : n = L.length) (hj : j < L.length) {i : Nat} (hi : i < k.size) {u : Value} {x' : M} (hc : k.cells x' = (k.cells (nth L j)).set i u) (hb : k.blocks x' = k.blocks (nth L j)) (ho : ∀ {W : World}, k.own B W (nth L j) → k.own B W x') :
    (k.slice e).Own B E (w.setCell ⟨g, j * k.size + i, none⟩ u) ⟨some ⟨g, 0, none⟩, n, cap, L.set j x'⟩ ∧ w.grownBy (w.setCell ⟨g, j * k.size + i, none⟩ u) (some g) := by
  obtain ⟨a1, a2⟩ := ownK_store (fun m => k.len m) h.row hn hj hi hc
  obtain ⟨hnd, hrow⟩ := h.apart
  have hg0 := hrow g rfl
  have hfb := flatMap_set (f := k.blocks) hj (by rw [hb, nth_eq hj])
  have keep : ∀ {y : M}, y ∈ L → k.own B (w.setCell ⟨g, j * k.size + i, none⟩ u) y := fun {y} hy => k.own_keep (h.1.2 y hy) (fun q hq => a2.block q (k.own_lt (h.1.2 y hy) q hq).2 (fun e1 => hg0 (by cases e1; exact List.mem_flatMap.2 ⟨y, hy, hq⟩)))
  refine ⟨⟨⟨a1, fun y hy => ?_⟩, ?_, ?_⟩, a2⟩
  · rcases List.mem_or_eq_of_mem_set (show y ∈ L.set j x' from hy) with hy | rfl
    · exact keep hy
    · exact ho (keep (nth_mem hj))
  · show ((Value.slice (some ⟨g, 0, none⟩) n cap).ownBlock.toList ++ (L.set j x').flatMap k.blocks).Nodup
    rw [hfb]
    exact h.2.1
  · intro q hq
    have hg2 : q ∈ (Value.slice (some ⟨g, 0, none⟩) n cap).ownBlock.toList ++ (L.set j x').flatMap k.blocks := hq
    rw [hfb] at hg2
    exact h.2.2 q hg2
end
section
variable {α : Type} [Inhabited α] (a : α → Nat) (f : Int → α → α)
def advK : List α → Nat
  | [] => 0
  | x :: r => a x + advK r
def mkLK (q : Int) : List α → List α
  | [] => []
  | x :: r => f q x :: mkLK (q + (a x : Int)) r
end
end Go.Proofs.Ytdaahcaafdleaaa.Row
/- Slices of bytes in the words of kinds: sz, to, eq, mark, held. No conditions but that lengths fit. -/
namespace Go.Proofs.Ytdaahcaafdleaaa.Row
open Go.ChangeShapes Go.WideShapes Go.ChangeAt Go.RowKit Go.Instr
set_option linter.unusedVariables false
set_option maxRecDepth 100000
def okB (l : List Int) : Prop := l.length ≤ 9223372036854775807
end Go.Proofs.Ytdaahcaafdleaaa.Row
/- Names and bytes as parts that are marked; an element of a list, step by step. No conditions but that lengths fit. -/
namespace Go.Proofs.Ytdaahcaafdleaaa.Row
open Go.ChangeShapes Go.WideShapes Go.ChangeAt Go.RowKit Go.Instr
set_option linter.unusedVariables false
set_option linter.unusedSectionVars false
set_option maxRecDepth 100000
section
variable {α M : Type} [Inhabited M] {k : Kd α M} {B E : Nat} {w w' : World} {e : TypeId} {ad : Option Addr} {n cap j g : Nat} {Z : List M} {x x' : M}
end
end Go.Proofs.Ytdaahcaafdleaaa.Row
/- Lists of Requester: marked and looked at. No conditions but that lengths fit. -/
namespace Go.Proofs.Ytdaahcaafdleaaa.Row
open Go.ChangeShapes Go.WideShapes Go.ChangeAt Go.RowKit Go.Instr
set_option linter.unusedVariables false
set_option maxRecDepth 100000
def mvRq (z : Rqt) : Nat := 3
def meRq (q : Int) (z : Rqt) : Rqt := (q, q + 1, q + 1 + 1)
end Go.Proofs.Ytdaahcaafdleaaa.Row
/- Lists of PendingInterest: marked and looked at. No conditions but that lengths fit. -/
namespace Go.Proofs.Ytdaahcaafdleaaa.Row
open Go.ChangeShapes Go.WideShapes Go.ChangeAt Go.RowKit Go.Instr
set_option linter.unusedVariables false
set_option maxRecDepth 100000
def mvPi (z : Pit) : Nat := z.1.length + advK mvRq z.2.1 + 1
def mePi (q : Int) (z : Pit) : Pit := (marks markT (q) z.1.length, mkLK mvRq meRq (q + (z.1.length : Int)) z.2.1, q + (z.1.length : Int) + (advK mvRq z.2.1 : Int))
end Go.Proofs.Ytdaahcaafdleaaa.Row
/- Lists of SeenNonce: marked and looked at. No conditions but that lengths fit. -/
namespace Go.Proofs.Ytdaahcaafdleaaa.Row
open Go.ChangeShapes Go.WideShapes Go.ChangeAt Go.RowKit Go.Instr
set_option linter.unusedVariables false
set_option maxRecDepth 100000
def mvSn (z : Snt) : Nat := z.1.length + 1
def meSn (q : Int) (z : Snt) : Snt := (marks markT (q) z.1.length, q + (z.1.length : Int))
end Go.Proofs.Ytdaahcaafdleaaa.Row
/- Names in the words that kslice.py wants. No conditions but that lengths fit. -/
namespace Go.Proofs.Ytdaahcaafdleaaa.Row
open Go.ChangeShapes Go.WideShapes Go.ChangeAt Go.RowKit Go.Instr
set_option linter.unusedVariables false
set_option maxRecDepth 100000
abbrev Nnt := List ByteArray
abbrev Nnm := Rw ByteArray
abbrev kNn : Kd Nnt Nnm := kN
abbrev wtNn (x : Nnt) : Nat := bulk x
abbrev adNn (x : Nnt) : Nat := x.length
abbrev okNn (x : Nnt) : Prop := okN x
abbrev inNn (x : Nnt) : Prop := okN x
theorem okN.ok {x : List ByteArray} (h : okN x) : okNn x := h
end Go.Proofs.Ytdaahcaafdleaaa.Row
/- Lists of names in the words of kinds: sz, to, eq. No conditions but that lengths fit. -/
namespace Go.Proofs.Ytdaahcaafdleaaa.Row
open Go.ChangeShapes Go.WideShapes Go.ChangeAt Go.RowKit Go.Instr
set_option linter.unusedVariables false
set_option maxRecDepth 100000
def kLNn : Kd (List Nnt) (Rw Nnm) := kNn.slice 27
def okLNn (l : List Nnt) : Prop := l.length ≤ 9223372036854775807 ∧ ∀ x ∈ l, okNn x
section
variable {w : World} {V : Value} {l : List Nnt} {B E : Nat}
end
def inLNn (l : List Nnt) : Prop := l.length ≤ 9223372036854775807 ∧ ∀ x ∈ l, inNn x
theorem inLNn.ok {l : List Nnt} (h : inLNn l) : okLNn l := ⟨h.1, fun x hx => (h.2 x hx).ok⟩
def adLNn (l : List Nnt) : Nat := bulkK adNn l
end Go.Proofs.Ytdaahcaafdleaaa.Row
/- Lists of Name: marked and looked at. No conditions but that lengths fit. -/
namespace Go.Proofs.Ytdaahcaafdleaaa.Row
open Go.ChangeShapes Go.WideShapes Go.ChangeAt Go.RowKit Go.Instr
set_option linter.unusedVariables false
set_option maxRecDepth 100000
def mvNn (z : Nnt) : Nat := z.length
def meNn (q : Int) (z : Nnt) : Nnt := marks markT (q) z.length
end Go.Proofs.Ytdaahcaafdleaaa.Row
/- Lists of names, marked and held, in the words of the exact laws. No conditions but that lengths fit. -/
namespace Go.Proofs.Ytdaahcaafdleaaa.Row
open Go.ChangeShapes Go.WideShapes Go.ChangeAt Go.RowKit Go.Instr
set_option linter.unusedVariables false
set_option maxRecDepth 100000
end Go.Proofs.Ytdaahcaafdleaaa.Row
/- Lists of pending interests and of seen nonces in the words of the exact laws: marks; how much the answers of chapter 13's functions hold. No conditions but that lengths fit. -/
namespace Go.Proofs.Ytdaahcaafdleaaa.Row
open Go.ChangeShapes Go.WideShapes Go.ChangeAt Go.RowKit Go.Instr
set_option linter.unusedVariables false
set_option maxRecDepth 100000
theorem bulkK_sumP {α : Type} (f : α → Nat) (l : List α) : bulkK f l = l.length + (l.map f).sum := by unfold bulkK bulkKTo; rw [List.take_length]
end Go.Proofs.Ytdaahcaafdleaaa.Row
/- The program finds a pending interest: pendingIndex, HasPending, LastSentAt. No conditions but that lengths fit. -/
namespace Go.Proofs.Ytdaahcaafdleaaa.Row
open Go.ChangeShapes Go.WideShapes Go.ChangeAt Go.RowKit Go.Instr
set_option linter.unusedVariables false
set_option maxRecDepth 100000
end Go.Proofs.Ytdaahcaafdleaaa.Row
/- The model finds a pending interest: l13Find, HasPending, LastSentAt. No conditions but that lengths fit. -/
namespace Go.Proofs.Ytdaahcaafdleaaa.Row
open Go.ChangeShapes Go.WideShapes Go.ChangeAt Go.RowKit Go.Instr
set_option linter.unusedVariables false
set_option maxRecDepth 100000
end Go.Proofs.Ytdaahcaafdleaaa.Row
/- MarkSent, model and program. No conditions but that lengths fit. -/
namespace Go.Proofs.Ytdaahcaafdleaaa.Row
open Go.ChangeShapes Go.WideShapes Go.ChangeAt Go.RowKit Go.Instr
set_option linter.unusedVariables false
set_option maxRecDepth 100000
theorem row_form {α M : Type} {k : Kd α M} {e : TypeId} {B E : Nat} {w : World} {x : Option Addr} {n c : Nat} {L : List M} (h : (k.slice e).Own B E w ⟨x, n, c, L⟩) {j : Nat} (hj : j < L.length) : ∃ g, x = some ⟨g, 0, none⟩ ∧ n = L.length ∧ n ≤ c ∧ B ≤ g ∧ g < w.heap.size := by
  have hnl : n = L.length := h.1.1.holds.lenEq
  have hnc : n ≤ c := by obtain ⟨x', n', cap', hv, hn', hc', -⟩ := h.1.1.holds.shapeN; cases hv; exact hc'
  rcases h.1.1.form with ⟨hv, hL⟩ | ⟨g, cap', hv, h1, h2, h3, h4⟩
  · rw [show L = [] from hL] at hj
    exact absurd hj (by simp)
  · replace hv : Value.slice x n c = .slice (some ⟨g, 0, none⟩) L.length cap' := hv
    injection hv with e5 e6 e7
    exact ⟨g, e5, hnl, hnc, h1, h2⟩
end Go.Proofs.Ytdaahcaafdleaaa.Row
