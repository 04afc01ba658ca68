/- Contracts and mathematics, joined: PendN1, DrawS0, DrawS1, PendN, PendI, PendG. No conditions but those that each states. -/
import Derived.WalkKit
import Derived.Deep.RegionHeld3
import Derived.Deep.RegionLaw
import Derived.Test.YtdaahcaafdleaaaB6
import Derived.Test.YtdaahcaafdleaaaB4
import Derived.Test.YtdaahcaafdleaaaB5
import Derived.RangeFuncNested
import Derived.RangeFuncBound
import Derived.RangeFuncCalls
import Derived.RangeFuncLeaves
import Derived.RangeFuncBox
import Derived.Shelf.Abstract
import Derived.Shelf.RegionOpen
import Derived.OwnWalkIn
import Derived.TacticsInMore
import Derived.LoopNIn
import Derived.LoopIn
/- AddSeenNonce, model and program. No conditions but that lengths fit. -/
namespace Go.Proofs.Ytdaahcaafdleaaa.Row
open Go.ChangeShapes Go.WideShapes Go.ChangeAt Go.RowKit Go.Instr
set_option linter.unusedVariables false
set_option maxRecDepth 100000
theorem fit_snoc {l : List Snt} {n : List ByteArray} {k : Int} (h : bulkK wtSn l + (1 + bulk n) ≤ 1100000) : FitS (l ++ [(n, k)]) := by
  show bulkK wtSn (l ++ [(n, k)]) ≤ 1100000
  rw [bulkK_sumP, List.map_append, List.sum_append, List.length_append]
  rw [bulkK_sumP] at h
  have : (List.map wtSn [((n, k) : Snt)]).sum = bulk n := by simp [wtSn]
  rw [this]
  simp only [List.length_singleton]
  omega
theorem kLSn_of {w : World} {x : Option Addr} {n c : Nat} {L : List Snm} (h : HoldsK kSn.cells 2 w (.slice x n c) L) (hel : ∀ y ∈ L, kSn.holds w y) : kLSn.At w (.slice x n c) (L.map kSn.strip) := ⟨⟨x, n, c, L⟩, rfl, rfl, h, hel⟩
set_option maxRecDepth 100000 in
set_option maxHeartbeats 4000000 in
theorem rsn {Q : Exit → Act → World → Prop} {v1 v3 v5 v6 v7 v8 v9 v10 v11 v12 v13 v14 v15 v16 v17 v18 v19 v20 v21 : Value} {w : World} {p n0 c0 : Nat} {V : Value} {x0 : Option Addr} {l : List Snt} {nm : List ByteArray} {kk : Int} (H_l : Hid (kLSn.At w V l)) (HFL : Hid (FitS l)) (H_n : Hid (kN.At w (.agg #[.slice x0 n0 c0]) nm)) (HNB : Hid (bulk nm ≤ 1200000)) (K0 : Hid (w.cell? ⟨p, 0, none⟩ = some (.slice x0 n0 c0)))
  (hQ : ∀ (u8 u9 u10 u11 u12 u13 u14 u15 : Value) (x4 : Option Addr) (n4 c4 : Nat) (L4 : List Snm)  (wx : World), Hid (L4.map kSn.strip = l ++ [(nm, kk)]) → Hid (kLSn.Own w.heap.size wx.heap.size wx ⟨x4, n4, c4, L4⟩) → Below w.heap.size w wx → Q .normal ⟨#[V, v1, .int .i64 kk, v3, .pointer (some ⟨p, 0, none⟩), v5, v6, .slice x4 n4 c4, u8, u9, u10, u11, u12, u13, u14, u15, v16, v17, v18, v19, v20, v21], []⟩ wx) :
  (Code.region 1 #[⟨some 8, .move (.tmp 0), 24, "l13_pend.go:148", #[], none⟩,
   ⟨some 9, .call ⟨.value (.func 44), #[.tmp 8], #[24]⟩, 24, "l13_pend.go:148", #[⟨0, .data⟩], none⟩,
   ⟨some 10, .load 27 (.tmp 4), 27, "l13_pend.go:148", #[], none⟩,
   ⟨some 11, .call ⟨.value (.func 45), #[.tmp 10], #[27]⟩, 27, "l13_pend.go:148", #[⟨2, .data⟩, ⟨1, .chain⟩], none⟩,
   ⟨some 12, .move (.tmp 2), 3, "l13_pend.go:148", #[], none⟩,
   ⟨some 13, .build 38 #[(0, .tmp 11), (1, .tmp 12)], 38, "l13_pend.go:148", #[⟨3, .data⟩, ⟨4, .data⟩], none⟩,
   ⟨some 14, .buildSlice 24 1 #[(0, .tmp 13)], 24, "l13_pend.go:148", #[⟨5, .data⟩], none⟩,
   ⟨some 15, .call ⟨.builtin .append, #[.tmp 9, .tmp 14], #[24, 24]⟩, 24, "l13_pend.go:148", #[⟨1, .data⟩, ⟨6, .data⟩, ⟨3, .chain⟩], none⟩,
   ⟨some 7, .assign (.tmp 15), 24, "l13_pend.go:148", #[⟨7, .data⟩, ⟨7, .chain⟩, ⟨0, .phase⟩, ⟨1, .phase⟩, ⟨2, .phase⟩, ⟨3, .phase⟩, ⟨4, .phase⟩, ⟨5, .phase⟩, ⟨6, .phase⟩, ⟨7, .phase⟩], none⟩] true).wp Try.prog Q ⟨#[V, v1, .int .i64 kk, v3, .pointer (some ⟨p, 0, none⟩), v5, v6, v7, v8, v9, v10, v11, v12, v13, v14, v15, v16, v17, v18, v19, v20, v21], []⟩ w := by
 have HQ := Lib.hid hQ; clear hQ
 have hdr : Below w.heap.size w w.drew := (Below.refl _ _).drew
 have BB := Lib.hid hdr
 refine wp_region_noPanic ?_
 refine wp_region_held_drew (S := (fun w' => w'.cell? ⟨p, 0, none⟩ = some (.slice x0 n0 c0))) (by kernel_rfl) ?_ (fun hHeld => ?_)
 ·
  exact kc K0.out BB.out
 clear hdr
 generalize w.drew = wd at *
 refine wpAnyH_take (i := 0) (oi := ⟨some 8, .move (.tmp 0), 24, "l13_pend.go:148", #[], none⟩) (v := ?_) rfl (by kernel_rfl) (by kernel_rfl) (by kernel_rfl) (fun _ _ _ h => h) (Or.inl ⟨by rfl, ?_⟩) (by assumption) ?_
 rotate_left
 ·
  intro w' hSw; (try dsimp only at hSw); first | (go_simp; done) | (go_simp; with_reducible rfl)
 (try simp only [Act.put, Row.pB0, Row.pB1, Row.pB2])
 refine wpAnyH_take (i := 2) (oi := ⟨some 10, .load 27 (.tmp 4), 27, "l13_pend.go:148", #[], none⟩) (v := ?_) rfl (by kernel_rfl) (by kernel_rfl) (by kernel_rfl) (fun _ _ _ h => h) (Or.inl ⟨by rfl, ?_⟩) (by assumption) ?_
 rotate_left
 ·
  intro w' hSw; (try dsimp only at hSw); first | (go_simp; done) | (go_simp; with_reducible rfl)
 (try simp only [Act.put, Row.pB0, Row.pB1, Row.pB2])
 refine wpAnyH_take (i := 4) (oi := ⟨some 12, .move (.tmp 2), 3, "l13_pend.go:148", #[], none⟩) (v := ?_) rfl (by kernel_rfl) (by kernel_rfl) (by kernel_rfl) (fun _ _ _ h => h) (Or.inl ⟨by rfl, ?_⟩) (by assumption) ?_
 rotate_left
 ·
  intro w' hSw; (try dsimp only at hSw); first | (go_simp; done) | (go_simp; with_reducible rfl)
 (try simp only [Act.put, Row.pB0, Row.pB1, Row.pB2])
 refine wpAnyH_ready (rs := [1]) (by kernel_rfl) (by simp) ?_
 refine AllReadyH.cons (o := ⟨some 9, .call ⟨.value (.func 44), #[.tmp 8], #[24]⟩, 24, "l13_pend.go:148", #[⟨0, .data⟩], none⟩) rfl (fun K hK => ?_) AllReadyH.nil
 go_simp
 refine (sCopyS _ l _ (H_l.out.on BB.out) HFL.out).mono ?_
 rintro e wn1 ⟨U2, rfl, hi, hb⟩
 obtain ⟨⟨xu, nu, cu, Lu⟩, rfl, hsL, hi⟩ := hi.split
 rw [show kLSn.val (⟨xu, nu, cu, Lu⟩ : Rw Snm) = .slice xu nu cu from rfl]
 (first | have HDJ := Lib.hid (show ∀ g ∈ kN.blocks m1, g ∉ kLSn.blocks ⟨xu, nu, cu, Lu⟩ from fun g h1 h2 => by have h5 := (hi.lt g h2).1; have h6 := (ON.out.lt g h1).2.2; omega) | skip)
 have OL := Lib.hid (hi.mono BB.out.size (Nat.le_refl _)); have HSL := Lib.hid (show Lu.map kSn.strip = l from hsL)
 have HLL := Lib.hid (show Lu.length ≤ 1100000 from by have h5 := HFL.out.len; rw [← HSL.out, List.length_map] at h5; exact h5)
 clear hi hsL
 replace BB := Lib.hid (BB.out.trans (hb.mono BB.out.size))
 clear hb
 (try go_wp2_with fail)
 clear hHeld
 refine hK.out _ _ ?_ (fun hHeld => ?_)
 ·
  (try dsimp only); exact kc K0.out BB.out
 clear hK K
 (try simp only [Act.put, Row.pB0, Row.pB1, Row.pB2])
 refine wpAnyH_ready (rs := [3]) (by kernel_rfl) (by simp) ?_
 refine AllReadyH.cons (o := ⟨some 11, .call ⟨.value (.func 45), #[.tmp 10], #[27]⟩, 27, "l13_pend.go:148", #[⟨2, .data⟩, ⟨1, .chain⟩], none⟩) rfl (fun K hK => ?_) AllReadyH.nil
 go_simp
 refine (sCpyN (H_n.out.on BB.out) (Nat.le_trans HNB.out (by decide))).mono ?_
 rintro e wn2 ⟨U1, rfl, hi, hb⟩
 obtain ⟨m1, rfl, hs1, hi⟩ := hi.split
 obtain ⟨ya, ma, da, e1, -⟩ := kN_shapeA (Kd.at_of (k := kN) hi.holds)
 have hd1 : kN.cells m1 = [.slice ya ma da] := by injection e1 with e; exact congrArg Array.toList e
 rw [e1]
 (first | have HDJ := Lib.hid (show ∀ g ∈ kN.blocks m1, g ∉ kLSn.blocks ⟨xu, nu, cu, Lu⟩ from fun g h1 h2 => by have h5 := (hi.lt g h1).1; have h6 := (OL.out.lt g h2).2.2; omega) | skip)
 have ON := Lib.hid (hi.mono BB.out.size (Nat.le_refl _)); have HS1 := Lib.hid hs1; have HD1 := Lib.hid hd1
 clear hi hs1 hd1 e1
 replace OL := Lib.hid (OL.out.on hb)
 replace BB := Lib.hid (BB.out.trans (hb.mono BB.out.size))
 clear hb
 (try go_wp2_with fail)
 clear hHeld
 refine hK.out _ _ ?_ (fun hHeld => ?_)
 ·
  (try dsimp only); exact kc K0.out BB.out
 clear hK K
 (try simp only [Act.put, Row.pB0, Row.pB1, Row.pB2])
 refine wpAnyH_take (i := 5) (oi := ⟨some 13, .build 38 #[(0, .tmp 11), (1, .tmp 12)], 38, "l13_pend.go:148", #[⟨3, .data⟩, ⟨4, .data⟩], none⟩) (v := ?_) rfl (by kernel_rfl) (by kernel_rfl) (by kernel_rfl) (fun _ _ _ h => h) (Or.inl ⟨by rfl, ?_⟩) (by assumption) ?_
 rotate_left
 ·
  intro w' hSw; (try dsimp only at hSw); first | (go_simp; done) | (go_simp; with_reducible rfl)
 (try simp only [Act.put, Row.pB0, Row.pB1, Row.pB2])
 refine wpAnyH_ready (rs := [6]) (by kernel_rfl) (by simp) ?_
 refine AllReadyH.cons (o := ⟨some 14, .buildSlice 24 1 #[(0, .tmp 13)], 24, "l13_pend.go:148", #[⟨5, .data⟩], none⟩) rfl (fun K hK => ?_) AllReadyH.nil
 go_simp
 have hb : Below wn2.heap.size wn2 (wn2.alloc (.cells #[.slice ya ma da, .int .i64 (kk)] 38)) := (Below.refl _ _).alloc (Nat.le_refl _) _
 have HSO := Lib.hid (one_k (k := kSn) szSn_cells (e := 38) (W := wn2) (m := ((m1, kk) : Snm)) (cs := [.slice ya ma da, .int .i64 (kk)]) (by show kN.cells m1 ++ kInt.cells (kk) = _; rw [HD1.out]; rfl))
 have HMM := Lib.hid ((sn_join (u := kk) ON.out wn2.heap.size ON.out.top).on hb)
 replace OL := Lib.hid (OL.out.on hb)
 replace ON := Lib.hid (ON.out.on hb)
 replace BB := Lib.hid (BB.out.trans (hb.mono BB.out.size))
 clear hb
 generalize wn2.alloc (.cells #[.slice ya ma da, .int .i64 (kk)] 38) = wn3 at *
 clear hHeld
 refine hK.out _ _ ?_ (fun hHeld => ?_)
 ·
  (try dsimp only); exact kc K0.out BB.out
 clear hK K
 (try simp only [Act.put, Row.pB0, Row.pB1, Row.pB2])
 refine wpAnyH_ready (rs := [7]) (by kernel_rfl) (by simp) ?_
 refine AllReadyH.cons (o := ⟨some 15, .call ⟨.builtin .append, #[.tmp 9, .tmp 14], #[24, 24]⟩, 24, "l13_pend.go:148", #[⟨1, .data⟩, ⟨6, .data⟩, ⟨3, .chain⟩], none⟩) rfl (fun K hK => ?_) AllReadyH.nil
 refine step_appK kindSn (B := w.heap.size) (v := .slice xu nu cu) (l := Lu) (m := [((m1, kk) : Snm)]) rfl _ _ (by rfl) Try.underlying24 (by rfl) (by rfl) ?_ ?_ ?_ ?_ ?_ ?_
 ·
  exact OL.out.1.1
 ·
  exact HSO.out
 ·
  have h5 := HLL.out; simp; omega
 ·
  have h5 := HLL.out; unfold maxLen; simp; omega
 ·
  exact BB.out.size
 intro v4 wn4 ho4 hg4
 obtain ⟨x4, n4, c4, rfl, -, -, ho4⟩ := ho4.shapeN
 have HO4 := Lib.hid (Kd.push noRow_kSn (r := ⟨xu, nu, cu, Lu⟩) OL.out HMM.out (fun g h1 h2 => HDJ.out g (by rcases List.mem_append.1 (show g ∈ kN.blocks m1 ++ kInt.blocks kk from h1) with h | h; exact h; cases h) h2) ho4 hg4)
 replace BB := Lib.hid (BB.out.grown hg4 BB.out.size (fun g e => (OL.out.1.1.lt g e).1))
 clear ho4 hg4
 clear hHeld
 refine hK.out _ _ ?_ (fun hHeld => ?_)
 ·
  (try dsimp only); exact kc K0.out BB.out
 clear hK K
 (try simp only [Act.put, Row.pB0, Row.pB1, Row.pB2])
 refine wpAnyH_take (i := 8) (oi := ⟨some 7, .assign (.tmp 15), 24, "l13_pend.go:148", #[⟨7, .data⟩, ⟨7, .chain⟩, ⟨0, .phase⟩, ⟨1, .phase⟩, ⟨2, .phase⟩, ⟨3, .phase⟩, ⟨4, .phase⟩, ⟨5, .phase⟩, ⟨6, .phase⟩, ⟨7, .phase⟩], none⟩) (v := ?_) rfl (by kernel_rfl) (by kernel_rfl) (by kernel_rfl) (fun _ _ _ h => h) (Or.inl ⟨by rfl, ?_⟩) (by assumption) ?_
 rotate_left
 ·
  intro w' hSw; (try dsimp only at hSw); first | (go_simp; done) | (go_simp; with_reducible rfl)
 (try simp only [Act.put, Row.pB0, Row.pB1, Row.pB2])
 refine wpAnyH_done (by kernel_rfl) ?_ _
 exact NoPanic.normal (HQ.out _ _ _ _ _ _ _ _ x4 n4 c4 (Lu ++ [((m1, kk) : Snm)]) _ (Lib.hid (by rw [List.map_append, HSL.out]; show _ ++ [(kN.strip m1, kk)] = _; rw [HS1.out])) HO4 BB.out)
set_option maxHeartbeats 8000000 in
theorem specAddSeenNonce (V U : Value) (l : List Snt) (m : List ByteArray) (k : Int) (w : World) (h : kLSn.At w V l) (g : kN.At w U m) (hf : bulkK wtSn l + (1 + bulk m) ≤ 1100000) :
    Calls Try.prog 12 #[V, U, .int .i64 k] w fun e w' => ∃ U, e = .returned U ∧ kLSn.At w' U (seenS l m k) ∧ Below w.heap.size w w' := by
  obtain ⟨x, n, c, rfl, h⟩ := kLSn_shapeA h
  obtain ⟨xn, nn, cn, rfl, g⟩ := kN_shapeA g
  have hal := (Below.refl w.heap.size w).alloc (Nat.le_refl _) (.cells #[.slice xn nn cn] 27)
  have HX := Lib.hid (Ret.Blk.new w #[.slice xn nn cn] 27)
  have HH := Lib.hid (h.on hal); have HG := Lib.hid (g.on hal); have HB := Lib.hid hal
  have HF := Lib.hid (show FitS l from Nat.le_trans (Nat.le_add_right _ _) hf); have HM := Lib.hid (show bulk m ≤ 1200000 by omega)
  have HS0 := Lib.hid (show w.heap.size + 1 = (w.alloc (.cells #[.slice xn nn cn] 27)).heap.size by simp)
  have HFL := Lib.hid (show l.length ≤ 1100000 from Nat.le_trans (bulkK_len wtSn l) (by omega))
  clear h g hal hf
  go_enter Try.func12, Try.ntmps12
  go_wp2_with fail
  refine rsn (l := l) (nm := m) HH HF HG HM (Lib.hid (HX.out.cell 0)) ?_
  intro u8 u9 u10 u11 u12 u13 u14 u15 x4 n4 c4 L4 wx hs4 ho4 hbx
  have HB2 := Lib.hid (HB.out.trans (hbx.mono HB.out.size))
  have hl4 : L4.length = l.length + 1 := by have h5 := congrArg List.length hs4.out; rw [List.length_map, List.length_append] at h5; exact h5
  have hn4 : n4 = L4.length := ho4.out.1.1.holds.lenEq
  have hc4 : n4 ≤ c4 := by obtain ⟨x', n', cap', hv, hn', hc', -⟩ := ho4.out.1.1.holds.shapeN; cases hv; exact hc'
  have hz := HS0.out; have hfl := HFL.out
  rw [← hz] at ho4
  have hlen2 : ((l ++ [(m, k)]).length : Nat) = n4 := by rw [List.length_append, hn4, hl4]; rfl
  clear hbx HX HG HH hz
  by_cases h24 : 24 < n4
  · have t0 : decide ((24 : Int) < (n4 : Int)) = true := decide_eq_true (by omega)
    obtain ⟨gR, rfl, -, -, hg1, hg2⟩ := row_form ho4.out (j := 0) (by omega)
    have hd := HoldsK.drop szSn_cells (show HoldsK kSn.cells 2 wx (.slice (some ⟨gR, 0, none⟩) n4 c4) L4 from ho4.out.1.1.holds) (i := 1) (by omega)
    have HAT := Lib.hid (kLSn_of hd (fun y hy => Kd.Own.elOf ho4.out (List.mem_of_mem_drop hy)))
    have HR := Lib.hid (show (L4.drop 1).map kSn.strip = seenS l m k by unfold seenS; rw [if_pos (by rw [hlen2]; exact h24), List.map_drop, hs4.out])
    have hc41 : c4 ≠ 1 := by omega
    have hc42 : ¬ c4 = 1 := by omega
    have h1n : 1 ≤ n4 := by omega
    have h1c : 1 ≤ c4 := by omega
    clear hl4 hn4 hlen2 hd hg1 hg2
    go_wp2_with fail
    go_ret
    exact ⟨_, rfl, HR.out ▸ HAT.out, HB2.out⟩
  · have t0 : decide ((24 : Int) < (n4 : Int)) = false := decide_eq_false (by omega)
    have HR := Lib.hid (show L4.map kSn.strip = seenS l m k by unfold seenS; rw [if_neg (by rw [hlen2]; exact h24), hs4.out])
    clear hl4 hn4 hc4 hlen2
    go_wp2
    go_ret
    exact ⟨_, rfl, HR.out ▸ (show kLSn.At _ (.slice x4 n4 c4) (L4.map kSn.strip) from ho4.out.in.at), HB2.out⟩
end Go.Proofs.Ytdaahcaafdleaaa.Row
/- The model's draw of a list of seen nonces (l13Sees): soft kinds, lists that are small. What was in memory stays as it was, but for the cursor. -/
namespace Go.Proofs.Ytdaahcaafdleaaa.Row
open Go.ChangeShapes Go.WideShapes Go.ChangeAt Go.RowKit Go.Instr
set_option linter.unusedVariables false
set_option maxRecDepth 100000
def sSn : Kd Snt Snm := sN.pair kInt
def sLSn : Kd (List Snt) (Rw Snm) := sSn.slice 38
section
variable {B E : Nat} {w : World} {t : TypeId} {ad : Option Addr} {n cap : Nat} {L : List Snm}
theorem noRow_sSn (h : 9 ≠ t) : sSn.NoRow t := (noRow_sN h).pair Kd.noRow_scalar
theorem noRow_sLSn (h : 9 ≠ t) (h3 : 38 ≠ t) : sLSn.NoRow t := (noRow_sSn h).slice h3
theorem sSn_own {m : Snm} (h : kSn.own B w m) : sSn.own B w m := ⟨sN_own h.1, h.2⟩
theorem sLSn_own {m : Rw Snm} (h : kLSn.own B w m) : sLSn.own B w m := ⟨h.1, fun x hx => sSn_own (h.2 x hx)⟩
theorem sLSn_at (h : sLSn.own B w ⟨ad, n, cap, L⟩) : kLSn.At w (.slice ad n cap) (L.map kSn.strip) := Kd.at_of (k := kLSn) (m := ⟨ad, n, cap, L⟩) (sLSn.own_holds h)
theorem sLSn_in {V : Value} {x : List Snt} {E : Nat} (h : kLSn.In B E w V x) : ∃ (ad : Option Addr) (n cap : Nat) (L : List Snm), V = .slice ad n cap ∧ sLSn.own B w ⟨ad, n, cap, L⟩ ∧ L.map kSn.strip = x := by
  obtain ⟨⟨ad, n, cap, L⟩, rfl, hs, ho⟩ := h.split
  exact ⟨ad, n, cap, L, rfl, sLSn_own ho.1, hs⟩
end
def smS9 (k : Nat) (x : List Snt) : Prop := x.length ≤ k ∧ ∀ e ∈ x, bulk e.1 ≤ 1000 ∧ -1 ≤ e.2 ∧ e.2 ≤ 1000001
theorem smS9.mono {k k' : Nat} {x : List Snt} (h : smS9 k x) (hk : k ≤ k') : smS9 k' x := ⟨Nat.le_trans h.1 hk, h.2⟩
theorem smS9.wt {k : Nat} {x : List Snt} (h : smS9 k x) (hk : k ≤ 100) : bulkK wtSn x ≤ 200000 := by
  have h1 := bulkK_of (f := wtSn) (l := x) (n := 100) (b := 1000) (Nat.le_trans h.1 hk) (fun e he => (h.2 e he).1)
  exact Nat.le_trans h1 (by decide)
theorem smS9.fit {k : Nat} {x : List Snt} (h : smS9 k x) (hk : k ≤ 100) : FitS x := Nat.le_trans (h.wt hk) (by decide)
theorem smS9_snoc {k : Nat} {x : List Snt} {m : List ByteArray} {a : Int} (h : smS9 k x) (hm : bulk m ≤ 1000) (h0 : -1 ≤ a) (h1 : a ≤ 1000001) : smS9 (k + 1) (x ++ [(m, a)]) := by
  refine ⟨?_, fun e he => ?_⟩
  · have := h.1
    rw [List.length_append, List.length_singleton]; omega
  · rcases List.mem_append.1 he with he | he
    · exact h.2 e he
    · rw [List.mem_singleton.1 he]; exact ⟨hm, h0, h1⟩
theorem smS9_seen {k : Nat} {x : List Snt} {m : List ByteArray} {a : Int} (h : smS9 k x) (hm : bulk m ≤ 1000) (h0 : -1 ≤ a) (h1 : a ≤ 1000001) : smS9 (k + 1) (seenS x m a) := by
  have h2 := smS9_snoc h hm h0 h1
  unfold seenS
  split
  · refine ⟨?_, fun e he => h2.2 e (List.mem_of_mem_drop he)⟩
    have := h2.1
    rw [List.length_drop]; omega
  · exact h2
set_option maxHeartbeats 8000000 in
theorem specAddSeenO (V U : Value) (l : List Snt) (m : List ByteArray) (k : Int) (w : World) (h : kLSn.At w V l) (g : kN.At w U m) (hf : bulkK wtSn l + (1 + bulk m) ≤ 1100000) (h23 : l.length ≤ 23) :
    Calls Try.prog 12 #[V, U, .int .i64 k] w fun e w' => ∃ U, e = .returned U ∧ kLSn.In w.heap.size w'.heap.size w' U (seenS l m k) ∧ Below w.heap.size w w' := by
  obtain ⟨x, n, c, rfl, h⟩ := kLSn_shapeA h
  obtain ⟨xn, nn, cn, rfl, g⟩ := kN_shapeA g
  have hal := (Below.refl w.heap.size w).alloc (Nat.le_refl _) (.cells #[.slice xn nn cn] 27)
  have HX := Lib.hid (Ret.Blk.new w #[.slice xn nn cn] 27)
  have HH := Lib.hid (h.on hal); have HG := Lib.hid (g.on hal); have HB := Lib.hid hal
  have HF := Lib.hid (show FitS l from Nat.le_trans (Nat.le_add_right _ _) hf); have HM := Lib.hid (show bulk m ≤ 1200000 by omega)
  have HS0 := Lib.hid (show w.heap.size + 1 = (w.alloc (.cells #[.slice xn nn cn] 27)).heap.size by simp)
  have HFL := Lib.hid (show l.length ≤ 1100000 from Nat.le_trans (bulkK_len wtSn l) (by omega))
  clear h g hal hf
  go_enter Try.func12, Try.ntmps12
  go_wp2_with fail
  refine rsn (l := l) (nm := m) HH HF HG HM (Lib.hid (HX.out.cell 0)) ?_
  intro u8 u9 u10 u11 u12 u13 u14 u15 x4 n4 c4 L4 wx hs4 ho4 hbx
  have HB2 := Lib.hid (HB.out.trans (hbx.mono HB.out.size))
  have hl4 : L4.length = l.length + 1 := by have h5 := congrArg List.length hs4.out; rw [List.length_map, List.length_append] at h5; exact h5
  have hn4 : n4 = L4.length := ho4.out.1.1.holds.lenEq
  have hc4 : n4 ≤ c4 := by obtain ⟨x', n', cap', hv, hn', hc', -⟩ := ho4.out.1.1.holds.shapeN; cases hv; exact hc'
  have hz := HS0.out; have hfl := HFL.out
  rw [← hz] at ho4
  have hlen2 : ((l ++ [(m, k)]).length : Nat) = n4 := by rw [List.length_append, hn4, hl4]; rfl
  clear hbx HX HG HH hz
  have t0 : decide ((24 : Int) < (n4 : Int)) = false := decide_eq_false (by omega)
  have HR := Lib.hid (show L4.map kSn.strip = seenS l m k by unfold seenS; rw [if_neg (by rw [hlen2]; exact (by omega)), hs4.out])
  clear hl4 hn4 hc4 hlen2
  go_wp2
  go_ret
  exact ⟨_, rfl, HR.out ▸ (show kLSn.In w.heap.size _ _ (.slice x4 n4 c4) (L4.map kSn.strip) from (ho4.out.mono (Nat.le_succ _) (Nat.le_refl _)).in), HB2.out⟩
end Go.Proofs.Ytdaahcaafdleaaa.Row
namespace Go.Proofs.Ytdaahcaafdleaaa.Draw
open Go.ChangeShapes Go.WideShapes Go.ChangeAt Go.RowKit Go.Instr
open Go.Proofs.Ytdaahcaafdleaaa.Row
open Go.Proofs.Ytdaahcaafdleaaa.Ret (NC Blk Box)
set_option linter.unusedVariables false
set_option maxRecDepth 100000
def sliceLen9 : Value → Nat
  | .slice _ n _ => n
  | _ => 0
def SeesD (B : Nat) (V : Value) (w : World) : Prop := ∃ (ad : Option Addr) (n cap : Nat) (L : List Snm), V = .slice ad n cap ∧ sLSn.own B w ⟨ad, n, cap, L⟩ ∧ smS9 24 (L.map kSn.strip)
set_option maxHeartbeats 8000000 in
theorem l13Sees (w0 : World) (p : Nat) (v : Value) (l : List UInt8) (w : World) (hc : Cur w0 p v l w) :
    Calls Try.prog 38 #[.pointer (some ⟨p, 0, none⟩)] w (DrawnW w0 p v l w (SeesD w.heap.size)) := by
  have ds := Lib.hid ((DS.start hc).alloc (.cells #[] 38))
  have hO : Hid (sLSn.own w.heap.size (w.alloc (.cells #[] 38)) ⟨some ⟨w.heap.size, 0, none⟩, 0, 0, []⟩) := Lib.hid ⟨ownK_empty sSn.cells 2 38 w, fun y hy => by cases hy⟩
  have HF := Lib.hid (below w0 p v l (w.alloc (.cells #[] 38)) 5 ds.out.cur)
  have HPL := Lib.hid hc.lt
  clear hc
  go_enter Try.func38, Try.ntmps38
  go_wp2_with fail
  refine HF.out.mono ?_
  rintro e w1 ⟨y_, rfl, ⟨r, rfl, hr, -⟩, hc1, hk1⟩
  replace hr := hr (by omega)
  obtain ⟨k0, rfl⟩ := Int.eq_ofNat_of_zero_le hr.1
  have hk4 : k0 ≤ 4 := by omega
  replace ds := Lib.hid (ds.out.step hc1 hk1); replace hO := Lib.hid (Kd.own_cur hO.out hk1 HPL.out)
  clear HF hc1 hk1 hr
  go_wp2_with fail
  go_loopw [3, 4] (fun sv iv wr => ∃ k : Nat, k ≤ 4 ∧ iv = .int .i64 k ∧ ∃ (j : Nat) (ad : Option Addr) (n cap : Nat) (L : List Snm), sv = .slice ad n cap ∧ j + k ≤ 4 ∧ Hid (smS9 j (L.map kSn.strip)) ∧ Hid (sLSn.own w.heap.size wr ⟨ad, n, cap, L⟩) ∧ Hid (DS w0 p v l w wr)) (fun _ iv _ => (intOf iv).toNat)
  case atStart => exact ⟨k0, hk4, rfl, 0, _, 0, 0, [], rfl, by omega, Lib.hid ⟨by simp, fun e he => absurd he (by simp)⟩, hO, ds⟩
  case round =>
    clear hO ds
    obtain ⟨k, hk, rfl, j, ad, n, cap, L, rfl, hj, hM, hO, ds⟩ := hrel
    by_cases hlt : 0 < k
    · have hlt2 : (0 : Int) < (k : Int) := by omega
      have hw : IntKind.i64.wrap ((k : Int) - 1) = ((k - 1 : Nat) : Int) := by rw [IntKind.wrap_i64]; omega
      have HF := Lib.hid (l7Draw w0 p v l wr ds.out.cur)
      go_wp2_with fail
      refine HF.out.mono ?_
      rintro e w5 ⟨y_, rfl, ⟨u, m, a, b, c, rfl, hod, hbk, hsm⟩, hc5, hk5⟩
      obtain ⟨xa, na, ca, rfl, -, -, hod⟩ := hod.shapeN
      replace hO := Lib.hid (Kd.own_cur hO.out hk5 HPL.out)
      replace ds := Lib.hid (ds.out.step hc5 hk5)
      have hal := (Below.refl w5.heap.size w5).alloc (Nat.le_refl _) (.cells #[.slice xa na ca, .int .i64 a, .int .i64 b, .int .i64 c] 33)
      have hD := Lib.hid (Blk.new w5 #[.slice xa na ca, .int .i64 a, .int .i64 b, .int .i64 c] 33)
      have HNM := Lib.hid (kN_of (hod.holds.on hal))
      replace hO := Lib.hid (Kd.own_on hO.out hal); replace ds := Lib.hid (ds.out.on hal)
      have HBK := Lib.hid hbk; have HSM := Lib.hid hsm
      clear HF hod hbk hsm hc5 hk5 hal
      have q0 := hD.out.cell 0; have q1 := hD.out.cell 1
      have hlen := hM.out.1
      have HA := Lib.hid (specAddSeenO (.slice ad n cap) (.agg #[.slice xa na ca]) (L.map kSn.strip) m a _ (sLSn_at hO.out) HNM.out (by have h9 := hM.out.wt (by omega); have := HBK.out; omega) (by have := hM.out.1; omega))
      go_wp2_with fail
      refine HA.out.mono ?_
      rintro e w6 ⟨U, rfl, hi, hb⟩
      obtain ⟨ad2, n2, cap2, L2, rfl, ho2, hs2⟩ := sLSn_in hi
      have hO2 := Lib.hid (sLSn.own_mono ho2 ds.out.size)
      have hM2 := Lib.hid (show smS9 (j + 1) (L2.map kSn.strip) from by rw [hs2]; exact smS9_seen hM.out HBK.out HSM.out.1.1 HSM.out.1.2)
      replace ds := Lib.hid (ds.out.on hb)
      clear HA hi ho2 hs2 hb q0 q1 hD HNM hO
      go_wp2_with fail
      go_roundw
      case rel => exact ⟨k - 1, by omega, by go_num, j + 1, ad2, n2, cap2, L2, rfl, by omega, hM2, hO2, ds⟩
      case measure => simp [intOf]; omega
    · obtain rfl : k = 0 := by omega
      clear hlt
      have HF := Lib.hid (once w0 p v l wr 12 ds.out.cur)
      go_wp2_with fail
      refine HF.out.mono ?_
      rintro e w5 ⟨y_, rfl, ⟨z, rfl⟩, hc5, hk5⟩
      replace hO := Lib.hid (Kd.own_cur hO.out hk5 HPL.out)
      replace ds := Lib.hid (ds.out.step hc5 hk5)
      clear HF hc5 hk5
      cases z with
      | false =>
        go_wp2_with fail
        go_ret
        exact ⟨_, rfl, ⟨ad, n, cap, L, rfl, hO.out, hM.out.mono (by omega)⟩, ds.out.cur, ds.out.keep⟩
      | true =>
        have HJ := Lib.hid (show L.length ≤ 24 from by have := hM.out.1; rw [List.length_map] at this; omega)
        replace hM := Lib.hid (hM.out.mono (show j ≤ 24 by omega))
        clear hj
        go_wp2_with fail
        go_loopw [3] (fun sv wo => ∃ (ad : Option Addr) (n cap : Nat) (L : List Snm), sv = .slice ad n cap ∧ Hid (L.length ≤ 24) ∧ Hid (smS9 24 (L.map kSn.strip)) ∧ Hid (sLSn.own w.heap.size wo ⟨ad, n, cap, L⟩) ∧ Hid (DS w0 p v l w wo)) (fun sv _ => 24 - sliceLen9 sv)
        case atStart => exact ⟨ad, n, cap, L, rfl, HJ, hM, hO, ds⟩
        case round =>
          clear hM hO ds HJ
          obtain ⟨ad, n, cap, L, rfl, HJ, hM, hO, ds⟩ := hrel
          have hnl : n = L.length := hO.out.1.holds.lenEq
          have hn24 : n ≤ 24 := by have := HJ.out; omega
          have HNL := Lib.hid hnl
          have HF := Lib.hid (below w0 p v l wr 2 ds.out.cur)
          clear hnl
          go_wp2_with fail
          refine HF.out.mono ?_
          rintro e w6 ⟨y_, rfl, ⟨r, rfl, hr, -⟩, hc6, hk6⟩
          replace hr := hr (by omega)
          obtain ⟨hr0, hr1⟩ := hr
          replace hO := Lib.hid (Kd.own_cur hO.out hk6 HPL.out)
          replace ds := Lib.hid (ds.out.step hc6 hk6)
          have hw : IntKind.i64.wrap (23 + r) = 23 + r := by rw [IntKind.wrap_i64]; omega
          clear HF hc6 hk6
          by_cases hlt : (n : Int) < 23 + r
          · have HG := Lib.hid (l4OfB (ByteArray.mk #[47, 115]) w6 (by decide))
            go_wp2_with fail
            refine HG.out.mono ?_
            rintro e w7 ⟨u, rfl, hu, hb⟩
            obtain ⟨xu, nu, cu, rfl, -, -, -⟩ := hu.1.shapeN
            have hal := (Below.refl w7.heap.size w7).alloc (Nat.le_refl _) (.cells #[.slice xu nu cu, .int .i64 n] 38)
            have HSRC := Lib.hid (one_kg (k := kSn) szSn_cells (e := 38) (W := w7) (m := ((⟨xu, nu, cu, pN (ByteArray.mk #[47, 115])⟩, (n : Int)) : Snm)) (cs := [.slice xu nu cu, .int .i64 n]) (g := w7.heap.size) rfl rfl)
            have HEL := Lib.hid (Kd.own_on (k := sSn) (sSn.own_mono (show sSn.own w6.heap.size w7 ((⟨xu, nu, cu, pN (ByteArray.mk #[47, 115])⟩, (n : Int)) : Snm) from ⟨sN_of hu, trivial⟩) ds.out.size) hal)
            replace hO := Lib.hid (Kd.own_on (Kd.own_on hO.out hb) hal); replace ds := Lib.hid ((ds.out.on hb).on hal)
            have HMN := Lib.hid (show smS9 24 ((L ++ [((⟨xu, nu, cu, pN (ByteArray.mk #[47, 115])⟩, (n : Int)) : Snm)]).map kSn.strip) from by
              have h9 := smS9_snoc (m := pN (ByteArray.mk #[47, 115])) (a := (n : Int)) hM.out (Nat.le_trans (bulk_valid (valid_pN _)) (by decide)) (by omega) (by omega)
              rw [List.map_append]
              exact ⟨by have := HNL.out; rw [List.length_append, List.length_map, List.length_map, List.length_singleton]; omega, h9.2⟩)
            have HLM := Lib.hid (show (L.length + 1) * 32 ≤ 140737488355328 by have := HJ.out; omega)
            have HLX := Lib.hid (show L.length + 1 ≤ maxLen by have := HJ.out; unfold maxLen; omega)
            clear HG hu hb hal hM
            go_wp2_with (at_builtin; refine wpList_appK kindSn (B := w.heap.size) (l := L) (m := [((⟨xu, nu, cu, pN (ByteArray.mk #[47, 115])⟩, (n : Int)) : Snm)]) rfl _ _ rfl Try.underlying24 rfl rfl hO.out.1 HSRC.out HLM.out HLX.out ds.out.size ?_)
            intro v8 w8 ho8 hg8
            obtain ⟨x8, n8, c8, rfl, hn8, -, ho8⟩ := ho8.shapeN
            have HO8 := Lib.hid (Kd.own_push (noRow_sSn (by decide)) hO.out (L := [((⟨xu, nu, cu, pN (ByteArray.mk #[47, 115])⟩, (n : Int)) : Snm)]) (fun y hy => by rw [List.mem_singleton.1 hy]; exact HEL.out) ho8 hg8)
            have DS8 := Lib.hid (ds.out.grown hO.out.1 hg8)
            have HN8 := Lib.hid (show n8 = n + 1 from by rw [hn8, List.length_append, List.length_singleton, HNL.out])
            have HL8 := Lib.hid (show (L ++ [((⟨xu, nu, cu, pN (ByteArray.mk #[47, 115])⟩, (n : Int)) : Snm)]).length ≤ 24 from by have := HNL.out; rw [List.length_append, List.length_singleton]; omega)
            clear ho8 hg8 hn8
            go_wp2_with fail
            go_roundw
            case rel => exact ⟨x8, n8, c8, _, rfl, HL8, HMN, HO8, DS8⟩
            case measure => simp [sliceLen9, HN8.out]; omega
          · go_wp2_with fail
            go_ret
            exact ⟨_, rfl, ⟨ad, n, cap, L, rfl, hO.out, hM.out⟩, ds.out.cur, ds.out.keep⟩
end Go.Proofs.Ytdaahcaafdleaaa.Draw
/- The model's draw DrawAddSeenNonce. What was in memory stays as it was. -/
namespace Go.Proofs.Ytdaahcaafdleaaa.Ret
open Go.ChangeShapes Go.WideShapes Go.ChangeAt Go.RowKit Go.Instr
theorem results_tct13 {P : Program} {fn : Func} {p u u2 : Tmp} {ty : TypeId} (h : fn.results = #[.tmp u, .cell p ty, .tmp u2]) (tmps : Array Value) (w : World) (b : Nat) (cs : List Value) (hp : tmps.getD p undef = .pointer (some ⟨b, 0, none⟩))
    (ha : AggOf P ty cs.length) (hc : ∀ j v, cs[j]? = some v → w.cell? ⟨b, j, none⟩ = some v) : (results fn tmps).run P w = .ok (.tuple #[tmps.getD u undef, .agg cs.toArray, tmps.getD u2 undef]) w := by
  have hp' : tmps[p]?.getD undef = .pointer (some ⟨b, 0, none⟩) := by simpa using hp
  have hl := run_loadVar_cells (P := P) w b ty cs hc ha
  simp [results, h, hp', asAddr, hl, Result.andThen]
end Go.Proofs.Ytdaahcaafdleaaa.Ret
namespace Go.Proofs.Ytdaahcaafdleaaa.Draw
open Go.ChangeShapes Go.WideShapes Go.ChangeAt Go.RowKit Go.Instr
open Go.Proofs.Ytdaahcaafdleaaa.Row
open Go.Proofs.Ytdaahcaafdleaaa.Ret (NC Blk Box)
set_option linter.unusedVariables false
set_option maxRecDepth 100000
theorem aggNm13 : Ret.AggOf Try.prog 27 1 := ⟨by kernel_rfl, by kernel_rfl⟩
theorem Cur.base13 {w0 w1 W : World} {p : Nat} {v : Value} {l : List UInt8} (h : Cur w1 p v l W) (hb : Frame.Bytes w0 v l) (hw : Below w0.heap.size w0 w1) : Cur w0 p v l W := ⟨hb, hw.trans (h.below.mono hw.size), Nat.le_trans hw.size h.place, h.row⟩
set_option maxRecDepth 100000 in
set_option maxHeartbeats 4000000 in
theorem c13s {Q : Exit → Act → World → Prop} {v0 v1 v2 v4 v8 v9 v10 v11 v12 v13 v14 v15 v16 v17 : Value} {w : World} {w0 : World} {p : Nat} {v : Value} {l : List UInt8} (C0 : Hid (Cur w0 p v l w)) {g rr B n cap nn cn : Nat} {ad xn : Option Addr} {L : List Snm} {m : List ByteArray} (XK : Hid (Blk w g #[.slice xn nn cn] 27)) (XR : Hid (Blk w rr #[.slice none 0 0] 27)) (OC : Hid (sLSn.own B w ⟨ad, n, cap, L⟩)) (ON : Hid (sN.own B w ⟨xn, nn, cn, m⟩)) (HGP : Hid (g ≠ p)) (HRP : Hid (rr ≠ p)) (HRG : Hid (rr ≠ g)) (HPB : Hid (p < B)) 
  (hQ : ∀ (u14 u15 u16 u17 : Value) (r : Int) (wx : World), Blk wx rr #[.slice none 0 0] 27 → sLSn.own B wx ⟨ad, n, cap, L⟩ → sN.own B wx ⟨xn, nn, cn, m⟩ → 0 ≤ r → r < 9 → Cur w0 p v l wx → Keep p w wx → Q .normal ⟨#[v0, v1, .slice ad n cap, .pointer (some ⟨rr, 0, none⟩), .int .i64 r, .pointer (some ⟨p, 0, none⟩), .slice ad n cap, .pointer (some ⟨g, 0, none⟩), v8, v9, v10, v11, v12, v13, u14, u15, u16, u17], []⟩ (wx.setCell ⟨rr, 0, none⟩ (.slice xn nn cn))) :
  (Code.region 4 #[⟨some 14, .move (.tmp 6), 24, "l13_pend.go:279", #[], none⟩,
   ⟨some 15, .load 27 (.tmp 7), 27, "l13_pend.go:279", #[{ on := 4, ground := Ground.gcOnly Departure.lateStores }], none⟩,
   ⟨some 16, .move (.tmp 5), 67, "l13_pend.go:279", #[], none⟩,
   ⟨some 17, .call ⟨.value (.func 40), #[.tmp 16, .const (Value.int IntKind.i64 9)], #[67, 3]⟩, 3, "l13_pend.go:279", #[⟨2, .data⟩], none⟩,
   ⟨some 2, .assign (.tmp 14), 24, "l13_pend.go:279", #[⟨0, .data⟩, ⟨3, .chain⟩, ⟨0, .phase⟩, { on := 1, ground := Ground.textOnly Departure.lateStores }, { on := 2, ground := Ground.textOnly Departure.lateStores }, { on := 3, ground := Ground.textOnly Departure.lateStoresUnsure }], none⟩,
   ⟨none, .store 27 (.tmp 3) (.tmp 15), 0, "l13_pend.go:279", #[⟨1, .data⟩, ⟨4, .chain⟩, ⟨0, .phase⟩, ⟨1, .phase⟩, { on := 2, ground := Ground.textOnly Departure.lateStores }, { on := 3, ground := Ground.textOnly Departure.lateStoresUnsure }, ⟨4, .phase⟩], none⟩,
   ⟨some 4, .assign (.tmp 17), 3, "l13_pend.go:279", #[⟨3, .data⟩, ⟨5, .chain⟩, ⟨0, .phase⟩, ⟨1, .phase⟩, ⟨2, .phase⟩, ⟨3, .phase⟩, ⟨4, .phase⟩, ⟨5, .phase⟩], none⟩] true).wp Try.prog Q ⟨#[v0, v1, v2, .pointer (some ⟨rr, 0, none⟩), v4, .pointer (some ⟨p, 0, none⟩), .slice ad n cap, .pointer (some ⟨g, 0, none⟩), v8, v9, v10, v11, v12, v13, v14, v15, v16, v17], []⟩ w := by
 have HQ := Lib.hid hQ; clear hQ
 have hb : Below w.heap.size w w.drew := (Below.refl _ _).drew
 replace XK := Lib.hid (XK.out.on hb)
 replace XR := Lib.hid (XR.out.on hb)
 replace OC := Lib.hid (Kd.own_on OC.out hb)
 replace ON := Lib.hid (Kd.own_on ON.out hb)
 have C := Lib.hid (C0.out.on hb)
 have BK := Lib.hid (Keep.of_below (p := p) hb)
 have BS := Lib.hid (show w.heap.size ≤ w.drew.heap.size from hb.size)
 have CP := Lib.hid C0.out.lt
 clear hb
 refine wp_region_noPanic ?_
 refine wp_region_held_drew (S := (fun w' => w'.cell? ⟨g, 0, none⟩ = some (.slice xn nn cn))) (by kernel_rfl) ?_ (fun hHeld => ?_)
 ·
  exact XK.out.cell 0
 generalize w.drew = wd at *
 refine wpAnyH_take (i := 0) (oi := ⟨some 14, .move (.tmp 6), 24, "l13_pend.go:279", #[], none⟩) (v := ?_) rfl (by kernel_rfl) (by kernel_rfl) (by kernel_rfl) (fun _ _ _ h => h) (Or.inl ⟨by rfl, ?_⟩) (by assumption) ?_
 rotate_left
 ·
  intro w' hSw; (try dsimp only at hSw); first | (go_simp; done) | (go_simp; with_reducible rfl)
 (try simp only [Act.put, Row.pB0, Row.pB1, Row.pB2])
 refine wpAnyH_take (i := 1) (oi := ⟨some 15, .load 27 (.tmp 7), 27, "l13_pend.go:279", #[{ on := 4, ground := Ground.gcOnly Departure.lateStores }], none⟩) (v := ?_) rfl (by kernel_rfl) (by kernel_rfl) (by kernel_rfl) (fun _ _ _ h => h) (Or.inl ⟨by rfl, ?_⟩) (by assumption) ?_
 rotate_left
 ·
  intro w' hSw; (try dsimp only at hSw); first | (go_simp; done) | (go_simp; with_reducible rfl)
 (try simp only [Act.put, Row.pB0, Row.pB1, Row.pB2])
 refine wpAnyH_take (i := 2) (oi := ⟨some 16, .move (.tmp 5), 67, "l13_pend.go:279", #[], none⟩) (v := ?_) rfl (by kernel_rfl) (by kernel_rfl) (by kernel_rfl) (fun _ _ _ h => h) (Or.inl ⟨by rfl, ?_⟩) (by assumption) ?_
 rotate_left
 ·
  intro w' hSw; (try dsimp only at hSw); first | (go_simp; done) | (go_simp; with_reducible rfl)
 (try simp only [Act.put, Row.pB0, Row.pB1, Row.pB2])
 refine wpAnyH_ready (rs := [3]) (by kernel_rfl) (by simp) ?_
 refine AllReadyH.cons (o := ⟨some 17, .call ⟨.value (.func 40), #[.tmp 16, .const (Value.int IntKind.i64 9)], #[67, 3]⟩, 3, "l13_pend.go:279", #[⟨2, .data⟩], none⟩) rfl (fun K hK => ?_) AllReadyH.nil
 go_simp
 refine (below w0 p v l _ 9 C.out).mono ?_
 rintro e wn1 ⟨y_, rfl, ⟨r, rfl, hr, _⟩, hc, hk⟩
 replace hr := hr (by omega)
 obtain ⟨hr0, hr1⟩ := hr
 replace XK := Lib.hid (blk_keep XK.out hk HGP.out)
 replace XR := Lib.hid (blk_keep XR.out hk HRP.out)
 replace OC := Lib.hid (Kd.own_cur OC.out hk HPB.out)
 replace ON := Lib.hid (Kd.own_cur ON.out hk HPB.out)
 replace C := Lib.hid hc; replace BK := Lib.hid (BK.out.trans hk); replace BS := Lib.hid (Nat.le_trans BS.out hk.size); clear hc hk
 (try go_wp2_with fail)
 clear hHeld
 refine hK.out _ _ ?_ (fun hHeld => ?_)
 ·
  (try dsimp only); exact XK.out.cell 0
 clear hK K
 (try simp only [Act.put, Row.pB0, Row.pB1, Row.pB2])
 refine wpAnyH_take (i := 4) (oi := ⟨some 2, .assign (.tmp 14), 24, "l13_pend.go:279", #[⟨0, .data⟩, ⟨3, .chain⟩, ⟨0, .phase⟩, { on := 1, ground := Ground.textOnly Departure.lateStores }, { on := 2, ground := Ground.textOnly Departure.lateStores }, { on := 3, ground := Ground.textOnly Departure.lateStoresUnsure }], none⟩) (v := ?_) rfl (by kernel_rfl) (by kernel_rfl) (by kernel_rfl) (fun _ _ _ h => h) (Or.inl ⟨by rfl, ?_⟩) (by assumption) ?_
 rotate_left
 ·
  intro w' hSw; (try dsimp only at hSw); first | (go_simp; done) | (go_simp; with_reducible rfl)
 (try simp only [Act.put, Row.pB0, Row.pB1, Row.pB2])
 refine wpAnyH_ready (rs := [5]) (by kernel_rfl) (by simp) ?_
 refine AllReadyH.cons (o := ⟨none, .store 27 (.tmp 3) (.tmp 15), 0, "l13_pend.go:279", #[⟨1, .data⟩, ⟨4, .chain⟩, ⟨0, .phase⟩, ⟨1, .phase⟩, { on := 2, ground := Ground.textOnly Departure.lateStores }, { on := 3, ground := Ground.textOnly Departure.lateStoresUnsure }, ⟨4, .phase⟩], none⟩) rfl (fun K hK => ?_) AllReadyH.nil
 have r0 := XR.out.cell 0; have t0 := XR.out.frozen 0
 go_simp
 clear hHeld
 refine hK.out _ _ ?_ (fun hHeld => ?_)
 ·
  (try dsimp only); exact (XK.out.other (a := ⟨rr, 0, none⟩) HRG.out _).cell 0
 clear hK K
 (try simp only [Act.put, Row.pB0, Row.pB1, Row.pB2])
 refine wpAnyH_take (i := 6) (oi := ⟨some 4, .assign (.tmp 17), 3, "l13_pend.go:279", #[⟨3, .data⟩, ⟨5, .chain⟩, ⟨0, .phase⟩, ⟨1, .phase⟩, ⟨2, .phase⟩, ⟨3, .phase⟩, ⟨4, .phase⟩, ⟨5, .phase⟩], none⟩) (v := ?_) rfl (by kernel_rfl) (by kernel_rfl) (by kernel_rfl) (fun _ _ _ h => h) (Or.inl ⟨by rfl, ?_⟩) (by assumption) ?_
 rotate_left
 ·
  intro w' hSw; (try dsimp only at hSw); first | (go_simp; done) | (go_simp; with_reducible rfl)
 (try simp only [Act.put, Row.pB0, Row.pB1, Row.pB2])
 refine wpAnyH_done (by kernel_rfl) ?_ _
 exact NoPanic.normal (HQ.out _ _ _ _ _ _ XR.out OC.out ON.out hr0 hr1 C.out BK.out)
def QSeen (w : World) (e : Ending) (w' : World) : Prop :=
 ∃ (x : List Snt) (m : List ByteArray) (k : Int) (V U : Value), e = .returned (.tuple #[V, U, .int .i64 k]) ∧ kLSn.At w' V x ∧ smS9 24 x ∧ kN.At w' U m ∧ bulk m ≤ 1000 ∧ 0 ≤ k ∧ k ≤ 100 ∧ Below w.heap.size w w'
set_option maxHeartbeats 8000000 in
theorem dDrawAddSeenNonce (w : World) (v : Value) (l : List UInt8) (hb : Frame.Bytes w v l) :
    Calls Try.prog 9 #[v] w (QSeen w) := by
  have hw := (Below.refl w.heap.size w).alloc (Nat.le_refl _) (.cells #[.slice none 0 0] 27)
  have HR := Lib.hid (Blk.new w #[.slice none 0 0] 27)
  have HN := Lib.hid (new (w.alloc (.cells #[.slice none 0 0] 27)) v l (hb.on hw))
  have HW := Lib.hid hw; have HB := Lib.hid hb
  have HSZ := Lib.hid (show (w.alloc (.cells #[.slice none 0 0] 27)).heap.size = w.heap.size + 1 from World.size_alloc _ _)
  clear hw hb
  go_enter Try.func9, Try.ntmps9
  go_wp2_with fail
  refine HN.out.mono ?_
  rintro e w1 ⟨rfl, hc⟩
  have HC := Lib.hid (Cur.base13 hc HB.out HW.out)
  replace HR := Lib.hid (HR.out.on hc.below)
  have HPL := Lib.hid hc.lt
  obtain ⟨p, hp⟩ : ∃ p, (w.alloc (.cells #[.slice none 0 0] 27)).heap.size = p := ⟨_, rfl⟩
  rw [hp] at HC HSZ HPL ⊢
  clear hc HN hp HW
  have HD := Lib.hid (l13Sees w p v l w1 HC.out)
  go_wp2_with fail
  refine HD.out.mono ?_
  rintro e w2 ⟨V, rfl, ⟨ad, n, cap, L, rfl, hO, hM⟩, hc, hk⟩
  have HRl := HR.out.lt
  have h12 := hk.size
  replace HR := Lib.hid (blk_keep HR.out hk (by have := HSZ.out; omega))
  have HPB := Lib.hid (show p < w1.heap.size from HPL.out)
  have HW1 := Lib.hid (show w.heap.size < w1.heap.size from HRl)
  have OC := Lib.hid hO; have HM := Lib.hid hM; have HC2 := Lib.hid hc
  have HE := Lib.hid (l4Name w p v l w2 hc)
  clear hO hM hc hk HD HC HRl
  go_wp2_with fail
  refine HE.out.mono ?_
  rintro e w3 ⟨V, rfl, ⟨u, m, rfl, hon, hbk⟩, hc, hk⟩
  obtain ⟨xn, nn, cn, rfl, -, -, hon⟩ := hon.shapeN
  have hal := (Below.refl w3.heap.size w3).alloc (Nat.le_refl _) (.cells #[.slice xn nn cn] 27)
  have h23 := hk.size
  have ON := Lib.hid (Kd.own_on (sN.own_mono (sN_own (m := ⟨xn, nn, cn, m⟩) (kN_own2 hon)) h12) hal)
  replace HR := Lib.hid ((blk_keep HR.out hk (by have := HSZ.out; omega)).on hal)
  replace OC := Lib.hid (Kd.own_on (Kd.own_cur OC.out hk HPB.out) hal)
  replace HC2 := Lib.hid (hc.on hal)
  have XK := Lib.hid (Blk.new w3 #[.slice xn nn cn] 27)
  have HG := Lib.hid (show p < w3.heap.size ∧ w.heap.size < w3.heap.size from ⟨by have := HPB.out; omega, by have := HW1.out; omega⟩)
  have HBK := Lib.hid (show bulk m ≤ 1000 by omega)
  clear hon hbk hc hk hal HE h12 h23
  go_upto_region 4 with fail
  generalize (w3.alloc (.cells #[.slice xn nn cn] 27)) = W at *
  refine c13s HC2 XK HR OC ON (Lib.hid (by have := HG.out; omega)) (Lib.hid (by have := HSZ.out; omega)) (Lib.hid (by have := HG.out; omega)) HPB ?_
  intro u14 u15 u16 u17 r wx xr oc on hr0 hr1 hc hk
  have Z1 := Lib.hid (xr.set 0 (.slice xn nn cn))
  have Z2 := Lib.hid (sLSn_at (Kd.own_setT (i := 0) (u := .slice xn nn cn) (noRow_sLSn (by decide) (by decide)) oc xr))
  have Z4 := Lib.hid (sN_at (Kd.own_setT (i := 0) (u := .slice xn nn cn) (noRow_sN (by decide)) on xr))
  have Z3 := Lib.hid (hc.below.setCell (p := ⟨w.heap.size, 0, none⟩) (Nat.le_refl _) (.slice xn nn cn))
  clear xr oc on hc hk
  go_wp2_with fail
  refine bodyPost_ret (Ret.results_tct13 rfl _ _ w.heap.size [.slice xn nn cn] rfl aggNm13 Z1.out.cells) rfl ?_
  exact ⟨_, m, r, _, _, rfl, Z2.out, HM.out, (show kN.strip ⟨xn, nn, cn, m⟩ = m from kN_strip _) ▸ Z4.out, HBK.out, hr0, by omega, Z3.out⟩
end Go.Proofs.Ytdaahcaafdleaaa.Draw
/- AddSeenNonce, the program. No conditions but that lengths fit. -/
namespace Go.Proofs.Ytdaahcaafdleaaa.Row
open Go.ChangeShapes Go.WideShapes Go.ChangeAt Go.RowKit Go.Instr
set_option linter.unusedVariables false
set_option maxRecDepth 100000
set_option maxHeartbeats 8000000 in
theorem implAddSeenNonce (V U : Value) (l : List Snt) (m : List ByteArray) (k : Int) (w : World) (h : kLSn.At w V l) (g : kN.At w U m) (hf : bulkK wtSn l + (1 + bulk m) ≤ 1100000) :
    Calls Try.prog 10 #[V, U, .int .i64 k] w fun e w' => ∃ U, e = .returned U ∧ kLSn.In w.heap.size w'.heap.size w' U (seenS l m k) ∧ Below w.heap.size w w' := by
  obtain ⟨x, n, c, L, rfl, hn, ht, hh, hel⟩ := kLSn_at h
  obtain ⟨xn, nn, cn, e9, g⟩ := kN_shapeA g
  subst e9
  obtain ⟨m1, e1, hs1, hm1⟩ := g
  have hd1 : kN.cells m1 = [.slice xn nn cn] := by injection e1 with e; exact (congrArg Array.toList e).symm
  have h0 := (Below.refl w.heap.size w).alloc (Nat.le_refl _) (.cells #[.slice xn nn cn] 27)
  have h1 := h0.alloc (by simp) (.cells #[.slice xn nn cn, .int .i64 k] 38)
  have h2 := h1.alloc (by simp; omega) (.cells #[.slice x n c, .slice (some ⟨w.heap.size + 1, 0, none⟩) 1 1] 24)
  have hx1 := one_kg (k := kSn) szSn_cells (e := 38) (W := (w.alloc (.cells #[.slice xn nn cn] 27))) (m := ((m1, k) : Snm)) (cs := [.slice xn nn cn, .int .i64 k]) (g := w.heap.size + 1) (by show kN.cells m1 ++ kInt.cells k = _; rw [hd1]; rfl) (by simp)
  have hb2 := (Below.refl ((w.alloc (.cells #[.slice xn nn cn] 27)).alloc (.cells #[.slice xn nn cn, .int .i64 k] 38)).heap.size ((w.alloc (.cells #[.slice xn nn cn] 27)).alloc (.cells #[.slice xn nn cn, .int .i64 k] 38))).alloc (Nat.le_refl _) (.cells #[.slice x n c, .slice (some ⟨w.heap.size + 1, 0, none⟩) 1 1] 24)
  have HX := Lib.hid ((Ret.Blk.new w #[.slice xn nn cn] 27))
  have HY := Lib.hid (Ret.Blk.new' (w := ((w.alloc (.cells #[.slice xn nn cn] 27)).alloc (.cells #[.slice xn nn cn, .int .i64 k] 38))) (n := w.heap.size + 2) #[.slice x n c, .slice (some ⟨w.heap.size + 1, 0, none⟩) 1 1] 24 (by simp))
  have hlen : L.length ≤ 1100000 := by rw [← show l.length = L.length by rw [← ht, List.length_map]]; exact Nat.le_trans (bulkK_len wtSn l) (by omega)
  have HC := Lib.hid (concatSn (w.heap.size + 2) (fun j => if j = 0 then .slice x n c else .slice (some ⟨w.heap.size + 1, 0, none⟩) 1 1) (fun j => if j = 0 then L else [((m1, k) : Snm)]) 2 (((w.alloc (.cells #[.slice xn nn cn] 27)).alloc (.cells #[.slice xn nn cn, .int .i64 k] 38)).alloc (.cells #[.slice x n c, .slice (some ⟨w.heap.size + 1, 0, none⟩) 1 1] 24)) (by decide)
    (fun j hj => by
      rcases (show j = 0 ∨ j = 1 by omega) with rfl | rfl
      · exact HY.out.cell 0
      · exact HY.out.cell 1)
    (fun j hj => by
      rcases (show j = 0 ∨ j = 1 by omega) with rfl | rfl
      · exact hh.on h2
      · exact hx1.on hb2)
    (by simp [catSn]; omega))
  have HEL := Lib.hid (fun y hy => kSn.holds_on (hel y hy) h2); have HM1 := Lib.hid (kN.holds_on hm1 h2); have HB := Lib.hid h2; have HT := Lib.hid ht; have HS1 := Lib.hid hs1
  have HFF := Lib.hid (fit_snoc (k := k) hf)
  have HSZ := Lib.hid (show (((w.alloc (.cells #[.slice xn nn cn] 27)).alloc (.cells #[.slice xn nn cn, .int .i64 k] 38)).alloc (.cells #[.slice x n c, .slice (some ⟨w.heap.size + 1, 0, none⟩) 1 1] 24)).heap.size = w.heap.size + 3 by simp)
  have HLN := Lib.hid (show l.length = L.length by rw [← ht, List.length_map])
  clear h g h0 h1 h2 hx1 hb2 hn ht hh hel e1 hs1 hm1 hd1 hf
  go_enter Try.func10, Try.ntmps10
  have q0 := HX.out.cell 0
  go_wp2_with fail
  refine HC.out.mono ?_
  rintro e w1 ⟨v1, rfl, ho1, hb1⟩
  obtain ⟨x1, n1, c1, rfl, -, -, ho1⟩ := ho1.shapeN
  have ho1' : OwnK 38 kSn.cells 2 (((w.alloc (.cells #[.slice xn nn cn] 27)).alloc (.cells #[.slice xn nn cn, .int .i64 k] 38)).alloc (.cells #[.slice x n c, .slice (some ⟨w.heap.size + 1, 0, none⟩) 1 1] 24)).heap.size w1 (.slice x1 n1 c1) (L ++ [((m1, k) : Snm)]) := by simpa [catSn] using ho1
  have HAT := Lib.hid (show kLSn.At w1 (.slice x1 n1 c1) (l ++ [(m, k)]) from by
    have h5 := kLSn_of ho1'.holds (fun y hy => by
      rcases List.mem_append.1 hy with h6 | h6
      · exact kSn.holds_on (HEL.out y h6) hb1
      · rw [List.mem_singleton.1 h6]; exact ⟨kN.holds_on HM1.out hb1, trivial⟩)
    rw [List.map_append, HT.out] at h5
    rw [show (l ++ [(m, k)]) = l ++ List.map kSn.strip [((m1, k) : Snm)] by rw [← HS1.out]; rfl]
    exact h5)
  have HB1 := Lib.hid (HB.out.trans (hb1.mono HB.out.size)); have HS2 := Lib.hid hb1.size
  clear ho1 ho1' hb1 HC HX HY q0
  go_wp2_with fail
  refine (iCopyS _ _ _ HAT.out HFF.out).mono ?_
  rintro e w2 ⟨U2, rfl, hi, hb2⟩
  obtain ⟨⟨xu, nu, cu, Lu⟩, rfl, hs, hi⟩ := hi.split
  rw [show kLSn.val (⟨xu, nu, cu, Lu⟩ : Rw Snm) = .slice xu nu cu from rfl]
  have HO := Lib.hid (hi.mono (B' := w.heap.size) (by have := HS2.out; have := HSZ.out; omega) (Nat.le_refl _)); have HS := Lib.hid (show Lu.map kSn.strip = l ++ [(m, k)] from hs)
  have HB2 := Lib.hid (HB1.out.trans (hb2.mono HB1.out.size))
  have hnu : nu = Lu.length := HO.out.1.1.holds.lenEq
  have hlu : Lu.length = l.length + 1 := by have h5 := congrArg List.length HS.out; rw [List.length_map, List.length_append] at h5; exact h5
  have hlen2 : ((l ++ [(m, k)]).length : Nat) = nu := by rw [List.length_append, hnu, hlu]; rfl
  have hn9 : Lu.length ≤ 1100001 := by have := HLN.out; omega
  clear hi hs hb2
  by_cases h24 : 24 < nu
  · have t0 : decide ((24 : Int) < (nu : Int)) = true := decide_eq_true (by omega)
    have hl9 : Lu.length ≤ 1100000 := by have := HFF.out.len; rw [List.length_append] at this; simp only [List.length_singleton] at this; omega
    have HD := Lib.hid (show Calls Try.prog 43 #[.slice xu nu cu, .int .i64 0, .int .i64 1] w2 _ from delOneSn w.heap.size ⟨xu, nu, cu, Lu⟩ 0 w2 HO.out (by show 0 < Lu.length; omega) hl9)
    have HR := Lib.hid (show (Lu.eraseIdx 0).map kSn.strip = seenS l m k by
      unfold seenS
      rw [if_pos (by rw [hlen2]; exact h24), ← HS.out, ← List.map_drop]
      congr 1
      cases Lu <;> rfl)
    have HNU := Lib.hid hnu
    clear hnu hlu hlen2 hn9 hl9
    go_wp2_with fail
    refine HD.out.mono ?_
    rintro e w3 ⟨r', rfl, ho3, he3, hg3, -⟩
    have HB3 := Lib.hid (HB2.out.grown hg3 HB2.out.size (fun g hg => (HO.out.1.1.lt g hg).1))
    have HO3 := Lib.hid ho3; have HE := Lib.hid he3
    clear ho3 he3 hg3 HD
    obtain ⟨x3, n3, c3, L3⟩ := r'
    go_wp2_with fail
    go_ret
    exact ⟨_, rfl, HR.out ▸ (show kLSn.In w.heap.size _ _ (.slice x3 n3 c3) ((Lu.eraseIdx 0).map kSn.strip) from (show Lu.eraseIdx 0 = L3 from HE.out.symm) ▸ HO3.out.in), HB3.out⟩
  · have t0 : decide ((24 : Int) < (nu : Int)) = false := decide_eq_false (by omega)
    have HR := Lib.hid (show Lu.map kSn.strip = seenS l m k by unfold seenS; rw [if_neg (by rw [hlen2]; exact h24), HS.out])
    clear hnu hlu hlen2 hn9
    go_wp2_with fail
    go_ret
    exact ⟨_, rfl, HR.out ▸ (show kLSn.In w.heap.size _ _ (.slice xu nu cu) (Lu.map kSn.strip) from HO.out.in), HB2.out⟩
end Go.Proofs.Ytdaahcaafdleaaa.Row
/- wantedRequesters: what its iterator hands to a loop. No conditions but that lengths fit. -/
namespace Go.Proofs.Ytdaahcaafdleaaa.Row
open Go.ChangeShapes Go.WideShapes Go.ChangeAt Go.RowKit Go.Instr
open Go.Shelf
attribute [local go_sem] Oper.semAt_some
set_option linter.unusedVariables false
set_option maxRecDepth 100000
def rqV (x : Rqt) : Value := .agg #[.int .i64 x.1, .int .i64 x.2.1, .int .i64 x.2.2]
theorem belowK_t9 {n₀ : Nat} {X Y Z : World} (h : Below n₀ X Y) (k : Below n₀ Y Z) : Below n₀ X Z := h.trans k
theorem grown_none {W W' : World} (h : Below W.heap.size W W') : W.grownBy W' none := Sl.grown_of_below h none
end Go.Proofs.Ytdaahcaafdleaaa.Row
/- slices.Collect over wantedRequesters. No conditions but that lengths fit. -/
namespace Go.Proofs.Ytdaahcaafdleaaa.Row
open Go.ChangeShapes Go.WideShapes Go.ChangeAt Go.RowKit Go.Instr
open Go.Shelf
attribute [local go_sem] Oper.semAt_some
set_option linter.unusedVariables false
set_option maxRecDepth 100000
theorem blk_own {g : Nat} {cs : Array Value} {t : TypeId} : Go.Own (fun (_ : Unit) W => Ret.Blk W g cs t) := fun s X Y row hs hg hrow => by
  refine (hg.block g hs.lt (fun e => ?_)).trans hs
  obtain ⟨o, ho, hc⟩ := hrow g e.symm
  rw [show X.heap[g]? = _ from hs] at ho
  cases ho
  cases hc
end Go.Proofs.Ytdaahcaafdleaaa.Row
