/- Contracts of the reference model's draws of two names. What was in memory stays as it was. -/
import Derived.Test.YtnhfdgjbbjogmaaDrawNames
namespace Go.Proofs.Ytnhfdgjbbjogmaa.Draw
open Go.ChangeShapes Go.WideShapes Go.ChangeAt Go.RowKit Go.Instr
open Go.Proofs.Ytnhfdgjbbjogmaa.Row (bulk bulk_append bulk_one bulk_nil elemSTR oneStr)
open Go.Proofs.Ytnhfdgjbbjogmaa.Ret (NC)
set_option linter.unusedVariables false

theorem endNN {w W : World} {u u2 : Value} {m m2 : List ByteArray} (h1 : NC W w.heap.size (.slice none 0 0)) (h2 : NC W (w.heap.size + 1) (.slice none 0 0)) (ho : OwnN (w.heap.size + 2) W u m) (ho2 : OwnN (w.heap.size + 2) W u2 m2) (hb : Below w.heap.size w W) :
    ((W.setCell ⟨w.heap.size, 0, none⟩ u).setCell ⟨w.heap.size + 1, 0, none⟩ u2).cell? ⟨w.heap.size, 0, none⟩ = some u ∧ ((W.setCell ⟨w.heap.size, 0, none⟩ u).setCell ⟨w.heap.size + 1, 0, none⟩ u2).cell? ⟨w.heap.size + 1, 0, none⟩ = some u2 ∧
    OwnN w.heap.size ((W.setCell ⟨w.heap.size, 0, none⟩ u).setCell ⟨w.heap.size + 1, 0, none⟩ u2) u m ∧ OwnN w.heap.size ((W.setCell ⟨w.heap.size, 0, none⟩ u).setCell ⟨w.heap.size + 1, 0, none⟩ u2) u2 m2 ∧ Below w.heap.size w ((W.setCell ⟨w.heap.size, 0, none⟩ u).setCell ⟨w.heap.size + 1, 0, none⟩ u2) := by
  have g1 := NC.set_same h1 u
  have g2 := h2.other (a := ⟨w.heap.size, 0, none⟩) (by show w.heap.size ≠ w.heap.size + 1; omega) u
  refine ⟨(g1.other (a := ⟨w.heap.size + 1, 0, none⟩) (by show w.heap.size + 1 ≠ w.heap.size; omega) u2).1, Ret.set_same g2.1, ?_, ?_, (hb.setCell (p := ⟨w.heap.size, 0, none⟩) (Nat.le_refl _) _).setCell (p := ⟨w.heap.size + 1, 0, none⟩) (by show w.heap.size ≤ w.heap.size + 1; omega) _⟩
  · exact ((ho.grown (Ret.grownBy_set _ _ u) (Row.nb ho (b := w.heap.size) (by omega))).grown (Ret.grownBy_set _ _ u2) (Row.nb ho (b := w.heap.size + 1) (by omega))).mono (by omega)
  · exact ((ho2.grown (Ret.grownBy_set _ _ u) (Row.nb ho2 (b := w.heap.size) (by omega))).grown (Ret.grownBy_set _ _ u2) (Row.nb ho2 (b := w.heap.size + 1) (by omega))).mono (by omega)

set_option maxRecDepth 100000 in
set_option maxHeartbeats 4000000 in
theorem l4Two (w : World) (v : Value) (l : List UInt8) (hb : Frame.Bytes w v l) :
    Calls Try.prog 53 #[v] w (QNN w) := by
  have HAL := Lib.hid (((Below.refl w.heap.size w).alloc (Nat.le_refl _) (.cells #[.slice none 0 0] 26)).alloc (by simp) (.cells #[.slice none 0 0] 26))
  have HR0 := Lib.hid ((NC.new' (w := w) (.slice none 0 0) 26 rfl).alloc (.cells #[.slice none 0 0] 26))
  have HS0 := Lib.hid (NC.new' (w := w.alloc (.cells #[.slice none 0 0] 26)) (.slice none 0 0) 26 (n := w.heap.size + 1) (by simp))
  have HN := Lib.hid (new ((w.alloc (.cells #[.slice none 0 0] 26)).alloc (.cells #[.slice none 0 0] 26)) v l (hb.on HAL.out)); clear hb
  go_enter Try.func53, Try.ntmps53
  go_wp2_with fail
  refine HN.out.mono ?_
  rintro e w1 ⟨rfl, hc⟩
  have HR1 := Lib.hid (HR0.out.on hc.below)
  have HS1 := Lib.hid (HS0.out.on hc.below)
  have hpz := hc.lt
  simp only [World.size_alloc] at hc hpz
  have HD := Lib.hid (l4Any _ _ v l w1 hc); clear hc
  go_wp2_with fail
  refine HD.out.mono ?_
  rintro e w2 ⟨y, rfl, ⟨u, m, rfl, ho, hm⟩, hc, hk⟩
  obtain ⟨x, n, c, rfl, hn, -, ho⟩ := ho.shapeN
  have hln := Row.bigLen hm
  have hal : Below w2.heap.size w2 (w2.alloc (.cells #[.slice x n c] 26)) := (Below.refl _ _).alloc (Nat.le_refl _) _
  have hkz := hk.size
  have HR2 := Lib.hid ((NC.keep HR1.out hk (by omega)).on hal)
  have HS2 := Lib.hid ((NC.keep HS1.out hk (by omega)).on hal)
  have HX2 := Lib.hid (Ret.Box.new w2 (.slice x n c) 26)
  have HO2 := Lib.hid (ho.on hal)
  have HD2 := Lib.hid (once _ _ v l _ 3 (hc.on hal))
  clear hal hc hk ho HD hn
  go_wp2_with fail
  refine HD2.out.mono ?_
  rintro e w3 ⟨y, rfl, ⟨b, rfl⟩, hc, hk⟩
  have hdr : Below w3.heap.size w3 w3.drew := (Below.refl _ _).drew
  have HRD := Lib.hid ((NC.keep HR2.out hk (by omega)).on hdr)
  have HSD := Lib.hid ((NC.keep HS2.out hk (by omega)).on hdr)
  have HXD := Lib.hid ((box_keep HX2.out hk (by omega)).on hdr)
  have HOD := Lib.hid ((rown_keep HO2.out hk (by omega)).on hdr)
  have HCD := Lib.hid (hc.on hdr)
  have hx3 := (box_keep HX2.out hk (by omega)).cell
  clear hdr hc hk HD2
  cases b
  · go_wp2_with fail
    go_region_held3 (fun w' => w'.cell? ⟨w2.heap.size, 0, none⟩ = some (.slice x n c)) (first | exact HXD.out.cell | exact hxc4 | exact hxc5 | exact hxs1 | exact hxs2 | exact hxs3) ((go_at_call 47; refine (l4Any _ (w.heap.size + 1 + 1) v l w3.drew HCD.out).mono ?_; rintro e w5 ⟨y, rfl, ⟨u5, m5, rfl, ho5, hm5⟩, hc5, hk5⟩; obtain ⟨x5, n5, c5, rfl, -, -, ho5⟩ := ho5.shapeN; have HR5 := Lib.hid (NC.keep HRD.out hk5 (by omega)); have HS5 := Lib.hid (NC.keep HSD.out hk5 (by omega)); have HX5 := Lib.hid (box_keep HXD.out hk5 (by omega)); have hxc5 := HX5.out.cell; obtain ⟨hr5, hf5⟩ := HR5.out; obtain ⟨hs5, hg5⟩ := HS5.out; have HO5 := Lib.hid (rown_keep HOD.out hk5 (by omega)); have HP5 := Lib.hid ho5; have HB5 := Lib.hid (HAL.out.trans (hc5.below.mono HAL.out.size)); have hxs1 := (HX5.out.grown (Ret.grownBy_set w5 ⟨w.heap.size, 0, none⟩ (.slice x n c)) (fun e => by have h9 : w2.heap.size = w.heap.size := (Option.some.inj e); omega)).cell; have hxs2 := ((HX5.out.grown (Ret.grownBy_set w5 ⟨w.heap.size, 0, none⟩ (.slice x n c)) (fun e => by have h9 : w2.heap.size = w.heap.size := (Option.some.inj e); omega)).grown (Ret.grownBy_set _ ⟨w.heap.size + 1, 0, none⟩ (.slice x5 n5 c5)) (fun e => by have h9 : w2.heap.size = w.heap.size + 1 := (Option.some.inj e); omega)).cell; have hxs3 := (HX5.out.grown (Ret.grownBy_set w5 ⟨w.heap.size + 1, 0, none⟩ (.slice x5 n5 c5)) (fun e => by have h9 : w2.heap.size = w.heap.size + 1 := (Option.some.inj e); omega)).cell; clear hc5 hk5 ho5))
    have hz3 : w2.heap.size ≤ w3.drew.heap.size := by have := HXD.out.lt; omega
    have HQ := Lib.hid (endNN HR5.out HS5.out (HO5.out.mono (by omega)) (HP5.out.mono (by omega)) HB5.out)
    clear hxc5 hxs1 hxs2 hxs3 hx3
    go_wp2_with fail
    refine bodyPost_ret (Ret.results_cc rfl _ _ w.heap.size (w.heap.size + 1) [_] [_] rfl rfl Row.aggN Row.aggN (Ret.one HQ.out.1) (Ret.one HQ.out.2.1)) rfl ?_
    exact ⟨_, m, _, m5, rfl, HQ.out.2.2.1, hm, HQ.out.2.2.2.1, hm5, HQ.out.2.2.2.2⟩
  · go_wp2_with fail
    go_region_held3 (fun w' => w'.cell? ⟨w2.heap.size, 0, none⟩ = some (.slice x n c)) (first | exact HXD.out.cell | exact hxc4 | exact hxc5 | exact hxs1 | exact hxs2 | exact hxs3) (first | (go_at_call 54; refine (below _ (w.heap.size + 1 + 1) v l w3.drew 4 HCD.out).mono ?_; rintro e w4 ⟨y, rfl, ⟨q, rfl, hq, hq2⟩, hc4, hk4⟩; have HR4 := Lib.hid (NC.keep HRD.out hk4 (by omega)); have HS4 := Lib.hid (NC.keep HSD.out hk4 (by omega)); have HX4 := Lib.hid (box_keep HXD.out hk4 (by omega)); have hxc4 := HX4.out.cell; have HO4 := Lib.hid (rown_keep HOD.out hk4 (by omega)); have HB4 := Lib.hid (HAL.out.trans (hc4.below.mono HAL.out.size)); clear hc4 hk4) | (go_at_call 28; refine (Row.specTruncate (.slice x n c) m q w4 HO4.out.holds (Nat.le_trans hln (by decide))).mono ?_; rintro e w5 ⟨v5, rfl, ho5, hb5⟩; obtain ⟨x5, n5, c5, rfl, -, -, ho5⟩ := ho5.shapeN; have HR5 := Lib.hid (HR4.out.on hb5); have HS5 := Lib.hid (HS4.out.on hb5); have HX5 := Lib.hid (HX4.out.on hb5); have hxc5 := HX5.out.cell; obtain ⟨hr5, hf5⟩ := HR5.out; obtain ⟨hs5, hg5⟩ := HS5.out; have HO5 := Lib.hid (HO4.out.on hb5); have HP5 := Lib.hid ho5; have HB5 := Lib.hid (HB4.out.trans (hb5.mono HB4.out.size)); have hxs1 := (HX5.out.grown (Ret.grownBy_set w5 ⟨w.heap.size, 0, none⟩ (.slice x n c)) (fun e => by have h9 : w2.heap.size = w.heap.size := (Option.some.inj e); omega)).cell; have hxs2 := ((HX5.out.grown (Ret.grownBy_set w5 ⟨w.heap.size, 0, none⟩ (.slice x n c)) (fun e => by have h9 : w2.heap.size = w.heap.size := (Option.some.inj e); omega)).grown (Ret.grownBy_set _ ⟨w.heap.size + 1, 0, none⟩ (.slice x5 n5 c5)) (fun e => by have h9 : w2.heap.size = w.heap.size + 1 := (Option.some.inj e); omega)).cell; have hxs3 := (HX5.out.grown (Ret.grownBy_set w5 ⟨w.heap.size + 1, 0, none⟩ (.slice x5 n5 c5)) (fun e => by have h9 : w2.heap.size = w.heap.size + 1 := (Option.some.inj e); omega)).cell; clear hb5 ho5))
    have hz3 : w2.heap.size ≤ w4.heap.size := by have := HX4.out.lt; omega
    have HQ := Lib.hid (endNN HR5.out HS5.out (HO5.out.mono (by omega)) (HP5.out.mono (by omega)) HB5.out)
    have hbt : bulk (Row.trN m q) ≤ 1000 := Nat.le_trans (bulk_sub _) hm
    clear hxc4 hxc5 hxs1 hxs2 hxs3 hx3
    go_wp2_with fail
    refine bodyPost_ret (Ret.results_cc rfl _ _ w.heap.size (w.heap.size + 1) [_] [_] rfl rfl Row.aggN Row.aggN (Ret.one HQ.out.1) (Ret.one HQ.out.2.1)) rfl ?_
    exact ⟨_, m, _, _, rfl, HQ.out.2.2.1, hm, HQ.out.2.2.2.1, hbt, HQ.out.2.2.2.2⟩

set_option maxRecDepth 100000 in
set_option maxHeartbeats 4000000 in
theorem drawCompareNames (w : World) (v : Value) (l : List UInt8) (hb : Frame.Bytes w v l) :
    Calls Try.prog 20 #[v] w (QNN w) := by
  have HAL := Lib.hid (((Below.refl w.heap.size w).alloc (Nat.le_refl _) (.cells #[.slice none 0 0] 26)).alloc (by simp) (.cells #[.slice none 0 0] 26))
  have HR0 := Lib.hid ((NC.new' (w := w) (.slice none 0 0) 26 rfl).alloc (.cells #[.slice none 0 0] 26))
  have HS0 := Lib.hid (NC.new' (w := w.alloc (.cells #[.slice none 0 0] 26)) (.slice none 0 0) 26 (n := w.heap.size + 1) (by simp))
  have HT := Lib.hid (l4Two ((w.alloc (.cells #[.slice none 0 0] 26)).alloc (.cells #[.slice none 0 0] 26)) v l (hb.on HAL.out)); clear hb
  go_enter Try.func20, Try.ntmps20
  go_wp2_with fail
  refine HT.out.mono ?_
  rintro e w1 ⟨u, m, u2, m2, rfl, ho, hm, ho2, hm2, hb⟩
  obtain ⟨x, n, c, rfl, -, -, ho⟩ := ho.shapeN
  obtain ⟨x2, n2, c2, rfl, -, -, ho2⟩ := ho2.shapeN
  simp only [World.size_alloc] at ho ho2
  have HR1 := Lib.hid (HR0.out.on hb)
  have HS1 := Lib.hid (HS0.out.on hb)
  have HQ := Lib.hid (endNN HR1.out HS1.out ho ho2 (HAL.out.trans (hb.mono HAL.out.size)))
  obtain ⟨hr1, hf1⟩ := HR1.out
  obtain ⟨hs1, hg1⟩ := HS1.out
  clear ho ho2 hb HT
  go_wp2_with fail
  refine bodyPost_ret (Ret.results_cc rfl _ _ w.heap.size (w.heap.size + 1) [_] [_] rfl rfl Row.aggN Row.aggN (Ret.one HQ.out.1) (Ret.one HQ.out.2.1)) rfl ?_
  exact ⟨_, m, _, m2, rfl, HQ.out.2.2.1, hm, HQ.out.2.2.2.1, hm2, HQ.out.2.2.2.2⟩

set_option maxRecDepth 100000 in
set_option maxHeartbeats 4000000 in
theorem drawHasPrefix (w : World) (v : Value) (l : List UInt8) (hb : Frame.Bytes w v l) :
    Calls Try.prog 39 #[v] w (QNN w) := by
  have HAL := Lib.hid (((Below.refl w.heap.size w).alloc (Nat.le_refl _) (.cells #[.slice none 0 0] 26)).alloc (by simp) (.cells #[.slice none 0 0] 26))
  have HR0 := Lib.hid ((NC.new' (w := w) (.slice none 0 0) 26 rfl).alloc (.cells #[.slice none 0 0] 26))
  have HS0 := Lib.hid (NC.new' (w := w.alloc (.cells #[.slice none 0 0] 26)) (.slice none 0 0) 26 (n := w.heap.size + 1) (by simp))
  have HT := Lib.hid (l4Two ((w.alloc (.cells #[.slice none 0 0] 26)).alloc (.cells #[.slice none 0 0] 26)) v l (hb.on HAL.out)); clear hb
  go_enter Try.func39, Try.ntmps39
  go_wp2_with fail
  refine HT.out.mono ?_
  rintro e w1 ⟨u, m, u2, m2, rfl, ho, hm, ho2, hm2, hb⟩
  obtain ⟨x, n, c, rfl, -, -, ho⟩ := ho.shapeN
  obtain ⟨x2, n2, c2, rfl, -, -, ho2⟩ := ho2.shapeN
  simp only [World.size_alloc] at ho ho2
  have HR1 := Lib.hid (HR0.out.on hb)
  have HS1 := Lib.hid (HS0.out.on hb)
  have HQ := Lib.hid (endNN HR1.out HS1.out ho ho2 (HAL.out.trans (hb.mono HAL.out.size)))
  obtain ⟨hr1, hf1⟩ := HR1.out
  obtain ⟨hs1, hg1⟩ := HS1.out
  clear ho ho2 hb HT
  go_wp2_with fail
  refine bodyPost_ret (Ret.results_cc rfl _ _ w.heap.size (w.heap.size + 1) [_] [_] rfl rfl Row.aggN Row.aggN (Ret.one HQ.out.1) (Ret.one HQ.out.2.1)) rfl ?_
  exact ⟨_, m, _, m2, rfl, HQ.out.2.2.1, hm, HQ.out.2.2.2.1, hm2, HQ.out.2.2.2.2⟩

end Go.Proofs.Ytnhfdgjbbjogmaa.Draw
