/- Contracts and mathematics, joined: DrawC3, CacheR0, DrawC4, DrawC5. No conditions but those that each states. -/
import Derived.WalkKit
import Derived.Deep.RegionHeld3
import Derived.Test.YtfglcmanmfenpaaGreatB26
import Derived.Test.YtfglcmanmfenpaaGreatB20
import Derived.Test.YtfglcmanmfenpaaGreatB11
import Derived.Test.YtfglcmanmfenpaaGreatB16
/- The model's draws of chapter 12 at the top: DrawNewContentStore, DrawEvictStale. What was in memory stays as it was. -/
namespace Go.Proofs.YtfglcmanmfenpaaGreat.Draw
open Go.ChangeShapes Go.WideShapes Go.ChangeAt Go.RowKit Go.Instr
open Go.Proofs.YtfglcmanmfenpaaGreat.Row
open Go.Proofs.YtfglcmanmfenpaaGreat.Ret (NC Blk Box)
set_option linter.unusedVariables false
set_option maxRecDepth 100000
set_option maxRecDepth 100000 in
set_option maxHeartbeats 4000000 in
theorem c12e {Q : Exit → Act → World → Prop} {v0 v1 v3 v6 v7 v8 v9 v10 v11 v12 v13 : Value} {w : World} {w0 : World} {p : Nat} {v : Value} {l : List UInt8} (C0 : Hid (Cur w0 p v l w)) {g rr B n cap : Nat} {c : Int} {ad : Option Addr} {L : List Cem} (XK : Hid (Blk w g #[.int .i64 c, .slice ad n cap] 26)) (XR : Hid (Blk w rr #[.int .i64 0, .slice none 0 0] 26)) (OC : Hid (sCn.own B w (c, ⟨ad, n, cap, L⟩))) (HGP : Hid (g ≠ p)) (HRP : Hid (rr ≠ p)) (HRG : Hid (rr ≠ g)) (HPB : Hid (p < B)) 
  (hQ : ∀ (u10 u11 u12 u13 : Value) (r : Int) (wx : World), Blk wx rr #[.int .i64 0, .slice none 0 0] 26 → sCn.own B wx (c, ⟨ad, n, cap, L⟩) → 0 ≤ r → r < 60 → Cur w0 p v l wx → Keep p w wx → Q .normal ⟨#[v0, v1, .pointer (some ⟨rr, 0, none⟩), .int .i64 (40 + r), .pointer (some ⟨p, 0, none⟩), .pointer (some ⟨g, 0, none⟩), v6, v7, v8, v9, u10, u11, u12, u13], []⟩ ((wx.setCell ⟨rr, 0, none⟩ (.int .i64 c)).setCell ⟨rr, 1, none⟩ (.slice ad n cap))) :
  (Code.region 3 #[⟨some 10, .load 26 (.tmp 5), 26, "l12_cache.go:175", #[], none⟩,
   ⟨some 11, .move (.tmp 4), 55, "l12_cache.go:175", #[], none⟩,
   ⟨some 12, .call ⟨.value (.func 33), #[.tmp 11, .const (Value.int IntKind.i64 60)], #[55, 3]⟩, 3, "l12_cache.go:175", #[⟨1, .data⟩], none⟩,
   ⟨some 13, .binOp BinOp.add 3 (.const (Value.int IntKind.i64 40)) (.tmp 12) 3, 3, "l12_cache.go:175", #[⟨2, .data⟩, { on := 4, ground := Ground.gcOnly Departure.lateStores }], none⟩,
   ⟨none, .store 26 (.tmp 2) (.tmp 10), 0, "l12_cache.go:175", #[⟨0, .data⟩, ⟨2, .chain⟩, ⟨0, .phase⟩, { on := 1, ground := Ground.textOnly Departure.lateStores }, { on := 2, ground := Ground.textOnly Departure.lateStoresUnsure }, { on := 3, ground := Ground.textOnly Departure.lateStores }], none⟩,
   ⟨some 3, .assign (.tmp 13), 3, "l12_cache.go:175", #[⟨3, .data⟩, ⟨4, .chain⟩, ⟨0, .phase⟩, ⟨1, .phase⟩, ⟨2, .phase⟩, ⟨3, .phase⟩, ⟨4, .phase⟩], none⟩] true).wp Tryz.prog Q ⟨#[v0, v1, .pointer (some ⟨rr, 0, none⟩), v3, .pointer (some ⟨p, 0, none⟩), .pointer (some ⟨g, 0, none⟩), v6, v7, v8, v9, v10, v11, v12, v13], []⟩ w := by
 have HQ := Lib.hid hQ; clear hQ
 have hb : Below w.heap.size w w.drew := (Below.refl _ _).drew
 replace XK := Lib.hid (XK.out.on hb)
 replace XR := Lib.hid (XR.out.on hb)
 replace OC := Lib.hid (Kd.own_on OC.out hb)
 have C := Lib.hid (C0.out.on hb)
 have BK := Lib.hid (Keep.of_below (p := p) hb)
 have BS := Lib.hid (show w.heap.size ≤ w.drew.heap.size from hb.size)
 have CP := Lib.hid C0.out.lt
 clear hb
 refine wp_region_noPanic ?_
 refine wp_region_held_drew (S := (fun w' => w'.cell? ⟨g, 0, none⟩ = some (.int .i64 c) ∧ w'.cell? ⟨g, 1, none⟩ = some (.slice ad n cap))) (by kernel_rfl) ?_ (fun hHeld => ?_)
 ·
  exact ⟨XK.out.cell 0, XK.out.cell 1⟩
 generalize w.drew = wd at *
 refine wpAnyH_take (i := 0) (oi := ⟨some 10, .load 26 (.tmp 5), 26, "l12_cache.go:175", #[], none⟩) (v := ?_) rfl (by kernel_rfl) (by kernel_rfl) (by kernel_rfl) (fun _ _ _ h => h) (Or.inl ⟨by rfl, ?_⟩) (by assumption) ?_
 rotate_left
 ·
  intro w' hSw; (try dsimp only at hSw); first | (go_simp; done) | (go_simp; with_reducible rfl)
 (try simp only [Act.put, Row.pB0, Row.pB1, Row.pB2])
 refine wpAnyH_take (i := 1) (oi := ⟨some 11, .move (.tmp 4), 55, "l12_cache.go:175", #[], none⟩) (v := ?_) rfl (by kernel_rfl) (by kernel_rfl) (by kernel_rfl) (fun _ _ _ h => h) (Or.inl ⟨by rfl, ?_⟩) (by assumption) ?_
 rotate_left
 ·
  intro w' hSw; (try dsimp only at hSw); first | (go_simp; done) | (go_simp; with_reducible rfl)
 (try simp only [Act.put, Row.pB0, Row.pB1, Row.pB2])
 refine wpAnyH_ready (rs := [2]) (by kernel_rfl) (by simp) ?_
 refine AllReadyH.cons (o := ⟨some 12, .call ⟨.value (.func 33), #[.tmp 11, .const (Value.int IntKind.i64 60)], #[55, 3]⟩, 3, "l12_cache.go:175", #[⟨1, .data⟩], none⟩) rfl (fun K hK => ?_) AllReadyH.nil
 go_simp
 refine (below w0 p v l _ 60 C.out).mono ?_
 rintro e wn1 ⟨y_, rfl, ⟨r, rfl, hr, _⟩, hc, hk⟩
 replace hr := hr (by omega)
 obtain ⟨hr0, hr1⟩ := hr
 have hw : IntKind.i64.wrap (40 + r) = 40 + r := by rw [IntKind.wrap_i64]; omega
 replace XK := Lib.hid (blk_keep XK.out hk HGP.out)
 replace XR := Lib.hid (blk_keep XR.out hk HRP.out)
 replace OC := Lib.hid (Kd.own_cur OC.out hk HPB.out)
 replace C := Lib.hid hc; replace BK := Lib.hid (BK.out.trans hk); replace BS := Lib.hid (Nat.le_trans BS.out hk.size); clear hc hk
 (try go_wp2_with fail)
 clear hHeld
 refine hK.out _ _ ?_ (fun hHeld => ?_)
 ·
  (try dsimp only); exact ⟨XK.out.cell 0, XK.out.cell 1⟩
 clear hK K
 (try simp only [Act.put, Row.pB0, Row.pB1, Row.pB2])
 refine wpAnyH_take (i := 3) (oi := ⟨some 13, .binOp BinOp.add 3 (.const (Value.int IntKind.i64 40)) (.tmp 12) 3, 3, "l12_cache.go:175", #[⟨2, .data⟩, { on := 4, ground := Ground.gcOnly Departure.lateStores }], none⟩) (v := ?_) rfl (by kernel_rfl) (by kernel_rfl) (by kernel_rfl) (fun _ _ _ h => h) (Or.inl ⟨by rfl, ?_⟩) (by assumption) ?_
 rotate_left
 ·
  intro w' hSw; (try dsimp only at hSw); first | (go_simp; done) | (go_simp; with_reducible rfl)
 (try simp only [Act.put, Row.pB0, Row.pB1, Row.pB2])
 refine wpAnyH_ready (rs := [4]) (by kernel_rfl) (by simp) ?_
 refine AllReadyH.cons (o := ⟨none, .store 26 (.tmp 2) (.tmp 10), 0, "l12_cache.go:175", #[⟨0, .data⟩, ⟨2, .chain⟩, ⟨0, .phase⟩, { on := 1, ground := Ground.textOnly Departure.lateStores }, { on := 2, ground := Ground.textOnly Departure.lateStoresUnsure }, { on := 3, ground := Ground.textOnly Departure.lateStores }], none⟩) rfl (fun K hK => ?_) AllReadyH.nil
 have r0 := XR.out.cell 0; have r1 := XR.out.cell 1; have t0 := XR.out.frozen 0; have t1 := XR.out.frozen 1
 go_simp
 clear hHeld
 refine hK.out _ _ ?_ (fun hHeld => ?_)
 ·
  (try dsimp only); exact ⟨cell_two (XK.out.cell 0) HRG.out, cell_two (XK.out.cell 1) HRG.out⟩
 clear hK K
 (try simp only [Act.put, Row.pB0, Row.pB1, Row.pB2])
 refine wpAnyH_take (i := 5) (oi := ⟨some 3, .assign (.tmp 13), 3, "l12_cache.go:175", #[⟨3, .data⟩, ⟨4, .chain⟩, ⟨0, .phase⟩, ⟨1, .phase⟩, ⟨2, .phase⟩, ⟨3, .phase⟩, ⟨4, .phase⟩], none⟩) (v := ?_) rfl (by kernel_rfl) (by kernel_rfl) (by kernel_rfl) (fun _ _ _ h => h) (Or.inl ⟨by rfl, ?_⟩) (by assumption) ?_
 rotate_left
 ·
  intro w' hSw; (try dsimp only at hSw); first | (go_simp; done) | (go_simp; with_reducible rfl)
 (try simp only [Act.put, Row.pB0, Row.pB1, Row.pB2])
 refine wpAnyH_done (by kernel_rfl) ?_ _
 exact NoPanic.normal (HQ.out _ _ _ _ _ _ XR.out OC.out hr0 hr1 C.out BK.out)
theorem Cur.base12 {w0 w1 W : World} {p : Nat} {v : Value} {l : List UInt8} (h : Cur w1 p v l W) (hb : Frame.Bytes w0 v l) (hw : Below w0.heap.size w0 w1) : Cur w0 p v l W := ⟨hb, hw.trans (h.below.mono hw.size), Nat.le_trans hw.size h.place, h.row⟩
def QEvict (w : World) (e : Ending) (w' : World) : Prop :=
  ∃ (V : Value) (t : Int) (B : Nat), e = .returned (.tuple #[V, .int .i64 t]) ∧ StoreD 15 B V w' ∧ 40 ≤ t ∧ t < 100 ∧ w.heap.size ≤ B ∧ Below w.heap.size w w'
set_option maxHeartbeats 8000000 in
theorem dDrawEvictStale (w : World) (v : Value) (l : List UInt8) (hb : Frame.Bytes w v l) :
    Calls Tryz.prog 10 #[v] w (QEvict w) := by
  have hw := (Below.refl w.heap.size w).alloc (Nat.le_refl _) (.cells #[.int .i64 0, .slice none 0 0] 26)
  have HR := Lib.hid (Blk.new w #[.int .i64 0, .slice none 0 0] 26)
  have HN := Lib.hid (new (w.alloc (.cells #[.int .i64 0, .slice none 0 0] 26)) v l (hb.on hw))
  have HW := Lib.hid hw; have HB := Lib.hid hb
  have HSZ := Lib.hid (show (w.alloc (.cells #[.int .i64 0, .slice none 0 0] 26)).heap.size = w.heap.size + 1 from World.size_alloc _ _)
  clear hw hb
  go_enter Tryz.func10, Tryz.ntmps10
  go_wp2_with fail
  refine HN.out.mono ?_
  rintro e w1 ⟨rfl, hc⟩
  have HC := Lib.hid (Cur.base12 hc HB.out HW.out)
  replace HR := Lib.hid (HR.out.on hc.below)
  have HPL := Lib.hid hc.lt
  obtain ⟨p, hp⟩ : ∃ p, (w.alloc (.cells #[.int .i64 0, .slice none 0 0] 26)).heap.size = p := ⟨_, rfl⟩
  rw [hp] at HC HSZ HPL ⊢
  clear hc HN hp HW
  have HD := Lib.hid (l12Any w p v l w1 HC.out)
  go_wp2_with fail
  refine HD.out.mono ?_
  rintro e w2 ⟨V, rfl, ⟨c, ad, n, cap, L, rfl, hO, hM⟩, hc, hk⟩
  have hal := (Below.refl w2.heap.size w2).alloc (Nat.le_refl _) (.cells #[.int .i64 c, .slice ad n cap] 26)
  have HRl := HR.out.lt
  have h12 := hk.size
  replace HR := Lib.hid ((blk_keep HR.out hk (by have := HSZ.out; omega)).on hal)
  have HC2 := Lib.hid (hc.on hal)
  have OC := Lib.hid (Kd.own_on hO hal); have HM := Lib.hid hM
  have XK := Lib.hid (Blk.new w2 #[.int .i64 c, .slice ad n cap] 26)
  have HG := Lib.hid (show p < w2.heap.size ∧ w.heap.size < w2.heap.size from ⟨by have := HPL.out; omega, by have := HSZ.out; have := HPL.out; omega⟩)
  have HW1 := Lib.hid (show w.heap.size ≤ w1.heap.size from by have := HSZ.out; have := HPL.out; omega)
  clear hO hM hc hk hal HD HC HRl h12
  go_upto_region 3 with fail
  generalize (w2.alloc (.cells #[.int .i64 c, .slice ad n cap] 26)) = W at *
  refine c12e HC2 XK HR OC (Lib.hid (by have := HG.out; omega)) (Lib.hid (by have := HSZ.out; omega)) (Lib.hid (by have := HG.out; omega)) HPL ?_
  intro u10 u11 u12 u13 r wx xr oc hr0 hr1 hc hk
  have Z1 := Lib.hid ((xr.set 0 (.int .i64 c)).set 1 (.slice ad n cap))
  have Z2 := Lib.hid (Kd.own_setT (i := 1) (u := .slice ad n cap) (noRow_sCn (by decide) (by decide) (by decide)) (Kd.own_setT (i := 0) (u := .int .i64 c) (noRow_sCn (by decide) (by decide) (by decide)) oc xr) (xr.set 0 (.int .i64 c)))
  have Z3 := Lib.hid ((hc.below.setCell (p := ⟨w.heap.size, 0, none⟩) (Nat.le_refl _) (.int .i64 c)).setCell (p := ⟨w.heap.size, 1, none⟩) (Nat.le_refl _) (.slice ad n cap))
  clear xr oc hc hk
  go_wp2_with fail
  refine bodyPost_ret (Ret.results_ct rfl _ _ w.heap.size [.int .i64 c, .slice ad n cap] rfl aggCn Z1.out.cells) rfl ?_
  exact ⟨_, _, _, rfl, ⟨c, ad, n, cap, L, rfl, Z2.out, HM.out⟩, by omega, by omega, HW1.out, Z3.out⟩
set_option maxHeartbeats 4000000 in
theorem dDrawNewContentStore (w : World) (v : Value) (l : List UInt8) (hb : Frame.Bytes w v l) :
    Calls Tryz.prog 12 #[v] w fun e w' => ∃ q : Int, e = .returned (.int .i64 q) ∧ -1 ≤ q ∧ q ≤ 9 ∧ Below w.heap.size w w' := by
  have HN := Lib.hid (new w v l hb)
  clear hb
  go_enter Tryz.func12, Tryz.ntmps12
  go_wp2_with fail
  refine HN.out.mono ?_
  rintro e w1 ⟨rfl, hc⟩
  have HF := Lib.hid (intLit2 w w.heap.size v l w1 hc [-1, 0, 1, 8, 9] #[.int .i64 (-1), .int .i64 0, .int .i64 1, .int .i64 8, .int .i64 9] rfl 5 rfl (by decide) (by decide) (-1) 9 (by simp))
  clear hc HN
  go_wp2_with fail
  refine HF.out.mono ?_
  rintro e w2 ⟨y_, rfl, ⟨q, rfl, h1, h2⟩, hc, hk⟩
  have HB := Lib.hid hc.below
  clear hc hk HF
  go_wp2
  go_ret
  exact ⟨q, rfl, h1, h2, HB.out⟩
end Go.Proofs.YtfglcmanmfenpaaGreat.Draw
/- A result laid in a variable that was made before it: all that was there is kept. No conditions. -/
namespace Go.Proofs.YtfglcmanmfenpaaGreat.Row
open Go.ChangeShapes Go.WideShapes Go.ChangeAt Go.RowKit Go.Instr
set_option linter.unusedVariables false
set_option maxRecDepth 100000
theorem cell_five12 {w : World} {p g i : Nat} {u a b c d e : Value} (h : w.cell? ⟨p, i, none⟩ = some u) (hn : g ≠ p) : (((((w.setCell ⟨g, 0, none⟩ (a)).setCell ⟨g, 1, none⟩ (b)).setCell ⟨g, 2, none⟩ (c)).setCell ⟨g, 3, none⟩ (d)).setCell ⟨g, 4, none⟩ (e)).cell? ⟨p, i, none⟩ = some u := by
  have st : ∀ {w1 : World} (j : Nat) (v : Value), w1.cell? ⟨p, i, none⟩ = some u → (w1.setCell ⟨g, j, none⟩ v).cell? ⟨p, i, none⟩ = some u := fun {w1} j v h1 => (World.cell?_of_block (w := w1) (Go.RowKit.Below.heap_setCell _ _ _ _ (fun e => hn e.symm))).trans h1
  exact st 4 _ (st 3 _ (st 2 _ (st 1 _ (st 0 _ h))))
end Go.Proofs.YtfglcmanmfenpaaGreat.Row
/- Regions of DrawCacheData, DrawEqualContentStores: two results, laid one after another. No conditions but that what is drawn is small. -/
namespace Go.Proofs.YtfglcmanmfenpaaGreat.Draw
open Go.ChangeShapes Go.WideShapes Go.ChangeAt Go.RowKit Go.Instr
open Go.Proofs.YtfglcmanmfenpaaGreat.Row
open Go.Proofs.YtfglcmanmfenpaaGreat.Ret (NC Blk Box)
set_option linter.unusedVariables false
set_option maxRecDepth 100000
set_option maxRecDepth 100000 in
set_option maxHeartbeats 4000000 in
theorem c12f {Q : Exit → Act → World → Prop} {v0 v1 v4 v7 v8 v9 v10 v11 v12 v13 v14 v15 v16 : Value} {w : World} {w0 : World} {p : Nat} {v : Value} {l : List UInt8} (C0 : Hid (Cur w0 p v l w)) {g rr r3 B n cap k : Nat} {c : Int} {ad : Option Addr} {L : List Cem} (XK : Hid (Blk w g #[.int .i64 c, .slice ad n cap] 26)) (XR : Hid (Blk w rr #[.int .i64 0, .slice none 0 0] 26)) (X3 : Hid (Blk w r3 #[.slice none 0 0, .slice none 0 0, .slice none 0 0, .int .i64 0, .int .i64 0] 31)) (OC : Hid (sCn.own B w (c, ⟨ad, n, cap, L⟩))) (HSM : Hid (smC k (c, L.map kCe.strip))) (HK : Hid (k ≤ 90)) (HGP : Hid (g ≠ p)) (HRP : Hid (rr ≠ p)) (H3P : Hid (r3 ≠ p)) (HRG : Hid (rr ≠ g)) (H3G : Hid (r3 ≠ g)) (HR3 : Hid (rr ≠ r3)) (HPB : Hid (p < B)) (HB : Hid (B ≤ w.heap.size)) (H0R : Hid (w0.heap.size ≤ rr)) 
  (hQ : ∀ (u11 u12 u13 u14 u15 u16 : Value) (r : Int) (xa xb xc : Option Addr) (na ca nb cb nc cc : Nat) (y : Dt) (wx : World), Blk wx rr #[.int .i64 c, .slice ad n cap] 26 → Blk wx r3 #[.slice none 0 0, .slice none 0 0, .slice none 0 0, .int .i64 0, .int .i64 0] 31 → sCn.own B wx (c, ⟨ad, n, cap, L⟩) → sDz.own B wx (⟨xa, na, ca, y.1⟩, ⟨xb, nb, cb, y.2.1⟩, ⟨xc, nc, cc, y.2.2.1⟩, y.2.2.2.1, y.2.2.2.2) → wtDz y ≤ 3000 → inDz y → 0 ≤ r → r < 20 → Cur w0 p v l wx → Q .normal ⟨#[v0, v1, .pointer (some ⟨rr, 0, none⟩), .pointer (some ⟨r3, 0, none⟩), .int .i64 (50 + r), .pointer (some ⟨p, 0, none⟩), .pointer (some ⟨g, 0, none⟩), v7, v8, v9, v10, u11, u12, u13, u14, u15, u16], []⟩ (((((wx.setCell ⟨r3, 0, none⟩ (.slice xa na ca)).setCell ⟨r3, 1, none⟩ (.slice xb nb cb)).setCell ⟨r3, 2, none⟩ (.slice xc nc cc)).setCell ⟨r3, 3, none⟩ (.int .i64 y.2.2.2.1)).setCell ⟨r3, 4, none⟩ (.int .i64 y.2.2.2.2))) :
  (Code.region 3 #[⟨some 11, .load 26 (.tmp 6), 26, "l12_cache.go:155", #[], none⟩,
   ⟨some 12, .move (.tmp 5), 55, "l12_cache.go:155", #[], none⟩,
   ⟨some 13, .call ⟨.value (.func 32), #[.tmp 12], #[55]⟩, 31, "l12_cache.go:155", #[⟨1, .data⟩], none⟩,
   ⟨some 14, .move (.tmp 5), 55, "l12_cache.go:155", #[], none⟩,
   ⟨some 15, .call ⟨.value (.func 33), #[.tmp 14, .const (Value.int IntKind.i64 20)], #[55, 3]⟩, 3, "l12_cache.go:155", #[⟨3, .data⟩, ⟨2, .chain⟩], none⟩,
   ⟨some 16, .binOp BinOp.add 3 (.const (Value.int IntKind.i64 50)) (.tmp 15) 3, 3, "l12_cache.go:155", #[⟨4, .data⟩, { on := 7, ground := Ground.gcOnly Departure.lateStores }], none⟩,
   ⟨none, .store 26 (.tmp 2) (.tmp 11), 0, "l12_cache.go:155", #[⟨0, .data⟩, ⟨4, .chain⟩, ⟨0, .phase⟩, { on := 1, ground := Ground.textOnly Departure.lateStores }, { on := 2, ground := Ground.textOnly Departure.lateStoresUnsure }, { on := 3, ground := Ground.textOnly Departure.lateStores }, { on := 4, ground := Ground.textOnly Departure.lateStoresUnsure }, { on := 5, ground := Ground.textOnly Departure.lateStores }], none⟩,
   ⟨none, .store 31 (.tmp 3) (.tmp 13), 0, "l12_cache.go:155", #[⟨2, .data⟩, ⟨6, .chain⟩, ⟨0, .phase⟩, ⟨1, .phase⟩, ⟨2, .phase⟩, { on := 3, ground := Ground.textOnly Departure.lateStores }, { on := 4, ground := Ground.textOnly Departure.lateStoresUnsure }, { on := 5, ground := Ground.textOnly Departure.lateStores }, ⟨6, .phase⟩], none⟩,
   ⟨some 4, .assign (.tmp 16), 3, "l12_cache.go:155", #[⟨5, .data⟩, ⟨7, .chain⟩, ⟨0, .phase⟩, ⟨1, .phase⟩, ⟨2, .phase⟩, ⟨3, .phase⟩, ⟨4, .phase⟩, ⟨5, .phase⟩, ⟨6, .phase⟩, ⟨7, .phase⟩], none⟩] true).wp Tryz.prog Q ⟨#[v0, v1, .pointer (some ⟨rr, 0, none⟩), .pointer (some ⟨r3, 0, none⟩), v4, .pointer (some ⟨p, 0, none⟩), .pointer (some ⟨g, 0, none⟩), v7, v8, v9, v10, v11, v12, v13, v14, v15, v16], []⟩ w := by
 have HQ := Lib.hid hQ; clear hQ
 have hb : Below w.heap.size w w.drew := (Below.refl _ _).drew
 replace XK := Lib.hid (XK.out.on hb)
 replace XR := Lib.hid (XR.out.on hb)
 replace X3 := Lib.hid (X3.out.on hb)
 replace OC := Lib.hid (Kd.own_on OC.out hb)
 have C := Lib.hid (C0.out.on hb)
 have BS := Lib.hid (show w.heap.size ≤ w.drew.heap.size from hb.size)
 have CP := Lib.hid C0.out.lt
 clear hb
 refine wp_region_noPanic ?_
 refine wp_region_held_drew (S := (fun w' => w'.cell? ⟨g, 0, none⟩ = some (.int .i64 c) ∧ w'.cell? ⟨g, 1, none⟩ = some (.slice ad n cap))) (by kernel_rfl) ?_ (fun hHeld => ?_)
 ·
  exact ⟨XK.out.cell 0, XK.out.cell 1⟩
 generalize w.drew = wd at *
 refine wpAnyH_take (i := 0) (oi := ⟨some 11, .load 26 (.tmp 6), 26, "l12_cache.go:155", #[], none⟩) (v := ?_) rfl (by kernel_rfl) (by kernel_rfl) (by kernel_rfl) (fun _ _ _ h => h) (Or.inl ⟨by rfl, ?_⟩) (by assumption) ?_
 rotate_left
 ·
  intro w' hSw; (try dsimp only at hSw); first | (go_simp; done) | (go_simp; with_reducible rfl)
 (try simp only [Act.put, Row.pB0, Row.pB1, Row.pB2])
 refine wpAnyH_take (i := 1) (oi := ⟨some 12, .move (.tmp 5), 55, "l12_cache.go:155", #[], none⟩) (v := ?_) rfl (by kernel_rfl) (by kernel_rfl) (by kernel_rfl) (fun _ _ _ h => h) (Or.inl ⟨by rfl, ?_⟩) (by assumption) ?_
 rotate_left
 ·
  intro w' hSw; (try dsimp only at hSw); first | (go_simp; done) | (go_simp; with_reducible rfl)
 (try simp only [Act.put, Row.pB0, Row.pB1, Row.pB2])
 refine wpAnyH_take (i := 3) (oi := ⟨some 14, .move (.tmp 5), 55, "l12_cache.go:155", #[], none⟩) (v := ?_) rfl (by kernel_rfl) (by kernel_rfl) (by kernel_rfl) (fun _ _ _ h => h) (Or.inl ⟨by rfl, ?_⟩) (by assumption) ?_
 rotate_left
 ·
  intro w' hSw; (try dsimp only at hSw); first | (go_simp; done) | (go_simp; with_reducible rfl)
 (try simp only [Act.put, Row.pB0, Row.pB1, Row.pB2])
 refine wpAnyH_ready (rs := [2]) (by kernel_rfl) (by simp) ?_
 refine AllReadyH.cons (o := ⟨some 13, .call ⟨.value (.func 32), #[.tmp 12], #[55]⟩, 31, "l12_cache.go:155", #[⟨1, .data⟩], none⟩) rfl (fun K hK => ?_) AllReadyH.nil
 go_simp
 refine (l8Any w0 p v l _ C.out).mono ?_
 rintro e wn1 ⟨y_, rfl, hd, hc, hk⟩
 obtain ⟨xa, xb, xc, na, ca, nb, cb, nc, cc, y, rfl, ho, hbk, hin⟩ := hd.soft' (by decide)
 have OD := Lib.hid (sDz.own_mono ho (Nat.le_trans HB.out BS.out)); have HBK := Lib.hid (show wtDz y ≤ 3000 from hbk); have HIN := Lib.hid hin
 clear hd ho hbk hin
 replace XK := Lib.hid (blk_keep XK.out hk HGP.out)
 replace XR := Lib.hid (blk_keep XR.out hk HRP.out)
 replace X3 := Lib.hid (blk_keep X3.out hk H3P.out)
 replace OC := Lib.hid (Kd.own_cur OC.out hk HPB.out)
 replace C := Lib.hid (hc); replace BS := Lib.hid (Nat.le_trans BS.out hk.size); clear hc hk
 (try go_wp2_with fail)
 clear hHeld
 refine hK.out _ _ ?_ (fun hHeld => ?_)
 ·
  (try dsimp only); exact ⟨XK.out.cell 0, XK.out.cell 1⟩
 clear hK K
 (try simp only [Act.put, Row.pB0, Row.pB1, Row.pB2])
 refine wpAnyH_ready (rs := [4]) (by kernel_rfl) (by simp) ?_
 refine AllReadyH.cons (o := ⟨some 15, .call ⟨.value (.func 33), #[.tmp 14, .const (Value.int IntKind.i64 20)], #[55, 3]⟩, 3, "l12_cache.go:155", #[⟨3, .data⟩, ⟨2, .chain⟩], none⟩) rfl (fun K hK => ?_) AllReadyH.nil
 go_simp
 refine (below w0 p v l _ 20 C.out).mono ?_
 rintro e wn2 ⟨y_, rfl, ⟨r, rfl, hr, _⟩, hc, hk⟩
 replace hr := hr (by omega)
 obtain ⟨hr0, hr1⟩ := hr
 have hw : IntKind.i64.wrap (50 + r) = 50 + r := by rw [IntKind.wrap_i64]; omega
 replace XK := Lib.hid (blk_keep XK.out hk HGP.out)
 replace XR := Lib.hid (blk_keep XR.out hk HRP.out)
 replace X3 := Lib.hid (blk_keep X3.out hk H3P.out)
 replace OC := Lib.hid (Kd.own_cur OC.out hk HPB.out)
 replace OD := Lib.hid (Kd.own_cur OD.out hk HPB.out)
 replace C := Lib.hid (hc); replace BS := Lib.hid (Nat.le_trans BS.out hk.size); clear hc hk
 (try go_wp2_with fail)
 clear hHeld
 refine hK.out _ _ ?_ (fun hHeld => ?_)
 ·
  (try dsimp only); exact ⟨XK.out.cell 0, XK.out.cell 1⟩
 clear hK K
 (try simp only [Act.put, Row.pB0, Row.pB1, Row.pB2])
 refine wpAnyH_take (i := 5) (oi := ⟨some 16, .binOp BinOp.add 3 (.const (Value.int IntKind.i64 50)) (.tmp 15) 3, 3, "l12_cache.go:155", #[⟨4, .data⟩, { on := 7, ground := Ground.gcOnly Departure.lateStores }], none⟩) (v := ?_) rfl (by kernel_rfl) (by kernel_rfl) (by kernel_rfl) (fun _ _ _ h => h) (Or.inl ⟨by rfl, ?_⟩) (by assumption) ?_
 rotate_left
 ·
  intro w' hSw; (try dsimp only at hSw); first | (go_simp; done) | (go_simp; with_reducible rfl)
 (try simp only [Act.put, Row.pB0, Row.pB1, Row.pB2])
 refine wpAnyH_ready (rs := [6]) (by kernel_rfl) (by simp) ?_
 refine AllReadyH.cons (o := ⟨none, .store 26 (.tmp 2) (.tmp 11), 0, "l12_cache.go:155", #[⟨0, .data⟩, ⟨4, .chain⟩, ⟨0, .phase⟩, { on := 1, ground := Ground.textOnly Departure.lateStores }, { on := 2, ground := Ground.textOnly Departure.lateStoresUnsure }, { on := 3, ground := Ground.textOnly Departure.lateStores }, { on := 4, ground := Ground.textOnly Departure.lateStoresUnsure }, { on := 5, ground := Ground.textOnly Departure.lateStores }], none⟩) rfl (fun K hK => ?_) AllReadyH.nil
 have r0 := XR.out.cell 0; have r1 := XR.out.cell 1; have t0 := XR.out.frozen 0; have t1 := XR.out.frozen 1
 go_simp
 replace XK := Lib.hid ((XK.out.other (a := ⟨rr, 0, none⟩) HRG.out (.int .i64 c)).other (a := ⟨rr, 1, none⟩) HRG.out (.slice ad n cap))
 replace X3 := Lib.hid ((X3.out.other (a := ⟨rr, 0, none⟩) HR3.out (.int .i64 c)).other (a := ⟨rr, 1, none⟩) HR3.out (.slice ad n cap))
 replace OC := Lib.hid (Kd.own_setT (i := 1) (u := .slice ad n cap) (noRow_sCn (by decide) (by decide) (by decide)) (Kd.own_setT (i := 0) (u := .int .i64 c) (noRow_sCn (by decide) (by decide) (by decide)) OC.out XR.out) (XR.out.set 0 (.int .i64 c)))
 replace OD := Lib.hid (Kd.own_setT (i := 1) (u := .slice ad n cap) (noRow_sDz (by decide) (by decide)) (Kd.own_setT (i := 0) (u := .int .i64 c) (noRow_sDz (by decide) (by decide)) OD.out XR.out) (XR.out.set 0 (.int .i64 c)))
 replace XR := Lib.hid ((XR.out.set 0 (.int .i64 c)).set 1 (.slice ad n cap))
 replace C := Lib.hid ((C.out.setI 0 H0R.out HRP.out (.int .i64 c)).setI 1 H0R.out HRP.out (.slice ad n cap))
 replace BS := Lib.hid (show w.heap.size ≤ ((wn2.setCell ⟨rr, 0, none⟩ (.int .i64 c)).setCell ⟨rr, 1, none⟩ (.slice ad n cap)).heap.size from by simpa [World.setCell] using BS.out)
 clear r0 r1 t0 t1
 generalize ((wn2.setCell ⟨rr, 0, none⟩ (.int .i64 c)).setCell ⟨rr, 1, none⟩ (.slice ad n cap)) = wn3 at *
 clear hHeld
 refine hK.out _ _ ?_ (fun hHeld => ?_)
 ·
  (try dsimp only); exact ⟨XK.out.cell 0, XK.out.cell 1⟩
 clear hK K
 (try simp only [Act.put, Row.pB0, Row.pB1, Row.pB2])
 refine wpAnyH_ready (rs := [7]) (by kernel_rfl) (by simp) ?_
 refine AllReadyH.cons (o := ⟨none, .store 31 (.tmp 3) (.tmp 13), 0, "l12_cache.go:155", #[⟨2, .data⟩, ⟨6, .chain⟩, ⟨0, .phase⟩, ⟨1, .phase⟩, ⟨2, .phase⟩, { on := 3, ground := Ground.textOnly Departure.lateStores }, { on := 4, ground := Ground.textOnly Departure.lateStoresUnsure }, { on := 5, ground := Ground.textOnly Departure.lateStores }, ⟨6, .phase⟩], none⟩) rfl (fun K hK => ?_) AllReadyH.nil
 have r0 := X3.out.cell 0; have t0 := X3.out.frozen 0; have r1 := X3.out.cell 1; have t1 := X3.out.frozen 1; have r2 := X3.out.cell 2; have t2 := X3.out.frozen 2; have r3 := X3.out.cell 3; have t3 := X3.out.frozen 3; have r4 := X3.out.cell 4; have t4 := X3.out.frozen 4
 go_simp
 clear hHeld
 refine hK.out _ _ ?_ (fun hHeld => ?_)
 ·
  (try dsimp only); exact ⟨cell_five12 (XK.out.cell 0) H3G.out, cell_five12 (XK.out.cell 1) H3G.out⟩
 clear hK K
 (try simp only [Act.put, Row.pB0, Row.pB1, Row.pB2])
 refine wpAnyH_take (i := 8) (oi := ⟨some 4, .assign (.tmp 16), 3, "l12_cache.go:155", #[⟨5, .data⟩, ⟨7, .chain⟩, ⟨0, .phase⟩, ⟨1, .phase⟩, ⟨2, .phase⟩, ⟨3, .phase⟩, ⟨4, .phase⟩, ⟨5, .phase⟩, ⟨6, .phase⟩, ⟨7, .phase⟩], none⟩) (v := ?_) rfl (by kernel_rfl) (by kernel_rfl) (by kernel_rfl) (fun _ _ _ h => h) (Or.inl ⟨by rfl, ?_⟩) (by assumption) ?_
 rotate_left
 ·
  intro w' hSw; (try dsimp only at hSw); first | (go_simp; done) | (go_simp; with_reducible rfl)
 (try simp only [Act.put, Row.pB0, Row.pB1, Row.pB2])
 refine wpAnyH_done (by kernel_rfl) ?_ _
 exact NoPanic.normal (HQ.out _ _ _ _ _ _ _ _ _ _ _ _ _ _ _ _ y _ XR.out X3.out OC.out OD.out HBK.out HIN.out hr0 hr1 C.out)
set_option maxRecDepth 100000 in
set_option maxHeartbeats 4000000 in
theorem c12g {Q : Exit → Act → World → Prop} {v0 v1 v6 v7 v8 v9 v10 v11 v12 v13 v14 v15 v16 v17 : Value} {w : World} {w0 : World} {p : Nat} {v : Value} {l : List UInt8} (C0 : Hid (Cur w0 p v l w)) {g rr r3 B n cap k : Nat} {c : Int} {ad : Option Addr} {L : List Cem} (XK : Hid (Blk w g #[.int .i64 c, .slice ad n cap] 26)) (XR : Hid (Blk w rr #[.int .i64 0, .slice none 0 0] 26)) (X3 : Hid (Blk w r3 #[.int .i64 0, .slice none 0 0] 26)) (OC : Hid (sCn.own B w (c, ⟨ad, n, cap, L⟩))) (HSM : Hid (smC k (c, L.map kCe.strip))) (HK : Hid (k ≤ 90)) (HGP : Hid (g ≠ p)) (HRP : Hid (rr ≠ p)) (H3P : Hid (r3 ≠ p)) (HRG : Hid (rr ≠ g)) (H3G : Hid (r3 ≠ g)) (HR3 : Hid (rr ≠ r3)) (HPB : Hid (p < B)) (HB : Hid (B ≤ w.heap.size)) (H0R : Hid (w0.heap.size ≤ rr)) 
  (hQ : ∀ (u12 u13 u14 : Value) (c2 : Int) (ad2 : Option Addr) (n2 cap2 : Nat) (L2 : List Cem) (wx : World), Blk wx rr #[.int .i64 c, .slice ad n cap] 26 → Blk wx r3 #[.int .i64 0, .slice none 0 0] 26 → sCn.own B wx (c, ⟨ad, n, cap, L⟩) → sCn.own B wx (c2, ⟨ad2, n2, cap2, L2⟩) → smC 90 (c2, L2.map kCe.strip) → Cur w0 p v l wx → Q .normal ⟨#[v0, v1, .pointer (some ⟨rr, 0, none⟩), .pointer (some ⟨r3, 0, none⟩), .pointer (some ⟨p, 0, none⟩), .pointer (some ⟨g, 0, none⟩), v6, v7, v8, v9, v10, v11, u12, u13, u14, v15, v16, v17], []⟩ ((wx.setCell ⟨r3, 0, none⟩ (.int .i64 c2)).setCell ⟨r3, 1, none⟩ (.slice ad2 n2 cap2))) :
  (Code.region 4 #[⟨some 12, .load 26 (.tmp 5), 26, "l12_cache.go:187", #[], none⟩,
   ⟨some 13, .load 26 (.tmp 5), 26, "l12_cache.go:187", #[], none⟩,
   ⟨some 14, .call ⟨.value (.func 48), #[.tmp 13], #[26]⟩, 26, "l12_cache.go:187", #[⟨1, .data⟩], none⟩,
   ⟨none, .store 26 (.tmp 2) (.tmp 12), 0, "l12_cache.go:187", #[⟨0, .data⟩, ⟨2, .chain⟩, ⟨0, .phase⟩, { on := 1, ground := Ground.textOnly Departure.lateStores }, { on := 2, ground := Ground.textOnly Departure.lateStoresUnsure }], none⟩,
   ⟨none, .store 26 (.tmp 3) (.tmp 14), 0, "l12_cache.go:187", #[⟨2, .data⟩, ⟨3, .chain⟩, ⟨0, .phase⟩, ⟨1, .phase⟩, ⟨2, .phase⟩, ⟨3, .phase⟩], none⟩] true).wp Tryz.prog Q ⟨#[v0, v1, .pointer (some ⟨rr, 0, none⟩), .pointer (some ⟨r3, 0, none⟩), .pointer (some ⟨p, 0, none⟩), .pointer (some ⟨g, 0, none⟩), v6, v7, v8, v9, v10, v11, v12, v13, v14, v15, v16, v17], []⟩ w := by
 have HQ := Lib.hid hQ; clear hQ
 have hb : Below w.heap.size w w.drew := (Below.refl _ _).drew
 replace XK := Lib.hid (XK.out.on hb)
 replace XR := Lib.hid (XR.out.on hb)
 replace X3 := Lib.hid (X3.out.on hb)
 replace OC := Lib.hid (Kd.own_on OC.out hb)
 have C := Lib.hid (C0.out.on hb)
 have BS := Lib.hid (show w.heap.size ≤ w.drew.heap.size from hb.size)
 have CP := Lib.hid C0.out.lt
 clear hb
 refine wp_region_noPanic ?_
 refine wp_region_held_drew (S := (fun w' => w'.cell? ⟨g, 0, none⟩ = some (.int .i64 c) ∧ w'.cell? ⟨g, 1, none⟩ = some (.slice ad n cap))) (by kernel_rfl) ?_ (fun hHeld => ?_)
 ·
  exact ⟨XK.out.cell 0, XK.out.cell 1⟩
 generalize w.drew = wd at *
 refine wpAnyH_take (i := 0) (oi := ⟨some 12, .load 26 (.tmp 5), 26, "l12_cache.go:187", #[], none⟩) (v := ?_) rfl (by kernel_rfl) (by kernel_rfl) (by kernel_rfl) (fun _ _ _ h => h) (Or.inl ⟨by rfl, ?_⟩) (by assumption) ?_
 rotate_left
 ·
  intro w' hSw; (try dsimp only at hSw); first | (go_simp; done) | (go_simp; with_reducible rfl)
 (try simp only [Act.put, Row.pB0, Row.pB1, Row.pB2])
 refine wpAnyH_take (i := 1) (oi := ⟨some 13, .load 26 (.tmp 5), 26, "l12_cache.go:187", #[], none⟩) (v := ?_) rfl (by kernel_rfl) (by kernel_rfl) (by kernel_rfl) (fun _ _ _ h => h) (Or.inl ⟨by rfl, ?_⟩) (by assumption) ?_
 rotate_left
 ·
  intro w' hSw; (try dsimp only at hSw); first | (go_simp; done) | (go_simp; with_reducible rfl)
 (try simp only [Act.put, Row.pB0, Row.pB1, Row.pB2])
 refine wpAnyH_ready (rs := [2]) (by kernel_rfl) (by simp) ?_
 refine AllReadyH.cons (o := ⟨some 14, .call ⟨.value (.func 48), #[.tmp 13], #[26]⟩, 26, "l12_cache.go:187", #[⟨1, .data⟩], none⟩) rfl (fun K hK => ?_) AllReadyH.nil
 go_simp
 refine (l12Copy _ (c, L.map kCe.strip) _ (sCn_at OC.out) (HSM.out.fit (Nat.le_trans HK.out (by decide)))).mono ?_
 rintro e wn1 ⟨v_, rfl, ho, hb⟩
 obtain ⟨c2, ad2, n2, cap2, L2, rfl, ho2, hs2⟩ := sCn_in ho
 have HX := Lib.hid (sCn.own_mono ho2 (Nat.le_trans HB.out BS.out))
 have HS2 := Lib.hid (show smC 90 (c2, L2.map kCe.strip) from by rw [hs2]; exact HSM.out.mono HK.out)
 clear ho ho2 hs2
 replace XK := Lib.hid (XK.out.on hb)
 replace XR := Lib.hid (XR.out.on hb)
 replace X3 := Lib.hid (X3.out.on hb)
 replace OC := Lib.hid (Kd.own_on OC.out hb)
 replace C := Lib.hid (C.out.on hb); replace BS := Lib.hid (Nat.le_trans BS.out hb.size); clear hb
 (try go_wp2_with fail)
 clear hHeld
 refine hK.out _ _ ?_ (fun hHeld => ?_)
 ·
  (try dsimp only); exact ⟨XK.out.cell 0, XK.out.cell 1⟩
 clear hK K
 (try simp only [Act.put, Row.pB0, Row.pB1, Row.pB2])
 refine wpAnyH_ready (rs := [3]) (by kernel_rfl) (by simp) ?_
 refine AllReadyH.cons (o := ⟨none, .store 26 (.tmp 2) (.tmp 12), 0, "l12_cache.go:187", #[⟨0, .data⟩, ⟨2, .chain⟩, ⟨0, .phase⟩, { on := 1, ground := Ground.textOnly Departure.lateStores }, { on := 2, ground := Ground.textOnly Departure.lateStoresUnsure }], none⟩) rfl (fun K hK => ?_) AllReadyH.nil
 have r0 := XR.out.cell 0; have r1 := XR.out.cell 1; have t0 := XR.out.frozen 0; have t1 := XR.out.frozen 1
 go_simp
 replace XK := Lib.hid ((XK.out.other (a := ⟨rr, 0, none⟩) HRG.out (.int .i64 c)).other (a := ⟨rr, 1, none⟩) HRG.out (.slice ad n cap))
 replace X3 := Lib.hid ((X3.out.other (a := ⟨rr, 0, none⟩) HR3.out (.int .i64 c)).other (a := ⟨rr, 1, none⟩) HR3.out (.slice ad n cap))
 replace OC := Lib.hid (Kd.own_setT (i := 1) (u := .slice ad n cap) (noRow_sCn (by decide) (by decide) (by decide)) (Kd.own_setT (i := 0) (u := .int .i64 c) (noRow_sCn (by decide) (by decide) (by decide)) OC.out XR.out) (XR.out.set 0 (.int .i64 c)))
 replace HX := Lib.hid (Kd.own_setT (i := 1) (u := .slice ad n cap) (noRow_sCn (by decide) (by decide) (by decide)) (Kd.own_setT (i := 0) (u := .int .i64 c) (noRow_sCn (by decide) (by decide) (by decide)) HX.out XR.out) (XR.out.set 0 (.int .i64 c)))
 replace XR := Lib.hid ((XR.out.set 0 (.int .i64 c)).set 1 (.slice ad n cap))
 replace C := Lib.hid ((C.out.setI 0 H0R.out HRP.out (.int .i64 c)).setI 1 H0R.out HRP.out (.slice ad n cap))
 replace BS := Lib.hid (show w.heap.size ≤ ((wn1.setCell ⟨rr, 0, none⟩ (.int .i64 c)).setCell ⟨rr, 1, none⟩ (.slice ad n cap)).heap.size from by simpa [World.setCell] using BS.out)
 clear r0 r1 t0 t1
 generalize ((wn1.setCell ⟨rr, 0, none⟩ (.int .i64 c)).setCell ⟨rr, 1, none⟩ (.slice ad n cap)) = wn2 at *
 clear hHeld
 refine hK.out _ _ ?_ (fun hHeld => ?_)
 ·
  (try dsimp only); exact ⟨XK.out.cell 0, XK.out.cell 1⟩
 clear hK K
 (try simp only [Act.put, Row.pB0, Row.pB1, Row.pB2])
 refine wpAnyH_ready (rs := [4]) (by kernel_rfl) (by simp) ?_
 refine AllReadyH.cons (o := ⟨none, .store 26 (.tmp 3) (.tmp 14), 0, "l12_cache.go:187", #[⟨2, .data⟩, ⟨3, .chain⟩, ⟨0, .phase⟩, ⟨1, .phase⟩, ⟨2, .phase⟩, ⟨3, .phase⟩], none⟩) rfl (fun K hK => ?_) AllReadyH.nil
 have r0 := X3.out.cell 0; have r1 := X3.out.cell 1; have t0 := X3.out.frozen 0; have t1 := X3.out.frozen 1
 go_simp
 clear hHeld
 refine hK.out _ _ ?_ (fun hHeld => ?_)
 ·
  (try dsimp only); exact ⟨cell_two (XK.out.cell 0) H3G.out, cell_two (XK.out.cell 1) H3G.out⟩
 clear hK K
 (try simp only [Act.put, Row.pB0, Row.pB1, Row.pB2])
 refine wpAnyH_done (by kernel_rfl) ?_ _
 exact NoPanic.normal (HQ.out _ _ _ _ _ _ _ _ _ XR.out X3.out OC.out HX.out HS2.out C.out)
set_option maxRecDepth 100000 in
set_option maxHeartbeats 4000000 in
theorem c12h {Q : Exit → Act → World → Prop} {v0 v1 v6 v7 v8 v9 v10 v11 v12 v13 v14 v15 v16 v17 : Value} {w : World} {w0 : World} {p : Nat} {v : Value} {l : List UInt8} (C0 : Hid (Cur w0 p v l w)) {g rr r3 B n cap k : Nat} {c : Int} {ad : Option Addr} {L : List Cem} (XK : Hid (Blk w g #[.int .i64 c, .slice ad n cap] 26)) (XR : Hid (Blk w rr #[.int .i64 0, .slice none 0 0] 26)) (X3 : Hid (Blk w r3 #[.int .i64 0, .slice none 0 0] 26)) (OC : Hid (sCn.own B w (c, ⟨ad, n, cap, L⟩))) (HSM : Hid (smC k (c, L.map kCe.strip))) (HK : Hid (k ≤ 90)) (HGP : Hid (g ≠ p)) (HRP : Hid (rr ≠ p)) (H3P : Hid (r3 ≠ p)) (HRG : Hid (rr ≠ g)) (H3G : Hid (r3 ≠ g)) (HR3 : Hid (rr ≠ r3)) (HPB : Hid (p < B)) (HB : Hid (B ≤ w.heap.size)) (H0R : Hid (w0.heap.size ≤ rr)) 
  (hQ : ∀ (u15 u16 u17 : Value) (c2 : Int) (ad2 : Option Addr) (n2 cap2 : Nat) (L2 : List Cem) (wx : World), Blk wx rr #[.int .i64 c, .slice ad n cap] 26 → Blk wx r3 #[.int .i64 0, .slice none 0 0] 26 → sCn.own B wx (c, ⟨ad, n, cap, L⟩) → sCn.own B wx (c2, ⟨ad2, n2, cap2, L2⟩) → smC 90 (c2, L2.map kCe.strip) → Cur w0 p v l wx → Q .normal ⟨#[v0, v1, .pointer (some ⟨rr, 0, none⟩), .pointer (some ⟨r3, 0, none⟩), .pointer (some ⟨p, 0, none⟩), .pointer (some ⟨g, 0, none⟩), v6, v7, v8, v9, v10, v11, v12, v13, v14, u15, u16, u17], []⟩ ((wx.setCell ⟨r3, 0, none⟩ (.int .i64 c2)).setCell ⟨r3, 1, none⟩ (.slice ad2 n2 cap2))) :
  (Code.region 5 #[⟨some 15, .load 26 (.tmp 5), 26, "l12_cache.go:189", #[], none⟩,
   ⟨some 16, .move (.tmp 4), 55, "l12_cache.go:189", #[], none⟩,
   ⟨some 17, .call ⟨.value (.func 31), #[.tmp 16], #[55]⟩, 26, "l12_cache.go:189", #[⟨1, .data⟩], none⟩,
   ⟨none, .store 26 (.tmp 2) (.tmp 15), 0, "l12_cache.go:189", #[⟨0, .data⟩, ⟨2, .chain⟩, ⟨0, .phase⟩, { on := 1, ground := Ground.textOnly Departure.lateStores }, { on := 2, ground := Ground.textOnly Departure.lateStoresUnsure }], none⟩,
   ⟨none, .store 26 (.tmp 3) (.tmp 17), 0, "l12_cache.go:189", #[⟨2, .data⟩, ⟨3, .chain⟩, ⟨0, .phase⟩, ⟨1, .phase⟩, ⟨2, .phase⟩, ⟨3, .phase⟩], none⟩] true).wp Tryz.prog Q ⟨#[v0, v1, .pointer (some ⟨rr, 0, none⟩), .pointer (some ⟨r3, 0, none⟩), .pointer (some ⟨p, 0, none⟩), .pointer (some ⟨g, 0, none⟩), v6, v7, v8, v9, v10, v11, v12, v13, v14, v15, v16, v17], []⟩ w := by
 have HQ := Lib.hid hQ; clear hQ
 have hb : Below w.heap.size w w.drew := (Below.refl _ _).drew
 replace XK := Lib.hid (XK.out.on hb)
 replace XR := Lib.hid (XR.out.on hb)
 replace X3 := Lib.hid (X3.out.on hb)
 replace OC := Lib.hid (Kd.own_on OC.out hb)
 have C := Lib.hid (C0.out.on hb)
 have BS := Lib.hid (show w.heap.size ≤ w.drew.heap.size from hb.size)
 have CP := Lib.hid C0.out.lt
 clear hb
 refine wp_region_noPanic ?_
 refine wp_region_held_drew (S := (fun w' => w'.cell? ⟨g, 0, none⟩ = some (.int .i64 c) ∧ w'.cell? ⟨g, 1, none⟩ = some (.slice ad n cap))) (by kernel_rfl) ?_ (fun hHeld => ?_)
 ·
  exact ⟨XK.out.cell 0, XK.out.cell 1⟩
 generalize w.drew = wd at *
 refine wpAnyH_take (i := 0) (oi := ⟨some 15, .load 26 (.tmp 5), 26, "l12_cache.go:189", #[], none⟩) (v := ?_) rfl (by kernel_rfl) (by kernel_rfl) (by kernel_rfl) (fun _ _ _ h => h) (Or.inl ⟨by rfl, ?_⟩) (by assumption) ?_
 rotate_left
 ·
  intro w' hSw; (try dsimp only at hSw); first | (go_simp; done) | (go_simp; with_reducible rfl)
 (try simp only [Act.put, Row.pB0, Row.pB1, Row.pB2])
 refine wpAnyH_take (i := 1) (oi := ⟨some 16, .move (.tmp 4), 55, "l12_cache.go:189", #[], none⟩) (v := ?_) rfl (by kernel_rfl) (by kernel_rfl) (by kernel_rfl) (fun _ _ _ h => h) (Or.inl ⟨by rfl, ?_⟩) (by assumption) ?_
 rotate_left
 ·
  intro w' hSw; (try dsimp only at hSw); first | (go_simp; done) | (go_simp; with_reducible rfl)
 (try simp only [Act.put, Row.pB0, Row.pB1, Row.pB2])
 refine wpAnyH_ready (rs := [2]) (by kernel_rfl) (by simp) ?_
 refine AllReadyH.cons (o := ⟨some 17, .call ⟨.value (.func 31), #[.tmp 16], #[55]⟩, 26, "l12_cache.go:189", #[⟨1, .data⟩], none⟩) rfl (fun K hK => ?_) AllReadyH.nil
 go_simp
 refine (l12Any w0 p v l _ C.out).mono ?_
 rintro e wn1 ⟨y_, rfl, ⟨c2, ad2, n2, cap2, L2, rfl, ho2, hm2⟩, hc, hk⟩
 have HX := Lib.hid (sCn.own_mono ho2 (Nat.le_trans HB.out BS.out))
 have HS2 := Lib.hid (hm2.mono (show 15 ≤ 90 by decide))
 clear ho2 hm2
 replace XK := Lib.hid (blk_keep XK.out hk HGP.out)
 replace XR := Lib.hid (blk_keep XR.out hk HRP.out)
 replace X3 := Lib.hid (blk_keep X3.out hk H3P.out)
 replace OC := Lib.hid (Kd.own_cur OC.out hk HPB.out)
 replace C := Lib.hid (hc); replace BS := Lib.hid (Nat.le_trans BS.out hk.size); clear hc hk
 (try go_wp2_with fail)
 clear hHeld
 refine hK.out _ _ ?_ (fun hHeld => ?_)
 ·
  (try dsimp only); exact ⟨XK.out.cell 0, XK.out.cell 1⟩
 clear hK K
 (try simp only [Act.put, Row.pB0, Row.pB1, Row.pB2])
 refine wpAnyH_ready (rs := [3]) (by kernel_rfl) (by simp) ?_
 refine AllReadyH.cons (o := ⟨none, .store 26 (.tmp 2) (.tmp 15), 0, "l12_cache.go:189", #[⟨0, .data⟩, ⟨2, .chain⟩, ⟨0, .phase⟩, { on := 1, ground := Ground.textOnly Departure.lateStores }, { on := 2, ground := Ground.textOnly Departure.lateStoresUnsure }], none⟩) rfl (fun K hK => ?_) AllReadyH.nil
 have r0 := XR.out.cell 0; have r1 := XR.out.cell 1; have t0 := XR.out.frozen 0; have t1 := XR.out.frozen 1
 go_simp
 replace XK := Lib.hid ((XK.out.other (a := ⟨rr, 0, none⟩) HRG.out (.int .i64 c)).other (a := ⟨rr, 1, none⟩) HRG.out (.slice ad n cap))
 replace X3 := Lib.hid ((X3.out.other (a := ⟨rr, 0, none⟩) HR3.out (.int .i64 c)).other (a := ⟨rr, 1, none⟩) HR3.out (.slice ad n cap))
 replace OC := Lib.hid (Kd.own_setT (i := 1) (u := .slice ad n cap) (noRow_sCn (by decide) (by decide) (by decide)) (Kd.own_setT (i := 0) (u := .int .i64 c) (noRow_sCn (by decide) (by decide) (by decide)) OC.out XR.out) (XR.out.set 0 (.int .i64 c)))
 replace HX := Lib.hid (Kd.own_setT (i := 1) (u := .slice ad n cap) (noRow_sCn (by decide) (by decide) (by decide)) (Kd.own_setT (i := 0) (u := .int .i64 c) (noRow_sCn (by decide) (by decide) (by decide)) HX.out XR.out) (XR.out.set 0 (.int .i64 c)))
 replace XR := Lib.hid ((XR.out.set 0 (.int .i64 c)).set 1 (.slice ad n cap))
 replace C := Lib.hid ((C.out.setI 0 H0R.out HRP.out (.int .i64 c)).setI 1 H0R.out HRP.out (.slice ad n cap))
 replace BS := Lib.hid (show w.heap.size ≤ ((wn1.setCell ⟨rr, 0, none⟩ (.int .i64 c)).setCell ⟨rr, 1, none⟩ (.slice ad n cap)).heap.size from by simpa [World.setCell] using BS.out)
 clear r0 r1 t0 t1
 generalize ((wn1.setCell ⟨rr, 0, none⟩ (.int .i64 c)).setCell ⟨rr, 1, none⟩ (.slice ad n cap)) = wn2 at *
 clear hHeld
 refine hK.out _ _ ?_ (fun hHeld => ?_)
 ·
  (try dsimp only); exact ⟨XK.out.cell 0, XK.out.cell 1⟩
 clear hK K
 (try simp only [Act.put, Row.pB0, Row.pB1, Row.pB2])
 refine wpAnyH_ready (rs := [4]) (by kernel_rfl) (by simp) ?_
 refine AllReadyH.cons (o := ⟨none, .store 26 (.tmp 3) (.tmp 17), 0, "l12_cache.go:189", #[⟨2, .data⟩, ⟨3, .chain⟩, ⟨0, .phase⟩, ⟨1, .phase⟩, ⟨2, .phase⟩, ⟨3, .phase⟩], none⟩) rfl (fun K hK => ?_) AllReadyH.nil
 have r0 := X3.out.cell 0; have r1 := X3.out.cell 1; have t0 := X3.out.frozen 0; have t1 := X3.out.frozen 1
 go_simp
 clear hHeld
 refine hK.out _ _ ?_ (fun hHeld => ?_)
 ·
  (try dsimp only); exact ⟨cell_two (XK.out.cell 0) H3G.out, cell_two (XK.out.cell 1) H3G.out⟩
 clear hK K
 (try simp only [Act.put, Row.pB0, Row.pB1, Row.pB2])
 refine wpAnyH_done (by kernel_rfl) ?_ _
 exact NoPanic.normal (HQ.out _ _ _ _ _ _ _ _ _ XR.out X3.out OC.out HX.out HS2.out C.out)
end Go.Proofs.YtfglcmanmfenpaaGreat.Draw
/- The model's draws of chapter 12 at the top: DrawCacheData, DrawEqualContentStores. What was in memory stays as it was. -/
namespace Go.Proofs.YtfglcmanmfenpaaGreat.Draw
open Go.ChangeShapes Go.WideShapes Go.ChangeAt Go.RowKit Go.Instr
open Go.Proofs.YtfglcmanmfenpaaGreat.Row
open Go.Proofs.YtfglcmanmfenpaaGreat.Ret (NC Blk Box)
set_option linter.unusedVariables false
set_option maxRecDepth 100000
theorem results_cct12 {P : Program} {fn : Func} {p p2 u : Tmp} {ty ty2 : TypeId} (h : fn.results = #[.cell p ty, .cell p2 ty2, .tmp u]) (tmps : Array Value) (w : World) (b b2 : Nat) (cs cs2 : List Value) (hp : tmps.getD p undef = .pointer (some ⟨b, 0, none⟩)) (hp2 : tmps.getD p2 undef = .pointer (some ⟨b2, 0, none⟩))
    (ha : Ret.AggOf P ty cs.length) (ha2 : Ret.AggOf P ty2 cs2.length) (hc : ∀ j v, cs[j]? = some v → w.cell? ⟨b, j, none⟩ = some v) (hc2 : ∀ j v, cs2[j]? = some v → w.cell? ⟨b2, j, none⟩ = some v) : (results fn tmps).run P w = .ok (.tuple #[.agg cs.toArray, .agg cs2.toArray, tmps.getD u undef]) w := by
  have hp' : tmps[p]?.getD undef = .pointer (some ⟨b, 0, none⟩) := by simpa using hp
  have hp2' : tmps[p2]?.getD undef = .pointer (some ⟨b2, 0, none⟩) := by simpa using hp2
  have hl := Ret.run_loadVar_cells (P := P) w b ty cs hc ha
  have hl2 := Ret.run_loadVar_cells (P := P) w b2 ty2 cs2 hc2 ha2
  simp [results, h, hp', hp2', asAddr, hl, hl2, Result.andThen]
def DataS (k B : Nat) (V : Value) (w : World) : Prop := ∃ (xa xb xc : Option Addr) (na ca nb cb nc cc : Nat) (y : Dt), V = .agg #[.slice xa na ca, .slice xb nb cb, .slice xc nc cc, .int .i64 y.2.2.2.1, .int .i64 y.2.2.2.2] ∧ sDz.own B w (⟨xa, na, ca, y.1⟩, ⟨xb, nb, cb, y.2.1⟩, ⟨xc, nc, cc, y.2.2.1⟩, y.2.2.2.1, y.2.2.2.2) ∧ wtDz y ≤ k ∧ inDz y
def QCache (w : World) (e : Ending) (w' : World) : Prop :=
  ∃ (V U : Value) (t : Int) (B : Nat), e = .returned (.tuple #[V, U, .int .i64 t]) ∧ StoreD 15 B V w' ∧ DataS 3000 B U w' ∧ 50 ≤ t ∧ t < 70 ∧ w.heap.size ≤ B ∧ Below w.heap.size w w'
def QStores (w : World) (e : Ending) (w' : World) : Prop :=
  ∃ (V U : Value) (B : Nat), e = .returned (.tuple #[V, U]) ∧ StoreD 15 B V w' ∧ StoreD 90 B U w' ∧ w.heap.size ≤ B ∧ Below w.heap.size w w'
set_option maxHeartbeats 8000000 in
theorem dDrawCacheData (w : World) (v : Value) (l : List UInt8) (hb : Frame.Bytes w v l) :
    Calls Tryz.prog 5 #[v] w (QCache w) := by
  obtain ⟨k1, k2, hw, hs⟩ := two_new (w := w) #[.int .i64 0, .slice none 0 0] #[.slice none 0 0, .slice none 0 0, .slice none 0 0, .int .i64 0, .int .i64 0] 26 31
  have R2 := Lib.hid k1; have R3 := Lib.hid k2; have HW := Lib.hid hw; have HB := Lib.hid hb
  have HN := Lib.hid (new ((w.alloc (.cells #[.int .i64 0, .slice none 0 0] 26)).alloc (.cells #[.slice none 0 0, .slice none 0 0, .slice none 0 0, .int .i64 0, .int .i64 0] 31)) v l (hb.on hw))
  have HSZ := Lib.hid hs
  clear k1 k2 hw hb hs
  go_enter Tryz.func5, Tryz.ntmps5
  go_wp2_with fail
  refine HN.out.mono ?_
  rintro e w1 ⟨rfl, hc⟩
  have HC := Lib.hid (Cur.base12 hc HB.out HW.out)
  replace R2 := Lib.hid (R2.out.on hc.below); replace R3 := Lib.hid (R3.out.on hc.below)
  have HPL := Lib.hid hc.lt
  obtain ⟨p, hp⟩ : ∃ p, ((w.alloc (.cells #[.int .i64 0, .slice none 0 0] 26)).alloc (.cells #[.slice none 0 0, .slice none 0 0, .slice none 0 0, .int .i64 0, .int .i64 0] 31)).heap.size = p := ⟨_, rfl⟩
  rw [hp] at HC HSZ HPL ⊢
  clear hc HN hp HW
  have HD := Lib.hid (l12Any w p v l w1 HC.out)
  go_wp2_with fail
  refine HD.out.mono ?_
  rintro e w2 ⟨V, rfl, ⟨c, ad, n, cap, L, rfl, hO, hM⟩, hc, hk⟩
  have hal := (Below.refl w2.heap.size w2).alloc (Nat.le_refl _) (.cells #[.int .i64 c, .slice ad n cap] 26)
  have h12 := hk.size
  replace R2 := Lib.hid ((blk_keep R2.out hk (by have := HSZ.out; omega)).on hal); replace R3 := Lib.hid ((blk_keep R3.out hk (by have := HSZ.out; omega)).on hal)
  have HC2 := Lib.hid (hc.on hal)
  have OC := Lib.hid (Kd.own_on hO hal); have HM := Lib.hid hM
  have XK := Lib.hid (Blk.new w2 #[.int .i64 c, .slice ad n cap] 26)
  have HG := Lib.hid (show p < w2.heap.size from by have := HPL.out; omega)
  have HW1 := Lib.hid (show w.heap.size ≤ w1.heap.size from by have := HSZ.out; have := HPL.out; omega)
  have HWB := Lib.hid (show w1.heap.size ≤ (w2.alloc (.cells #[.int .i64 c, .slice ad n cap] 26)).heap.size from Nat.le_trans h12 hal.size)
  clear hO hM hc hk hal HD HC h12
  go_upto_region 3 with fail
  generalize (w2.alloc (.cells #[.int .i64 c, .slice ad n cap] 26)) = W at *
  refine c12f HC2 XK R2 R3 OC HM (Lib.hid (by decide)) (Lib.hid (by have := HG.out; omega)) (Lib.hid (by have := HSZ.out; omega)) (Lib.hid (by have := HSZ.out; omega)) (Lib.hid (by have := HG.out; have := HSZ.out; omega)) (Lib.hid (by have := HG.out; have := HSZ.out; omega)) (Lib.hid (by omega)) HPL HWB (Lib.hid (Nat.le_refl _)) ?_
  intro u11 u12 u13 u14 u15 u16 r xa xb xc na ca nb cb nc cc y wx xr x3 oc od hbk hin hr0 hr1 hc
  have hne : w.heap.size + 1 ≠ w.heap.size := by omega
  have Z1 := Lib.hid (((((xr.other (a := ⟨w.heap.size + 1, 0, none⟩) hne (.slice xa na ca)).other (a := ⟨w.heap.size + 1, 1, none⟩) hne (.slice xb nb cb)).other (a := ⟨w.heap.size + 1, 2, none⟩) hne (.slice xc nc cc)).other (a := ⟨w.heap.size + 1, 3, none⟩) hne (.int .i64 y.2.2.2.1)).other (a := ⟨w.heap.size + 1, 4, none⟩) hne (.int .i64 y.2.2.2.2))
  have Z2 := Lib.hid (((((x3.set 0 (.slice xa na ca)).set 1 (.slice xb nb cb)).set 2 (.slice xc nc cc)).set 3 (.int .i64 y.2.2.2.1)).set 4 (.int .i64 y.2.2.2.2))
  have Z3 := Lib.hid (Kd.own_setT (i := 4) (u := .int .i64 y.2.2.2.2) (noRow_sCn (by decide) (by decide) (by decide)) (Kd.own_setT (i := 3) (u := .int .i64 y.2.2.2.1) (noRow_sCn (by decide) (by decide) (by decide)) (Kd.own_setT (i := 2) (u := .slice xc nc cc) (noRow_sCn (by decide) (by decide) (by decide)) (Kd.own_setT (i := 1) (u := .slice xb nb cb) (noRow_sCn (by decide) (by decide) (by decide)) (Kd.own_setT (i := 0) (u := .slice xa na ca) (noRow_sCn (by decide) (by decide) (by decide)) oc x3) (x3.set 0 (.slice xa na ca))) ((x3.set 0 (.slice xa na ca)).set 1 (.slice xb nb cb))) (((x3.set 0 (.slice xa na ca)).set 1 (.slice xb nb cb)).set 2 (.slice xc nc cc))) ((((x3.set 0 (.slice xa na ca)).set 1 (.slice xb nb cb)).set 2 (.slice xc nc cc)).set 3 (.int .i64 y.2.2.2.1)))
  have Z4 := Lib.hid (Kd.own_setT (i := 4) (u := .int .i64 y.2.2.2.2) (noRow_sDz (by decide) (by decide)) (Kd.own_setT (i := 3) (u := .int .i64 y.2.2.2.1) (noRow_sDz (by decide) (by decide)) (Kd.own_setT (i := 2) (u := .slice xc nc cc) (noRow_sDz (by decide) (by decide)) (Kd.own_setT (i := 1) (u := .slice xb nb cb) (noRow_sDz (by decide) (by decide)) (Kd.own_setT (i := 0) (u := .slice xa na ca) (noRow_sDz (by decide) (by decide)) od x3) (x3.set 0 (.slice xa na ca))) ((x3.set 0 (.slice xa na ca)).set 1 (.slice xb nb cb))) (((x3.set 0 (.slice xa na ca)).set 1 (.slice xb nb cb)).set 2 (.slice xc nc cc))) ((((x3.set 0 (.slice xa na ca)).set 1 (.slice xb nb cb)).set 2 (.slice xc nc cc)).set 3 (.int .i64 y.2.2.2.1)))
  have Z5 := Lib.hid (((((hc.below.setCell (p := ⟨w.heap.size + 1, 0, none⟩) (Nat.le_succ _) (.slice xa na ca)).setCell (p := ⟨w.heap.size + 1, 1, none⟩) (Nat.le_succ _) (.slice xb nb cb)).setCell (p := ⟨w.heap.size + 1, 2, none⟩) (Nat.le_succ _) (.slice xc nc cc)).setCell (p := ⟨w.heap.size + 1, 3, none⟩) (Nat.le_succ _) (.int .i64 y.2.2.2.1)).setCell (p := ⟨w.heap.size + 1, 4, none⟩) (Nat.le_succ _) (.int .i64 y.2.2.2.2))
  have HBK := Lib.hid hbk; have HIN := Lib.hid hin
  clear xr x3 oc od hbk hin hc hne
  go_wp2_with fail
  refine bodyPost_ret (results_cct12 rfl _ _ w.heap.size (w.heap.size + 1) [.int .i64 c, .slice ad n cap] [.slice xa na ca, .slice xb nb cb, .slice xc nc cc, .int .i64 y.2.2.2.1, .int .i64 y.2.2.2.2] rfl rfl aggCn aggD Z1.out.cells Z2.out.cells) rfl ?_
  exact ⟨_, _, _, _, rfl, ⟨c, ad, n, cap, L, rfl, Z3.out, HM.out⟩, ⟨xa, xb, xc, na, ca, nb, cb, nc, cc, y, rfl, Z4.out, HBK.out, HIN.out⟩, by omega, by omega, HW1.out, Z5.out⟩
set_option maxHeartbeats 8000000 in
theorem dDrawEqualContentStores (w : World) (v : Value) (l : List UInt8) (hb : Frame.Bytes w v l) :
    Calls Tryz.prog 11 #[v] w (QStores w) := by
  obtain ⟨k1, k2, hw, hs⟩ := two_new (w := w) #[.int .i64 0, .slice none 0 0] #[.int .i64 0, .slice none 0 0] 26 26
  have R2 := Lib.hid k1; have R3 := Lib.hid k2; have HW := Lib.hid hw; have HB := Lib.hid hb
  have HN := Lib.hid (new ((w.alloc (.cells #[.int .i64 0, .slice none 0 0] 26)).alloc (.cells #[.int .i64 0, .slice none 0 0] 26)) v l (hb.on hw))
  have HSZ := Lib.hid hs
  clear k1 k2 hw hb hs
  go_enter Tryz.func11, Tryz.ntmps11
  go_wp2_with fail
  refine HN.out.mono ?_
  rintro e w1 ⟨rfl, hc⟩
  have HC := Lib.hid (Cur.base12 hc HB.out HW.out)
  replace R2 := Lib.hid (R2.out.on hc.below); replace R3 := Lib.hid (R3.out.on hc.below)
  have HPL := Lib.hid hc.lt
  obtain ⟨p, hp⟩ : ∃ p, ((w.alloc (.cells #[.int .i64 0, .slice none 0 0] 26)).alloc (.cells #[.int .i64 0, .slice none 0 0] 26)).heap.size = p := ⟨_, rfl⟩
  rw [hp] at HC HSZ HPL ⊢
  clear hc HN hp HW
  have HD := Lib.hid (l12Any w p v l w1 HC.out)
  go_wp2_with fail
  refine HD.out.mono ?_
  rintro e w2 ⟨V, rfl, ⟨c, ad, n, cap, L, rfl, hO, hM⟩, hc, hk⟩
  have hal := (Below.refl w2.heap.size w2).alloc (Nat.le_refl _) (.cells #[.int .i64 c, .slice ad n cap] 26)
  have h12 := hk.size
  replace R2 := Lib.hid ((blk_keep R2.out hk (by have := HSZ.out; omega)).on hal); replace R3 := Lib.hid ((blk_keep R3.out hk (by have := HSZ.out; omega)).on hal)
  have HC2 := Lib.hid (hc.on hal)
  have OC := Lib.hid (Kd.own_on hO hal); have HM := Lib.hid hM
  have XK := Lib.hid (Blk.new w2 #[.int .i64 c, .slice ad n cap] 26)
  have HG := Lib.hid (show p < w2.heap.size from by have := HPL.out; omega)
  have HW1 := Lib.hid (show w.heap.size ≤ w1.heap.size from by have := HSZ.out; have := HPL.out; omega)
  have HWB := Lib.hid (show w1.heap.size ≤ (w2.alloc (.cells #[.int .i64 c, .slice ad n cap] 26)).heap.size from Nat.le_trans h12 hal.size)
  clear hO hM hc hk hal HD HC h12
  have HF := Lib.hid (once w p v l (w2.alloc (.cells #[.int .i64 c, .slice ad n cap] 26)) 2 HC2.out)
  go_wp2_with fail
  refine HF.out.mono ?_
  rintro e w3 ⟨y_, rfl, ⟨b, rfl⟩, hc3, hk3⟩
  have h2l := R2.out.lt; have h3l := R3.out.lt
  replace R2 := Lib.hid (blk_keep R2.out hk3 (by have := HSZ.out; omega)); replace R3 := Lib.hid (blk_keep R3.out hk3 (by have := HSZ.out; omega)); replace XK := Lib.hid (blk_keep XK.out hk3 (by have := HG.out; omega)); replace OC := Lib.hid (Kd.own_cur OC.out hk3 HPL.out); replace HWB := Lib.hid (Nat.le_trans HWB.out hk3.size); replace HC2 := Lib.hid hc3
  clear HF hc3 hk3 h2l h3l
  cases b with
  | true =>
    go_upto_region 4 with fail
    refine c12g HC2 XK R2 R3 OC HM (Lib.hid (by decide)) (Lib.hid (by have := HG.out; omega)) (Lib.hid (by have := HSZ.out; omega)) (Lib.hid (by have := HSZ.out; omega)) (Lib.hid (by have := HG.out; have := HSZ.out; omega)) (Lib.hid (by have := HG.out; have := HSZ.out; omega)) (Lib.hid (by omega)) HPL HWB (Lib.hid (Nat.le_refl _)) ?_
    intro u12 u13 u14 c2 ad2 n2 cap2 L2 wx xr x3 oc o2 hm2 hc
    have hne : w.heap.size + 1 ≠ w.heap.size := by omega
    have Z1 := Lib.hid ((xr.other (a := ⟨w.heap.size + 1, 0, none⟩) hne (.int .i64 c2)).other (a := ⟨w.heap.size + 1, 1, none⟩) hne (.slice ad2 n2 cap2))
    have Z2 := Lib.hid ((x3.set 0 (.int .i64 c2)).set 1 (.slice ad2 n2 cap2))
    have Z3 := Lib.hid (Kd.own_setT (i := 1) (u := .slice ad2 n2 cap2) (noRow_sCn (by decide) (by decide) (by decide)) (Kd.own_setT (i := 0) (u := .int .i64 c2) (noRow_sCn (by decide) (by decide) (by decide)) oc x3) (x3.set 0 (.int .i64 c2)))
    have Z4 := Lib.hid (Kd.own_setT (i := 1) (u := .slice ad2 n2 cap2) (noRow_sCn (by decide) (by decide) (by decide)) (Kd.own_setT (i := 0) (u := .int .i64 c2) (noRow_sCn (by decide) (by decide) (by decide)) o2 x3) (x3.set 0 (.int .i64 c2)))
    have Z5 := Lib.hid ((hc.below.setCell (p := ⟨w.heap.size + 1, 0, none⟩) (Nat.le_succ _) (.int .i64 c2)).setCell (p := ⟨w.heap.size + 1, 1, none⟩) (Nat.le_succ _) (.slice ad2 n2 cap2))
    have HM2 := Lib.hid hm2
    clear xr x3 oc o2 hm2 hc hne
    go_wp2_with fail
    refine bodyPost_ret (Ret.results_cc rfl _ _ w.heap.size (w.heap.size + 1) [.int .i64 c, .slice ad n cap] [.int .i64 c2, .slice ad2 n2 cap2] rfl rfl aggCn aggCn Z1.out.cells Z2.out.cells) rfl ?_
    exact ⟨_, _, _, rfl, ⟨c, ad, n, cap, L, rfl, Z3.out, HM.out⟩, ⟨c2, ad2, n2, cap2, L2, rfl, Z4.out, HM2.out⟩, HW1.out, Z5.out⟩
  | false =>
    go_upto_region 5 with fail
    refine c12h HC2 XK R2 R3 OC HM (Lib.hid (by decide)) (Lib.hid (by have := HG.out; omega)) (Lib.hid (by have := HSZ.out; omega)) (Lib.hid (by have := HSZ.out; omega)) (Lib.hid (by have := HG.out; have := HSZ.out; omega)) (Lib.hid (by have := HG.out; have := HSZ.out; omega)) (Lib.hid (by omega)) HPL HWB (Lib.hid (Nat.le_refl _)) ?_
    intro u15 u16 u17 c2 ad2 n2 cap2 L2 wx xr x3 oc o2 hm2 hc
    have hne : w.heap.size + 1 ≠ w.heap.size := by omega
    have Z1 := Lib.hid ((xr.other (a := ⟨w.heap.size + 1, 0, none⟩) hne (.int .i64 c2)).other (a := ⟨w.heap.size + 1, 1, none⟩) hne (.slice ad2 n2 cap2))
    have Z2 := Lib.hid ((x3.set 0 (.int .i64 c2)).set 1 (.slice ad2 n2 cap2))
    have Z3 := Lib.hid (Kd.own_setT (i := 1) (u := .slice ad2 n2 cap2) (noRow_sCn (by decide) (by decide) (by decide)) (Kd.own_setT (i := 0) (u := .int .i64 c2) (noRow_sCn (by decide) (by decide) (by decide)) oc x3) (x3.set 0 (.int .i64 c2)))
    have Z4 := Lib.hid (Kd.own_setT (i := 1) (u := .slice ad2 n2 cap2) (noRow_sCn (by decide) (by decide) (by decide)) (Kd.own_setT (i := 0) (u := .int .i64 c2) (noRow_sCn (by decide) (by decide) (by decide)) o2 x3) (x3.set 0 (.int .i64 c2)))
    have Z5 := Lib.hid ((hc.below.setCell (p := ⟨w.heap.size + 1, 0, none⟩) (Nat.le_succ _) (.int .i64 c2)).setCell (p := ⟨w.heap.size + 1, 1, none⟩) (Nat.le_succ _) (.slice ad2 n2 cap2))
    have HM2 := Lib.hid hm2
    clear xr x3 oc o2 hm2 hc hne
    go_wp2_with fail
    refine bodyPost_ret (Ret.results_cc rfl _ _ w.heap.size (w.heap.size + 1) [.int .i64 c, .slice ad n cap] [.int .i64 c2, .slice ad2 n2 cap2] rfl rfl aggCn aggCn Z1.out.cells Z2.out.cells) rfl ?_
    exact ⟨_, _, _, rfl, ⟨c, ad, n, cap, L, rfl, Z3.out, HM.out⟩, ⟨c2, ad2, n2, cap2, L2, rfl, Z4.out, HM2.out⟩, HW1.out, Z5.out⟩
end Go.Proofs.YtfglcmanmfenpaaGreat.Draw
