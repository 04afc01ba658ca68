/- Contracts and mathematics, joined: CacheO, CacheD, CacheX, CacheY, CacheN, CacheQ, CacheW. No conditions but those that each states. -/
import Derived.WalkKit
import Derived.Deep.RegionHeld3
import Derived.Deep.RegionLaw
import Derived.Test.YthfljbbigpophaaB3
/- The program's copy of a content store: cloneStore. No conditions but that lengths fit. -/
namespace Go.Proofs.Ythfljbbigpophaa.Row
open Go.ChangeShapes Go.WideShapes Go.ChangeAt Go.RowKit Go.Instr
set_option linter.unusedVariables false
set_option maxRecDepth 100000
theorem cell_six {w : World} {p q i : Nat} {v a b c d e f : Value} (h : w.cell? ⟨p, i, none⟩ = some v) (hne : q ≠ p) : ((((((w.setCell ⟨q, 0, none⟩ (a)).setCell ⟨q, 1, none⟩ (b)).setCell ⟨q, 2, none⟩ (c)).setCell ⟨q, 3, none⟩ (d)).setCell ⟨q, 4, none⟩ (e)).setCell ⟨q, 5, none⟩ (f)).cell? ⟨p, i, none⟩ = some v := by
  have ne : ∀ (W : World) (j : Nat) (u : Value), W.cell? ⟨p, i, none⟩ = some v → (W.setCell ⟨q, j, none⟩ u).cell? ⟨p, i, none⟩ = some v := fun W j u h => (Ret.grownBy_set W ⟨q, j, none⟩ u).cell h (fun e => hne (by cases e; rfl))
  exact ne _ _ _ (ne _ _ _ (ne _ _ _ (ne _ _ _ (ne _ _ _ (ne _ _ _ h)))))
theorem blk_six {w : World} {g : Nat} {t : TypeId} {a0 a1 a2 a3 a4 a5 a b c d e f : Value} (h : Ret.Blk w g #[a0, a1, a2, a3, a4, a5] t) : Ret.Blk ((((((w.setCell ⟨g, 0, none⟩ (a)).setCell ⟨g, 1, none⟩ (b)).setCell ⟨g, 2, none⟩ (c)).setCell ⟨g, 3, none⟩ (d)).setCell ⟨g, 4, none⟩ (e)).setCell ⟨g, 5, none⟩ (f)) g #[a, b, c, d, e, f] t := (((((h.set 0 a).set 1 b).set 2 c).set 3 d).set 4 e).set 5 f
theorem own_six {α M : Type} {k : Kd α M} {B E g : Nat} {w : World} {m : M} {a b c d e f : Value} (h : k.Own B E w m) (hg : g < B) : k.Own B E ((((((w.setCell ⟨g, 0, none⟩ (a)).setCell ⟨g, 1, none⟩ (b)).setCell ⟨g, 2, none⟩ (c)).setCell ⟨g, 3, none⟩ (d)).setCell ⟨g, 4, none⟩ (e)).setCell ⟨g, 5, none⟩ (f)) m := (((((h.set hg).set hg).set hg).set hg).set hg).set hg
theorem below_six {w0 w : World} {g : Nat} {B : Nat} {a b c d e f : Value} (h : Below B w0 w) (hg : B ≤ g) : Below B w0 ((((((w.setCell ⟨g, 0, none⟩ (a)).setCell ⟨g, 1, none⟩ (b)).setCell ⟨g, 2, none⟩ (c)).setCell ⟨g, 3, none⟩ (d)).setCell ⟨g, 4, none⟩ (e)).setCell ⟨g, 5, none⟩ (f)) := (((((h.setCell hg a).setCell hg b).setCell hg c).setCell hg d).setCell hg e).setCell hg f
theorem size_six {w : World} {g : Nat} {a b c d e f : Value} : ((((((w.setCell ⟨g, 0, none⟩ (a)).setCell ⟨g, 1, none⟩ (b)).setCell ⟨g, 2, none⟩ (c)).setCell ⟨g, 3, none⟩ (d)).setCell ⟨g, 4, none⟩ (e)).setCell ⟨g, 5, none⟩ (f)).heap.size = w.heap.size := by simp
theorem row_ne_blk {α : Type} {enc : α → List Value} {sz : Nat} {e t : TypeId} {B g : Nat} {w : World} {v : Value} {l : List α} {cs : Array Value} (h : OwnK e enc sz B w v l) (hx : Ret.Blk w g cs t) (hne : e ≠ t) : some g ≠ v.ownBlock := fun eg => by
  obtain ⟨cs2, h2⟩ := h.row eg.symm
  rw [show w.heap[g]? = some (.cells cs t) from hx] at h2
  injection h2 with h2
  injection h2 with h3 h4
  exact hne h4.symm
theorem own_setT {α M : Type} {k : Kd α M} {B E g i : Nat} {u : Value} {w : World} {m : M} {cs : Array Value} {t : TypeId} (hN : k.NoRow t) (h : k.Own B E w m) (hx : Ret.Blk w g cs t) : k.Own B E (w.setCell ⟨g, i, none⟩ u) m :=
  h.keep fun q hq => Go.RowKit.Below.heap_setCell w ⟨g, i, none⟩ u q (fun e => by
    have e1 : q = g := e
    subst e1
    exact hN B w m h.1 q hq cs hx)
theorem noRow_kLCe (t : TypeId) (h1 : 9 ≠ t) (h2 : 5 ≠ t) (h3 : 72 ≠ t) : kLCe.NoRow t := Kd.NoRow.slice ((noRow_kDz t h1 h2).pair Kd.noRow_scalar) h3
theorem noRow_St : kLCe.NoRow 76 := noRow_kLCe _ (by decide) (by decide) (by decide)
theorem step_makeK {P : Program} {α : Type} {enc : α → List Value} {sz : Nat} {e t : TypeId} {bytes : Nat} {z : Value} (KD : Kind P e enc z sz bytes) {ops : Array Oper} {o : Oper} {a : Act} {w : World} {K : Act → World → Prop} {Q : Exit → Act → World → Prop} {E : Prop} (hg : o.guard = none) (l c : Operand)
    (hop : o.op = Op.makeSlice t l c) (ht : P.underlying t = some (.slice e)) {kl kc : IntKind} {n B : Nat} (hl : a.eval l = .int kl 0) (hc : a.eval c = .int kc (n : Int)) (b2 : bytes * n ≤ 281474976710656) (b3 : n ≤ maxLen) (hB : B ≤ w.heap.size)
    (hK : ∀ w', OwnK e enc sz B w' (.slice (some ⟨w.heap.size, 0, none⟩) 0 n) [] → w.grownBy w' none → K (a.put o.dst (.slice (some ⟨w.heap.size, 0, none⟩) 0 n)) w') :
    if Region.wanted o (yielded ops a.tmps) = true then Oper.wp P o a w K Q else E := by
  have hw : Region.wanted o (yielded ops a.tmps) = true := by simp [Region.wanted, hg]
  rw [if_pos hw]
  obtain ⟨i, h1, h2, h3, h4⟩ := info_parts KD.elem
  obtain ⟨w', hrun, r1, r2⟩ := run_make_own (P := P) w B t e i z sz ht h1 h2 h3 kl kc n (by rw [h4]; exact b2) b3 hB
  unfold Oper.wp
  simp [execOp, hop, hl, hc, hrun, Result.andThen]
  exact hK _ r1 r2
set_option maxRecDepth 100000 in
set_option maxHeartbeats 4000000 in
theorem rcl {Q : Exit → Act → World → Prop} {v0 v3 v4 v5 v6 v7 : Value} {w : World} {p q m0 d0 m1 d1 m2 d2 : Nat} {y0 y1 y2 : Option Addr} {x : Cet} (HF : Hid (Five w p 0 (.slice y0 m0 d0) (.slice y1 m1 d1) (.slice y2 m2 d2) x.1.2.2.2.1 x.1.2.2.2.2)) (HD : Hid (kDz.At w (.agg #[.slice y0 m0 d0, .slice y1 m1 d1, .slice y2 m2 d2, .int .i64 x.1.2.2.2.1, .int .i64 x.1.2.2.2.2]) x.1)) (HPD : Hid (wtDz x.1 ≤ 1200000)) (hpq : q ≠ p) (XR : Hid (Ret.Blk w q #[.slice none 0 0, .slice none 0 0, .slice none 0 0, .int .i64 0, .int .i64 0, .int .i64 0] 72)) (K5 : Hid (w.cell? ⟨p, 5, none⟩ = some (.int .i64 x.2)))
  (hQ : ∀ (u3 u4 u5 u6 u7 : Value) (m9 : Dzm) (ma da mb db mc dc_ : Nat) (ya yb yc : Option Addr)  (wx : World), kDz.strip m9 = x.1 → kDz.cells m9 = [.slice ya ma da, .slice yb mb db, .slice yc mc dc_, .int .i64 x.1.2.2.2.1, .int .i64 x.1.2.2.2.2] → kDz.Own w.heap.size wx.heap.size wx m9 → Below w.heap.size w wx → Q .normal ⟨#[v0, .pointer (some ⟨p, 0, none⟩), .pointer (some ⟨q, 0, none⟩), u3, u4, u5, u6, u7], []⟩ ((((((wx.setCell ⟨q, 0, none⟩ (.slice ya ma da)).setCell ⟨q, 1, none⟩ (.slice yb mb db)).setCell ⟨q, 2, none⟩ (.slice yc mc dc_)).setCell ⟨q, 3, none⟩ (.int .i64 x.1.2.2.2.1)).setCell ⟨q, 4, none⟩ (.int .i64 x.1.2.2.2.2)).setCell ⟨q, 5, none⟩ (.int .i64 x.2))) :
  (Code.region 1 #[⟨some 3, .fieldAddr 72 (.tmp 1) 0, 0, "l12_cache.go:109", #[], none⟩,
   ⟨some 4, .call ⟨.value (.func 64), #[.tmp 3], #[46]⟩, 46, "l12_cache.go:109", #[⟨0, .data⟩], none⟩,
   ⟨some 5, .fieldAddr 72 (.tmp 1) 1, 0, "l12_cache.go:109", #[], none⟩,
   ⟨some 6, .load 3 (.tmp 5), 3, "l12_cache.go:109", #[⟨2, .data⟩], none⟩,
   ⟨some 7, .build 72 #[(0, .tmp 4), (1, .tmp 6)], 72, "l12_cache.go:109", #[⟨1, .data⟩, ⟨3, .data⟩], none⟩,
   ⟨none, .store 72 (.tmp 2) (.tmp 7), 0, "l12_cache.go:109", #[⟨4, .data⟩, ⟨1, .chain⟩, ⟨0, .phase⟩, ⟨1, .phase⟩, ⟨2, .phase⟩, ⟨3, .phase⟩, ⟨4, .phase⟩], none⟩] true).wp Try.prog Q ⟨#[v0, .pointer (some ⟨p, 0, none⟩), .pointer (some ⟨q, 0, none⟩), v3, v4, v5, v6, v7], []⟩ w := by
 have HQ := Lib.hid hQ; clear hQ
 have hdr : Below w.heap.size w w.drew := (Below.refl _ _).drew
 have BB := Lib.hid hdr
 refine wp_region_noPanic ?_
 refine wp_region_held_drew (S := (fun w' => w'.cell? ⟨p, 5, none⟩ = some (.int .i64 x.2))) (by kernel_rfl) ?_ (fun hHeld => ?_)
 ·
  exact kc K5.out BB.out
 clear hdr
 generalize w.drew = wd at *
 refine wpAnyH_take (i := 0) (oi := ⟨some 3, .fieldAddr 72 (.tmp 1) 0, 0, "l12_cache.go:109", #[], none⟩) (v := ?_) rfl (by kernel_rfl) (by kernel_rfl) (by kernel_rfl) (fun _ _ _ h => h) (Or.inl ⟨by rfl, ?_⟩) (by assumption) ?_
 rotate_left
 ·
  intro w' hSw; (try dsimp only at hSw); first | (go_simp; done) | (go_simp; with_reducible rfl)
 (try simp only [Act.put, Row.pB0, Row.pB1, Row.pB2])
 refine wpAnyH_take (i := 2) (oi := ⟨some 5, .fieldAddr 72 (.tmp 1) 1, 0, "l12_cache.go:109", #[], none⟩) (v := ?_) rfl (by kernel_rfl) (by kernel_rfl) (by kernel_rfl) (fun _ _ _ h => h) (Or.inl ⟨by rfl, ?_⟩) (by assumption) ?_
 rotate_left
 ·
  intro w' hSw; (try dsimp only at hSw); first | (go_simp; done) | (go_simp; with_reducible rfl)
 (try simp only [Act.put, Row.pB0, Row.pB1, Row.pB2])
 refine wpAnyH_take (i := 3) (oi := ⟨some 6, .load 3 (.tmp 5), 3, "l12_cache.go:109", #[⟨2, .data⟩], none⟩) (v := ?_) rfl (by kernel_rfl) (by kernel_rfl) (by kernel_rfl) (fun _ _ _ h => h) (Or.inl ⟨by rfl, ?_⟩) (by assumption) ?_
 rotate_left
 ·
  intro w' hSw; (try dsimp only at hSw); first | (go_simp; done) | (go_simp; with_reducible rfl)
 (try simp only [Act.put, Row.pB0, Row.pB1, Row.pB2])
 refine wpAnyH_ready (rs := [1]) (by kernel_rfl) (by simp) ?_
 refine AllReadyH.cons (o := ⟨some 4, .call ⟨.value (.func 64), #[.tmp 3], #[46]⟩, 46, "l12_cache.go:109", #[⟨0, .data⟩], none⟩) rfl (fun K hK => ?_) AllReadyH.nil
 go_simp
 refine (iClnZ p 0 _ _ _ x.1 _ (HF.out.on BB.out) (HD.out.on BB.out) (Nat.le_trans HPD.out (by decide))).mono ?_
 rintro e wn1 ⟨U, rfl, ho, hb⟩
 obtain ⟨m9, ya, ma, da, yb, mb, db, yc, mc, dc_, rfl, hs1, hd1, ho⟩ := kDz_split ho
 have HO9 := Lib.hid (show kDz.Own w.heap.size wn1.heap.size wn1 m9 from ho.mono BB.out.size (Nat.le_refl _)); have HS1 := Lib.hid hs1; have HD1 := Lib.hid hd1; clear ho hs1 hd1
 replace BB := Lib.hid (BB.out.trans (hb.mono BB.out.size))
 clear hb
 (try go_wp2_with fail)
 clear hHeld
 refine hK.out _ _ ?_ (fun hHeld => ?_)
 ·
  (try dsimp only); exact kc K5.out BB.out
 clear hK K
 (try simp only [Act.put, Row.pB0, Row.pB1, Row.pB2])
 refine wpAnyH_take (i := 4) (oi := ⟨some 7, .build 72 #[(0, .tmp 4), (1, .tmp 6)], 72, "l12_cache.go:109", #[⟨1, .data⟩, ⟨3, .data⟩], none⟩) (v := ?_) rfl (by kernel_rfl) (by kernel_rfl) (by kernel_rfl) (fun _ _ _ h => h) (Or.inl ⟨by rfl, ?_⟩) (by assumption) ?_
 rotate_left
 ·
  intro w' hSw; (try dsimp only at hSw); first | (go_simp; done) | (go_simp; with_reducible rfl)
 (try simp only [Act.put, Row.pB0, Row.pB1, Row.pB2])
 refine wpAnyH_ready (rs := [5]) (by kernel_rfl) (by simp) ?_
 refine AllReadyH.cons (o := ⟨none, .store 72 (.tmp 2) (.tmp 7), 0, "l12_cache.go:109", #[⟨4, .data⟩, ⟨1, .chain⟩, ⟨0, .phase⟩, ⟨1, .phase⟩, ⟨2, .phase⟩, ⟨3, .phase⟩, ⟨4, .phase⟩], none⟩) rfl (fun K hK => ?_) AllReadyH.nil
 have xr := XR.out.on BB.out
 have r0 := xr.cell 0; have r1 := xr.cell 1; have r2 := xr.cell 2; have r3 := xr.cell 3; have r4 := xr.cell 4; have r5 := xr.cell 5
 have t0 := xr.frozen 0; have t1 := xr.frozen 1; have t2 := xr.frozen 2; have t3 := xr.frozen 3; have t4 := xr.frozen 4; have t5 := xr.frozen 5
 go_simp
 clear hHeld
 refine hK.out _ _ ?_ (fun hHeld => ?_)
 ·
  (try dsimp only); exact cell_six (kc K5.out BB.out) hpq
 clear hK K
 (try simp only [Act.put, Row.pB0, Row.pB1, Row.pB2])
 refine wpAnyH_done (by kernel_rfl) ?_ _
 exact NoPanic.normal (HQ.out _ _ _ _ _ m9 ma da mb db mc dc_ ya yb yc _ HS1.out HD1.out HO9.out BB.out)
set_option maxHeartbeats 4000000 in
theorem cloneEnt (V : Value) (x : Cet) (w : World) (h : kCe.At w V x) (hp : wtCe x ≤ 1200000) :
    Calls Try.prog 92 #[V] w fun e w' => ∃ U, e = .returned U ∧ kCe.In w.heap.size w'.heap.size w' U x ∧ Below w.heap.size w w' := by
  obtain ⟨y0, m0, d0, y1, m1, d1, y2, m2, d2, rfl, h⟩ := kCe_shapeA h
  have b1 := (Below.refl w.heap.size w).alloc (Nat.le_refl _) (.cells #[.slice y0 m0 d0, .slice y1 m1 d1, .slice y2 m2 d2, .int .i64 x.1.2.2.2.1, .int .i64 x.1.2.2.2.2, .int .i64 x.2] 72)
  have b2 := (Below.refl (w.alloc (.cells #[.slice y0 m0 d0, .slice y1 m1 d1, .slice y2 m2 d2, .int .i64 x.1.2.2.2.1, .int .i64 x.1.2.2.2.2, .int .i64 x.2] 72)).heap.size (w.alloc (.cells #[.slice y0 m0 d0, .slice y1 m1 d1, .slice y2 m2 d2, .int .i64 x.1.2.2.2.1, .int .i64 x.1.2.2.2.2, .int .i64 x.2] 72))).alloc (Nat.le_refl _) (.cells #[.slice none 0 0, .slice none 0 0, .slice none 0 0, .int .i64 0, .int .i64 0, .int .i64 0] 72)
  have b12 := b1.trans (b2.mono b1.size)
  have hX := (Ret.Blk.new w #[.slice y0 m0 d0, .slice y1 m1 d1, .slice y2 m2 d2, .int .i64 x.1.2.2.2.1, .int .i64 x.1.2.2.2.2, .int .i64 x.2] 72).on b2
  have HR := Lib.hid (Ret.Blk.new' (w := (w.alloc (.cells #[.slice y0 m0 d0, .slice y1 m1 d1, .slice y2 m2 d2, .int .i64 x.1.2.2.2.1, .int .i64 x.1.2.2.2.2, .int .i64 x.2] 72))) (n := w.heap.size + 1) #[.slice none 0 0, .slice none 0 0, .slice none 0 0, .int .i64 0, .int .i64 0, .int .i64 0] 72 (by simp))
  have HD := Lib.hid ((kCe_parts h).1.on b12)
  have HF := Lib.hid (show Five ((w.alloc (.cells #[.slice y0 m0 d0, .slice y1 m1 d1, .slice y2 m2 d2, .int .i64 x.1.2.2.2.1, .int .i64 x.1.2.2.2.2, .int .i64 x.2] 72)).alloc (.cells #[.slice none 0 0, .slice none 0 0, .slice none 0 0, .int .i64 0, .int .i64 0, .int .i64 0] 72)) w.heap.size 0 (.slice y0 m0 d0) (.slice y1 m1 d1) (.slice y2 m2 d2) x.1.2.2.2.1 x.1.2.2.2.2 from ⟨hX.cell 0, hX.cell 1, hX.cell 2, hX.cell 3, hX.cell 4⟩)
  have HK := Lib.hid (hX.cell 5); have HB := Lib.hid b12; have HP := Lib.hid (show wtDz x.1 ≤ 1200000 from hp)
  clear b1 b2 b12 hX h hp
  go_enter Try.func92, Try.ntmps92
  go_wp2_with fail
  refine rcl HF HD HP (by omega) HR HK ?_
  intro u3 u4 u5 u6 u7 m9 ma da mb db mc dc_ ya yb yc wx hs1 hd1 ho hb
  have HBX := Lib.hid (HB.out.trans (hb.mono HB.out.size))
  have Z := Lib.hid (blk_six (a := .slice ya ma da) (b := .slice yb mb db) (c := .slice yc mc dc_) (d := .int .i64 x.1.2.2.2.1) (e := .int .i64 x.1.2.2.2.2) (f := .int .i64 x.2) (HR.out.on hb))
  have HO := Lib.hid (own_six (g := w.heap.size + 1) (a := .slice ya ma da) (b := .slice yb mb db) (c := .slice yc mc dc_) (d := .int .i64 x.1.2.2.2.1) (e := .int .i64 x.1.2.2.2.2) (f := .int .i64 x.2) ho (by simp))
  have HS := Lib.hid hs1; have HD1 := Lib.hid hd1; have HSZ := Lib.hid hb.size
  clear hs1 hd1 ho hb
  go_wp2_with fail
  refine bodyPost_ret (Ret.results_c rfl _ _ (w.heap.size + 1) [.slice ya ma da, .slice yb mb db, .slice yc mc dc_, .int .i64 x.1.2.2.2.1, .int .i64 x.1.2.2.2.2, .int .i64 x.2] rfl aggCe Z.out.cells) rfl ?_
  have hin : kCe.In w.heap.size wx.heap.size ((((((wx.setCell ⟨(w.heap.size + 1), 0, none⟩ (.slice ya ma da)).setCell ⟨(w.heap.size + 1), 1, none⟩ (.slice yb mb db)).setCell ⟨(w.heap.size + 1), 2, none⟩ (.slice yc mc dc_)).setCell ⟨(w.heap.size + 1), 3, none⟩ (.int .i64 x.1.2.2.2.1)).setCell ⟨(w.heap.size + 1), 4, none⟩ (.int .i64 x.1.2.2.2.2)).setCell ⟨(w.heap.size + 1), 5, none⟩ (.int .i64 x.2)) (kCe.val (m9, x.2)) (kCe.strip (m9, x.2)) := (kCe_own (HO.out.mono HB.out.size (Nat.le_refl _)) x.2 HBX.out.size).in
  have e1 : kCe.val ((m9, x.2) : Cem) = .agg #[.slice ya ma da, .slice yb mb db, .slice yc mc dc_, .int .i64 x.1.2.2.2.1, .int .i64 x.1.2.2.2.2, .int .i64 x.2] := by
    show Value.agg (kDz.cells m9 ++ kInt.cells x.2).toArray = _
    rw [HD1.out]; rfl
  have e2 : kCe.strip ((m9, x.2) : Cem) = x := Prod.ext HS.out rfl
  rw [e1, e2] at hin
  refine ⟨_, rfl, ?_, below_six HBX.out (by omega)⟩
  rw [size_six]
  exact hin
theorem cell_two {w : World} {p q i : Nat} {v a b : Value} (h : w.cell? ⟨p, i, none⟩ = some v) (hne : q ≠ p) : (((w).setCell ⟨q, 0, none⟩ (a)).setCell ⟨q, 1, none⟩ (b)).cell? ⟨p, i, none⟩ = some v :=
  (Ret.grownBy_set _ ⟨q, 1, none⟩ _).cell ((Ret.grownBy_set w ⟨q, 0, none⟩ _).cell h (fun e => hne (by cases e; rfl))) (fun e => hne (by cases e; rfl))
set_option maxRecDepth 100000 in
set_option maxHeartbeats 4000000 in
theorem rcw {Q : Exit → Act → World → Prop} {v0 v1 v3 v4 v5 v6 v7 v8 v9 v10 v11 v12 v13 v14 v15 v16 v17 v18 v19 v20 v21 v22 v23 v24 v25 v26 v27 v28 v29 v30 v31 : Value} {w : World} {p : Nat} {x : Option Addr} {n c : Nat} {cc : Int} (hn : n ≤ 1100000) (K0 : Hid (w.cell? ⟨p, 0, none⟩ = some (.int .i64 cc))) (K1 : Hid (w.cell? ⟨p, 1, none⟩ = some (.slice x n c)))
  (hQ : ∀ (u8 u9 u10 u11 u12 u13 u14 : Value) (gD gR : Nat)  (wx : World), w.heap.size ≤ gD → Ret.Blk wx gD #[.int .i64 0, .slice none 0 0] 76 → OwnK 72 kCe.cells 6 w.heap.size wx (.slice (some ⟨gR, 0, none⟩) 0 n) [] → Below w.heap.size w wx → Q .normal ⟨#[v0, v1, .pointer (some ⟨p, 0, none⟩), v3, v4, .pointer (some ⟨gD, 0, none⟩), v6, v7, u8, u9, u10, u11, u12, u13, u14, v15, v16, v17, v18, v19, v20, v21, v22, v23, v24, v25, v26, v27, v28, v29, v30, v31], []⟩ (((wx).setCell ⟨gD, 0, none⟩ (.int .i64 cc)).setCell ⟨gD, 1, none⟩ (.slice (some ⟨gR, 0, none⟩) 0 n))) :
  (Code.region 1 #[⟨some 8, .fieldAddr 76 (.tmp 2) 0, 0, "l12_cache.go:25", #[], none⟩,
   ⟨some 9, .load 3 (.tmp 8), 3, "l12_cache.go:25", #[⟨0, .data⟩], none⟩,
   ⟨some 10, .fieldAddr 76 (.tmp 2) 1, 0, "l12_cache.go:25", #[], none⟩,
   ⟨some 11, .load 22 (.tmp 10), 22, "l12_cache.go:25", #[⟨2, .data⟩], none⟩,
   ⟨some 12, .call ⟨.builtin .len, #[.tmp 11], #[22]⟩, 3, "l12_cache.go:25", #[⟨3, .data⟩], none⟩,
   ⟨some 13, .makeSlice 22 (.const (Value.int IntKind.i64 0)) (.tmp 12), 22, "l12_cache.go:25", #[⟨4, .data⟩], none⟩,
   ⟨some 14, .build 76 #[(0, .tmp 9), (1, .tmp 13)], 76, "l12_cache.go:25", #[⟨1, .data⟩, ⟨5, .data⟩], none⟩,
   ⟨some 5, .alloc 76, 0, "l12_cache.go:25", #[], none⟩,
   ⟨none, .store 76 (.tmp 5) (.tmp 14), 0, "l12_cache.go:25", #[⟨7, .data⟩, ⟨6, .data⟩, ⟨0, .phase⟩, ⟨1, .phase⟩, ⟨2, .phase⟩, ⟨3, .phase⟩, ⟨4, .phase⟩, ⟨5, .phase⟩, ⟨6, .phase⟩, ⟨7, .phase⟩], none⟩] true).wp Try.prog Q ⟨#[v0, v1, .pointer (some ⟨p, 0, none⟩), v3, v4, v5, v6, v7, v8, v9, v10, v11, v12, v13, v14, v15, v16, v17, v18, v19, v20, v21, v22, v23, v24, v25, v26, v27, v28, v29, v30, v31], []⟩ w := by
 have HQ := Lib.hid hQ; clear hQ
 have hdr : Below w.heap.size w w.drew := (Below.refl _ _).drew
 have BB := Lib.hid hdr
 refine wp_region_noPanic ?_
 refine wp_region_held_drew (S := (fun w' => w'.cell? ⟨p, 0, none⟩ = some (.int .i64 cc) ∧ w'.cell? ⟨p, 1, none⟩ = some (.slice x n c))) (by kernel_rfl) ?_ (fun hHeld => ?_)
 ·
  exact ⟨kc K0.out BB.out, kc K1.out BB.out⟩
 clear hdr
 generalize w.drew = wd at *
 refine wpAnyH_take (i := 0) (oi := ⟨some 8, .fieldAddr 76 (.tmp 2) 0, 0, "l12_cache.go:25", #[], none⟩) (v := ?_) rfl (by kernel_rfl) (by kernel_rfl) (by kernel_rfl) (fun _ _ _ h => h) (Or.inl ⟨by rfl, ?_⟩) (by assumption) ?_
 rotate_left
 ·
  intro w' hSw; (try dsimp only at hSw); first | (go_simp; done) | (go_simp; with_reducible rfl)
 (try simp only [Act.put, Row.pB0, Row.pB1, Row.pB2])
 refine wpAnyH_take (i := 1) (oi := ⟨some 9, .load 3 (.tmp 8), 3, "l12_cache.go:25", #[⟨0, .data⟩], none⟩) (v := ?_) rfl (by kernel_rfl) (by kernel_rfl) (by kernel_rfl) (fun _ _ _ h => h) (Or.inl ⟨by rfl, ?_⟩) (by assumption) ?_
 rotate_left
 ·
  intro w' hSw; (try dsimp only at hSw); first | (go_simp; done) | (go_simp; with_reducible rfl)
 (try simp only [Act.put, Row.pB0, Row.pB1, Row.pB2])
 refine wpAnyH_take (i := 2) (oi := ⟨some 10, .fieldAddr 76 (.tmp 2) 1, 0, "l12_cache.go:25", #[], none⟩) (v := ?_) rfl (by kernel_rfl) (by kernel_rfl) (by kernel_rfl) (fun _ _ _ h => h) (Or.inl ⟨by rfl, ?_⟩) (by assumption) ?_
 rotate_left
 ·
  intro w' hSw; (try dsimp only at hSw); first | (go_simp; done) | (go_simp; with_reducible rfl)
 (try simp only [Act.put, Row.pB0, Row.pB1, Row.pB2])
 refine wpAnyH_take (i := 3) (oi := ⟨some 11, .load 22 (.tmp 10), 22, "l12_cache.go:25", #[⟨2, .data⟩], none⟩) (v := ?_) rfl (by kernel_rfl) (by kernel_rfl) (by kernel_rfl) (fun _ _ _ h => h) (Or.inl ⟨by rfl, ?_⟩) (by assumption) ?_
 rotate_left
 ·
  intro w' hSw; (try dsimp only at hSw); first | (go_simp; done) | (go_simp; with_reducible rfl)
 (try simp only [Act.put, Row.pB0, Row.pB1, Row.pB2])
 refine wpAnyH_take (i := 4) (oi := ⟨some 12, .call ⟨.builtin .len, #[.tmp 11], #[22]⟩, 3, "l12_cache.go:25", #[⟨3, .data⟩], none⟩) (v := ?_) rfl (by kernel_rfl) (by kernel_rfl) (by kernel_rfl) (fun _ _ _ h => h) (Or.inl ⟨by rfl, ?_⟩) (by assumption) ?_
 rotate_left
 ·
  intro w' hSw; (try dsimp only at hSw); first | (go_simp; done) | (go_simp; with_reducible rfl)
 (try simp only [Act.put, Row.pB0, Row.pB1, Row.pB2])
 refine wpAnyH_ready (rs := [5, 7]) (by kernel_rfl) (by simp) ?_
 refine AllReadyH.cons (o := ⟨some 13, .makeSlice 22 (.const (Value.int IntKind.i64 0)) (.tmp 12), 22, "l12_cache.go:25", #[⟨4, .data⟩], none⟩) rfl (fun K hK => ?_) ?_
 ·
  refine step_makeK kindCe (B := w.heap.size) (n := n) rfl _ _ (by rfl) Try.underlying22 (by rfl) (by rfl) (by omega) (by unfold maxLen; omega) BB.out.size ?_
  intro wn1 hown hgr
  obtain ⟨gR, hgR⟩ : ∃ g, g = wd.heap.size := ⟨_, rfl⟩
  rw [← hgR] at hown ⊢
  have HO := Lib.hid hown
  (try replace XD := Lib.hid (XD.out.grown hgr (by simp)))
  replace BB := Lib.hid (BB.out.grown hgr BB.out.size (fun g e => by cases e))
  clear hown hgr hgR
  clear hHeld
  refine hK.out _ _ ?_ (fun hHeld => ?_)
  ·
   (try dsimp only); exact ⟨kc K0.out BB.out, kc K1.out BB.out⟩
  clear hK K
  (try simp only [Act.put, Row.pB0, Row.pB1, Row.pB2])
  refine wpAnyH_take (i := 6) (oi := ⟨some 14, .build 76 #[(0, .tmp 9), (1, .tmp 13)], 76, "l12_cache.go:25", #[⟨1, .data⟩, ⟨5, .data⟩], none⟩) (v := ?_) rfl (by kernel_rfl) (by kernel_rfl) (by kernel_rfl) (fun _ _ _ h => h) (Or.inl ⟨by rfl, ?_⟩) (by assumption) ?_
  rotate_left
  ·
   intro w' hSw; (try dsimp only at hSw); first | (go_simp; done) | (go_simp; with_reducible rfl)
  (try simp only [Act.put, Row.pB0, Row.pB1, Row.pB2])
  refine wpAnyH_ready (rs := [7]) (by kernel_rfl) (by simp) ?_
  refine AllReadyH.cons (o := ⟨some 5, .alloc 76, 0, "l12_cache.go:25", #[], none⟩) rfl (fun K hK => ?_) AllReadyH.nil
  go_simp
  have hb : Below wn1.heap.size wn1 (wn1.alloc (.cells #[.int .i64 0, .slice none 0 0] 76)) := (Below.refl _ _).alloc (Nat.le_refl _) _
  obtain ⟨gD, hgD⟩ : ∃ g, g = wn1.heap.size := ⟨_, rfl⟩
  have XD := Lib.hid (show Ret.Blk (wn1.alloc (.cells #[.int .i64 0, .slice none 0 0] 76)) gD #[.int .i64 0, .slice none 0 0] 76 from by rw [hgD]; exact Ret.Blk.new wn1 _ _)
  have HDW := Lib.hid (show w.heap.size ≤ gD from by rw [hgD]; exact BB.out.size)
  (first | rw [← hgD] | skip)
  clear hgD
  replace HO := Lib.hid (HO.out.on hb)
  replace BB := Lib.hid (BB.out.trans (hb.mono BB.out.size))
  clear hb
  generalize wn1.alloc (.cells #[.int .i64 0, .slice none 0 0] 76) = wn2 at *
  clear hHeld
  refine hK.out _ _ ?_ (fun hHeld => ?_)
  ·
   (try dsimp only); exact ⟨kc K0.out BB.out, kc K1.out BB.out⟩
  clear hK K
  (try simp only [Act.put, Row.pB0, Row.pB1, Row.pB2])
  refine wpAnyH_ready (rs := [8]) (by kernel_rfl) (by simp) ?_
  refine AllReadyH.cons (o := ⟨none, .store 76 (.tmp 5) (.tmp 14), 0, "l12_cache.go:25", #[⟨7, .data⟩, ⟨6, .data⟩, ⟨0, .phase⟩, ⟨1, .phase⟩, ⟨2, .phase⟩, ⟨3, .phase⟩, ⟨4, .phase⟩, ⟨5, .phase⟩, ⟨6, .phase⟩, ⟨7, .phase⟩], none⟩) rfl (fun K hK => ?_) AllReadyH.nil
  have r0 := XD.out.cell 0; have r1 := XD.out.cell 1; have t0 := XD.out.frozen 0; have t1 := XD.out.frozen 1
  have hlt : p < w.heap.size := Ret.cell_lt K0.out; have hdw := HDW.out
  go_simp
  clear hHeld
  refine hK.out _ _ ?_ (fun hHeld => ?_)
  ·
   (try dsimp only); exact ⟨cell_two (kc K0.out BB.out) (by omega), cell_two (kc K1.out BB.out) (by omega)⟩
  clear hK K
  (try simp only [Act.put, Row.pB0, Row.pB1, Row.pB2])
  refine wpAnyH_done (by kernel_rfl) ?_ _
  exact NoPanic.normal (HQ.out _ _ _ _ _ _ _ gD gR _ HDW.out XD.out HO.out BB.out)
 refine AllReadyH.cons (o := ⟨some 5, .alloc 76, 0, "l12_cache.go:25", #[], none⟩) rfl (fun K hK => ?_) AllReadyH.nil
 go_simp
 have hb : Below wd.heap.size wd (wd.alloc (.cells #[.int .i64 0, .slice none 0 0] 76)) := (Below.refl _ _).alloc (Nat.le_refl _) _
 obtain ⟨gD, hgD⟩ : ∃ g, g = wd.heap.size := ⟨_, rfl⟩
 have XD := Lib.hid (show Ret.Blk (wd.alloc (.cells #[.int .i64 0, .slice none 0 0] 76)) gD #[.int .i64 0, .slice none 0 0] 76 from by rw [hgD]; exact Ret.Blk.new wd _ _)
 have HDW := Lib.hid (show w.heap.size ≤ gD from by rw [hgD]; exact BB.out.size)
 (first | rw [← hgD] | skip)
 clear hgD
 replace BB := Lib.hid (BB.out.trans (hb.mono BB.out.size))
 clear hb
 generalize wd.alloc (.cells #[.int .i64 0, .slice none 0 0] 76) = wn4 at *
 clear hHeld
 refine hK.out _ _ ?_ (fun hHeld => ?_)
 ·
  (try dsimp only); exact ⟨kc K0.out BB.out, kc K1.out BB.out⟩
 clear hK K
 (try simp only [Act.put, Row.pB0, Row.pB1, Row.pB2])
 refine wpAnyH_ready (rs := [5]) (by kernel_rfl) (by simp) ?_
 refine AllReadyH.cons (o := ⟨some 13, .makeSlice 22 (.const (Value.int IntKind.i64 0)) (.tmp 12), 22, "l12_cache.go:25", #[⟨4, .data⟩], none⟩) rfl (fun K hK => ?_) AllReadyH.nil
 refine step_makeK kindCe (B := w.heap.size) (n := n) rfl _ _ (by rfl) Try.underlying22 (by rfl) (by rfl) (by omega) (by unfold maxLen; omega) BB.out.size ?_
 intro wn5 hown hgr
 obtain ⟨gR, hgR⟩ : ∃ g, g = wn4.heap.size := ⟨_, rfl⟩
 rw [← hgR] at hown ⊢
 have HO := Lib.hid hown
 (try replace XD := Lib.hid (XD.out.grown hgr (by simp)))
 replace BB := Lib.hid (BB.out.grown hgr BB.out.size (fun g e => by cases e))
 clear hown hgr hgR
 clear hHeld
 refine hK.out _ _ ?_ (fun hHeld => ?_)
 ·
  (try dsimp only); exact ⟨kc K0.out BB.out, kc K1.out BB.out⟩
 clear hK K
 (try simp only [Act.put, Row.pB0, Row.pB1, Row.pB2])
 refine wpAnyH_take (i := 6) (oi := ⟨some 14, .build 76 #[(0, .tmp 9), (1, .tmp 13)], 76, "l12_cache.go:25", #[⟨1, .data⟩, ⟨5, .data⟩], none⟩) (v := ?_) rfl (by kernel_rfl) (by kernel_rfl) (by kernel_rfl) (fun _ _ _ h => h) (Or.inl ⟨by rfl, ?_⟩) (by assumption) ?_
 rotate_left
 ·
  intro w' hSw; (try dsimp only at hSw); first | (go_simp; done) | (go_simp; with_reducible rfl)
 (try simp only [Act.put, Row.pB0, Row.pB1, Row.pB2])
 refine wpAnyH_ready (rs := [8]) (by kernel_rfl) (by simp) ?_
 refine AllReadyH.cons (o := ⟨none, .store 76 (.tmp 5) (.tmp 14), 0, "l12_cache.go:25", #[⟨7, .data⟩, ⟨6, .data⟩, ⟨0, .phase⟩, ⟨1, .phase⟩, ⟨2, .phase⟩, ⟨3, .phase⟩, ⟨4, .phase⟩, ⟨5, .phase⟩, ⟨6, .phase⟩, ⟨7, .phase⟩], none⟩) rfl (fun K hK => ?_) AllReadyH.nil
 have r0 := XD.out.cell 0; have r1 := XD.out.cell 1; have t0 := XD.out.frozen 0; have t1 := XD.out.frozen 1
 have hlt : p < w.heap.size := Ret.cell_lt K0.out; have hdw := HDW.out
 go_simp
 clear hHeld
 refine hK.out _ _ ?_ (fun hHeld => ?_)
 ·
  (try dsimp only); exact ⟨cell_two (kc K0.out BB.out) (by omega), cell_two (kc K1.out BB.out) (by omega)⟩
 clear hK K
 (try simp only [Act.put, Row.pB0, Row.pB1, Row.pB2])
 refine wpAnyH_done (by kernel_rfl) ?_ _
 exact NoPanic.normal (HQ.out _ _ _ _ _ _ _ gD gR _ HDW.out XD.out HO.out BB.out)
set_option maxHeartbeats 16000000 in
theorem implCloneWith (x : Option Addr) (n c : Nat) (cc : Int) (l : List Cet) (w : World) (h : kLCe.At w (.slice x n c) l) (hl : l.length ≤ 1100000) (hp : ∀ x ∈ l, wtCe x ≤ 1200000) :
    Calls Try.prog 91 #[.agg #[.int .i64 cc, .slice x n c], .func (.func 92) #[] #[]] w fun e w' => ∃ U, e = .returned U ∧ kCn.In w.heap.size w'.heap.size w' U (cc, l) ∧ Below w.heap.size w w' := by
  obtain ⟨x', n', c', L, e9, hn, ht, hh, hel⟩ := kLCe_at h
  cases e9
  have hlen : l.length = n := by rw [← ht, List.length_map]; exact hn.symm
  rw [hlen] at hl
  have hcap : n ≤ c := by obtain ⟨x', n', cap', hv, hn', hc', -⟩ := hh.shapeN; cases hv; exact hc'
  obtain ⟨k1, k2, k3, k4⟩ : Ret.Blk ((w.alloc (.cells #[.int .i64 cc, .slice x n c] 76)).alloc (.cells #[.int .i64 0, .slice none 0 0] 76)) w.heap.size #[.int .i64 cc, .slice x n c] 76 ∧ Ret.Blk ((w.alloc (.cells #[.int .i64 cc, .slice x n c] 76)).alloc (.cells #[.int .i64 0, .slice none 0 0] 76)) (w.heap.size + 1) #[.int .i64 0, .slice none 0 0] 76 ∧ Below w.heap.size w ((w.alloc (.cells #[.int .i64 cc, .slice x n c] 76)).alloc (.cells #[.int .i64 0, .slice none 0 0] 76)) ∧ ((w.alloc (.cells #[.int .i64 cc, .slice x n c] 76)).alloc (.cells #[.int .i64 0, .slice none 0 0] 76)).heap.size = w.heap.size + 2 := by
    have b1 := (Below.refl w.heap.size w).alloc (Nat.le_refl _) (.cells #[.int .i64 cc, .slice x n c] 76)
    have b2 := (Below.refl (w.alloc (.cells #[.int .i64 cc, .slice x n c] 76)).heap.size (w.alloc (.cells #[.int .i64 cc, .slice x n c] 76))).alloc (Nat.le_refl _) (.cells #[.int .i64 0, .slice none 0 0] 76)
    exact ⟨(Ret.Blk.new w _ _).on b2, Ret.Blk.new' (w := w.alloc _) (n := w.heap.size + 1) _ _ (by simp), b1.trans (b2.mono b1.size), by simp⟩
  have HX0 := Lib.hid k1; have HX1 := Lib.hid k2; have HB := Lib.hid k3; have HW4 := Lib.hid k4
  have HK0 := Lib.hid (k1.cell 0); have HK1 := Lib.hid (k1.cell 1)
  have HN := Lib.hid hn; have HT := Lib.hid ht; have HH := Lib.hid hh; have HEL := Lib.hid hel; have HLEN := Lib.hid hlen; have HP := Lib.hid hp
  clear k1 k2 k3 k4 hn ht hh hel hlen hp h
  go_enter Try.func91, Try.ntmps91
  go_wp2_with fail
  refine rcw hl HK0 HK1 ?_
  intro u8 u9 u10 u11 u12 u13 u14 gD gR wx hgD hXD hOR hbx
  have HX0' := Lib.hid (((HX0.out.on hbx).other (a := ⟨gD, 0, none⟩) (by show gD ≠ w.heap.size; have := HW4.out; omega) (.int .i64 cc)).other (a := ⟨gD, 1, none⟩) (by show gD ≠ w.heap.size; have := HW4.out; omega) (.slice (some ⟨gR, 0, none⟩) 0 n))
  have HX1' := Lib.hid (((HX1.out.on hbx).other (a := ⟨gD, 0, none⟩) (by show gD ≠ w.heap.size + 1; have := HW4.out; omega) (.int .i64 cc)).other (a := ⟨gD, 1, none⟩) (by show gD ≠ w.heap.size + 1; have := HW4.out; omega) (.slice (some ⟨gR, 0, none⟩) 0 n))
  have HXD := Lib.hid ((hXD.set 0 (.int .i64 cc)).set 1 (.slice (some ⟨gR, 0, none⟩) 0 n))
  have HB' := Lib.hid (((HB.out.trans (hbx.mono HB.out.size)).setCell (p := ⟨gD, 0, none⟩) (by show w.heap.size ≤ gD; have := HW4.out; omega) (.int .i64 cc)).setCell (p := ⟨gD, 1, none⟩) (by show w.heap.size ≤ gD; have := HW4.out; omega) (.slice (some ⟨gR, 0, none⟩) 0 n))
  have hOW : kLCe.Own (w.heap.size + 2) wx.heap.size wx ⟨some ⟨gR, 0, none⟩, 0, n, []⟩ := by
    have := Kd.own_row (k := kCe) (r := ⟨some ⟨gR, 0, none⟩, 0, n, []⟩) hOR rfl
    rw [HW4.out] at this
    exact this
  have HOW := Lib.hid (own_setT (i := 1) (u := .slice (some ⟨gR, 0, none⟩) 0 n) noRow_St (own_setT (i := 0) (u := .int .i64 cc) noRow_St hOW hXD) (hXD.set 0 (.int .i64 cc)))
  have HS2 := Lib.hid (show w.heap.size + 2 ≤ wx.heap.size from by rw [← HW4.out]; exact hbx.size)
  have HGD := Lib.hid (show w.heap.size + 2 ≤ gD from by rw [← HW4.out]; exact hgD)
  have HWX : Hid (((wx.setCell ⟨gD, 0, none⟩ (.int .i64 cc)).setCell ⟨gD, 1, none⟩ (.slice (some ⟨gR, 0, none⟩) 0 n)).heap.size = wx.heap.size) := Lib.hid (by simp)
  clear hgD hXD hOR hbx hOW HX0 HX1 HB HK0 HK1
  have q1 : ((wx.setCell ⟨gD, 0, none⟩ (.int .i64 cc)).setCell ⟨gD, 1, none⟩ (.slice (some ⟨gR, 0, none⟩) 0 n)).cell? ⟨w.heap.size, 1, none⟩ = some (.slice x n c) := HX0'.out.cell 1
  revert HX0' HX1' HXD HB' HOW HWX q1
  generalize ((wx.setCell ⟨gD, 0, none⟩ (.int .i64 cc)).setCell ⟨gD, 1, none⟩ (.slice (some ⟨gR, 0, none⟩) 0 n)) = wy
  intro HX0' HX1' HXD HB' HOW HWX q1
  have HOY := Lib.hid (show kLCe.Own (w.heap.size + 2) wy.heap.size wy ⟨some ⟨gR, 0, none⟩, 0, n, []⟩ from by rw [HWX.out]; exact HOW.out)
  have HSY := Lib.hid (show w.heap.size + 2 ≤ wy.heap.size from by rw [HWX.out]; exact HS2.out)
  clear HOW HS2 HWX
  go_wp2
  go_loopw [18] (fun iv wr => ∃ k : Nat, k ≤ n ∧ iv = .int .i64 k ∧ ∃ xu nu cu Lu, Hid (Lu.length = k) ∧ Hid (Lu.map kCe.strip = l.take k) ∧ Hid (kLCe.Own (w.heap.size + 2) wr.heap.size wr ⟨xu, nu, cu, Lu⟩) ∧ Hid (Ret.Blk wr gD #[.int .i64 cc, .slice xu nu cu] 76) ∧ Hid (Ret.Blk wr (w.heap.size + 1) #[.int .i64 0, .slice none 0 0] 76) ∧ Hid (Below w.heap.size w wr) ∧ Hid (w.heap.size + 2 ≤ wr.heap.size)) (fun iv _ => n - (intOf iv).toNat)
  case atStart => exact ⟨0, Nat.zero_le _, rfl, some ⟨gR, 0, none⟩, 0, n, [], Lib.hid rfl, Lib.hid (by simp), HOY, HXD, HX1', HB', HSY⟩
  case round =>
    clear q1 HX0' HX1' HXD HB' HOY HSY
    obtain ⟨k, hk, rfl, xu, nu, cu, Lu, hM, hst, ho, hx2, hx1, hb, hsz⟩ := hrel
    by_cases hlt : k < n
    · have hlen := HN.out
      obtain ⟨b, off, y0, m0, d0, y1, m1, d1, y2, m2, d2, rfl, -, hc0, hc1, hc2, hc3, hc4, hc5, hA⟩ := kLCe_elem (HH.out.on hb.out) (fun y hy => kCe.holds_on (HEL.out y hy) hb.out) (j := k) (by omega)
      have hpt : nth l k = kCe.strip (nth L k) := by rw [← HT.out, nth_map _ (by omega)]
      have hps := HP.out (nth l k) (nth_mem (by have := HLEN.out; omega))
      rw [← hpt] at hA hc3 hc4 hc5
      obtain ⟨hD, hNM⟩ := kCe_parts hA
      have HA := Lib.hid hA; have HD := Lib.hid hD; have HNM := Lib.hid hNM; have HPS := Lib.hid hps; have HPD := Lib.hid (show wtDz (nth l k).1 ≤ 1200000 from hps); have HPN := Lib.hid (show bulk (nth l k).1.1 ≤ 1200000 from (wtDz_lens _ hps).1)
      have H0 := Lib.hid hc0; have H1 := Lib.hid hc1; have H2 := Lib.hid hc2; have H3 := Lib.hid hc3; have H4 := Lib.hid hc4; have H5 := Lib.hid hc5
      clear hlen hpt hps hA hD hNM
      have hal := (Below.refl wr.heap.size wr).alloc (Nat.le_refl _) (.cells #[.slice y0 m0 d0, .slice y1 m1 d1, .slice y2 m2 d2, .int .i64 (nth l k).1.2.2.2.1, .int .i64 (nth l k).1.2.2.2.2, .int .i64 (nth l k).2] 72)
      have hda := hal.drew
      have hxe := Ret.Blk.new wr #[.slice y0 m0 d0, .slice y1 m1 d1, .slice y2 m2 d2, .int .i64 (nth l k).1.2.2.2.1, .int .i64 (nth l k).1.2.2.2.2, .int .i64 (nth l k).2] 72
      have HAd := Lib.hid (show kCe.At (wr.alloc (.cells #[.slice y0 m0 d0, .slice y1 m1 d1, .slice y2 m2 d2, .int .i64 (nth l k).1.2.2.2.1, .int .i64 (nth l k).1.2.2.2.2, .int .i64 (nth l k).2] 72)).drew (.agg #[.slice y0 m0 d0, .slice y1 m1 d1, .slice y2 m2 d2, .int .i64 (nth l k).1.2.2.2.1, .int .i64 (nth l k).1.2.2.2.2, .int .i64 (nth l k).2]) (nth l k) from HA.out.on hda)
      have X2 := hx2.out.on hda
      have g1 : (wr.alloc (.cells #[.slice y0 m0 d0, .slice y1 m1 d1, .slice y2 m2 d2, .int .i64 (nth l k).1.2.2.2.1, .int .i64 (nth l k).1.2.2.2.2, .int .i64 (nth l k).2] 72)).cell? ⟨gD, 1, none⟩ = some (.slice xu nu cu) := X2.cell 1
      have g1d : (wr.alloc (.cells #[.slice y0 m0 d0, .slice y1 m1 d1, .slice y2 m2 d2, .int .i64 (nth l k).1.2.2.2.1, .int .i64 (nth l k).1.2.2.2.2, .int .i64 (nth l k).2] 72)).drew.cell? ⟨gD, 1, none⟩ = some (.slice xu nu cu) := X2.cell 1
      have f0 : (wr.alloc (.cells #[.slice y0 m0 d0, .slice y1 m1 d1, .slice y2 m2 d2, .int .i64 (nth l k).1.2.2.2.1, .int .i64 (nth l k).1.2.2.2.2, .int .i64 (nth l k).2] 72)).cell? ⟨wr.heap.size, 0, none⟩ = some (.slice y0 m0 d0) := hxe.cell 0
      have f1 : (wr.alloc (.cells #[.slice y0 m0 d0, .slice y1 m1 d1, .slice y2 m2 d2, .int .i64 (nth l k).1.2.2.2.1, .int .i64 (nth l k).1.2.2.2.2, .int .i64 (nth l k).2] 72)).cell? ⟨wr.heap.size, 1, none⟩ = some (.slice y1 m1 d1) := hxe.cell 1
      have f2 : (wr.alloc (.cells #[.slice y0 m0 d0, .slice y1 m1 d1, .slice y2 m2 d2, .int .i64 (nth l k).1.2.2.2.1, .int .i64 (nth l k).1.2.2.2.2, .int .i64 (nth l k).2] 72)).cell? ⟨wr.heap.size, 2, none⟩ = some (.slice y2 m2 d2) := hxe.cell 2
      have f3 : (wr.alloc (.cells #[.slice y0 m0 d0, .slice y1 m1 d1, .slice y2 m2 d2, .int .i64 (nth l k).1.2.2.2.1, .int .i64 (nth l k).1.2.2.2.2, .int .i64 (nth l k).2] 72)).cell? ⟨wr.heap.size, 3, none⟩ = some (.int .i64 (nth l k).1.2.2.2.1) := hxe.cell 3
      have f4 : (wr.alloc (.cells #[.slice y0 m0 d0, .slice y1 m1 d1, .slice y2 m2 d2, .int .i64 (nth l k).1.2.2.2.1, .int .i64 (nth l k).1.2.2.2.2, .int .i64 (nth l k).2] 72)).cell? ⟨wr.heap.size, 4, none⟩ = some (.int .i64 (nth l k).1.2.2.2.2) := hxe.cell 4
      have f5 : (wr.alloc (.cells #[.slice y0 m0 d0, .slice y1 m1 d1, .slice y2 m2 d2, .int .i64 (nth l k).1.2.2.2.1, .int .i64 (nth l k).1.2.2.2.2, .int .i64 (nth l k).2] 72)).cell? ⟨wr.heap.size, 5, none⟩ = some (.int .i64 (nth l k).2) := hxe.cell 5
      have f0d : (wr.alloc (.cells #[.slice y0 m0 d0, .slice y1 m1 d1, .slice y2 m2 d2, .int .i64 (nth l k).1.2.2.2.1, .int .i64 (nth l k).1.2.2.2.2, .int .i64 (nth l k).2] 72)).drew.cell? ⟨wr.heap.size, 0, none⟩ = some (.slice y0 m0 d0) := f0
      have f1d : (wr.alloc (.cells #[.slice y0 m0 d0, .slice y1 m1 d1, .slice y2 m2 d2, .int .i64 (nth l k).1.2.2.2.1, .int .i64 (nth l k).1.2.2.2.2, .int .i64 (nth l k).2] 72)).drew.cell? ⟨wr.heap.size, 1, none⟩ = some (.slice y1 m1 d1) := f1
      have f2d : (wr.alloc (.cells #[.slice y0 m0 d0, .slice y1 m1 d1, .slice y2 m2 d2, .int .i64 (nth l k).1.2.2.2.1, .int .i64 (nth l k).1.2.2.2.2, .int .i64 (nth l k).2] 72)).drew.cell? ⟨wr.heap.size, 2, none⟩ = some (.slice y2 m2 d2) := f2
      have f3d : (wr.alloc (.cells #[.slice y0 m0 d0, .slice y1 m1 d1, .slice y2 m2 d2, .int .i64 (nth l k).1.2.2.2.1, .int .i64 (nth l k).1.2.2.2.2, .int .i64 (nth l k).2] 72)).drew.cell? ⟨wr.heap.size, 3, none⟩ = some (.int .i64 (nth l k).1.2.2.2.1) := f3
      have f4d : (wr.alloc (.cells #[.slice y0 m0 d0, .slice y1 m1 d1, .slice y2 m2 d2, .int .i64 (nth l k).1.2.2.2.1, .int .i64 (nth l k).1.2.2.2.2, .int .i64 (nth l k).2] 72)).drew.cell? ⟨wr.heap.size, 4, none⟩ = some (.int .i64 (nth l k).1.2.2.2.2) := f4
      have f5d : (wr.alloc (.cells #[.slice y0 m0 d0, .slice y1 m1 d1, .slice y2 m2 d2, .int .i64 (nth l k).1.2.2.2.1, .int .i64 (nth l k).1.2.2.2.2, .int .i64 (nth l k).2] 72)).drew.cell? ⟨wr.heap.size, 5, none⟩ = some (.int .i64 (nth l k).2) := f5
      have hlm : (Lu.length + 1) * 96 ≤ 140737488355328 := by have := hM.out; omega
      have hlx : Lu.length + 1 ≤ maxLen := by have := hM.out; unfold maxLen; omega
      have HLM := Lib.hid hlm; have HLX := Lib.hid hlx
      have HDA := Lib.hid hda
      have HOd := Lib.hid (ho.out.upto hda); have HX2d := Lib.hid X2; have HX1d := Lib.hid (hx1.out.on hda); have HBd := Lib.hid (hb.out.trans (hda.mono hb.out.size)); have HSd := Lib.hid (Nat.le_trans hsz.out hda.size)
      clear hal hda hxe X2 hlm hlx ho hx2 hx1 hb hsz
      go_wp2_with fail
      clear hc0 hc1 hc2 hc3 hc4 hc5
      go_region_law (first | (refine step_appK kindCe (B := w.heap.size + 2) (l := Lu) (m := [m9]) rfl _ _ (by rfl) Try.underlying22 (by rfl) (by rfl) HOA.out HSO.out HLM.out HLX.out HB3.out ?_; intro v4 w4 ho4 hg4; obtain ⟨x4, n4, c4, rfl, -, -, ho4⟩ := ho4.shapeN; have hX2 := HXL.out.grown hg4 (row_ne_blk HOA.out HXL.out (by decide)); have z0 := hX2.cell 1; have z1 := hX2.frozen 1; have HX2' := Lib.hid hX2; have HX1' := Lib.hid (HX1L.out.grown hg4 (row_ne_blk HOA.out HX1L.out (by decide))); have HO4 := Lib.hid (ce_grow2 HOd.out HB9.out HI9.out HBL.out ho4 hg4 HSd.out); have HB5 := Lib.hid (HB4.out.grown hg4 HB4.out.size (fun g hg => Nat.le_trans (Nat.le_add_right _ _) (HOA.out.lt g hg).1)); have HSZ := Lib.hid (Nat.le_trans HB3.out hg4.size); clear ho4 hg4 hX2) | (go_simp; go_at_call 92; refine (cloneEnt _ (nth l k) _ HAd.out HPS.out).mono ?_; rintro e w3 ⟨U, rfl, hi9, hb9⟩; obtain ⟨m9, ya, ma, da, yb, mb, db, yc, mc, dc_, rfl, hs9, hd9, hi9⟩ := kCe_split hi9; have hbl := (Below.refl w3.heap.size w3).alloc (Nat.le_refl _) (.cells #[.slice ya ma da, .slice yb mb db, .slice yc mc dc_, .int .i64 (nth l k).1.2.2.2.1, .int .i64 (nth l k).1.2.2.2.2, .int .i64 (nth l k).2] 72); have HOA := Lib.hid (show OwnK 72 kCe.cells 6 (w.heap.size + 2) (w3.alloc (.cells #[.slice ya ma da, .slice yb mb db, .slice yc mc dc_, .int .i64 (nth l k).1.2.2.2.1, .int .i64 (nth l k).1.2.2.2.2, .int .i64 (nth l k).2] 72)) (.slice xu nu cu) Lu from ((HOd.out.on hb9).on hbl).1.1); have HSO := Lib.hid (show HoldsK kCe.cells 6 (w3.alloc (.cells #[.slice ya ma da, .slice yb mb db, .slice yc mc dc_, .int .i64 (nth l k).1.2.2.2.1, .int .i64 (nth l k).1.2.2.2.2, .int .i64 (nth l k).2] 72)) (.slice (some ⟨w3.heap.size, 0, none⟩) 1 1) [m9] from one_ce2 hd9 rfl); have HXL := Lib.hid ((HX2d.out.on hb9).on hbl); have HX1L := Lib.hid ((HX1d.out.on hb9).on hbl); have HB9 := Lib.hid hb9; have HI9 := Lib.hid hi9; have HBL := Lib.hid hbl; have HS9 := Lib.hid hs9; have HB4 := Lib.hid (HBd.out.trans ((hb9.trans (hbl.mono hb9.size)).mono HBd.out.size)); have HB3 := Lib.hid (show w.heap.size + 2 ≤ (w3.alloc (.cells #[.slice ya ma da, .slice yb mb db, .slice yc mc dc_, .int .i64 (nth l k).1.2.2.2.1, .int .i64 (nth l k).1.2.2.2.2, .int .i64 (nth l k).2] 72)).heap.size from Nat.le_trans (Nat.le_trans HSd.out hb9.size) hbl.size); have g3 : w3.cell? ⟨gD, 1, none⟩ = some (.slice xu nu cu) := (HX2d.out.on hb9).cell 1; have g3L : (w3.alloc (.cells #[.slice ya ma da, .slice yb mb db, .slice yc mc dc_, .int .i64 (nth l k).1.2.2.2.1, .int .i64 (nth l k).1.2.2.2.2, .int .i64 (nth l k).2] 72)).cell? ⟨gD, 1, none⟩ = some (.slice xu nu cu) := HXL.out.cell 1; clear hi9 hb9 hs9 hd9 hbl))
      all_goals
        have HST := Lib.hid (show (Lu ++ [m9]).map kCe.strip = l.take (k + 1) by
          rw [List.map_append, hst.out, take_nx (by have := HLEN.out; omega)]
          show _ ++ [kCe.strip m9] = _
          rw [HS9.out])
        clear f0 f1 f2 f3 f4 f5 f0d f1d f2d f3d f4d f5d g1 g1d g3 g3L z0 z1
        go_wp2_with fail
        go_roundw
        case rel => exact ⟨k + 1, by omega, by go_num, x4, n4, c4, Lu ++ [m9], Lib.hid (by simp [hM.out]), HST, Lib.hid (by rw [World.size_setCell]; exact own_setT noRow_St HO4.out HX2'.out), Lib.hid (HX2'.out.set 1 (.slice x4 n4 c4)), Lib.hid (HX1'.out.other (by show gD ≠ w.heap.size + 1; have := HGD.out; omega) _), Lib.hid (HB5.out.setCell (by show w.heap.size ≤ gD; have := HGD.out; omega) _), Lib.hid (by rw [World.size_setCell]; exact HSZ.out)⟩
        case measure => simp [intOf]; omega
    · obtain rfl : k = n := by omega
      clear hlt
      have p0 : wr.cell? ⟨gD, 0, none⟩ = some (.int .i64 cc) := hx2.out.cell 0
      have p1 : wr.cell? ⟨gD, 1, none⟩ = some (.slice xu nu cu) := hx2.out.cell 1
      have r0 := hx1.out.frozen 0; have r1 := hx1.out.frozen 1; have r2 := hx1.out.cell 0; have r3 := hx1.out.cell 1
      have Z := Lib.hid ((hx1.out.set 0 (.int .i64 cc)).set 1 (.slice xu nu cu))
      have ZO := Lib.hid (own_setS (i := 1) (u := .slice xu nu cu) (own_setS (i := 0) (u := .int .i64 cc) ho.out (g := w.heap.size + 1) (by omega)) (g := w.heap.size + 1) (by omega))
      have ZB := Lib.hid ((hb.out.setCell (p := ⟨w.heap.size + 1, 0, none⟩) (by show w.heap.size ≤ w.heap.size + 1; omega) (.int .i64 cc)).setCell (p := ⟨w.heap.size + 1, 1, none⟩) (by show w.heap.size ≤ w.heap.size + 1; omega) (.slice xu nu cu))
      have HRES := Lib.hid (show Lu.map kCe.strip = l by rw [hst.out, List.take_of_length_le (by rw [HLEN.out]; exact Nat.le_refl _)])
      go_wp2_with fail
      refine bodyPost_ret (Ret.results_c rfl _ _ (w.heap.size + 1) [.int .i64 cc, .slice xu nu cu] rfl aggSt Z.out.cells) rfl ?_
      exact ⟨_, rfl, cn_in ZO.out (by omega) HRES.out ZB.out.size, ZB.out⟩
set_option maxHeartbeats 4000000 in
theorem implCloneStore (V : Value) (x : Cnt) (w : World) (h : kCn.At w V x) (hp : FitC x) :
    Calls Try.prog 59 #[V] w fun e w' => ∃ U, e = .returned U ∧ kCn.In w.heap.size w'.heap.size w' U x ∧ Below w.heap.size w w' := by
  obtain ⟨x1_0, n1_0, c1_0, rfl, g1⟩ := kCn_at h
  clear h
  obtain ⟨cc, l⟩ := x
  obtain ⟨hl, hp⟩ := hp.fields
  dsimp only at g1 hl hp ⊢
  have b0 := (Below.refl w.heap.size w).alloc (Nat.le_refl _) (.cells #[.int .i64 cc, .slice x1_0 n1_0 c1_0] 24)
  have b1 := (Below.refl (w.alloc (.cells #[.int .i64 cc, .slice x1_0 n1_0 c1_0] 24)).heap.size (w.alloc (.cells #[.int .i64 cc, .slice x1_0 n1_0 c1_0] 24))).alloc (Nat.le_refl _) (.cells #[.int .i64 0, .slice none 0 0] 76)
  have b01 := b0.trans (b1.mono b0.size)
  have hX0 := (Ret.Blk.new w #[.int .i64 cc, .slice x1_0 n1_0 c1_0] 24).on b1
  have HX1 := Lib.hid (Ret.Blk.new' (w := (w.alloc (.cells #[.int .i64 cc, .slice x1_0 n1_0 c1_0] 24))) (n := w.heap.size + 1) #[.int .i64 0, .slice none 0 0] 76 (by simp))
  have HA := Lib.hid (g1.on b01); have HB := Lib.hid b01; have HL := Lib.hid hl; have HP := Lib.hid hp
  have q0 : ((w.alloc (.cells #[.int .i64 cc, .slice x1_0 n1_0 c1_0] 24)).alloc (.cells #[.int .i64 0, .slice none 0 0] 76)).cell? ⟨w.heap.size, 0, none⟩ = some (.int .i64 cc) := hX0.cell 0
  have q1 : ((w.alloc (.cells #[.int .i64 cc, .slice x1_0 n1_0 c1_0] 24)).alloc (.cells #[.int .i64 0, .slice none 0 0] 76)).cell? ⟨w.heap.size, 1, none⟩ = some (.slice x1_0 n1_0 c1_0) := hX0.cell 1
  have HS2 : Hid (((w.alloc (.cells #[.int .i64 cc, .slice x1_0 n1_0 c1_0] 24)).alloc (.cells #[.int .i64 0, .slice none 0 0] 76)).heap.size = w.heap.size + 2) := Lib.hid (by simp)
  clear b0 b1 b01 hX0 g1 hl hp
  go_enter Try.func59, Try.ntmps59
  go_wp2_with fail
  refine (implCloneWith _ _ _ cc l _ HA.out HL.out HP.out).mono ?_
  rintro e w1 ⟨U, rfl, hi, hb1⟩
  obtain ⟨m, rfl, hs, hi⟩ := hi.split
  obtain ⟨ce, r⟩ := m
  obtain ⟨xu, nu, cu, Lu⟩ := r
  obtain ⟨rfl, hsl⟩ : ce = cc ∧ Lu.map kCe.strip = l := by
    have e1 : (ce, Lu.map kCe.strip) = (cc, l) := hs
    injection e1 with e1 e2
    exact ⟨e1, e2⟩
  obtain ⟨-, hi2, -⟩ := Kd.Own.parts hi
  have hX1 := HX1.out.on hb1
  have r0 := hX1.frozen 0; have r1 := hX1.frozen 1; have r2 := hX1.cell 0; have r3 := hX1.cell 1
  have hi3 : kLCe.Own (w.heap.size + 2) w1.heap.size w1 ⟨xu, nu, cu, Lu⟩ := by rw [← HS2.out]; exact hi2
  have Z := Lib.hid ((hX1.set 0 (.int .i64 ce)).set 1 (.slice xu nu cu))
  have ZO := Lib.hid (own_setS (i := 1) (u := .slice xu nu cu) (own_setS (i := 0) (u := .int .i64 ce) hi3 (g := w.heap.size + 1) (by omega)) (g := w.heap.size + 1) (by omega))
  have ZB := Lib.hid (((HB.out.trans (hb1.mono HB.out.size)).setCell (p := ⟨w.heap.size + 1, 0, none⟩) (by show w.heap.size ≤ w.heap.size + 1; omega) (.int .i64 ce)).setCell (p := ⟨w.heap.size + 1, 1, none⟩) (by show w.heap.size ≤ w.heap.size + 1; omega) (.slice xu nu cu))
  have HSL := Lib.hid hsl
  clear q0 q1 hi hi2 hi3 hX1 hb1 hs hsl
  rw [show kCn.val ((ce, (⟨xu, nu, cu, Lu⟩ : Rw Cem)) : Cnm) = .agg #[.int .i64 ce, .slice xu nu cu] from rfl]
  go_wp2_with fail
  refine bodyPost_ret (Ret.results_c rfl _ _ (w.heap.size + 1) [.int .i64 ce, .slice xu nu cu] rfl aggSt Z.out.cells) rfl ?_
  exact ⟨_, rfl, cn_in ZO.out (by omega) HSL.out ZB.out.size, ZB.out⟩
end Go.Proofs.Ythfljbbigpophaa.Row
/- slices.DeleteFunc and slices.Delete on rows of entries of the content store. No conditions but that lengths fit. -/
namespace Go.Proofs.Ythfljbbigpophaa.Row
open Go.ChangeShapes Go.WideShapes Go.ChangeAt Go.RowKit Go.Instr
set_option linter.unusedVariables false
set_option maxRecDepth 100000
theorem zvCe (w : World) : (zeroValue 72).run Try.prog w = .ok (.agg #[.slice none 0 0, .slice none 0 0, .slice none 0 0, .int .i64 0, .int .i64 0, .int .i64 0]) w := by kernel_rfl
structure MidK {M : Type} [Inhabited M] (q : M → Bool) (L L' : List M) (i j : Nat) : Prop where
  len : L'.length = L.length
  head : L'.take i = (L.take j).filter q
  rest : ∀ r, j ≤ r → r < L.length → nth L' r = nth L r
  lt : i < j
theorem MidK.keep {M : Type} [Inhabited M] {q : M → Bool} {L L' : List M} {i j : Nat} (h : MidK q L L' i j) (hj : j < L.length) (hq : q (nth L j) = true) : MidK q L (L'.set i (nth L j)) (i + 1) (j + 1) := by
  have h1 := h.len
  have h2 := h.lt
  refine ⟨by simp [h1], ?_, fun r hr hr2 => ?_, by omega⟩
  · rw [List.take_succ_eq_append_getElem (by simp; omega), List.getElem_set_self, List.take_set_of_le (Nat.le_refl _), h.head, filter_nx hj hq]
  · rw [← h.rest r (by omega) hr2]
    simp only [nth, List.getD]
    rw [List.getElem?_set_ne (by omega)]
theorem MidK.skip {M : Type} [Inhabited M] {q : M → Bool} {L L' : List M} {i j : Nat} (h : MidK q L L' i j) (hj : j < L.length) (hq : q (nth L j) = false) : MidK q L L' i (j + 1) := by
  refine ⟨h.len, ?_, fun r hr hr2 => h.rest r (by omega) hr2, by have := h.lt; omega⟩
  rw [h.head, filter_sk hj hq]
theorem MidK.start {M : Type} [Inhabited M] {q : M → Bool} {L : List M} {i : Nat} (hi : i < L.length) (hn : ∀ j, j < i → q (nth L j) = true) (hp : q (nth L i) = false) : MidK q L L i (i + 1) := by
  refine ⟨rfl, ?_, fun r _ _ => rfl, by omega⟩
  rw [filter_sk hi hp]
  symm
  rw [List.filter_eq_self]
  intro x hx
  obtain ⟨j, hj, rfl⟩ := List.getElem_of_mem hx
  have hji : j < i := by simp at hj; omega
  have := hn j hji
  rw [nth_eq (by omega)] at this
  rw [List.getElem_take, this]
theorem el_keep {B C : Nat} {w w' : World} {r : Rw Cem} {y : Cem} (h : kLCe.Own B C w r) (hg : w.grownBy w' r.v.ownBlock) (hy : y ∈ r.els) : kCe.holds w' y := by
  have h2 : (r.v.ownBlock.toList ++ r.els.flatMap kCe.blocks).Nodup := h.2.1
  have h3 := List.nodup_append.1 h2
  exact kCe.own_holds (kCe.own_keep (h.1.2 y hy) (fun g hgy => hg.block g (kCe.own_lt (h.1.2 y hy) g hgy).2 (fun er => h3.2.2 g (by rw [← er]; simp) g (List.mem_flatMap.2 ⟨y, hy, hgy⟩) rfl)))
set_option maxHeartbeats 8000000 in
theorem delFNd (b0 : Addr) (p : Cet → Bool) (ok : Cet → Prop) (B : Nat) (r : Rw Cem) (w : World) (h : kLCe.Own B w.heap.size w r) (hl : r.els.length ≤ 1100000) (hp : ∀ x ∈ r.els.map kCe.strip, ok x) (hc : ClosR Try.prog kCe 95 #[.pointer (some b0)] p ok w r.v.ownBlock) :
    Calls Try.prog 94 #[r.v, .func (.func 95) #[] #[.pointer (some b0)]] w fun e w' => ∃ r' : Rw Cem, e = .returned r'.v ∧ kLCe.Own B w'.heap.size w' r' ∧ r'.els.map kCe.strip = (r.els.map kCe.strip).filter (fun x => !p x) ∧ r'.els.length ≤ r.els.length ∧ w.grownBy w' r.v.ownBlock := by
  obtain ⟨ad, n, cap, L⟩ := r
  dsimp only at hl hp ⊢
  have HI := Lib.hid (indexNd b0 p ok (Rw.v ⟨ad, n, cap, L⟩) (L.map kCe.strip) w _ rfl ⟨⟨ad, n, cap, L⟩, rfl, rfl, h.holds⟩ (by rw [List.length_map]; omega) hp hc.plain)
  have HFULL := Lib.hid h
  rcases h.1.1.form with ⟨hv, hL⟩ | ⟨g, cap', hv, g1, g2, g3, g4⟩
  · cases hv
    dsimp only at hL
    subst hL
    clear h hc
    show Calls Try.prog 94 #[.slice none 0 0, .func (.func 95) #[] #[.pointer (some b0)]] w _
    go_enter Try.func94, Try.ntmps94
    go_wp2_with fail
    refine HI.out.mono ?_
    rintro e w1 ⟨rfl, hb⟩
    have HB := Lib.hid hb
    have hx : ixL p (([] : List Cem).map kCe.strip) = -1 := by simp [ixL]
    rw [hx]
    clear hb hx
    go_wp2_with fail
    go_ret
    exact ⟨⟨none, 0, 0, []⟩, rfl, HFULL.out.upto HB.out, by simp, Nat.le_refl _, Sl.grown_of_below HB.out _⟩
  · replace hv : Value.slice ad n cap = .slice (some ⟨g, 0, none⟩) L.length cap' := hv
    cases hv
    dsimp only at g3 g4
    obtain ⟨n, hn⟩ : ∃ n, n = L.length := ⟨_, rfl⟩
    show Calls Try.prog 94 #[.slice (some ⟨g, 0, none⟩) L.length cap, .func (.func 95) #[] #[.pointer (some b0)]] w _
    replace HI := Lib.hid (show Calls Try.prog _ #[.slice (some ⟨g, 0, none⟩) L.length cap, .func (.func 95) #[] #[.pointer (some b0)]] w _ from HI.out)
    rw [← hn] at h g3 hl HI hc HFULL ⊢
    have HN := Lib.hid hn
    have HC := Lib.hid (show ClosR Try.prog kCe 95 #[.pointer (some b0)] p ok w (some g) from hc)
    have HP := Lib.hid hp
    clear hn h hc hp
    go_enter Try.func94, Try.ntmps94
    go_wp2_with fail
    refine HI.out.mono ?_
    rintro e w1 ⟨rfl, hb⟩
    have HG1 := Lib.hid (Sl.grown_of_below hb (some g))
    have HO1 := Lib.hid (HFULL.out.1.1.on hb)
    clear hb HI
    rcases ixL_cases p (L.map kCe.strip) with ⟨h1, h3⟩ | ⟨i0, hi, h1, h4, h5⟩
    · rw [h1]
      have HV : Hid ((L.map kCe.strip).filter (fun x => !p x) = L.map kCe.strip) := Lib.hid (by
        rw [List.filter_eq_self]
        intro x hx
        obtain ⟨j, hj, rfl⟩ := List.getElem_of_mem hx
        have := h3 j hj
        rw [nth_eq hj] at this
        simp only [this]; rfl)
      clear h1 h3
      go_wp2_with fail
      go_ret
      exact ⟨⟨some ⟨g, 0, none⟩, n, cap, L⟩, rfl, Kd.sub noRow_kCe HFULL.out (List.Sublist.refl _) HG1.out (fun g' e => e) HO1.out, HV.out.symm, (by show L.length ≤ n; rw [HN.out]; exact Nat.le_refl _), HG1.out⟩
    · rw [h1]
      rw [List.length_map] at hi
      have HM : Hid (MidK (fun m => !p (kCe.strip m)) L L i0 (i0 + 1)) := Lib.hid (MidK.start hi (fun j hj => by have := h5 j hj; rw [nth_map _ (by omega)] at this; rw [this]; rfl) (by rw [nth_map _ hi] at h4; rw [h4]; rfl))
      have hi0 : i0 + 1 ≤ n := by have := HN.out; omega
      have hne : ((i0 : Int) == -1) = false := by simp <;> omega
      clear h1 h4 h5 hi
      go_wp2_with fail
      go_loopw [5, 6] (fun iv jv wr => ∃ i j : Nat, j ≤ n ∧ i < j ∧ iv = .int .i64 i ∧ jv = .int .i64 j ∧ ∃ L' : List Cem, Hid (MidK (fun m => !p (kCe.strip m)) L L' i j) ∧ Hid (OwnK 72 kCe.cells 6 B wr (.slice (some ⟨g, 0, none⟩) n cap) L') ∧ Hid (w.grownBy wr (some g))) (fun _ jv _ => n - (intOf jv).toNat)
      case atStart => exact ⟨i0, i0 + 1, hi0, by omega, rfl, by go_num, L, HM, HO1, HG1⟩
      case round =>
        clear HO1 HM HG1
        obtain ⟨i, j, hj, hij, rfl, rfl, L', hM, ho, hg⟩ := hrel
        by_cases hlt : j < n
        · have hlen := HN.out
          have hjl : j < L.length := by omega
          have hln : n = L'.length := by rw [hM.out.len]; exact hlen
          have hnj : nth L' j = nth L j := hM.out.rest j (Nat.le_refl _) hjl
          have hho := el_keep HFULL.out hg.out (nth_mem hjl)
          obtain ⟨y0, m0, d0, y1, m1, d1, y2, m2, d2, e9, hA⟩ := kCe_shapeA (Kd.at_of (k := kCe) hho)
          have hce : kCe.cells (nth L j) = [.slice y0 m0 d0, .slice y1 m1 d1, .slice y2 m2 d2, .int .i64 (kCe.strip (nth L j)).1.2.2.2.1, .int .i64 (kCe.strip (nth L j)).1.2.2.2.2, .int .i64 (kCe.strip (nth L j)).2] := by injection e9 with e; exact congrArg Array.toList e
          have hcs : ∀ i', i' < 6 → wr.cell? ⟨g, j * 6 + i', none⟩ = ([.slice y0 m0 d0, .slice y1 m1 d1, .slice y2 m2 d2, .int .i64 (kCe.strip (nth L j)).1.2.2.2.1, .int .i64 (kCe.strip (nth L j)).1.2.2.2.2, .int .i64 (kCe.strip (nth L j)).2] : List Value)[i']? := fun i' hi' => by
            have := (ownK_cell szCe_cells ho.out hln (j := j) (i := i') (by omega) hi').1
            rw [hnj, hce] at this
            exact this
          have hc0 : wr.cell? ⟨g, j * 6, none⟩ = some (.slice y0 m0 d0) := hcs 0 (by decide)
          have hc1 : wr.cell? ⟨g, j * 6 + 1, none⟩ = some (.slice y1 m1 d1) := hcs 1 (by decide)
          have hc2 : wr.cell? ⟨g, j * 6 + 2, none⟩ = some (.slice y2 m2 d2) := hcs 2 (by decide)
          have hc3 : wr.cell? ⟨g, j * 6 + 3, none⟩ = some (.int .i64 (kCe.strip (nth L j)).1.2.2.2.1) := hcs 3 (by decide)
          have hc4 : wr.cell? ⟨g, j * 6 + 4, none⟩ = some (.int .i64 (kCe.strip (nth L j)).1.2.2.2.2) := hcs 4 (by decide)
          have hc5 : wr.cell? ⟨g, j * 6 + 5, none⟩ = some (.int .i64 (kCe.strip (nth L j)).2) := hcs 5 (by decide)
          have hal := (Below.refl wr.heap.size wr).alloc (Nat.le_refl _) (.cells #[.slice y0 m0 d0, .slice y1 m1 d1, .slice y2 m2 d2, .int .i64 (kCe.strip (nth L j)).1.2.2.2.1, .int .i64 (kCe.strip (nth L j)).1.2.2.2.2, .int .i64 (kCe.strip (nth L j)).2] 72)
          have HGA := Lib.hid (Go.World.grownBy.trans hg.out (Sl.grown_of_below hal (some g)))
          have HCL := Lib.hid (HC.out (kCe.strip (nth L j)) _ _ HGA.out (hA.on hal) (HP.out _ (List.mem_map.2 ⟨_, nth_mem hjl, rfl⟩)))
          have HOA := Lib.hid (ho.out.on hal)
          have hXE := Ret.Blk.new wr #[.slice y0 m0 d0, .slice y1 m1 d1, .slice y2 m2 d2, .int .i64 (kCe.strip (nth L j)).1.2.2.2.1, .int .i64 (kCe.strip (nth L j)).1.2.2.2.2, .int .i64 (kCe.strip (nth L j)).2] 72
          have HXE := Lib.hid hXE
          have HIL := Lib.hid (show i < L'.length by omega)
          have HLN := Lib.hid hln
          have HJL := Lib.hid hjl
          have HCE := Lib.hid hce
          have hin : i < n := by omega
          clear hcs hnj hlen hal hjl hln e9 hA hho hce hXE
          obtain ⟨q, hq⟩ : ∃ q, p (kCe.strip (nth L j)) = q := ⟨_, rfl⟩
          rw [hq] at HCL
          have HQ := Lib.hid hq; clear hq
          go_wp2_with fail
          refine HCL.out.mono ?_
          rintro e w2 ⟨rfl, hb2⟩
          have hx2 := HXE.out.on hb2
          have f0 : w2.cell? ⟨wr.heap.size, 0, none⟩ = some (.slice y0 m0 d0) := hx2.cell 0
          have f1 : w2.cell? ⟨wr.heap.size, 1, none⟩ = some (.slice y1 m1 d1) := hx2.cell 1
          have f2 : w2.cell? ⟨wr.heap.size, 2, none⟩ = some (.slice y2 m2 d2) := hx2.cell 2
          have f3 : w2.cell? ⟨wr.heap.size, 3, none⟩ = some (.int .i64 (kCe.strip (nth L j)).1.2.2.2.1) := hx2.cell 3
          have f4 : w2.cell? ⟨wr.heap.size, 4, none⟩ = some (.int .i64 (kCe.strip (nth L j)).1.2.2.2.2) := hx2.cell 4
          have f5 : w2.cell? ⟨wr.heap.size, 5, none⟩ = some (.int .i64 (kCe.strip (nth L j)).2) := hx2.cell 5
          have HO2 := Lib.hid (HOA.out.on hb2)
          have HG2 := Lib.hid (Go.World.grownBy.trans HGA.out (Sl.grown_of_below hb2 (some g)))
          clear hc0 hc1 hc2 hc3 hc4 hc5 hb2 hx2 HCL HXE
          cases q with
          | true =>
            have HMS := Lib.hid (hM.out.skip HJL.out (by rw [HQ.out]; rfl))
            clear f0 f1 f2 f3 f4 f5
            go_wp2_with fail
            go_roundw
            case rel => exact ⟨i, j + 1, by omega, by omega, rfl, by go_num, L', HMS, HO2, HG2⟩
            case measure => simp [intOf]; omega
          | false =>
            have HMS := Lib.hid (hM.out.keep HJL.out (by rw [HQ.out]; rfl))
            have hcc : ∀ i', i' < 6 → ∃ z, w2.cell? ⟨g, i * 6 + i', none⟩ = some z := fun i' hi' => ⟨_, (ownK_cell szCe_cells HO2.out HLN.out (j := i) (i := i') HIL.out hi').1.trans (List.getElem?_eq_getElem (by rw [kCe.len]; exact hi'))⟩
            have hff : ∀ i', i' < 6 → w2.frozen? ⟨g, i * 6 + i', none⟩ = false := fun i' hi' => (ownK_cell szCe_cells HO2.out HLN.out (j := i) (i := i') HIL.out hi').2
            obtain ⟨z0, r0⟩ := hcc 0 (by decide); obtain ⟨z1, r1⟩ := hcc 1 (by decide); obtain ⟨z2, r2⟩ := hcc 2 (by decide); obtain ⟨z3, r3⟩ := hcc 3 (by decide); obtain ⟨z4, r4⟩ := hcc 4 (by decide); obtain ⟨z5, r5⟩ := hcc 5 (by decide)
            have t0 := hff 0 (by decide); have t1 := hff 1 (by decide); have t2 := hff 2 (by decide); have t3 := hff 3 (by decide); have t4 := hff 4 (by decide); have t5 := hff 5 (by decide)
            rw [Nat.add_zero] at r0 t0
            have s1 := ownK_put szCe_cells HO2.out HLN.out HIL.out (nth L j)
            have s2 := setCells_grown g (kCe.cells (nth L j)) (i * 6) w2
            rw [HCE.out] at s1 s2
            have HS1 := Lib.hid (show OwnK 72 kCe.cells 6 B ((((((w2.setCell ⟨g, i * 6, none⟩ (.slice y0 m0 d0)).setCell ⟨g, i * 6 + 1, none⟩ (.slice y1 m1 d1)).setCell ⟨g, i * 6 + 2, none⟩ (.slice y2 m2 d2)).setCell ⟨g, i * 6 + 3, none⟩ (.int .i64 (kCe.strip (nth L j)).1.2.2.2.1)).setCell ⟨g, i * 6 + 4, none⟩ (.int .i64 (kCe.strip (nth L j)).1.2.2.2.2)).setCell ⟨g, i * 6 + 5, none⟩ (.int .i64 (kCe.strip (nth L j)).2)) _ _ from s1)
            have HS2 := Lib.hid (Go.World.grownBy.trans HG2.out (show w2.grownBy ((((((w2.setCell ⟨g, i * 6, none⟩ (.slice y0 m0 d0)).setCell ⟨g, i * 6 + 1, none⟩ (.slice y1 m1 d1)).setCell ⟨g, i * 6 + 2, none⟩ (.slice y2 m2 d2)).setCell ⟨g, i * 6 + 3, none⟩ (.int .i64 (kCe.strip (nth L j)).1.2.2.2.1)).setCell ⟨g, i * 6 + 4, none⟩ (.int .i64 (kCe.strip (nth L j)).1.2.2.2.2)).setCell ⟨g, i * 6 + 5, none⟩ (.int .i64 (kCe.strip (nth L j)).2)) (some g) from s2))
            clear hcc hff s1 s2
            go_wp2_with fail
            go_roundw
            case rel => exact ⟨i + 1, j + 1, by omega, by omega, by go_num, by go_num, _, HMS, HS1, HS2⟩
            case measure => simp [intOf]; omega
        · obtain rfl : j = n := by omega
          have hln : j = L'.length := by rw [hM.out.len]; exact HN.out
          have HKK := Lib.hid (show i + (j - i) = L'.length by omega)
          have HLN := Lib.hid hln
          have hpos : 0 < j - i := by omega
          have hi1 : i ≤ cap := by omega
          clear hlt hln
          go_wp2_with (refine wpList_clearK kindCe rfl zvCe rfl _ rfl Try.underlying22 (i := i) (k := j - i) rfl ho.out HKK.out hpos ?_)
          intro w3 ho3 hg3
          have HO3 := Lib.hid ho3
          have HG3 := Lib.hid (Go.World.grownBy.trans hg.out hg3)
          clear ho3 hg3
          go_wp2_with fail
          go_ret
          have hlen3 : (L'.take i ++ List.replicate (j - i) default).length = j := by have := HLN.out; simp; omega
          have hfin := HO3.out.take szCe_cells (i := i) (by omega)
          have htk : (L'.take i ++ List.replicate (j - i) default).take i = L'.take i := by
            have hl1 : (L'.take i).length = i := by have := HLN.out; rw [List.length_take]; omega
            conv => lhs; arg 1; rw [← hl1]
            rw [List.take_left]
          have hall : L.take j = L := List.take_of_length_le (by rw [← HN.out]; exact Nat.le_refl _)
          rw [htk, hM.out.head, hall] at hfin
          refine ⟨⟨some ⟨g, 0, none⟩, i, cap, L.filter (fun m => !p (kCe.strip m))⟩, rfl, Kd.sub noRow_kCe HFULL.out List.filter_sublist HG3.out (fun g' e => e) hfin, ?_, (by show (L.filter _).length ≤ j; rw [HN.out]; exact List.length_filter_le _ _), HG3.out⟩
          show (L.filter (fun m => !p (kCe.strip m))).map kCe.strip = (L.map kCe.strip).filter (fun x => !p x)
          rw [List.filter_map]
          rfl
set_option maxHeartbeats 2000000 in
theorem closEv (b : Nat) (now : Int) (w : World) (row : Option Nat) (hr : some b ≠ row) (hc : Ret.Blk w b #[.int .i64 now] 3) :
    ClosR Try.prog kCe 80 #[.pointer (some ⟨b, 0, none⟩)] (fun x => !frE now x) (fun _ => True) w row := by
  intro x V W hW hx _
  obtain ⟨x0, n0, c0, x1, n1, c1, x2, n2, c2, rfl, hx⟩ := kCe_shapeA hx
  have hcW := hc.grown hW hr
  have hB := (Below.refl W.heap.size W).alloc (Nat.le_refl _) (.cells #[.slice x0 n0 c0, .slice x1 n1 c1, .slice x2 n2 c2, .int .i64 x.1.2.2.2.1, .int .i64 x.1.2.2.2.2, .int .i64 x.2] 72)
  have hcA := hcW.on hB
  have hX := Ret.Blk.new W #[.slice x0 n0 c0, .slice x1 n1 c1, .slice x2 n2 c2, .int .i64 x.1.2.2.2.1, .int .i64 x.1.2.2.2.2, .int .i64 x.2] 72
  have q0 : (W.alloc (.cells #[.slice x0 n0 c0, .slice x1 n1 c1, .slice x2 n2 c2, .int .i64 x.1.2.2.2.1, .int .i64 x.1.2.2.2.2, .int .i64 x.2] 72)).cell? ⟨b, 0, none⟩ = some (.int .i64 now) := hcA.cell 0
  have f0 : (W.alloc (.cells #[.slice x0 n0 c0, .slice x1 n1 c1, .slice x2 n2 c2, .int .i64 x.1.2.2.2.1, .int .i64 x.1.2.2.2.2, .int .i64 x.2] 72)).cell? ⟨W.heap.size, 0, none⟩ = some (.slice x0 n0 c0) := hX.cell 0
  have f1 : (W.alloc (.cells #[.slice x0 n0 c0, .slice x1 n1 c1, .slice x2 n2 c2, .int .i64 x.1.2.2.2.1, .int .i64 x.1.2.2.2.2, .int .i64 x.2] 72)).cell? ⟨W.heap.size, 1, none⟩ = some (.slice x1 n1 c1) := hX.cell 1
  have f2 : (W.alloc (.cells #[.slice x0 n0 c0, .slice x1 n1 c1, .slice x2 n2 c2, .int .i64 x.1.2.2.2.1, .int .i64 x.1.2.2.2.2, .int .i64 x.2] 72)).cell? ⟨W.heap.size, 2, none⟩ = some (.slice x2 n2 c2) := hX.cell 2
  have f3 : (W.alloc (.cells #[.slice x0 n0 c0, .slice x1 n1 c1, .slice x2 n2 c2, .int .i64 x.1.2.2.2.1, .int .i64 x.1.2.2.2.2, .int .i64 x.2] 72)).cell? ⟨W.heap.size, 3, none⟩ = some (.int .i64 x.1.2.2.2.1) := hX.cell 3
  have f4 : (W.alloc (.cells #[.slice x0 n0 c0, .slice x1 n1 c1, .slice x2 n2 c2, .int .i64 x.1.2.2.2.1, .int .i64 x.1.2.2.2.2, .int .i64 x.2] 72)).cell? ⟨W.heap.size, 4, none⟩ = some (.int .i64 x.1.2.2.2.2) := hX.cell 4
  have HD := Lib.hid ((kCe_parts hx).1.on hB)
  have HB := Lib.hid hB
  clear hcW hB hcA hX hx hc hW hr
  go_enter Try.func80, Try.ntmps80
  go_wp2_with fail
  refine (iFrZ now _ rfl HD.out).mono ?_
  rintro e w1 ⟨rfl, hb⟩
  have HB2 := Lib.hid (HB.out.trans (hb.mono HB.out.size)); clear hb
  go_wp2_with fail
  go_ret
  exact ⟨rfl, HB2.out⟩
set_option maxHeartbeats 2000000 in
theorem indexEv (b0 : Addr) (p : Cet → Bool) (ok : Cet → Prop) (v : Value) (l : List Cet) (w : World) (z : Int) (hz : ixL p l = z) (h : kLCe.At w v l) (hl : l.length ≤ 9000000) (hp : ∀ x ∈ l, ok x) (hc : ClosK Try.prog kCe 80 #[.pointer (some b0)] p ok w) :
    Calls Try.prog 100 #[v, .func (.func 80) #[] #[.pointer (some b0)]] w fun e w' => e = .returned (.int .i64 z) ∧ Below w.heap.size w w' := by
  obtain ⟨x, n, cx, L, rfl, hn, ht, hh, hel⟩ := kLCe_at h
  have hlen : l.length = n := by rw [← ht, List.length_map]; exact hn.symm
  rw [hlen] at hl
  have hcap : n ≤ cx := by obtain ⟨x', n', cap', hv, hn', hc', -⟩ := hh.shapeN; cases hv; exact hc'
  have HN := Lib.hid hn; have HT := Lib.hid ht; have HH := Lib.hid hh; have HEL := Lib.hid hel; have HLEN := Lib.hid hlen; have HP := Lib.hid hp; have HC := Lib.hid hc; have HZ := Lib.hid hz
  clear hn h hh hc hp ht hel hlen hz
  go_enter Try.func100, Try.ntmps100
  go_wp2
  go_loopw [8] (fun iv wr => ∃ i : Nat, i ≤ n ∧ iv = .int .i64 i ∧ Hid (noL p l i) ∧ Hid (Below w.heap.size w wr)) (fun iv _ => n - (intOf iv).toNat)
  case atStart => exact ⟨0, Nat.zero_le _, rfl, Lib.hid (noL_zero _ _), Lib.hid (Below.refl _ _)⟩
  case round =>
    obtain ⟨k, hk, rfl, ha, hb⟩ := hrel
    by_cases hlt : k < n
    · have hlen := HN.out
      obtain ⟨b, off, y0, m0, d0, y1, m1, d1, y2, m2, d2, rfl, -, hc0, hc1, hc2, hc3, hc4, hc5, hA⟩ := kLCe_elem (HH.out.on hb.out) (fun y hy => kCe.holds_on (HEL.out y hy) hb.out) (j := k) (by omega)
      have hpt : nth l k = kCe.strip (nth L k) := by rw [← HT.out, nth_map _ (by omega)]
      have hps := HP.out (nth l k) (nth_mem (by have := HLEN.out; omega))
      rw [hpt] at hps
      obtain ⟨q, hq⟩ : ∃ q, p (kCe.strip (nth L k)) = q := ⟨_, rfl⟩
      have HCL := HC.out _ _ wr hb.out hA hps
      rw [hq] at HCL
      rw [← hpt] at hq
      replace HCL := Lib.hid HCL
      have HQ := Lib.hid hq
      clear hlen hpt hps hA hq
      go_wp2_with fail
      refine HCL.out.mono ?_
      rintro e w2 ⟨rfl, hb2⟩
      have HB2 := Lib.hid (hb.out.trans (hb2.mono hb.out.size))
      clear hb2 hc0 hc1 hc2 hc3 hc4 hc5 HCL
      cases q with
      | true =>
        have HV := Lib.hid (show z = (k : Int) from HZ.out.symm.trans (ixL_at (by have := HLEN.out; omega) ha.out HQ.out))
        go_wp2
        go_ret
        exact ⟨ret_int HV.out.symm, HB2.out⟩
      | false =>
        have HA := Lib.hid (noL_succ ha.out HQ.out)
        go_wp2
        go_roundw
        case rel => exact ⟨k + 1, by omega, by go_num, HA, HB2⟩
        case measure => simp [intOf]; omega
    · obtain rfl : k = n := by omega
      have HV := Lib.hid (show z = -1 from HZ.out.symm.trans (ixL_none (by rw [HLEN.out]; exact ha.out)))
      clear hlt
      go_wp2
      go_ret
      exact ⟨ret_int HV.out.symm, hb.out⟩
set_option maxHeartbeats 8000000 in
theorem delFEv (b0 : Addr) (p : Cet → Bool) (ok : Cet → Prop) (B : Nat) (r : Rw Cem) (w : World) (h : kLCe.Own B w.heap.size w r) (hl : r.els.length ≤ 1100000) (hp : ∀ x ∈ r.els.map kCe.strip, ok x) (hc : ClosR Try.prog kCe 80 #[.pointer (some b0)] p ok w r.v.ownBlock) :
    Calls Try.prog 94 #[r.v, .func (.func 80) #[] #[.pointer (some b0)]] w fun e w' => ∃ r' : Rw Cem, e = .returned r'.v ∧ kLCe.Own B w'.heap.size w' r' ∧ r'.els.map kCe.strip = (r.els.map kCe.strip).filter (fun x => !p x) ∧ r'.els.length ≤ r.els.length ∧ w.grownBy w' r.v.ownBlock := by
  obtain ⟨ad, n, cap, L⟩ := r
  dsimp only at hl hp ⊢
  have HI := Lib.hid (indexEv b0 p ok (Rw.v ⟨ad, n, cap, L⟩) (L.map kCe.strip) w _ rfl ⟨⟨ad, n, cap, L⟩, rfl, rfl, h.holds⟩ (by rw [List.length_map]; omega) hp hc.plain)
  have HFULL := Lib.hid h
  rcases h.1.1.form with ⟨hv, hL⟩ | ⟨g, cap', hv, g1, g2, g3, g4⟩
  · cases hv
    dsimp only at hL
    subst hL
    clear h hc
    show Calls Try.prog 94 #[.slice none 0 0, .func (.func 80) #[] #[.pointer (some b0)]] w _
    go_enter Try.func94, Try.ntmps94
    go_wp2_with fail
    refine HI.out.mono ?_
    rintro e w1 ⟨rfl, hb⟩
    have HB := Lib.hid hb
    have hx : ixL p (([] : List Cem).map kCe.strip) = -1 := by simp [ixL]
    rw [hx]
    clear hb hx
    go_wp2_with fail
    go_ret
    exact ⟨⟨none, 0, 0, []⟩, rfl, HFULL.out.upto HB.out, by simp, Nat.le_refl _, Sl.grown_of_below HB.out _⟩
  · replace hv : Value.slice ad n cap = .slice (some ⟨g, 0, none⟩) L.length cap' := hv
    cases hv
    dsimp only at g3 g4
    obtain ⟨n, hn⟩ : ∃ n, n = L.length := ⟨_, rfl⟩
    show Calls Try.prog 94 #[.slice (some ⟨g, 0, none⟩) L.length cap, .func (.func 80) #[] #[.pointer (some b0)]] w _
    replace HI := Lib.hid (show Calls Try.prog _ #[.slice (some ⟨g, 0, none⟩) L.length cap, .func (.func 80) #[] #[.pointer (some b0)]] w _ from HI.out)
    rw [← hn] at h g3 hl HI hc HFULL ⊢
    have HN := Lib.hid hn
    have HC := Lib.hid (show ClosR Try.prog kCe 80 #[.pointer (some b0)] p ok w (some g) from hc)
    have HP := Lib.hid hp
    clear hn h hc hp
    go_enter Try.func94, Try.ntmps94
    go_wp2_with fail
    refine HI.out.mono ?_
    rintro e w1 ⟨rfl, hb⟩
    have HG1 := Lib.hid (Sl.grown_of_below hb (some g))
    have HO1 := Lib.hid (HFULL.out.1.1.on hb)
    clear hb HI
    rcases ixL_cases p (L.map kCe.strip) with ⟨h1, h3⟩ | ⟨i0, hi, h1, h4, h5⟩
    · rw [h1]
      have HV : Hid ((L.map kCe.strip).filter (fun x => !p x) = L.map kCe.strip) := Lib.hid (by
        rw [List.filter_eq_self]
        intro x hx
        obtain ⟨j, hj, rfl⟩ := List.getElem_of_mem hx
        have := h3 j hj
        rw [nth_eq hj] at this
        simp only [this]; rfl)
      clear h1 h3
      go_wp2_with fail
      go_ret
      exact ⟨⟨some ⟨g, 0, none⟩, n, cap, L⟩, rfl, Kd.sub noRow_kCe HFULL.out (List.Sublist.refl _) HG1.out (fun g' e => e) HO1.out, HV.out.symm, (by show L.length ≤ n; rw [HN.out]; exact Nat.le_refl _), HG1.out⟩
    · rw [h1]
      rw [List.length_map] at hi
      have HM : Hid (MidK (fun m => !p (kCe.strip m)) L L i0 (i0 + 1)) := Lib.hid (MidK.start hi (fun j hj => by have := h5 j hj; rw [nth_map _ (by omega)] at this; rw [this]; rfl) (by rw [nth_map _ hi] at h4; rw [h4]; rfl))
      have hi0 : i0 + 1 ≤ n := by have := HN.out; omega
      have hne : ((i0 : Int) == -1) = false := by simp <;> omega
      clear h1 h4 h5 hi
      go_wp2_with fail
      go_loopw [5, 6] (fun iv jv wr => ∃ i j : Nat, j ≤ n ∧ i < j ∧ iv = .int .i64 i ∧ jv = .int .i64 j ∧ ∃ L' : List Cem, Hid (MidK (fun m => !p (kCe.strip m)) L L' i j) ∧ Hid (OwnK 72 kCe.cells 6 B wr (.slice (some ⟨g, 0, none⟩) n cap) L') ∧ Hid (w.grownBy wr (some g))) (fun _ jv _ => n - (intOf jv).toNat)
      case atStart => exact ⟨i0, i0 + 1, hi0, by omega, rfl, by go_num, L, HM, HO1, HG1⟩
      case round =>
        clear HO1 HM HG1
        obtain ⟨i, j, hj, hij, rfl, rfl, L', hM, ho, hg⟩ := hrel
        by_cases hlt : j < n
        · have hlen := HN.out
          have hjl : j < L.length := by omega
          have hln : n = L'.length := by rw [hM.out.len]; exact hlen
          have hnj : nth L' j = nth L j := hM.out.rest j (Nat.le_refl _) hjl
          have hho := el_keep HFULL.out hg.out (nth_mem hjl)
          obtain ⟨y0, m0, d0, y1, m1, d1, y2, m2, d2, e9, hA⟩ := kCe_shapeA (Kd.at_of (k := kCe) hho)
          have hce : kCe.cells (nth L j) = [.slice y0 m0 d0, .slice y1 m1 d1, .slice y2 m2 d2, .int .i64 (kCe.strip (nth L j)).1.2.2.2.1, .int .i64 (kCe.strip (nth L j)).1.2.2.2.2, .int .i64 (kCe.strip (nth L j)).2] := by injection e9 with e; exact congrArg Array.toList e
          have hcs : ∀ i', i' < 6 → wr.cell? ⟨g, j * 6 + i', none⟩ = ([.slice y0 m0 d0, .slice y1 m1 d1, .slice y2 m2 d2, .int .i64 (kCe.strip (nth L j)).1.2.2.2.1, .int .i64 (kCe.strip (nth L j)).1.2.2.2.2, .int .i64 (kCe.strip (nth L j)).2] : List Value)[i']? := fun i' hi' => by
            have := (ownK_cell szCe_cells ho.out hln (j := j) (i := i') (by omega) hi').1
            rw [hnj, hce] at this
            exact this
          have hc0 : wr.cell? ⟨g, j * 6, none⟩ = some (.slice y0 m0 d0) := hcs 0 (by decide)
          have hc1 : wr.cell? ⟨g, j * 6 + 1, none⟩ = some (.slice y1 m1 d1) := hcs 1 (by decide)
          have hc2 : wr.cell? ⟨g, j * 6 + 2, none⟩ = some (.slice y2 m2 d2) := hcs 2 (by decide)
          have hc3 : wr.cell? ⟨g, j * 6 + 3, none⟩ = some (.int .i64 (kCe.strip (nth L j)).1.2.2.2.1) := hcs 3 (by decide)
          have hc4 : wr.cell? ⟨g, j * 6 + 4, none⟩ = some (.int .i64 (kCe.strip (nth L j)).1.2.2.2.2) := hcs 4 (by decide)
          have hc5 : wr.cell? ⟨g, j * 6 + 5, none⟩ = some (.int .i64 (kCe.strip (nth L j)).2) := hcs 5 (by decide)
          have hal := (Below.refl wr.heap.size wr).alloc (Nat.le_refl _) (.cells #[.slice y0 m0 d0, .slice y1 m1 d1, .slice y2 m2 d2, .int .i64 (kCe.strip (nth L j)).1.2.2.2.1, .int .i64 (kCe.strip (nth L j)).1.2.2.2.2, .int .i64 (kCe.strip (nth L j)).2] 72)
          have HGA := Lib.hid (Go.World.grownBy.trans hg.out (Sl.grown_of_below hal (some g)))
          have HCL := Lib.hid (HC.out (kCe.strip (nth L j)) _ _ HGA.out (hA.on hal) (HP.out _ (List.mem_map.2 ⟨_, nth_mem hjl, rfl⟩)))
          have HOA := Lib.hid (ho.out.on hal)
          have hXE := Ret.Blk.new wr #[.slice y0 m0 d0, .slice y1 m1 d1, .slice y2 m2 d2, .int .i64 (kCe.strip (nth L j)).1.2.2.2.1, .int .i64 (kCe.strip (nth L j)).1.2.2.2.2, .int .i64 (kCe.strip (nth L j)).2] 72
          have HXE := Lib.hid hXE
          have HIL := Lib.hid (show i < L'.length by omega)
          have HLN := Lib.hid hln
          have HJL := Lib.hid hjl
          have HCE := Lib.hid hce
          have hin : i < n := by omega
          clear hcs hnj hlen hal hjl hln e9 hA hho hce hXE
          obtain ⟨q, hq⟩ : ∃ q, p (kCe.strip (nth L j)) = q := ⟨_, rfl⟩
          rw [hq] at HCL
          have HQ := Lib.hid hq; clear hq
          go_wp2_with fail
          refine HCL.out.mono ?_
          rintro e w2 ⟨rfl, hb2⟩
          have hx2 := HXE.out.on hb2
          have f0 : w2.cell? ⟨wr.heap.size, 0, none⟩ = some (.slice y0 m0 d0) := hx2.cell 0
          have f1 : w2.cell? ⟨wr.heap.size, 1, none⟩ = some (.slice y1 m1 d1) := hx2.cell 1
          have f2 : w2.cell? ⟨wr.heap.size, 2, none⟩ = some (.slice y2 m2 d2) := hx2.cell 2
          have f3 : w2.cell? ⟨wr.heap.size, 3, none⟩ = some (.int .i64 (kCe.strip (nth L j)).1.2.2.2.1) := hx2.cell 3
          have f4 : w2.cell? ⟨wr.heap.size, 4, none⟩ = some (.int .i64 (kCe.strip (nth L j)).1.2.2.2.2) := hx2.cell 4
          have f5 : w2.cell? ⟨wr.heap.size, 5, none⟩ = some (.int .i64 (kCe.strip (nth L j)).2) := hx2.cell 5
          have HO2 := Lib.hid (HOA.out.on hb2)
          have HG2 := Lib.hid (Go.World.grownBy.trans HGA.out (Sl.grown_of_below hb2 (some g)))
          clear hc0 hc1 hc2 hc3 hc4 hc5 hb2 hx2 HCL HXE
          cases q with
          | true =>
            have HMS := Lib.hid (hM.out.skip HJL.out (by rw [HQ.out]; rfl))
            clear f0 f1 f2 f3 f4 f5
            go_wp2_with fail
            go_roundw
            case rel => exact ⟨i, j + 1, by omega, by omega, rfl, by go_num, L', HMS, HO2, HG2⟩
            case measure => simp [intOf]; omega
          | false =>
            have HMS := Lib.hid (hM.out.keep HJL.out (by rw [HQ.out]; rfl))
            have hcc : ∀ i', i' < 6 → ∃ z, w2.cell? ⟨g, i * 6 + i', none⟩ = some z := fun i' hi' => ⟨_, (ownK_cell szCe_cells HO2.out HLN.out (j := i) (i := i') HIL.out hi').1.trans (List.getElem?_eq_getElem (by rw [kCe.len]; exact hi'))⟩
            have hff : ∀ i', i' < 6 → w2.frozen? ⟨g, i * 6 + i', none⟩ = false := fun i' hi' => (ownK_cell szCe_cells HO2.out HLN.out (j := i) (i := i') HIL.out hi').2
            obtain ⟨z0, r0⟩ := hcc 0 (by decide); obtain ⟨z1, r1⟩ := hcc 1 (by decide); obtain ⟨z2, r2⟩ := hcc 2 (by decide); obtain ⟨z3, r3⟩ := hcc 3 (by decide); obtain ⟨z4, r4⟩ := hcc 4 (by decide); obtain ⟨z5, r5⟩ := hcc 5 (by decide)
            have t0 := hff 0 (by decide); have t1 := hff 1 (by decide); have t2 := hff 2 (by decide); have t3 := hff 3 (by decide); have t4 := hff 4 (by decide); have t5 := hff 5 (by decide)
            rw [Nat.add_zero] at r0 t0
            have s1 := ownK_put szCe_cells HO2.out HLN.out HIL.out (nth L j)
            have s2 := setCells_grown g (kCe.cells (nth L j)) (i * 6) w2
            rw [HCE.out] at s1 s2
            have HS1 := Lib.hid (show OwnK 72 kCe.cells 6 B ((((((w2.setCell ⟨g, i * 6, none⟩ (.slice y0 m0 d0)).setCell ⟨g, i * 6 + 1, none⟩ (.slice y1 m1 d1)).setCell ⟨g, i * 6 + 2, none⟩ (.slice y2 m2 d2)).setCell ⟨g, i * 6 + 3, none⟩ (.int .i64 (kCe.strip (nth L j)).1.2.2.2.1)).setCell ⟨g, i * 6 + 4, none⟩ (.int .i64 (kCe.strip (nth L j)).1.2.2.2.2)).setCell ⟨g, i * 6 + 5, none⟩ (.int .i64 (kCe.strip (nth L j)).2)) _ _ from s1)
            have HS2 := Lib.hid (Go.World.grownBy.trans HG2.out (show w2.grownBy ((((((w2.setCell ⟨g, i * 6, none⟩ (.slice y0 m0 d0)).setCell ⟨g, i * 6 + 1, none⟩ (.slice y1 m1 d1)).setCell ⟨g, i * 6 + 2, none⟩ (.slice y2 m2 d2)).setCell ⟨g, i * 6 + 3, none⟩ (.int .i64 (kCe.strip (nth L j)).1.2.2.2.1)).setCell ⟨g, i * 6 + 4, none⟩ (.int .i64 (kCe.strip (nth L j)).1.2.2.2.2)).setCell ⟨g, i * 6 + 5, none⟩ (.int .i64 (kCe.strip (nth L j)).2)) (some g) from s2))
            clear hcc hff s1 s2
            go_wp2_with fail
            go_roundw
            case rel => exact ⟨i + 1, j + 1, by omega, by omega, by go_num, by go_num, _, HMS, HS1, HS2⟩
            case measure => simp [intOf]; omega
        · obtain rfl : j = n := by omega
          have hln : j = L'.length := by rw [hM.out.len]; exact HN.out
          have HKK := Lib.hid (show i + (j - i) = L'.length by omega)
          have HLN := Lib.hid hln
          have hpos : 0 < j - i := by omega
          have hi1 : i ≤ cap := by omega
          clear hlt hln
          go_wp2_with (refine wpList_clearK kindCe rfl zvCe rfl _ rfl Try.underlying22 (i := i) (k := j - i) rfl ho.out HKK.out hpos ?_)
          intro w3 ho3 hg3
          have HO3 := Lib.hid ho3
          have HG3 := Lib.hid (Go.World.grownBy.trans hg.out hg3)
          clear ho3 hg3
          go_wp2_with fail
          go_ret
          have hlen3 : (L'.take i ++ List.replicate (j - i) default).length = j := by have := HLN.out; simp; omega
          have hfin := HO3.out.take szCe_cells (i := i) (by omega)
          have htk : (L'.take i ++ List.replicate (j - i) default).take i = L'.take i := by
            have hl1 : (L'.take i).length = i := by have := HLN.out; rw [List.length_take]; omega
            conv => lhs; arg 1; rw [← hl1]
            rw [List.take_left]
          have hall : L.take j = L := List.take_of_length_le (by rw [← HN.out]; exact Nat.le_refl _)
          rw [htk, hM.out.head, hall] at hfin
          refine ⟨⟨some ⟨g, 0, none⟩, i, cap, L.filter (fun m => !p (kCe.strip m))⟩, rfl, Kd.sub noRow_kCe HFULL.out List.filter_sublist HG3.out (fun g' e => e) hfin, ?_, (by show (L.filter _).length ≤ j; rw [HN.out]; exact List.length_filter_le _ _), HG3.out⟩
          show (L.filter (fun m => !p (kCe.strip m))).map kCe.strip = (L.map kCe.strip).filter (fun x => !p x)
          rw [List.filter_map]
          rfl
theorem holds_rest {w : World} {g n cap i : Nat} {L : List Cem} (h : HoldsK kCe.cells 6 w (.slice (some ⟨g, 0, none⟩) n cap) L) (hi : i ≤ L.length) : HoldsK kCe.cells 6 w (.slice (if cap = i then some ⟨g, 0, none⟩ else some ⟨g, i * 6, none⟩) (n - i) (cap - i)) (L.drop i) := by
  have hn := h.lenEq
  obtain ⟨x', n', cap', hv, hn', hc', -⟩ := h.shapeN
  cases hv
  by_cases e : cap = i
  · rw [if_pos e]
    exact holds_dropIf szCe_cells h hi (Or.inr (by omega))
  · rw [if_neg e]
    exact holds_dropIf szCe_cells h hi (Or.inl (by rw [Nat.zero_add]))
set_option maxHeartbeats 8000000 in
theorem delOne (B : Nat) (r : Rw Cem) (i : Nat) (w : World) (h : kLCe.Own B w.heap.size w r) (hi : i < r.els.length) (hl : r.els.length ≤ 1100000) :
    Calls Try.prog 97 #[r.v, .int .i64 i, .int .i64 ((i : Int) + 1)] w fun e w' => ∃ r' : Rw Cem, e = .returned r'.v ∧ kLCe.Own B w'.heap.size w' r' ∧ r'.els = r.els.eraseIdx i ∧ w.grownBy w' r.v.ownBlock := by
  obtain ⟨ad, n, cap, L⟩ := r
  dsimp only at hl hi ⊢
  have HFULL := Lib.hid h
  rcases h.1.1.form with ⟨hv, hL⟩ | ⟨g, cap', hv, g1, g2, g3, g4⟩
  · dsimp only at hL
    rw [hL] at hi
    exact absurd hi (by simp)
  · replace hv : Value.slice ad n cap = .slice (some ⟨g, 0, none⟩) L.length cap' := hv
    cases hv
    dsimp only at g3 g4
    obtain ⟨N, hN⟩ : ∃ N, L.length = N + 1 := ⟨L.length - 1, by omega⟩
    show Calls Try.prog 97 #[.slice (some ⟨g, 0, none⟩) L.length cap, .int .i64 i, .int .i64 ((i : Int) + 1)] w _
    have hh := h.1.1.holds
    have hO : OwnK 72 kCe.cells 6 B w (.slice (some ⟨g, 0, none⟩) i cap) (L.take i) := h.1.1.take szCe_cells (i := i) (by show i ≤ L.length; omega)
    have hR := holds_rest (i := i + 1) (show HoldsK kCe.cells 6 w (.slice (some ⟨g, 0, none⟩) L.length cap) L from hh) (by omega)
    have hroom : (L.take i).length + (L.drop (i + 1)).length ≤ cap := by rw [List.length_take, List.length_drop]; omega
    have hsum : (L.take i).length + (L.drop (i + 1)).length = N := by rw [List.length_take, List.length_drop]; omega
    have hne : ((i : Int) == (i : Int) + 1) = false := by simp <;> omega
    obtain ⟨j, hj⟩ : ∃ j, j = i + 1 := ⟨_, rfl⟩
    have hg2 : (i : Int) + 1 = (j : Int) := by omega
    rw [hg2] at hne ⊢
    rw [← hj] at hR hroom hsum
    rw [hN] at hR hi hl g3 ⊢
    have hi2 : i ≤ N := by omega
    have hij : i ≤ j := by omega
    have hjN : j ≤ N + 1 := by omega
    have hjc : j ≤ cap := by omega
    have hic : i ≤ cap := by omega
    have u1 : (i : Int) ≤ (j : Int) := by omega
    have u2 : (j : Int) ≤ (N : Int) + 1 := by omega
    have u3 : (N : Int) + 1 ≤ (cap : Int) := by omega
    have HJ := Lib.hid hj
    clear hj hg2 hN
    have HO := Lib.hid (hO.on (Below.refl _ _).drew); have HR := Lib.hid (hR.on (Below.refl w.heap.size w).drew); have HRM := Lib.hid hroom; have HSM := Lib.hid hsum
    clear hh hO hR hroom hsum h
    go_enter Try.func97, Try.ntmps97
    go_wp2_with fail
    go_region_law (refine step_appFits kindCe (B := B) (g := g) (n := i) (cap := cap) (l := L.take i) (m := L.drop j) rfl _ _ (by rfl) Try.underlying22 (by rfl) (by rfl) HO.out HR.out HRM.out ?_; intro w4 M hM ho4 hg4; rw [HSM.out] at hM; subst hM; have HO4 := Lib.hid ho4; have HG4 := Lib.hid hg4; clear ho4 hg4)
    all_goals
      clear HR
      generalize (if cap = j then (some ⟨g, 0, none⟩ : Option Addr) else some ⟨g, j * 6, none⟩) = xo7
      have hc1 : M + 1 ≤ cap := by omega
      have hML : M = (L.take i ++ L.drop j).length := by rw [List.length_append, HSM.out]
      have HML := Lib.hid hML; clear hML
      go_wp2_with (refine wpList_clearPast kindCe rfl zvCe rfl _ rfl Try.underlying22 (i := M) (k := 1) rfl HO4.out HML.out hc1 (by decide) ?_)
      intro w5 ho5 hg5
      have HO5 := Lib.hid ho5; have HG5 := Lib.hid (Go.World.grownBy.trans (Go.World.grownBy.trans (Sl.grown_of_below (Below.refl w.heap.size w).drew (some g)) HG4.out) hg5)
      clear ho5 hg5
      go_wp2_with fail
      go_ret
      exact ⟨⟨some ⟨g, 0, none⟩, M, _, L.take i ++ L.drop j⟩, rfl, Kd.sub noRow_kCe HFULL.out (by rw [HJ.out, ← erase_parts]; exact List.eraseIdx_sublist _ _) HG5.out (fun g' e => e) HO5.out, by rw [HJ.out]; exact (erase_parts L i).symm, HG5.out⟩
end Go.Proofs.Ythfljbbigpophaa.Row
/- The program's content store: remove, leastUsed, add, CacheData, EvictStale, Touch. No conditions but that lengths fit. -/
namespace Go.Proofs.Ythfljbbigpophaa.Row
open Go.ChangeShapes Go.WideShapes Go.ChangeAt Go.RowKit Go.Instr
set_option linter.unusedVariables false
set_option maxRecDepth 100000
theorem iLast (x0 x1 x2 : Option Addr) (n0 c0 n1 c1 n2 c2 : Nat) (f s u : Int) (w : World) :
    Calls Try.prog 65 #[.agg #[.slice x0 n0 c0, .slice x1 n1 c1, .slice x2 n2 c2, .int .i64 f, .int .i64 s, .int .i64 u]] w fun e w' => e = .returned (.int .i64 u) ∧ Below w.heap.size w w' := by
  have HB := Lib.hid ((Below.refl w.heap.size w).alloc (Nat.le_refl _) (.cells #[.slice x0 n0 c0, .slice x1 n1 c1, .slice x2 n2 c2, .int .i64 f, .int .i64 s, .int .i64 u] 72))
  go_enter Try.func65, Try.ntmps65
  go_wp2
  go_ret
  exact ⟨rfl, HB.out⟩
set_option maxRecDepth 100000 in
set_option maxHeartbeats 4000000 in
theorem rlu {Q : Exit → Act → World → Prop} {v0 v3 v4 v6 v8 v9 v10 v11 v12 v13 v14 v15 v16 v17 v18 v19 v20 v21 v22 v23 v24 v25 v26 v27 v28 v29 : Value} {w : World} {b off n c g p k na ca nb cb nc cc_ nd cd ne ce nf cf : Nat} {xa xb xc xd xe xf : Option Addr} {f1 s1 u1 f2 s2 u2 : Int} (hk : k < n) (hkc : k ≤ c) (hn : n ≤ 9000000) (K1 : Hid (w.cell? ⟨g, 1, none⟩ = some (.slice (some ⟨b, off, none⟩) n c))) (E0 : Hid (w.cell? ⟨p, 0, none⟩ = some (.slice xa na ca))) (E1 : Hid (w.cell? ⟨p, 1, none⟩ = some (.slice xb nb cb))) (E2 : Hid (w.cell? ⟨p, 2, none⟩ = some (.slice xc nc cc_))) (E3 : Hid (w.cell? ⟨p, 3, none⟩ = some (.int .i64 f1))) (E4 : Hid (w.cell? ⟨p, 4, none⟩ = some (.int .i64 s1))) (E5 : Hid (w.cell? ⟨p, 5, none⟩ = some (.int .i64 u1))) (J0 : Hid (w.cell? ⟨b, off + k * 6, none⟩ = some (.slice xd nd cd))) (J1 : Hid (w.cell? ⟨b, off + k * 6 + 1, none⟩ = some (.slice xe ne ce))) (J2 : Hid (w.cell? ⟨b, off + k * 6 + 2, none⟩ = some (.slice xf nf cf))) (J3 : Hid (w.cell? ⟨b, off + k * 6 + 3, none⟩ = some (.int .i64 f2))) (J4 : Hid (w.cell? ⟨b, off + k * 6 + 4, none⟩ = some (.int .i64 s2))) (J5 : Hid (w.cell? ⟨b, off + k * 6 + 5, none⟩ = some (.int .i64 u2)))
  (hQ : ∀ (u16 u17 u18 u19 u20 u21 u22 u23 u24 u25 : Value)  (wx : World), Below w.heap.size w wx → Q .normal ⟨#[v0, .func (.func 65) #[] #[], .pointer (some ⟨g, 0, none⟩), v3, v4, .int .i64 k, v6, .pointer (some ⟨p, 0, none⟩), v8, v9, v10, v11, v12, v13, v14, v15, u16, u17, u18, u19, u20, u21, u22, u23, u24, u25, .bool (decide (u1 < u2)), v27, v28, v29], []⟩ wx) :
  (Code.region 5 #[⟨some 16, .move (.tmp 1), 88, "l12_cache.go:55", #[], none⟩,
   ⟨some 17, .load 72 (.tmp 7), 72, "l12_cache.go:55", #[], none⟩,
   ⟨some 18, .call ⟨.value (.tmp 16), #[.tmp 17], #[72]⟩, 3, "l12_cache.go:55", #[⟨0, .data⟩, ⟨1, .data⟩], none⟩,
   ⟨some 19, .move (.tmp 1), 88, "l12_cache.go:55", #[], none⟩,
   ⟨some 20, .fieldAddr 76 (.tmp 2) 1, 0, "l12_cache.go:55", #[], none⟩,
   ⟨some 21, .load 22 (.tmp 20), 22, "l12_cache.go:55", #[⟨4, .data⟩], none⟩,
   ⟨some 22, .move (.tmp 5), 3, "l12_cache.go:55", #[], none⟩,
   ⟨some 23, .indexAddr 22 (.tmp 21) (.tmp 22), 0, "l12_cache.go:55", #[⟨5, .data⟩, ⟨6, .data⟩], none⟩,
   ⟨some 24, .load 72 (.tmp 23), 72, "l12_cache.go:55", #[⟨7, .data⟩], none⟩,
   ⟨some 25, .call ⟨.value (.tmp 19), #[.tmp 24], #[72]⟩, 3, "l12_cache.go:55", #[⟨3, .data⟩, ⟨8, .data⟩, ⟨2, .chain⟩], none⟩,
   ⟨some 26, .binOp BinOp.lss 3 (.tmp 18) (.tmp 25) 3, 4, "l12_cache.go:55", #[⟨2, .data⟩, ⟨9, .data⟩], none⟩] true).wp Try.prog Q ⟨#[v0, .func (.func 65) #[] #[], .pointer (some ⟨g, 0, none⟩), v3, v4, .int .i64 k, v6, .pointer (some ⟨p, 0, none⟩), v8, v9, v10, v11, v12, v13, v14, v15, v16, v17, v18, v19, v20, v21, v22, v23, v24, v25, v26, v27, v28, v29], []⟩ w := by
 have HQ := Lib.hid hQ; clear hQ
 have hdr : Below w.heap.size w w.drew := (Below.refl _ _).drew
 have BB := Lib.hid hdr
 refine wp_region_noPanic ?_
 refine wp_region_held_drew (S := (fun w' => w'.cell? ⟨g, 1, none⟩ = some (.slice (some ⟨b, off, none⟩) n c) ∧ w'.cell? ⟨p, 0, none⟩ = some (.slice xa na ca) ∧ w'.cell? ⟨p, 1, none⟩ = some (.slice xb nb cb) ∧ w'.cell? ⟨p, 2, none⟩ = some (.slice xc nc cc_) ∧ w'.cell? ⟨p, 3, none⟩ = some (.int .i64 f1) ∧ w'.cell? ⟨p, 4, none⟩ = some (.int .i64 s1) ∧ w'.cell? ⟨p, 5, none⟩ = some (.int .i64 u1) ∧ w'.cell? ⟨b, off + k * 6, none⟩ = some (.slice xd nd cd) ∧ w'.cell? ⟨b, off + k * 6 + 1, none⟩ = some (.slice xe ne ce) ∧ w'.cell? ⟨b, off + k * 6 + 2, none⟩ = some (.slice xf nf cf) ∧ w'.cell? ⟨b, off + k * 6 + 3, none⟩ = some (.int .i64 f2) ∧ w'.cell? ⟨b, off + k * 6 + 4, none⟩ = some (.int .i64 s2) ∧ w'.cell? ⟨b, off + k * 6 + 5, none⟩ = some (.int .i64 u2))) (by kernel_rfl) ?_ (fun hHeld => ?_)
 ·
  exact ⟨kc K1.out BB.out, kc E0.out BB.out, kc E1.out BB.out, kc E2.out BB.out, kc E3.out BB.out, kc E4.out BB.out, kc E5.out BB.out, kc J0.out BB.out, kc J1.out BB.out, kc J2.out BB.out, kc J3.out BB.out, kc J4.out BB.out, kc J5.out BB.out⟩
 clear hdr
 generalize w.drew = wd at *
 refine wpAnyH_take (i := 0) (oi := ⟨some 16, .move (.tmp 1), 88, "l12_cache.go:55", #[], none⟩) (v := ?_) rfl (by kernel_rfl) (by kernel_rfl) (by kernel_rfl) (fun _ _ _ h => h) (Or.inl ⟨by rfl, ?_⟩) (by assumption) ?_
 rotate_left
 ·
  intro w' hSw; (try dsimp only at hSw); first | (go_simp; done) | (go_simp; with_reducible rfl)
 (try simp only [Act.put, Row.pB0, Row.pB1, Row.pB2])
 refine wpAnyH_take (i := 1) (oi := ⟨some 17, .load 72 (.tmp 7), 72, "l12_cache.go:55", #[], none⟩) (v := ?_) rfl (by kernel_rfl) (by kernel_rfl) (by kernel_rfl) (fun _ _ _ h => h) (Or.inl ⟨by rfl, ?_⟩) (by assumption) ?_
 rotate_left
 ·
  intro w' hSw; (try dsimp only at hSw); first | (go_simp; done) | (go_simp; with_reducible rfl)
 (try simp only [Act.put, Row.pB0, Row.pB1, Row.pB2])
 refine wpAnyH_take (i := 3) (oi := ⟨some 19, .move (.tmp 1), 88, "l12_cache.go:55", #[], none⟩) (v := ?_) rfl (by kernel_rfl) (by kernel_rfl) (by kernel_rfl) (fun _ _ _ h => h) (Or.inl ⟨by rfl, ?_⟩) (by assumption) ?_
 rotate_left
 ·
  intro w' hSw; (try dsimp only at hSw); first | (go_simp; done) | (go_simp; with_reducible rfl)
 (try simp only [Act.put, Row.pB0, Row.pB1, Row.pB2])
 refine wpAnyH_take (i := 4) (oi := ⟨some 20, .fieldAddr 76 (.tmp 2) 1, 0, "l12_cache.go:55", #[], none⟩) (v := ?_) rfl (by kernel_rfl) (by kernel_rfl) (by kernel_rfl) (fun _ _ _ h => h) (Or.inl ⟨by rfl, ?_⟩) (by assumption) ?_
 rotate_left
 ·
  intro w' hSw; (try dsimp only at hSw); first | (go_simp; done) | (go_simp; with_reducible rfl)
 (try simp only [Act.put, Row.pB0, Row.pB1, Row.pB2])
 refine wpAnyH_take (i := 5) (oi := ⟨some 21, .load 22 (.tmp 20), 22, "l12_cache.go:55", #[⟨4, .data⟩], none⟩) (v := ?_) rfl (by kernel_rfl) (by kernel_rfl) (by kernel_rfl) (fun _ _ _ h => h) (Or.inl ⟨by rfl, ?_⟩) (by assumption) ?_
 rotate_left
 ·
  intro w' hSw; (try dsimp only at hSw); first | (go_simp; done) | (go_simp; with_reducible rfl)
 (try simp only [Act.put, Row.pB0, Row.pB1, Row.pB2])
 refine wpAnyH_take (i := 6) (oi := ⟨some 22, .move (.tmp 5), 3, "l12_cache.go:55", #[], none⟩) (v := ?_) rfl (by kernel_rfl) (by kernel_rfl) (by kernel_rfl) (fun _ _ _ h => h) (Or.inl ⟨by rfl, ?_⟩) (by assumption) ?_
 rotate_left
 ·
  intro w' hSw; (try dsimp only at hSw); first | (go_simp; done) | (go_simp; with_reducible rfl)
 (try simp only [Act.put, Row.pB0, Row.pB1, Row.pB2])
 refine wpAnyH_take (i := 7) (oi := ⟨some 23, .indexAddr 22 (.tmp 21) (.tmp 22), 0, "l12_cache.go:55", #[⟨5, .data⟩, ⟨6, .data⟩], none⟩) (v := ?_) rfl (by kernel_rfl) (by kernel_rfl) (by kernel_rfl) (fun _ _ _ h => h) (Or.inl ⟨by rfl, ?_⟩) (by assumption) ?_
 rotate_left
 ·
  intro w' hSw; (try dsimp only at hSw); first | (go_simp; done) | (go_simp; with_reducible rfl)
 (try simp only [Act.put, Row.pB0, Row.pB1, Row.pB2])
 refine wpAnyH_take (i := 8) (oi := ⟨some 24, .load 72 (.tmp 23), 72, "l12_cache.go:55", #[⟨7, .data⟩], none⟩) (v := ?_) rfl (by kernel_rfl) (by kernel_rfl) (by kernel_rfl) (fun _ _ _ h => h) (Or.inl ⟨by rfl, ?_⟩) (by assumption) ?_
 rotate_left
 ·
  intro w' hSw; (try dsimp only at hSw); first | (go_simp; done) | (go_simp; with_reducible rfl)
 (try simp only [Act.put, Row.pB0, Row.pB1, Row.pB2])
 refine wpAnyH_ready (rs := [2]) (by kernel_rfl) (by simp) ?_
 refine AllReadyH.cons (o := ⟨some 18, .call ⟨.value (.tmp 16), #[.tmp 17], #[72]⟩, 3, "l12_cache.go:55", #[⟨0, .data⟩, ⟨1, .data⟩], none⟩) rfl (fun K hK => ?_) AllReadyH.nil
 go_simp
 refine (iLast _ _ _ _ _ _ _ _ _ _ _ _ _).mono ?_
 rintro e wn1 ⟨rfl, hb⟩
 replace BB := Lib.hid (BB.out.trans (hb.mono BB.out.size))
 clear hb
 (try go_wp2_with fail)
 clear hHeld
 refine hK.out _ _ ?_ (fun hHeld => ?_)
 ·
  (try dsimp only); exact ⟨kc K1.out BB.out, kc E0.out BB.out, kc E1.out BB.out, kc E2.out BB.out, kc E3.out BB.out, kc E4.out BB.out, kc E5.out BB.out, kc J0.out BB.out, kc J1.out BB.out, kc J2.out BB.out, kc J3.out BB.out, kc J4.out BB.out, kc J5.out BB.out⟩
 clear hK K
 (try simp only [Act.put, Row.pB0, Row.pB1, Row.pB2])
 refine wpAnyH_ready (rs := [9]) (by kernel_rfl) (by simp) ?_
 refine AllReadyH.cons (o := ⟨some 25, .call ⟨.value (.tmp 19), #[.tmp 24], #[72]⟩, 3, "l12_cache.go:55", #[⟨3, .data⟩, ⟨8, .data⟩, ⟨2, .chain⟩], none⟩) rfl (fun K hK => ?_) AllReadyH.nil
 go_simp
 refine (iLast _ _ _ _ _ _ _ _ _ _ _ _ _).mono ?_
 rintro e wn2 ⟨rfl, hb⟩
 replace BB := Lib.hid (BB.out.trans (hb.mono BB.out.size))
 clear hb
 (try go_wp2_with fail)
 clear hHeld
 refine hK.out _ _ ?_ (fun hHeld => ?_)
 ·
  (try dsimp only); exact ⟨kc K1.out BB.out, kc E0.out BB.out, kc E1.out BB.out, kc E2.out BB.out, kc E3.out BB.out, kc E4.out BB.out, kc E5.out BB.out, kc J0.out BB.out, kc J1.out BB.out, kc J2.out BB.out, kc J3.out BB.out, kc J4.out BB.out, kc J5.out BB.out⟩
 clear hK K
 (try simp only [Act.put, Row.pB0, Row.pB1, Row.pB2])
 refine wpAnyH_take (i := 10) (oi := ⟨some 26, .binOp BinOp.lss 3 (.tmp 18) (.tmp 25) 3, 4, "l12_cache.go:55", #[⟨2, .data⟩, ⟨9, .data⟩], none⟩) (v := ?_) rfl (by kernel_rfl) (by kernel_rfl) (by kernel_rfl) (fun _ _ _ h => h) (Or.inl ⟨by rfl, ?_⟩) (by assumption) ?_
 rotate_left
 ·
  intro w' hSw; (try dsimp only at hSw); first | (go_simp; done) | (go_simp; with_reducible rfl)
 (try simp only [Act.put, Row.pB0, Row.pB1, Row.pB2])
 refine wpAnyH_done (by kernel_rfl) ?_ _
 exact NoPanic.normal (HQ.out _ _ _ _ _ _ _ _ _ _  _  BB.out)
set_option maxHeartbeats 8000000 in
theorem iLeast (x : Option Addr) (n c : Nat) (cc : Int) (l : List Cet) (w : World) (h : kLCe.At w (.slice x n c) l) (hl : l.length ≤ 9000000) (z : Nat) (hz : leastE l l.length = z) :
    Calls Try.prog 96 #[.agg #[.int .i64 cc, .slice x n c], .func (.func 65) #[] #[]] w fun e w' => e = .returned (.int .i64 z) ∧ Below w.heap.size w w' := by
  obtain ⟨x', n', c', L, e9, hn, ht, hh, hel⟩ := kLCe_at h
  cases e9
  have hlen : l.length = n := by rw [← ht, List.length_map]; exact hn.symm
  rw [hlen] at hl hz
  have hcap : n ≤ c := by obtain ⟨x', n', cap', hv, hn', hc', -⟩ := hh.shapeN; cases hv; exact hc'
  have HX := Lib.hid (Ret.Blk.new w #[.int .i64 cc, .slice x n c] 76)
  have HB := Lib.hid ((Below.refl w.heap.size w).alloc (Nat.le_refl _) (.cells #[.int .i64 cc, .slice x n c] 76)); have HZ := Lib.hid hz
  have HN := Lib.hid hn; have HT := Lib.hid ht; have HH := Lib.hid hh; have HEL := Lib.hid hel; have HLEN := Lib.hid hlen
  clear hn ht hh hel hlen h hz
  go_enter Try.func96, Try.ntmps96
  go_wp2
  go_loopw [5, 11] (fun lv iv wr => ∃ i : Nat, i ≤ n ∧ iv = .int .i64 i ∧ ∃ j : Nat, lv = .int .i64 j ∧ Hid (j = leastE l i) ∧ (j < i ∨ j = 0) ∧ Hid (Ret.Blk wr w.heap.size #[.int .i64 cc, .slice x n c] 76) ∧ Hid (Below w.heap.size w wr)) (fun _ iv _ => n - (intOf iv).toNat)
  case atStart => exact ⟨0, Nat.zero_le _, rfl, 0, rfl, Lib.hid rfl, Or.inr rfl, HX, HB⟩
  case round =>
    obtain ⟨k, hk, rfl, j, rfl, hj, hjk, hx, hb⟩ := hrel
    by_cases hlt : k < n
    · have hlen := HN.out
      have hjn : j < n := by omega
      obtain ⟨b, off, y0, m0, d0, y1, m1, d1, y2, m2, d2, rfl, -, hc0, hc1, hc2, hc3, hc4, hc5, hA⟩ := kLCe_elem (HH.out.on hb.out) (fun y hy => kCe.holds_on (HEL.out y hy) hb.out) (j := k) (by omega)
      have hpt : nth l k = kCe.strip (nth L k) := by rw [← HT.out, nth_map _ (by omega)]
      obtain ⟨b', off', z0, m3, d3, z1, m4, d4, z2, m5, d5, e8, -, gc0, gc1, gc2, gc3, gc4, gc5, -⟩ := kLCe_elem (HH.out.on hb.out) (fun y hy => kCe.holds_on (HEL.out y hy) hb.out) (j := j) (by omega)
      cases e8
      have hpj : nth l j = kCe.strip (nth L j) := by rw [← HT.out, nth_map _ (by omega)]
      rw [← hpt] at hc3 hc4 hc5
      rw [← hpj] at gc3 gc4 gc5
      have hal := (Below.refl wr.heap.size wr).alloc (Nat.le_refl _) (.cells #[.slice y0 m0 d0, .slice y1 m1 d1, .slice y2 m2 d2, .int .i64 (nth l k).1.2.2.2.1, .int .i64 (nth l k).1.2.2.2.2, .int .i64 (nth l k).2] 72)
      have hXE := Ret.Blk.new wr #[.slice y0 m0 d0, .slice y1 m1 d1, .slice y2 m2 d2, .int .i64 (nth l k).1.2.2.2.1, .int .i64 (nth l k).1.2.2.2.2, .int .i64 (nth l k).2] 72
      have hx2 := Lib.hid (hx.out.on hal); have hb2 := Lib.hid (hb.out.trans (hal.mono hb.out.size))
      have F0 := Lib.hid (hXE.cell 0); have F1 := Lib.hid (hXE.cell 1); have F2 := Lib.hid (hXE.cell 2); have F3 := Lib.hid (hXE.cell 3); have F4 := Lib.hid (hXE.cell 4); have F5 := Lib.hid (hXE.cell 5)
      have J0 := Lib.hid (kc gc0 hal); have J1 := Lib.hid (kc gc1 hal); have J2 := Lib.hid (kc gc2 hal); have J3 := Lib.hid (kc gc3 hal); have J4 := Lib.hid (kc gc4 hal); have J5 := Lib.hid (kc gc5 hal)
      have G1 := Lib.hid (hx2.out.cell 1)
      clear gc0 gc1 gc2 gc3 gc4 gc5 hlen hpt hpj hA hal hXE
      go_wp2_with fail
      clear hc0 hc1 hc2 hc3 hc4 hc5
      refine rlu (k := j) hjn (by omega) hl G1 F0 F1 F2 F3 F4 F5 J0 J1 J2 J3 J4 J5 ?_
      intro u16 u17 u18 u19 u20 u21 u22 u23 u24 u25 wx hbx
      have hb3 := Lib.hid (hb2.out.trans (hbx.mono hb2.out.size)); have hx3 := Lib.hid (hx2.out.on hbx)
      clear hbx
      by_cases h0 : (nth l k).2 < (nth l j).2
      · have t0 : decide ((nth l k).2 < (nth l j).2) = true := decide_eq_true h0
        have HJ : Hid (k = leastE l (k + 1)) := Lib.hid (by unfold leastE; rw [← hj.out, if_pos h0])
        go_wp2
        go_roundw
        case rel => exact ⟨k + 1, by omega, by go_num, k, rfl, HJ, Or.inl (by omega), hx3, hb3⟩
        case measure => simp [intOf]; omega
      · have t0 : decide ((nth l k).2 < (nth l j).2) = false := decide_eq_false h0
        have HJ : Hid (j = leastE l (k + 1)) := Lib.hid (by
          conv => rhs; unfold leastE
          rw [← hj.out, if_neg h0])
        go_wp2
        go_roundw
        case rel => exact ⟨k + 1, by omega, by go_num, j, rfl, HJ, by omega, hx3, hb3⟩
        case measure => simp [intOf]; omega
    · obtain rfl : k = n := by omega
      clear hlt
      have HE : Hid ((j : Int) = (z : Int)) := Lib.hid (by rw [hj.out, HZ.out])
      go_wp2
      go_ret
      exact ⟨ret_int HE.out, hb.out⟩
set_option maxHeartbeats 4000000 in
theorem removeNd (b0 : Addr) (p : Cet → Bool) (ok : Cet → Prop) (B C gD : Nat) (cc : Int) (ad : Option Addr) (n cap : Nat) (L : List Cem) (w : World) (hx : Ret.Blk w gD #[.int .i64 cc, .slice ad n cap] 76) (h : kLCe.Own B w.heap.size w ⟨ad, n, cap, L⟩) (hl : L.length ≤ 1100000) (hp : ∀ x ∈ L.map kCe.strip, ok x) (hc : ClosR Try.prog kCe 95 #[.pointer (some b0)] p ok w (Value.slice ad n cap).ownBlock) (hCB : C ≤ B) (hCg : C ≤ gD) (hCw : C ≤ w.heap.size) :
    Calls Try.prog 61 #[.pointer (some ⟨gD, 0, none⟩), .func (.func 95) #[] #[.pointer (some b0)]] w fun e w' => e = .returned (.tuple #[]) ∧ ∃ ad' n' cap' L', Ret.Blk w' gD #[.int .i64 cc, .slice ad' n' cap'] 76 ∧ kLCe.Own B w'.heap.size w' ⟨ad', n', cap', L'⟩ ∧ L'.map kCe.strip = (L.map kCe.strip).filter (fun x => !p x) ∧ L'.length ≤ L.length ∧ Below C w w' := by
  have HC := Lib.hid (delFNd b0 p ok B ⟨ad, n, cap, L⟩ w h hl hp hc)
  have HX := Lib.hid hx; have HO := Lib.hid h
  have q1 : w.cell? ⟨gD, 1, none⟩ = some (.slice ad n cap) := hx.cell 1
  clear hx h hp hc
  go_enter Try.func61, Try.ntmps61
  go_wp2_with fail
  refine (show Calls Try.prog _ #[.slice ad n cap, _] w _ from HC.out).mono ?_
  rintro e w1 ⟨⟨ad', n', cap', L'⟩, rfl, ho, hs, hle, hg⟩
  have hX1 := HX.out.grown hg (row_ne_blk HO.out.1.1 HX.out (by decide))
  have t1 := hX1.frozen 1; have r1 := hX1.cell 1
  have HX1 := Lib.hid hX1; have HO1 := Lib.hid ho; have HS := Lib.hid hs; have HLE := Lib.hid hle
  have HB1 := Lib.hid ((Below.refl C w).grown hg hCw (fun g hg' => Nat.le_trans hCB (HO.out.1.1.lt g hg').1))
  clear ho hs hle hg hX1 q1 HC
  rw [show (Rw.v (⟨ad', n', cap', L'⟩ : Rw Cem)) = .slice ad' n' cap' from rfl]
  go_wp2_with fail
  go_end0
  exact ⟨rfl, ad', n', cap', L', HX1.out.set 1 (.slice ad' n' cap'), by rw [World.size_setCell]; exact own_setT noRow_St HO1.out HX1.out, HS.out, HLE.out, HB1.out.setCell (p := ⟨gD, 1, none⟩) hCg _⟩
set_option maxHeartbeats 4000000 in
theorem removeEv (b0 : Addr) (p : Cet → Bool) (ok : Cet → Prop) (B C gD : Nat) (cc : Int) (ad : Option Addr) (n cap : Nat) (L : List Cem) (w : World) (hx : Ret.Blk w gD #[.int .i64 cc, .slice ad n cap] 76) (h : kLCe.Own B w.heap.size w ⟨ad, n, cap, L⟩) (hl : L.length ≤ 1100000) (hp : ∀ x ∈ L.map kCe.strip, ok x) (hc : ClosR Try.prog kCe 80 #[.pointer (some b0)] p ok w (Value.slice ad n cap).ownBlock) (hCB : C ≤ B) (hCg : C ≤ gD) (hCw : C ≤ w.heap.size) :
    Calls Try.prog 61 #[.pointer (some ⟨gD, 0, none⟩), .func (.func 80) #[] #[.pointer (some b0)]] w fun e w' => e = .returned (.tuple #[]) ∧ ∃ ad' n' cap' L', Ret.Blk w' gD #[.int .i64 cc, .slice ad' n' cap'] 76 ∧ kLCe.Own B w'.heap.size w' ⟨ad', n', cap', L'⟩ ∧ L'.map kCe.strip = (L.map kCe.strip).filter (fun x => !p x) ∧ L'.length ≤ L.length ∧ Below C w w' := by
  have HC := Lib.hid (delFEv b0 p ok B ⟨ad, n, cap, L⟩ w h hl hp hc)
  have HX := Lib.hid hx; have HO := Lib.hid h
  have q1 : w.cell? ⟨gD, 1, none⟩ = some (.slice ad n cap) := hx.cell 1
  clear hx h hp hc
  go_enter Try.func61, Try.ntmps61
  go_wp2_with fail
  refine (show Calls Try.prog _ #[.slice ad n cap, _] w _ from HC.out).mono ?_
  rintro e w1 ⟨⟨ad', n', cap', L'⟩, rfl, ho, hs, hle, hg⟩
  have hX1 := HX.out.grown hg (row_ne_blk HO.out.1.1 HX.out (by decide))
  have t1 := hX1.frozen 1; have r1 := hX1.cell 1
  have HX1 := Lib.hid hX1; have HO1 := Lib.hid ho; have HS := Lib.hid hs; have HLE := Lib.hid hle
  have HB1 := Lib.hid ((Below.refl C w).grown hg hCw (fun g hg' => Nat.le_trans hCB (HO.out.1.1.lt g hg').1))
  clear ho hs hle hg hX1 q1 HC
  rw [show (Rw.v (⟨ad', n', cap', L'⟩ : Rw Cem)) = .slice ad' n' cap' from rfl]
  go_wp2_with fail
  go_end0
  exact ⟨rfl, ad', n', cap', L', HX1.out.set 1 (.slice ad' n' cap'), by rw [World.size_setCell]; exact own_setT noRow_St HO1.out HX1.out, HS.out, HLE.out, HB1.out.setCell (p := ⟨gD, 1, none⟩) hCg _⟩
def StPost (B C gD : Nat) (cc : Int) (T : List Cet) (w w' : World) : Prop := ∃ ad' n' cap' L', Ret.Blk w' gD #[.int .i64 cc, .slice ad' n' cap'] 76 ∧ kLCe.Own B w'.heap.size w' ⟨ad', n', cap', L'⟩ ∧ L'.map kCe.strip = T ∧ Below C w w'
theorem add_own {B C E0 : Nat} {w W w4 : World} {r : Rw Cem} {m9 : Cem} {x4 : Option Addr} {n4 c4 : Nat} (h : kLCe.Own B C w r) (hm : kCe.Own B E0 w m9) (hd : ∀ g ∈ kCe.blocks m9, g ∉ kLCe.blocks r) (hb : Below w.heap.size w W)
    (ho : OwnK 72 kCe.cells 6 B w4 (.slice x4 n4 c4) (r.els ++ [m9])) (hg : W.grownBy w4 r.v.ownBlock) : kLCe.Own B w4.heap.size w4 ⟨x4, n4, c4, r.els ++ [m9]⟩ :=
  Kd.push noRow_kCe (h.on hb) (hm.on hb) hd ho hg
theorem delOneS (B : Nat) (ad : Option Addr) (n cap : Nat) (L : List Cem) (i : Nat) (w : World) (h : kLCe.Own B w.heap.size w ⟨ad, n, cap, L⟩) (hi : i < L.length) (hl : L.length ≤ 1100000) :
    Calls Try.prog 97 #[.slice ad n cap, .int .i64 i, .int .i64 ((i : Int) + 1)] w fun e w' => ∃ ad' n' cap' L', e = .returned (.slice ad' n' cap') ∧ kLCe.Own B w'.heap.size w' ⟨ad', n', cap', L'⟩ ∧ L' = L.eraseIdx i ∧ w.grownBy w' (Value.slice ad n cap).ownBlock :=
  (delOne B ⟨ad, n, cap, L⟩ i w h hi hl).mono fun e w' ⟨⟨ad', n', cap', L'⟩, h1, h2, h3, h4⟩ => ⟨ad', n', cap', L', h1, h2, h3, h4⟩
theorem apart_row {B : Nat} {w : World} {ad : Option Addr} {n cap : Nat} {L : List Cem} {m9 : Cem} (ho : OwnK 72 kCe.cells kCe.size B w (.slice ad n cap) L) (hm : kCe.own B w m9) (hd : ∀ g ∈ kCe.blocks m9, g ∉ L.flatMap kCe.blocks) : ∀ g ∈ kCe.blocks m9, g ∉ kLCe.blocks (⟨ad, n, cap, L⟩ : Rw Cem) := fun g hg hr => by
  rcases List.mem_append.1 (show g ∈ (Value.slice ad n cap).ownBlock.toList ++ L.flatMap kCe.blocks from hr) with h1 | h1
  · obtain ⟨cs, hc⟩ := ho.row (Option.mem_toList.1 h1)
    exact noRow_kCe B w m9 hm g hg cs hc
  · exact hd g hg h1
set_option maxRecDepth 100000 in
set_option maxHeartbeats 4000000 in
theorem rad1 {Q : Exit → Act → World → Prop} {v1 v2 v3 v4 v5 v6 v7 v8 v9 v10 v11 v12 v13 v14 v15 v16 v17 v18 v19 v20 v21 v22 v23 v24 v25 v26 v27 v28 v29 v30 v31 v32 v33 v34 v35 v36 v37 v38 v39 v40 v41 v42 : Value} {w : World} {gD n cap : Nat} {ad : Option Addr} {cc : Int} (K0 : Hid (w.cell? ⟨gD, 0, none⟩ = some (.int .i64 cc))) (K1 : Hid (w.cell? ⟨gD, 1, none⟩ = some (.slice ad n cap)))
  (hQ : ∀ (u7 u8 u9 u10 u11 u12 u13 u14 u15 : Value)  (wx : World), Below w.heap.size w wx → Q .normal ⟨#[.pointer (some ⟨gD, 0, none⟩), v1, v2, v3, v4, v5, v6, u7, u8, u9, u10, u11, u12, u13, u14, u15, .bool (decide (cc ≤ (n : Int))), v17, v18, v19, v20, v21, v22, v23, v24, v25, v26, v27, v28, v29, v30, v31, v32, v33, v34, v35, v36, v37, v38, v39, v40, v41, v42], []⟩ wx) :
  (Code.region 1 #[⟨some 7, .move (.tmp 0), 105, "l12_cache.go:44", #[], none⟩,
   ⟨some 8, .nilCheck (.tmp 7), 0, "l12_cache.go:44", #[⟨0, .data⟩], none⟩,
   ⟨some 9, .fieldAddr 76 (.tmp 8) 1, 0, "l12_cache.go:44", #[⟨1, .data⟩], none⟩,
   ⟨some 10, .load 22 (.tmp 9), 22, "l12_cache.go:44", #[⟨2, .data⟩], none⟩,
   ⟨some 11, .call ⟨.builtin .len, #[.tmp 10], #[22]⟩, 3, "l12_cache.go:44", #[⟨3, .data⟩], none⟩,
   ⟨some 12, .move (.tmp 0), 105, "l12_cache.go:44", #[], none⟩,
   ⟨some 13, .nilCheck (.tmp 12), 0, "l12_cache.go:44", #[⟨5, .data⟩], none⟩,
   ⟨some 14, .fieldAddr 76 (.tmp 13) 0, 0, "l12_cache.go:44", #[⟨6, .data⟩], none⟩,
   ⟨some 15, .load 3 (.tmp 14), 3, "l12_cache.go:44", #[⟨7, .data⟩], none⟩,
   ⟨some 16, .binOp BinOp.geq 3 (.tmp 11) (.tmp 15) 3, 4, "l12_cache.go:44", #[⟨4, .data⟩, ⟨8, .data⟩], none⟩] true).wp Try.prog Q ⟨#[.pointer (some ⟨gD, 0, none⟩), v1, v2, v3, v4, v5, v6, v7, v8, v9, v10, v11, v12, v13, v14, v15, v16, v17, v18, v19, v20, v21, v22, v23, v24, v25, v26, v27, v28, v29, v30, v31, v32, v33, v34, v35, v36, v37, v38, v39, v40, v41, v42], []⟩ w := by
 have HQ := Lib.hid hQ; clear hQ
 have hdr : Below w.heap.size w w.drew := (Below.refl _ _).drew
 have BB := Lib.hid hdr
 refine wp_region_noPanic ?_
 refine wp_region_held_drew (S := (fun w' => w'.cell? ⟨gD, 0, none⟩ = some (.int .i64 cc) ∧ w'.cell? ⟨gD, 1, none⟩ = some (.slice ad n cap))) (by kernel_rfl) ?_ (fun hHeld => ?_)
 ·
  exact ⟨kc K0.out BB.out, kc K1.out BB.out⟩
 clear hdr
 generalize w.drew = wd at *
 refine wpAnyH_take (i := 0) (oi := ⟨some 7, .move (.tmp 0), 105, "l12_cache.go:44", #[], none⟩) (v := ?_) rfl (by kernel_rfl) (by kernel_rfl) (by kernel_rfl) (fun _ _ _ h => h) (Or.inl ⟨by rfl, ?_⟩) (by assumption) ?_
 rotate_left
 ·
  intro w' hSw; (try dsimp only at hSw); first | (go_simp; done) | (go_simp; with_reducible rfl)
 (try simp only [Act.put, Row.pB0, Row.pB1, Row.pB2])
 refine wpAnyH_take (i := 1) (oi := ⟨some 8, .nilCheck (.tmp 7), 0, "l12_cache.go:44", #[⟨0, .data⟩], none⟩) (v := ?_) rfl (by kernel_rfl) (by kernel_rfl) (by kernel_rfl) (fun _ _ _ h => h) (Or.inl ⟨by rfl, ?_⟩) (by assumption) ?_
 rotate_left
 ·
  intro w' hSw; (try dsimp only at hSw); first | (go_simp; done) | (go_simp; with_reducible rfl)
 (try simp only [Act.put, Row.pB0, Row.pB1, Row.pB2])
 refine wpAnyH_take (i := 2) (oi := ⟨some 9, .fieldAddr 76 (.tmp 8) 1, 0, "l12_cache.go:44", #[⟨1, .data⟩], none⟩) (v := ?_) rfl (by kernel_rfl) (by kernel_rfl) (by kernel_rfl) (fun _ _ _ h => h) (Or.inl ⟨by rfl, ?_⟩) (by assumption) ?_
 rotate_left
 ·
  intro w' hSw; (try dsimp only at hSw); first | (go_simp; done) | (go_simp; with_reducible rfl)
 (try simp only [Act.put, Row.pB0, Row.pB1, Row.pB2])
 refine wpAnyH_take (i := 3) (oi := ⟨some 10, .load 22 (.tmp 9), 22, "l12_cache.go:44", #[⟨2, .data⟩], none⟩) (v := ?_) rfl (by kernel_rfl) (by kernel_rfl) (by kernel_rfl) (fun _ _ _ h => h) (Or.inl ⟨by rfl, ?_⟩) (by assumption) ?_
 rotate_left
 ·
  intro w' hSw; (try dsimp only at hSw); first | (go_simp; done) | (go_simp; with_reducible rfl)
 (try simp only [Act.put, Row.pB0, Row.pB1, Row.pB2])
 refine wpAnyH_take (i := 4) (oi := ⟨some 11, .call ⟨.builtin .len, #[.tmp 10], #[22]⟩, 3, "l12_cache.go:44", #[⟨3, .data⟩], none⟩) (v := ?_) rfl (by kernel_rfl) (by kernel_rfl) (by kernel_rfl) (fun _ _ _ h => h) (Or.inl ⟨by rfl, ?_⟩) (by assumption) ?_
 rotate_left
 ·
  intro w' hSw; (try dsimp only at hSw); first | (go_simp; done) | (go_simp; with_reducible rfl)
 (try simp only [Act.put, Row.pB0, Row.pB1, Row.pB2])
 refine wpAnyH_take (i := 5) (oi := ⟨some 12, .move (.tmp 0), 105, "l12_cache.go:44", #[], none⟩) (v := ?_) rfl (by kernel_rfl) (by kernel_rfl) (by kernel_rfl) (fun _ _ _ h => h) (Or.inl ⟨by rfl, ?_⟩) (by assumption) ?_
 rotate_left
 ·
  intro w' hSw; (try dsimp only at hSw); first | (go_simp; done) | (go_simp; with_reducible rfl)
 (try simp only [Act.put, Row.pB0, Row.pB1, Row.pB2])
 refine wpAnyH_take (i := 6) (oi := ⟨some 13, .nilCheck (.tmp 12), 0, "l12_cache.go:44", #[⟨5, .data⟩], none⟩) (v := ?_) rfl (by kernel_rfl) (by kernel_rfl) (by kernel_rfl) (fun _ _ _ h => h) (Or.inl ⟨by rfl, ?_⟩) (by assumption) ?_
 rotate_left
 ·
  intro w' hSw; (try dsimp only at hSw); first | (go_simp; done) | (go_simp; with_reducible rfl)
 (try simp only [Act.put, Row.pB0, Row.pB1, Row.pB2])
 refine wpAnyH_take (i := 7) (oi := ⟨some 14, .fieldAddr 76 (.tmp 13) 0, 0, "l12_cache.go:44", #[⟨6, .data⟩], none⟩) (v := ?_) rfl (by kernel_rfl) (by kernel_rfl) (by kernel_rfl) (fun _ _ _ h => h) (Or.inl ⟨by rfl, ?_⟩) (by assumption) ?_
 rotate_left
 ·
  intro w' hSw; (try dsimp only at hSw); first | (go_simp; done) | (go_simp; with_reducible rfl)
 (try simp only [Act.put, Row.pB0, Row.pB1, Row.pB2])
 refine wpAnyH_take (i := 8) (oi := ⟨some 15, .load 3 (.tmp 14), 3, "l12_cache.go:44", #[⟨7, .data⟩], none⟩) (v := ?_) rfl (by kernel_rfl) (by kernel_rfl) (by kernel_rfl) (fun _ _ _ h => h) (Or.inl ⟨by rfl, ?_⟩) (by assumption) ?_
 rotate_left
 ·
  intro w' hSw; (try dsimp only at hSw); first | (go_simp; done) | (go_simp; with_reducible rfl)
 (try simp only [Act.put, Row.pB0, Row.pB1, Row.pB2])
 refine wpAnyH_take (i := 9) (oi := ⟨some 16, .binOp BinOp.geq 3 (.tmp 11) (.tmp 15) 3, 4, "l12_cache.go:44", #[⟨4, .data⟩, ⟨8, .data⟩], none⟩) (v := ?_) rfl (by kernel_rfl) (by kernel_rfl) (by kernel_rfl) (fun _ _ _ h => h) (Or.inl ⟨by rfl, ?_⟩) (by assumption) ?_
 rotate_left
 ·
  intro w' hSw; (try dsimp only at hSw); first | (go_simp; done) | (go_simp; with_reducible rfl)
 (try simp only [Act.put, Row.pB0, Row.pB1, Row.pB2])
 refine wpAnyH_done (by kernel_rfl) ?_ _
 exact NoPanic.normal (HQ.out _ _ _ _ _ _ _ _ _  _  BB.out)
set_option maxHeartbeats 16000000 in
theorem implAdd (B C gD : Nat) (cc : Int) (ad : Option Addr) (n cap : Nat) (L : List Cem) (x : Cet) (m9 : Cem) (xa : Option Addr) (na ca : Nat) (xb : Option Addr) (nb cb : Nat) (xc : Option Addr) (nc cc_ : Nat) (w : World) (hx : Ret.Blk w gD #[.int .i64 cc, .slice ad n cap] 76) (h : kLCe.Own B w.heap.size w ⟨ad, n, cap, L⟩) (hl : L.length ≤ 1100000) (hcc : 1 ≤ cc) (hs9 : kCe.strip m9 = x) (hd9 : kCe.cells m9 = [.slice xa na ca, .slice xb nb cb, .slice xc nc cc_, .int .i64 x.1.2.2.2.1, .int .i64 x.1.2.2.2.2, .int .i64 x.2]) (hm : kCe.Own B w.heap.size w m9) (hd : ∀ g ∈ kCe.blocks m9, g ∉ L.flatMap kCe.blocks) (hCB : C ≤ B) (hCg : C ≤ gD) (hBw : B ≤ w.heap.size) :
    Calls Try.prog 63 #[.pointer (some ⟨gD, 0, none⟩), .agg #[.slice xa na ca, .slice xb nb cb, .slice xc nc cc_, .int .i64 x.1.2.2.2.1, .int .i64 x.1.2.2.2.2, .int .i64 x.2], .func (.func 65) #[] #[]] w fun e w' => e = .returned (.tuple #[]) ∧ StPost B C gD cc (roomE cc (L.map kCe.strip) ++ [x]) w w' := by
  have hnl : n = L.length := h.1.1.holds.lenEq
  have hb0 := (Below.refl w.heap.size w).alloc (Nat.le_refl _) (.cells #[.slice xa na ca, .slice xb nb cb, .slice xc nc cc_, .int .i64 x.1.2.2.2.1, .int .i64 x.1.2.2.2.2, .int .i64 x.2] 72)
  have HX := Lib.hid (hx.on hb0); have HO := Lib.hid (h.upto hb0); have HM := Lib.hid ((hm.on hb0).mono (Nat.le_refl _) hb0.size); have HD := Lib.hid hd; have HS9 := Lib.hid hs9; have HD9 := Lib.hid hd9; have HNL := Lib.hid hnl
  have HE := Lib.hid (Ret.Blk.new w #[.slice xa na ca, .slice xb nb cb, .slice xc nc cc_, .int .i64 x.1.2.2.2.1, .int .i64 x.1.2.2.2.2, .int .i64 x.2] 72); have HB := Lib.hid ((hb0.mono hBw).mono hCB); have HBW := Lib.hid (Nat.le_trans hBw hb0.size)
  have HLL := Lib.hid hl
  have HLT := Lib.hid (fun g hg => (h.1.1.lt g hg).2)
  have hGD := hx.lt
  clear hx h hs9 hd9 hm hd hb0 hnl hl
  go_enter Try.func63, Try.ntmps63
  go_wp2_with fail
  revert HX HO HM HE HB HBW
  generalize w.alloc (.cells #[.slice xa na ca, .slice xb nb cb, .slice xc nc cc_, .int .i64 x.1.2.2.2.1, .int .i64 x.1.2.2.2.2, .int .i64 x.2] 72) = v
  intro HX HO HM HE HB HBW
  refine rad1 (Lib.hid (HX.out.cell 0)) (Lib.hid (HX.out.cell 1)) ?_
  intro u7 u8 u9 u10 u11 u12 u13 u14 u15 wx hbx
  replace HX := Lib.hid (HX.out.on hbx); replace HO := Lib.hid (HO.out.upto hbx); replace HM := Lib.hid ((HM.out.on hbx).mono (Nat.le_refl _) hbx.size); replace HE := Lib.hid (HE.out.on hbx); replace HB := Lib.hid (HB.out.trans (hbx.mono (Nat.le_trans hCB HBW.out))); replace HBW := Lib.hid (Nat.le_trans HBW.out hbx.size)
  clear hbx
  by_cases hfull : cc ≤ (n : Int)
  · have t0 : decide (cc ≤ (n : Int)) = true := decide_eq_true hfull
    have hnpos : 0 < n := by omega
    have k0 : wx.cell? ⟨gD, 0, none⟩ = some (.int .i64 cc) := HX.out.cell 0
    have k1 : wx.cell? ⟨gD, 1, none⟩ = some (.slice ad n cap) := HX.out.cell 1
    obtain ⟨z, hz⟩ : ∃ z, leastE (L.map kCe.strip) (L.map kCe.strip).length = z := ⟨_, rfl⟩
    have hzn : z < n := by
      rw [← hz, HNL.out]
      exact Nat.lt_of_lt_of_eq (leastE_lt (L.map kCe.strip) (L.map kCe.strip).length (by rw [List.length_map, ← HNL.out]; exact hnpos)) (List.length_map _)
    have HZ := Lib.hid hz; clear hz
    have hzb : z ≤ 1099999 := by have := HLL.out; have := HNL.out; omega
    have HRM : Hid (roomE cc (L.map kCe.strip) = (L.eraseIdx z).map kCe.strip) := Lib.hid (by
      unfold roomE
      rw [HZ.out, if_pos (by rw [List.length_map, ← HNL.out]; exact hfull), erase_parts, erase_parts, List.map_append, List.map_take, List.map_drop])
    go_wp2_with fail
    refine (iLeast ad n cap cc (L.map kCe.strip) _ ⟨⟨ad, n, cap, L⟩, rfl, rfl, HO.out.holds⟩ (by rw [List.length_map]; have := HLL.out; omega) z HZ.out).mono ?_
    rintro e w2 ⟨rfl, hb2⟩
    replace HX := Lib.hid (HX.out.on hb2); replace HO := Lib.hid (HO.out.upto hb2); replace HM := Lib.hid ((HM.out.on hb2).mono (Nat.le_refl _) hb2.size); replace HE := Lib.hid (HE.out.on hb2); replace HB := Lib.hid (HB.out.trans (hb2.mono (Nat.le_trans hCB HBW.out))); replace HBW := Lib.hid (Nat.le_trans HBW.out hb2.size)
    clear hb2 k0 k1
    have k1 : w2.cell? ⟨gD, 1, none⟩ = some (.slice ad n cap) := HX.out.cell 1
    go_wp2_with fail
    refine (delOneS B ad n cap L z w2 HO.out (by rw [← HNL.out]; exact hzn) (by have := HLL.out; omega)).mono ?_
    rintro e w3 ⟨ad', n', cap', L', rfl, ho3, he3, hg3⟩
    have hX3 := HX.out.grown hg3 (row_ne_blk HO.out.1.1 HX.out (by decide))
    have t1 := hX3.frozen 1; have r1 := hX3.cell 1
    have hE3 := HE.out.grown hg3 (fun er => by have := HLT.out _ er.symm; omega)
    have hM3 : kCe.Own B w3.heap.size w3 m9 := (HM.out.grown hg3 (fun g hg hgm => apart_row HO.out.1.1 HM.out.1 HD.out g hgm (List.mem_append_left _ (Option.mem_toList.2 hg)))).mono (Nat.le_refl _) hg3.size
    have HX3 := Lib.hid hX3; have HO3 := Lib.hid ho3; have HE3' := Lib.hid hE3; have HM3 := Lib.hid hM3
    have HB3' := Lib.hid (HB.out.grown hg3 (Nat.le_trans hCB HBW.out) (fun g hg => Nat.le_trans hCB (HO.out.1.1.lt g hg).1))
    have HBW3 := Lib.hid (Nat.le_trans HBW.out hg3.size)
    have HL3 : Hid (L'.length ≤ 1100000) := Lib.hid (by rw [he3, List.length_eraseIdx]; have := HLL.out; split <;> omega)
    have HD3 : Hid (∀ g ∈ kCe.blocks m9, g ∉ L'.flatMap kCe.blocks) := Lib.hid (fun g hg hgm => by
      obtain ⟨y, hy, hyg⟩ := List.mem_flatMap.1 hgm
      rw [he3] at hy
      exact HD.out g hg (List.mem_flatMap.2 ⟨y, List.mem_of_mem_eraseIdx hy, hyg⟩))
    have HRS : Hid (roomE cc (L.map kCe.strip) = L'.map kCe.strip) := Lib.hid (by rw [HRM.out, he3])
    clear ho3 hg3 hX3 hE3 hM3 he3 k1 HX HO HM HE HB HBW HLL HD HRM HZ
    go_wp2_with fail
    clear r1 t1
    have HX := Lib.hid (HX3.out.set 1 (.slice ad' n' cap'))
    have HO := Lib.hid (show kLCe.Own B (w3.setCell ⟨gD, 1, none⟩ (.slice ad' n' cap')).heap.size (w3.setCell ⟨gD, 1, none⟩ (.slice ad' n' cap')) ⟨ad', n', cap', L'⟩ by rw [World.size_setCell]; exact own_setT noRow_St HO3.out HX3.out)
    have HM := Lib.hid (show kCe.Own B (w3.setCell ⟨gD, 1, none⟩ (.slice ad' n' cap')).heap.size (w3.setCell ⟨gD, 1, none⟩ (.slice ad' n' cap')) m9 by rw [World.size_setCell]; exact own_setT ((noRow_kDz _ (by decide) (by decide)).pair Kd.noRow_scalar) HM3.out HX3.out)
    have HE := Lib.hid (HE3'.out.other (a := ⟨gD, 1, none⟩) (by show gD ≠ w.heap.size; omega) (.slice ad' n' cap'))
    have HB := Lib.hid (HB3'.out.setCell (p := ⟨gD, 1, none⟩) hCg (.slice ad' n' cap'))
    have HBW : Hid (B ≤ (w3.setCell ⟨gD, 1, none⟩ (.slice ad' n' cap')).heap.size) := Lib.hid (by rw [World.size_setCell]; exact HBW3.out)
    clear HX3 HO3 HE3' HM3 HB3' HBW3
    revert HX HO HM HE HB HBW
    generalize w3.setCell ⟨gD, 1, none⟩ (.slice ad' n' cap') = wz
    intro HX HO HM HE HB HBW
    have hdr := (Below.refl wz.heap.size wz).drew
    have hbl := hdr.alloc hdr.size (.cells #[.slice xa na ca, .slice xb nb cb, .slice xc nc cc_, .int .i64 x.1.2.2.2.1, .int .i64 x.1.2.2.2.2, .int .i64 x.2] 72)
    have e0 : wz.cell? ⟨w.heap.size, 0, none⟩ = some (.slice xa na ca) := HE.out.cell 0
    have e0d : wz.drew.cell? ⟨w.heap.size, 0, none⟩ = some (.slice xa na ca) := HE.out.cell 0
    have e1 : wz.cell? ⟨w.heap.size, 1, none⟩ = some (.slice xb nb cb) := HE.out.cell 1
    have e1d : wz.drew.cell? ⟨w.heap.size, 1, none⟩ = some (.slice xb nb cb) := HE.out.cell 1
    have e2 : wz.cell? ⟨w.heap.size, 2, none⟩ = some (.slice xc nc cc_) := HE.out.cell 2
    have e2d : wz.drew.cell? ⟨w.heap.size, 2, none⟩ = some (.slice xc nc cc_) := HE.out.cell 2
    have e3 : wz.cell? ⟨w.heap.size, 3, none⟩ = some (.int .i64 x.1.2.2.2.1) := HE.out.cell 3
    have e3d : wz.drew.cell? ⟨w.heap.size, 3, none⟩ = some (.int .i64 x.1.2.2.2.1) := HE.out.cell 3
    have e4 : wz.cell? ⟨w.heap.size, 4, none⟩ = some (.int .i64 x.1.2.2.2.2) := HE.out.cell 4
    have e4d : wz.drew.cell? ⟨w.heap.size, 4, none⟩ = some (.int .i64 x.1.2.2.2.2) := HE.out.cell 4
    have e5 : wz.cell? ⟨w.heap.size, 5, none⟩ = some (.int .i64 x.2) := HE.out.cell 5
    have e5d : wz.drew.cell? ⟨w.heap.size, 5, none⟩ = some (.int .i64 x.2) := HE.out.cell 5
    have g1 : wz.cell? ⟨gD, 1, none⟩ = some (.slice ad' n' cap') := HX.out.cell 1
    have g1d : wz.drew.cell? ⟨gD, 1, none⟩ = some (.slice ad' n' cap') := HX.out.cell 1
    have g1L : (wz.alloc (.cells #[.slice xa na ca, .slice xb nb cb, .slice xc nc cc_, .int .i64 x.1.2.2.2.1, .int .i64 x.1.2.2.2.2, .int .i64 x.2] 72)).cell? ⟨gD, 1, none⟩ = some (.slice ad' n' cap') := (HX.out.on hbl).cell 1
    have g1M : (wz.alloc (.cells #[.slice xa na ca, .slice xb nb cb, .slice xc nc cc_, .int .i64 x.1.2.2.2.1, .int .i64 x.1.2.2.2.2, .int .i64 x.2] 72)).drew.cell? ⟨gD, 1, none⟩ = some (.slice ad' n' cap') := g1L
    have hap := apart_row HO.out.1.1 HM.out.1 HD3.out
    have HAP := Lib.hid hap
    have HOA := Lib.hid (show OwnK 72 kCe.cells 6 B (wz.drew.alloc (.cells #[.slice xa na ca, .slice xb nb cb, .slice xc nc cc_, .int .i64 x.1.2.2.2.1, .int .i64 x.1.2.2.2.2, .int .i64 x.2] 72)) (.slice ad' n' cap') L' from (HO.out.on hbl).1.1)
    have HSO := Lib.hid (show HoldsK kCe.cells 6 (wz.drew.alloc (.cells #[.slice xa na ca, .slice xb nb cb, .slice xc nc cc_, .int .i64 x.1.2.2.2.1, .int .i64 x.1.2.2.2.2, .int .i64 x.2] 72)) (.slice (some ⟨wz.heap.size, 0, none⟩) 1 1) [m9] from one_ce2 (W := wz.drew) HD9.out rfl)
    have HLM := Lib.hid (show (L'.length + 1) * 96 ≤ 140737488355328 by have := HL3.out; omega)
    have HLX := Lib.hid (show L'.length + 1 ≤ maxLen by have := HL3.out; unfold maxLen; omega)
    have HB3 := Lib.hid (show B ≤ (wz.drew.alloc (.cells #[.slice xa na ca, .slice xb nb cb, .slice xc nc cc_, .int .i64 x.1.2.2.2.1, .int .i64 x.1.2.2.2.2, .int .i64 x.2] 72)).heap.size from Nat.le_trans HBW.out hbl.size)
    have HXL := Lib.hid (HX.out.on hbl); have HBL := Lib.hid hbl
    have HBC := Lib.hid (HB.out.trans (hbl.mono (Nat.le_trans hCB HBW.out)))
    clear hdr hbl hap
    go_wp2_with fail
    go_region_law (refine step_appK kindCe (B := B) (l := L') (m := [m9]) rfl _ _ (by rfl) Try.underlying22 (by rfl) (by rfl) HOA.out HSO.out HLM.out HLX.out HB3.out ?_; intro v4 w4 ho4 hg4; obtain ⟨x4, n4, c4, rfl, -, -, ho4⟩ := ho4.shapeN; have hX4 := HXL.out.grown hg4 (row_ne_blk HOA.out HXL.out (by decide)); have z0 := hX4.cell 1; have z1 := hX4.frozen 1; have HX4 := Lib.hid hX4; have HO4 := Lib.hid (add_own HO.out HM.out HAP.out HBL.out ho4 hg4); have HB4 := Lib.hid (HBC.out.grown hg4 (Nat.le_trans hCB HB3.out) (fun g hg => Nat.le_trans hCB (HOA.out.lt g hg).1)); clear ho4 hg4 hX4)
    all_goals
      go_wp2_with fail
      go_end0
      exact ⟨rfl, x4, n4, c4, L' ++ [m9], HX4.out.set 1 (.slice x4 n4 c4), by rw [World.size_setCell]; exact own_setT noRow_St HO4.out HX4.out, by rw [HRS.out, List.map_append]; show _ ++ [kCe.strip m9] = _; rw [HS9.out], HB4.out.setCell (p := ⟨gD, 1, none⟩) hCg _⟩
  · have t0 : decide (cc ≤ (n : Int)) = false := decide_eq_false hfull
    have HRS : Hid (roomE cc (L.map kCe.strip) = L.map kCe.strip) := Lib.hid (by unfold roomE; rw [if_neg (by rw [List.length_map, ← HNL.out]; exact hfull)])
    have hdr := (Below.refl wx.heap.size wx).drew
    have hbl := hdr.alloc hdr.size (.cells #[.slice xa na ca, .slice xb nb cb, .slice xc nc cc_, .int .i64 x.1.2.2.2.1, .int .i64 x.1.2.2.2.2, .int .i64 x.2] 72)
    have e0 : wx.cell? ⟨w.heap.size, 0, none⟩ = some (.slice xa na ca) := HE.out.cell 0
    have e0d : wx.drew.cell? ⟨w.heap.size, 0, none⟩ = some (.slice xa na ca) := HE.out.cell 0
    have e1 : wx.cell? ⟨w.heap.size, 1, none⟩ = some (.slice xb nb cb) := HE.out.cell 1
    have e1d : wx.drew.cell? ⟨w.heap.size, 1, none⟩ = some (.slice xb nb cb) := HE.out.cell 1
    have e2 : wx.cell? ⟨w.heap.size, 2, none⟩ = some (.slice xc nc cc_) := HE.out.cell 2
    have e2d : wx.drew.cell? ⟨w.heap.size, 2, none⟩ = some (.slice xc nc cc_) := HE.out.cell 2
    have e3 : wx.cell? ⟨w.heap.size, 3, none⟩ = some (.int .i64 x.1.2.2.2.1) := HE.out.cell 3
    have e3d : wx.drew.cell? ⟨w.heap.size, 3, none⟩ = some (.int .i64 x.1.2.2.2.1) := HE.out.cell 3
    have e4 : wx.cell? ⟨w.heap.size, 4, none⟩ = some (.int .i64 x.1.2.2.2.2) := HE.out.cell 4
    have e4d : wx.drew.cell? ⟨w.heap.size, 4, none⟩ = some (.int .i64 x.1.2.2.2.2) := HE.out.cell 4
    have e5 : wx.cell? ⟨w.heap.size, 5, none⟩ = some (.int .i64 x.2) := HE.out.cell 5
    have e5d : wx.drew.cell? ⟨w.heap.size, 5, none⟩ = some (.int .i64 x.2) := HE.out.cell 5
    have g1 : wx.cell? ⟨gD, 1, none⟩ = some (.slice ad n cap) := HX.out.cell 1
    have g1d : wx.drew.cell? ⟨gD, 1, none⟩ = some (.slice ad n cap) := HX.out.cell 1
    have g1L : (wx.alloc (.cells #[.slice xa na ca, .slice xb nb cb, .slice xc nc cc_, .int .i64 x.1.2.2.2.1, .int .i64 x.1.2.2.2.2, .int .i64 x.2] 72)).cell? ⟨gD, 1, none⟩ = some (.slice ad n cap) := (HX.out.on hbl).cell 1
    have g1M : (wx.alloc (.cells #[.slice xa na ca, .slice xb nb cb, .slice xc nc cc_, .int .i64 x.1.2.2.2.1, .int .i64 x.1.2.2.2.2, .int .i64 x.2] 72)).drew.cell? ⟨gD, 1, none⟩ = some (.slice ad n cap) := g1L
    have hap := apart_row HO.out.1.1 HM.out.1 HD.out
    have HAP := Lib.hid hap
    have HOA := Lib.hid (show OwnK 72 kCe.cells 6 B (wx.drew.alloc (.cells #[.slice xa na ca, .slice xb nb cb, .slice xc nc cc_, .int .i64 x.1.2.2.2.1, .int .i64 x.1.2.2.2.2, .int .i64 x.2] 72)) (.slice ad n cap) L from (HO.out.on hbl).1.1)
    have HSO := Lib.hid (show HoldsK kCe.cells 6 (wx.drew.alloc (.cells #[.slice xa na ca, .slice xb nb cb, .slice xc nc cc_, .int .i64 x.1.2.2.2.1, .int .i64 x.1.2.2.2.2, .int .i64 x.2] 72)) (.slice (some ⟨wx.heap.size, 0, none⟩) 1 1) [m9] from one_ce2 (W := wx.drew) HD9.out rfl)
    have HLM := Lib.hid (show (L.length + 1) * 96 ≤ 140737488355328 by have := HLL.out; omega)
    have HLX := Lib.hid (show L.length + 1 ≤ maxLen by have := HLL.out; unfold maxLen; omega)
    have HB3 := Lib.hid (show B ≤ (wx.drew.alloc (.cells #[.slice xa na ca, .slice xb nb cb, .slice xc nc cc_, .int .i64 x.1.2.2.2.1, .int .i64 x.1.2.2.2.2, .int .i64 x.2] 72)).heap.size from Nat.le_trans HBW.out hbl.size)
    have HXL := Lib.hid (HX.out.on hbl); have HBL := Lib.hid hbl
    have HBC := Lib.hid (HB.out.trans (hbl.mono (Nat.le_trans hCB HBW.out)))
    clear hdr hbl hap
    go_wp2_with fail
    go_region_law (refine step_appK kindCe (B := B) (l := L) (m := [m9]) rfl _ _ (by rfl) Try.underlying22 (by rfl) (by rfl) HOA.out HSO.out HLM.out HLX.out HB3.out ?_; intro v4 w4 ho4 hg4; obtain ⟨x4, n4, c4, rfl, -, -, ho4⟩ := ho4.shapeN; have hX4 := HXL.out.grown hg4 (row_ne_blk HOA.out HXL.out (by decide)); have z0 := hX4.cell 1; have z1 := hX4.frozen 1; have HX4 := Lib.hid hX4; have HO4 := Lib.hid (add_own HO.out HM.out HAP.out HBL.out ho4 hg4); have HB4 := Lib.hid (HBC.out.grown hg4 (Nat.le_trans hCB HB3.out) (fun g hg => Nat.le_trans hCB (HOA.out.lt g hg).1)); clear ho4 hg4 hX4)
    all_goals
      go_wp2_with fail
      go_end0
      exact ⟨rfl, x4, n4, c4, L ++ [m9], HX4.out.set 1 (.slice x4 n4 c4), by rw [World.size_setCell]; exact own_setT noRow_St HO4.out HX4.out, by rw [HRS.out, List.map_append]; show _ ++ [kCe.strip m9] = _; rw [HS9.out], HB4.out.setCell (p := ⟨gD, 1, none⟩) hCg _⟩
end Go.Proofs.Ythfljbbigpophaa.Row
/- The program's EvictStale, Touch and CacheData. No conditions but that lengths fit. -/
namespace Go.Proofs.Ythfljbbigpophaa.Row
open Go.ChangeShapes Go.WideShapes Go.ChangeAt Go.RowKit Go.Instr
set_option linter.unusedVariables false
set_option maxRecDepth 100000
theorem blk_lowC {w w' : World} {g C : Nat} {cs : Array Value} {ty : TypeId} (h : Ret.Blk w g cs ty) (hb : Below C w w') (hg : g < C) : Ret.Blk w' g cs ty := (hb.block g hg).trans h
set_option maxHeartbeats 8000000 in
theorem implEvictStale (V : Value) (x : Cnt) (now : Int) (w : World) (h : kCn.At w V x) (hp : FitC x) :
    Calls Try.prog 36 #[V, .int .i64 now] w fun e w' => ∃ U, e = .returned U ∧ kCn.In w.heap.size w'.heap.size w' U (evictC x now) ∧ Below w.heap.size w w' := by
  obtain ⟨x1_0, n1_0, c1_0, rfl, g1⟩ := kCn_at h
  clear h
  obtain ⟨cc, l⟩ := x
  have hfit := hp
  obtain ⟨hl, hp7⟩ := hp.fields
  clear hp
  have hp := hp7
  clear hp7
  dsimp only at g1 hl hp ⊢
  have b0 := (Below.refl w.heap.size w).alloc (Nat.le_refl _) (.cells #[.int .i64 cc, .slice x1_0 n1_0 c1_0] 24)
  have b1 := (Below.refl (w.alloc (.cells #[.int .i64 cc, .slice x1_0 n1_0 c1_0] 24)).heap.size (w.alloc (.cells #[.int .i64 cc, .slice x1_0 n1_0 c1_0] 24))).alloc (Nat.le_refl _) (.cells #[.int .i64 now] 3)
  have b2 := (Below.refl ((w.alloc (.cells #[.int .i64 cc, .slice x1_0 n1_0 c1_0] 24)).alloc (.cells #[.int .i64 now] 3)).heap.size ((w.alloc (.cells #[.int .i64 cc, .slice x1_0 n1_0 c1_0] 24)).alloc (.cells #[.int .i64 now] 3))).alloc (Nat.le_refl _) (.cells #[.int .i64 0, .slice none 0 0] 24)
  have b012 := (b0.trans (b1.mono b0.size)).trans (b2.mono (Nat.le_trans b0.size b1.size))
  have hX0 := ((Ret.Blk.new w #[.int .i64 cc, .slice x1_0 n1_0 c1_0] 24).on b1).on b2
  have hX1 := (Ret.Blk.new' (w := (w.alloc (.cells #[.int .i64 cc, .slice x1_0 n1_0 c1_0] 24))) (n := w.heap.size + 1) #[.int .i64 now] 3 (by simp)).on b2
  have hX2 := Ret.Blk.new' (w := ((w.alloc (.cells #[.int .i64 cc, .slice x1_0 n1_0 c1_0] 24)).alloc (.cells #[.int .i64 now] 3))) (n := w.heap.size + 1 + 1) #[.int .i64 0, .slice none 0 0] 24 (by simp)
  have hS3 : (((w.alloc (.cells #[.int .i64 cc, .slice x1_0 n1_0 c1_0] 24)).alloc (.cells #[.int .i64 now] 3)).alloc (.cells #[.int .i64 0, .slice none 0 0] 24)).heap.size = w.heap.size + 3 := by simp
  have HA := Lib.hid (cn_of (cc := cc) (g1.on b012))
  have q0 : (((w.alloc (.cells #[.int .i64 cc, .slice x1_0 n1_0 c1_0] 24)).alloc (.cells #[.int .i64 now] 3)).alloc (.cells #[.int .i64 0, .slice none 0 0] 24)).cell? ⟨w.heap.size, 0, none⟩ = some (.int .i64 cc) := hX0.cell 0
  have q1 : (((w.alloc (.cells #[.int .i64 cc, .slice x1_0 n1_0 c1_0] 24)).alloc (.cells #[.int .i64 now] 3)).alloc (.cells #[.int .i64 0, .slice none 0 0] 24)).cell? ⟨w.heap.size, 1, none⟩ = some (.slice x1_0 n1_0 c1_0) := hX0.cell 1
  have hmf : ∀ (fn : Fn) (first cap : Array Value) (w : World), (Instr.makeFunc fn first cap).run Try.prog w = .ok (.func fn first cap) w := fun _ _ _ _ => rfl
  go_enter Try.func36, Try.ntmps36
  go_wp2_with fail
  refine (implCloneStore _ (cc, l) _ HA.out hfit).mono ?_
  rintro e w1 ⟨U, rfl, hi, hb1⟩
  obtain ⟨m, rfl, hs, hi⟩ := hi.split
  obtain ⟨ce, r⟩ := m
  obtain ⟨xu, nu, cu, Lu⟩ := r
  obtain ⟨rfl, hsl⟩ : ce = cc ∧ Lu.map kCe.strip = l := by
    have e1 : (ce, Lu.map kCe.strip) = (cc, l) := hs
    injection e1 with e1 e2
    exact ⟨e1, e2⟩
  obtain ⟨-, hi2, -⟩ := Kd.Own.parts hi
  rw [hS3] at hi2
  rw [show kCn.val ((ce, (⟨xu, nu, cu, Lu⟩ : Rw Cem)) : Cnm) = .agg #[.int .i64 ce, .slice xu nu cu] from rfl]
  have hal := (Below.refl w1.heap.size w1).alloc (Nat.le_refl _) (.cells #[.int .i64 ce, .slice xu nu cu] 76)
  have HG1 := Lib.hid (show w.heap.size + 3 ≤ w1.heap.size by rw [← hS3]; exact hb1.size)
  have HX0 := Lib.hid ((hX0.on hb1).on hal); have HX1 := Lib.hid ((hX1.on hb1).on hal); have HX2 := Lib.hid ((hX2.on hb1).on hal)
  have HXD := Lib.hid (Ret.Blk.new w1 #[.int .i64 ce, .slice xu nu cu] 76)
  have HO := Lib.hid (hi2.upto hal); have HSL := Lib.hid hsl
  have HB := Lib.hid (b012.trans ((hb1.trans (hal.mono hb1.size)).mono b012.size))
  have HLU := Lib.hid (show Lu.length ≤ 1100000 by have h9 := hl; rw [← hsl, List.length_map] at h9; exact h9)
  have HPU := Lib.hid (show ∀ x ∈ Lu.map kCe.strip, wtCe x ≤ 1200000 by rw [hsl]; exact hp)
  clear hi hi2 hs hsl hb1 hal hX0 hX1 hX2 b0 b1 b2 b012 g1 HA hfit hl hp hS3 q0 q1
  have hcl : ClosR Try.prog kCe 80 #[.pointer (some ⟨w.heap.size + 1, 0, none⟩)] (fun x => !frE now x) (fun _ => True) (w1.alloc (.cells #[.int .i64 ce, .slice xu nu cu] 76)) (Value.slice xu nu cu).ownBlock := closEv (w.heap.size + 1) now _ _ (fun er => by have := (HO.out.1.1.lt _ er.symm).1; omega) HX1.out
  have HC := Lib.hid hcl; clear hcl
  go_wp2_with fail
  have hsz3 : w.heap.size + 3 ≤ (w1.alloc (.cells #[.int .i64 ce, .slice xu nu cu] 76)).heap.size := by have := HG1.out; simp; omega
  refine (removeEv ⟨w.heap.size + 1, 0, none⟩ (fun x => !frE now x) (fun _ => True) (w.heap.size + 3) (w.heap.size + 3) w1.heap.size ce xu nu cu Lu _ HXD.out HO.out HLU.out (fun _ _ => trivial) HC.out (Nat.le_refl _) HG1.out hsz3).mono ?_
  rintro e w2 ⟨rfl, ad', n', cap', L', hx2, ho2, hs2, -, hb2⟩
  have HXD2 := Lib.hid hx2; have HO2 := Lib.hid ho2; have HS2 := Lib.hid hs2
  have HX22 := Lib.hid (blk_lowC HX2.out hb2 (by omega))
  have HB2 := Lib.hid (HB.out.trans (hb2.mono (Nat.le_add_right _ _)))
  have HRES : Hid (L'.map kCe.strip = l.filter (frE now)) := Lib.hid (by rw [hs2, HSL.out]; congr 1; funext x; simp)
  clear hx2 ho2 hs2 hb2 HX0 HX1 HX2 HXD HO HB HC hsz3
  have p0 : w2.cell? ⟨w1.heap.size, 0, none⟩ = some (.int .i64 ce) := HXD2.out.cell 0
  have p1 : w2.cell? ⟨w1.heap.size, 1, none⟩ = some (.slice ad' n' cap') := HXD2.out.cell 1
  have r0 := HX22.out.frozen 0; have r1 := HX22.out.frozen 1; have r2 := HX22.out.cell 0; have r3 := HX22.out.cell 1
  have Z := Lib.hid ((HX22.out.set 0 (.int .i64 ce)).set 1 (.slice ad' n' cap'))
  have ZO := Lib.hid (own_setS (i := 1) (u := .slice ad' n' cap') (own_setS (i := 0) (u := .int .i64 ce) HO2.out (g := w.heap.size + 1 + 1) (by omega)) (g := w.heap.size + 1 + 1) (by omega))
  have ZB := Lib.hid ((HB2.out.setCell (p := ⟨w.heap.size + 1 + 1, 0, none⟩) (by show w.heap.size ≤ w.heap.size + 1 + 1; omega) (.int .i64 ce)).setCell (p := ⟨w.heap.size + 1 + 1, 1, none⟩) (by show w.heap.size ≤ w.heap.size + 1 + 1; omega) (.slice ad' n' cap'))
  go_wp2_with fail
  refine bodyPost_ret (Ret.results_c rfl _ _ (w.heap.size + 1 + 1) [.int .i64 ce, .slice ad' n' cap'] rfl aggCn Z.out.cells) rfl ?_
  exact ⟨_, rfl, cn_in ZO.out (by omega) HRES.out ZB.out.size, ZB.out⟩
set_option maxRecDepth 100000 in
set_option maxHeartbeats 4000000 in
theorem rto {Q : Exit → Act → World → Prop} {v0 v1 v2 v3 v5 v6 v8 v9 v10 v11 v12 v13 v14 v15 v16 v17 v18 v19 v20 v21 v22 v23 : Value} {w : World} {gD p n c : Nat} {q cy : Nat} {xq xu : Option Addr} {cc r : Int} {l : List Cet} {m : List ByteArray} (HR : Hid (ixL (isE m) l = r)) (H_l : Hid (kLCe.At w (.slice xu n c) l)) (H_m : Hid (kN.At w (.agg #[.slice xq q cy]) m)) (HLL : Hid (l.length ≤ 9000000)) (HLP : Hid (∀ x ∈ l, wtCe x ≤ 1200000)) (HMB : Hid (bulk m ≤ 1200000)) (K0 : Hid (w.cell? ⟨gD, 0, none⟩ = some (.int .i64 cc))) (K1 : Hid (w.cell? ⟨gD, 1, none⟩ = some (.slice xu n c))) (K2 : Hid (w.cell? ⟨p, 0, none⟩ = some (.slice xq q cy)))
  (hQ : ∀ (u11 u12 u13 : Value)  (wx : World), Below w.heap.size w wx → Q .normal ⟨#[v0, v1, v2, v3, .pointer (some ⟨p, 0, none⟩), v5, v6, .pointer (some ⟨gD, 0, none⟩), .int .i64 r, v9, v10, u11, u12, u13, .int .i64 r, v15, v16, v17, v18, v19, v20, v21, v22, v23], []⟩ wx) :
  (Code.region 2 #[⟨some 11, .load 76 (.tmp 7), 76, "l12_cache.go:126", #[], none⟩,
   ⟨some 12, .load 44 (.tmp 4), 44, "l12_cache.go:126", #[], none⟩,
   ⟨some 13, .call ⟨.value (.func 62), #[.tmp 12], #[44]⟩, 84, "l12_cache.go:126", #[⟨1, .data⟩], none⟩,
   ⟨some 14, .call ⟨.value (.func 72), #[.tmp 11, .tmp 13], #[76, 84]⟩, 3, "l12_cache.go:126", #[⟨0, .data⟩, ⟨2, .data⟩, ⟨2, .chain⟩], none⟩,
   ⟨some 8, .assign (.tmp 14), 3, "l12_cache.go:126", #[⟨3, .data⟩, ⟨3, .chain⟩, ⟨0, .phase⟩, ⟨1, .phase⟩, ⟨2, .phase⟩, ⟨3, .phase⟩], none⟩] true).wp Try.prog Q ⟨#[v0, v1, v2, v3, .pointer (some ⟨p, 0, none⟩), v5, v6, .pointer (some ⟨gD, 0, none⟩), v8, v9, v10, v11, v12, v13, v14, v15, v16, v17, v18, v19, v20, v21, v22, v23], []⟩ w := by
 have HQ := Lib.hid hQ; clear hQ
 have hdr : Below w.heap.size w w.drew := (Below.refl _ _).drew
 have BB := Lib.hid hdr
 refine wp_region_noPanic ?_
 refine wp_region_held_drew (S := (fun w' => w'.cell? ⟨gD, 0, none⟩ = some (.int .i64 cc) ∧ w'.cell? ⟨gD, 1, none⟩ = some (.slice xu n c) ∧ w'.cell? ⟨p, 0, none⟩ = some (.slice xq q cy))) (by kernel_rfl) ?_ (fun hHeld => ?_)
 ·
  exact ⟨kc K0.out BB.out, kc K1.out BB.out, kc K2.out BB.out⟩
 clear hdr
 generalize w.drew = wd at *
 refine wpAnyH_take (i := 0) (oi := ⟨some 11, .load 76 (.tmp 7), 76, "l12_cache.go:126", #[], none⟩) (v := ?_) rfl (by kernel_rfl) (by kernel_rfl) (by kernel_rfl) (fun _ _ _ h => h) (Or.inl ⟨by rfl, ?_⟩) (by assumption) ?_
 rotate_left
 ·
  intro w' hSw; (try dsimp only at hSw); first | (go_simp; done) | (go_simp; with_reducible rfl)
 (try simp only [Act.put, Row.pB0, Row.pB1, Row.pB2])
 refine wpAnyH_take (i := 1) (oi := ⟨some 12, .load 44 (.tmp 4), 44, "l12_cache.go:126", #[], none⟩) (v := ?_) rfl (by kernel_rfl) (by kernel_rfl) (by kernel_rfl) (fun _ _ _ h => h) (Or.inl ⟨by rfl, ?_⟩) (by assumption) ?_
 rotate_left
 ·
  intro w' hSw; (try dsimp only at hSw); first | (go_simp; done) | (go_simp; with_reducible rfl)
 (try simp only [Act.put, Row.pB0, Row.pB1, Row.pB2])
 refine wpAnyH_ready (rs := [2]) (by kernel_rfl) (by simp) ?_
 refine AllReadyH.cons (o := ⟨some 13, .call ⟨.value (.func 62), #[.tmp 12], #[44]⟩, 84, "l12_cache.go:126", #[⟨1, .data⟩], none⟩) rfl (fun K hK => ?_) AllReadyH.nil
 go_simp
 refine (iNamed _ _ _ _).mono ?_
 rintro e wn1 ⟨gN, rfl, hgN, hXN, hb⟩
 have HXN := Lib.hid hXN; clear hXN hgN
 replace BB := Lib.hid (BB.out.trans (hb.mono BB.out.size))
 clear hb
 (try go_wp2_with fail)
 clear hHeld
 refine hK.out _ _ ?_ (fun hHeld => ?_)
 ·
  (try dsimp only); exact ⟨kc K0.out BB.out, kc K1.out BB.out, kc K2.out BB.out⟩
 clear hK K
 (try simp only [Act.put, Row.pB0, Row.pB1, Row.pB2])
 refine wpAnyH_ready (rs := [3]) (by kernel_rfl) (by simp) ?_
 refine AllReadyH.cons (o := ⟨some 14, .call ⟨.value (.func 72), #[.tmp 11, .tmp 13], #[76, 84]⟩, 3, "l12_cache.go:126", #[⟨0, .data⟩, ⟨2, .data⟩, ⟨2, .chain⟩], none⟩) rfl (fun K hK => ?_) AllReadyH.nil
 go_simp
 refine (iFindNd gN _ _ _ m _ _ _ cc l _ r HR.out (H_l.out.on BB.out) HXN.out (H_m.out.on BB.out) HLL.out HLP.out HMB.out).mono ?_
 rintro e wn2 ⟨rfl, hb⟩
 replace HXN := Lib.hid (HXN.out.on hb)
 replace BB := Lib.hid (BB.out.trans (hb.mono BB.out.size))
 clear hb
 (try go_wp2_with fail)
 clear hHeld
 refine hK.out _ _ ?_ (fun hHeld => ?_)
 ·
  (try dsimp only); exact ⟨kc K0.out BB.out, kc K1.out BB.out, kc K2.out BB.out⟩
 clear hK K
 (try simp only [Act.put, Row.pB0, Row.pB1, Row.pB2])
 refine wpAnyH_take (i := 4) (oi := ⟨some 8, .assign (.tmp 14), 3, "l12_cache.go:126", #[⟨3, .data⟩, ⟨3, .chain⟩, ⟨0, .phase⟩, ⟨1, .phase⟩, ⟨2, .phase⟩, ⟨3, .phase⟩], none⟩) (v := ?_) rfl (by kernel_rfl) (by kernel_rfl) (by kernel_rfl) (fun _ _ _ h => h) (Or.inl ⟨by rfl, ?_⟩) (by assumption) ?_
 rotate_left
 ·
  intro w' hSw; (try dsimp only at hSw); first | (go_simp; done) | (go_simp; with_reducible rfl)
 (try simp only [Act.put, Row.pB0, Row.pB1, Row.pB2])
 refine wpAnyH_done (by kernel_rfl) ?_ _
 exact NoPanic.normal (HQ.out _ _ _  _  BB.out)
theorem put_used {B : Nat} {w : World} {g n cap j : Nat} {L : List Cem} {now : Int} (h : kLCe.Own B w.heap.size w ⟨some ⟨g, 0, none⟩, n, cap, L⟩) (hn : n = L.length) (hj : j < L.length) :
    kLCe.Own B (w.setCell ⟨g, j * 6 + 5, none⟩ (.int .i64 now)).heap.size (w.setCell ⟨g, j * 6 + 5, none⟩ (.int .i64 now)) ⟨some ⟨g, 0, none⟩, n, cap, L.set j ((nth L j).1, now)⟩ := by
  rw [World.size_setCell]
  exact (Kd.Own.put h hn hj (i := 5) (by decide) (u := .int .i64 now) (x' := (((nth L j).1, now) : Cem)) rfl rfl (fun h => h)).1
theorem touch_strip {L : List Cem} {j : Nat} {now : Int} (hj : j < L.length) : (L.set j (((nth L j).1, now) : Cem)).map kCe.strip = touchE (L.map kCe.strip) (j : Int) now := by
  unfold touchE
  rw [if_pos (by omega), List.map_set, Int.toNat_natCast, nth_map _ hj]
  rfl
set_option maxHeartbeats 8000000 in
theorem implTouch (V U : Value) (x : Cnt) (m : List ByteArray) (now : Int) (w : World) (h : kCn.At w V x) (g : kN.At w U m) (hp : FitC x) (hm : bulk m ≤ 1200000) :
    Calls Try.prog 34 #[V, U, .int .i64 now] w fun e w' => ∃ U, e = .returned U ∧ kCn.In w.heap.size w'.heap.size w' U (touchC x m now) ∧ Below w.heap.size w w' := by
  obtain ⟨xq, q, cy, rfl, g⟩ := kN_shapeA g
  obtain ⟨x1_0, n1_0, c1_0, rfl, g1⟩ := kCn_at h
  clear h
  obtain ⟨cc, l⟩ := x
  have hfit := hp
  obtain ⟨hl, hp7⟩ := hp.fields
  clear hp
  have hp := hp7
  clear hp7
  dsimp only at g1 hl hp ⊢
  have b0 := (Below.refl w.heap.size w).alloc (Nat.le_refl _) (.cells #[.int .i64 cc, .slice x1_0 n1_0 c1_0] 24)
  have b1 := (Below.refl (w.alloc (.cells #[.int .i64 cc, .slice x1_0 n1_0 c1_0] 24)).heap.size (w.alloc (.cells #[.int .i64 cc, .slice x1_0 n1_0 c1_0] 24))).alloc (Nat.le_refl _) (.cells #[.slice xq q cy] 44)
  have b2 := (Below.refl ((w.alloc (.cells #[.int .i64 cc, .slice x1_0 n1_0 c1_0] 24)).alloc (.cells #[.slice xq q cy] 44)).heap.size ((w.alloc (.cells #[.int .i64 cc, .slice x1_0 n1_0 c1_0] 24)).alloc (.cells #[.slice xq q cy] 44))).alloc (Nat.le_refl _) (.cells #[.int .i64 0, .slice none 0 0] 24)
  have b012 := (b0.trans (b1.mono b0.size)).trans (b2.mono (Nat.le_trans b0.size b1.size))
  have hX0 := ((Ret.Blk.new w #[.int .i64 cc, .slice x1_0 n1_0 c1_0] 24).on b1).on b2
  have hX1 := (Ret.Blk.new' (w := (w.alloc (.cells #[.int .i64 cc, .slice x1_0 n1_0 c1_0] 24))) (n := w.heap.size + 1) #[.slice xq q cy] 44 (by simp)).on b2
  have hX2 := Ret.Blk.new' (w := ((w.alloc (.cells #[.int .i64 cc, .slice x1_0 n1_0 c1_0] 24)).alloc (.cells #[.slice xq q cy] 44))) (n := w.heap.size + 1 + 1) #[.int .i64 0, .slice none 0 0] 24 (by simp)
  have hS3 : (((w.alloc (.cells #[.int .i64 cc, .slice x1_0 n1_0 c1_0] 24)).alloc (.cells #[.slice xq q cy] 44)).alloc (.cells #[.int .i64 0, .slice none 0 0] 24)).heap.size = w.heap.size + 3 := by simp
  have HA := Lib.hid (cn_of (cc := cc) (g1.on b012)); have HG := Lib.hid g; have HMB := Lib.hid hm
  have q0 : (((w.alloc (.cells #[.int .i64 cc, .slice x1_0 n1_0 c1_0] 24)).alloc (.cells #[.slice xq q cy] 44)).alloc (.cells #[.int .i64 0, .slice none 0 0] 24)).cell? ⟨w.heap.size, 0, none⟩ = some (.int .i64 cc) := hX0.cell 0
  have q1 : (((w.alloc (.cells #[.int .i64 cc, .slice x1_0 n1_0 c1_0] 24)).alloc (.cells #[.slice xq q cy] 44)).alloc (.cells #[.int .i64 0, .slice none 0 0] 24)).cell? ⟨w.heap.size, 1, none⟩ = some (.slice x1_0 n1_0 c1_0) := hX0.cell 1
  go_enter Try.func34, Try.ntmps34
  go_wp2_with fail
  refine (implCloneStore _ (cc, l) _ HA.out hfit).mono ?_
  rintro e w1 ⟨U, rfl, hi, hb1⟩
  obtain ⟨m, rfl, hs, hi⟩ := hi.split
  obtain ⟨ce, r⟩ := m
  obtain ⟨xu, nu, cu, Lu⟩ := r
  obtain ⟨rfl, hsl⟩ : ce = cc ∧ Lu.map kCe.strip = l := by
    have e1 : (ce, Lu.map kCe.strip) = (cc, l) := hs
    injection e1 with e1 e2
    exact ⟨e1, e2⟩
  obtain ⟨-, hi2, -⟩ := Kd.Own.parts hi
  rw [hS3] at hi2
  rw [show kCn.val ((ce, (⟨xu, nu, cu, Lu⟩ : Rw Cem)) : Cnm) = .agg #[.int .i64 ce, .slice xu nu cu] from rfl]
  have hal := (Below.refl w1.heap.size w1).alloc (Nat.le_refl _) (.cells #[.int .i64 ce, .slice xu nu cu] 76)
  have HG1 := Lib.hid (show w.heap.size + 3 ≤ w1.heap.size by rw [← hS3]; exact hb1.size)
  have HX0 := Lib.hid ((hX0.on hb1).on hal); have HX1 := Lib.hid ((hX1.on hb1).on hal); have HX2 := Lib.hid ((hX2.on hb1).on hal)
  have HXD := Lib.hid (Ret.Blk.new w1 #[.int .i64 ce, .slice xu nu cu] 76)
  have HO := Lib.hid (hi2.upto hal); have HSL := Lib.hid hsl
  have HB := Lib.hid (b012.trans ((hb1.trans (hal.mono hb1.size)).mono b012.size))
  have HLU := Lib.hid (show Lu.length ≤ 1100000 by have h9 := hl; rw [← hsl, List.length_map] at h9; exact h9)
  have HPU := Lib.hid (show ∀ x ∈ Lu.map kCe.strip, wtCe x ≤ 1200000 by rw [hsl]; exact hp)
  clear hi hi2 hs hsl hb1 hal hX0 hX1 hX2 b0 b1 b2 b012 g1 g hm HA hfit hl hp hS3 q0 q1
  go_wp2_with fail
  obtain ⟨z, hz⟩ : ∃ z, ixL (isE m) l = z := ⟨_, rfl⟩
  have HZ := Lib.hid hz; clear hz
  have HLA : Hid (kLCe.At (w1.alloc (.cells #[.int .i64 ce, .slice xu nu cu] 76)) (.slice xu nu cu) l) := Lib.hid ⟨⟨xu, nu, cu, Lu⟩, rfl, HSL.out, HO.out.holds⟩
  refine rto (l := l) (m := m) HZ HLA (Lib.hid (HG.out.on HB.out)) (Lib.hid (by rw [← HSL.out, List.length_map]; have := HLU.out; omega)) (Lib.hid (by rw [← HSL.out]; exact HPU.out)) HMB (Lib.hid (HXD.out.cell 0)) (Lib.hid (HXD.out.cell 1)) (Lib.hid (HX1.out.cell 0)) ?_
  intro u11 u12 u13 wx hbx
  replace HX2 := Lib.hid (HX2.out.on hbx); replace HXD := Lib.hid (HXD.out.on hbx); replace HO := Lib.hid (HO.out.upto hbx); replace HB := Lib.hid (HB.out.trans (hbx.mono HB.out.size))
  clear hbx HX0 HX1 HLA
  rcases ixL_cases (isE m) l with ⟨e1, -⟩ | ⟨k, hk, e1, -, -⟩
  · obtain rfl : z = -1 := by rw [← HZ.out]; exact e1
    have HRES : Hid (Lu.map kCe.strip = touchE l (ixL (isE m) l) now) := Lib.hid (by rw [HSL.out, e1]; rfl)
    clear e1
    have p0 : wx.cell? ⟨w1.heap.size, 0, none⟩ = some (.int .i64 ce) := HXD.out.cell 0
    have p1 : wx.cell? ⟨w1.heap.size, 1, none⟩ = some (.slice xu nu cu) := HXD.out.cell 1
    have r0 := HX2.out.frozen 0; have r1 := HX2.out.frozen 1; have r2 := HX2.out.cell 0; have r3 := HX2.out.cell 1
    have Z := Lib.hid ((HX2.out.set 0 (.int .i64 ce)).set 1 (.slice xu nu cu))
    have ZO := Lib.hid (own_setS (i := 1) (u := .slice xu nu cu) (own_setS (i := 0) (u := .int .i64 ce) HO.out (g := w.heap.size + 1 + 1) (by omega)) (g := w.heap.size + 1 + 1) (by omega))
    have ZB := Lib.hid ((HB.out.setCell (p := ⟨w.heap.size + 1 + 1, 0, none⟩) (by show w.heap.size ≤ w.heap.size + 1 + 1; omega) (.int .i64 ce)).setCell (p := ⟨w.heap.size + 1 + 1, 1, none⟩) (by show w.heap.size ≤ w.heap.size + 1 + 1; omega) (.slice xu nu cu))
    go_wp2_with fail
    refine bodyPost_ret (Ret.results_c rfl _ _ (w.heap.size + 1 + 1) [.int .i64 ce, .slice xu nu cu] rfl aggCn Z.out.cells) rfl ?_
    exact ⟨_, rfl, cn_in ZO.out (by omega) HRES.out ZB.out.size, ZB.out⟩
  · obtain rfl : z = (k : Int) := by rw [← HZ.out]; exact e1
    have hkL : k < Lu.length := by rw [← HSL.out, List.length_map] at hk; exact hk
    have hnl : nu = Lu.length := HO.out.1.1.holds.lenEq
    have hnc : nu ≤ cu := by obtain ⟨x', n', cap', hv, hn', hc', -⟩ := HO.out.1.1.holds.shapeN; cases hv; exact hc'
    rcases HO.out.1.1.form with ⟨hv, hL⟩ | ⟨gR, cap', hv, h1, h2, h3, h4⟩
    · rw [show Lu = [] from hL] at hkL
      exact absurd hkL (by simp)
    · replace hv : Value.slice xu nu cu = .slice (some ⟨gR, 0, none⟩) Lu.length cap' := hv
      injection hv with e5 e6 e7
      subst e5
      have HRES : Hid ((Lu.set k (((nth Lu k).1, now) : Cem)).map kCe.strip = touchE l (ixL (isE m) l) now) := Lib.hid (by rw [touch_strip hkL, HSL.out, e1])
      have hkn : k < nu := by omega
      have hkc : k ≤ cu := by omega
      have HNL := Lib.hid hnl; have HKL := Lib.hid hkL
      have c5 : wx.cell? ⟨gR, k * 6 + 5, none⟩ = (kCe.cells (nth Lu k))[5]? := (ownK_cell szCe_cells HO.out.1.1 hnl hkL (i := 5) (by decide)).1
      have f5 : wx.frozen? ⟨gR, k * 6 + 5, none⟩ = false := (ownK_cell szCe_cells HO.out.1.1 hnl hkL (i := 5) (by decide)).2
      obtain ⟨z5, hz5⟩ : ∃ z, wx.cell? ⟨gR, k * 6 + 5, none⟩ = some z := ⟨_, c5.trans (List.getElem?_eq_getElem (by rw [kCe.len]; decide))⟩
      have k1 : wx.cell? ⟨w1.heap.size, 1, none⟩ = some (.slice (some ⟨gR, 0, none⟩) nu cu) := HXD.out.cell 1
      have HNE : Hid (gR ≠ w1.heap.size) := Lib.hid (fun e => row_ne_blk HO.out.1.1 HXD.out (by decide) (by rw [← e]; rfl))
      have HR3 := Lib.hid (show w.heap.size + 3 ≤ gR from h1)
      clear e1 e6 e7 h1 h2 h3 h4 c5 hnl hkL
      have HO5 := Lib.hid (put_used (now := now) HO.out HNL.out HKL.out)
      have HXD5 := Lib.hid (HXD.out.other (a := ⟨gR, k * 6 + 5, none⟩) HNE.out (.int .i64 now))
      have HX25 := Lib.hid (HX2.out.other (a := ⟨gR, k * 6 + 5, none⟩) (by show gR ≠ w.heap.size + 1 + 1; have := HR3.out; omega) (.int .i64 now))
      have HB5 := Lib.hid (HB.out.setCell (p := ⟨gR, k * 6 + 5, none⟩) (by show w.heap.size ≤ gR; have := HR3.out; omega) (.int .i64 now))
      clear HO HXD HX2 HB
      have p0 : (wx.setCell ⟨gR, k * 6 + 5, none⟩ (.int .i64 now)).cell? ⟨w1.heap.size, 0, none⟩ = some (.int .i64 ce) := HXD5.out.cell 0
      have p1 : (wx.setCell ⟨gR, k * 6 + 5, none⟩ (.int .i64 now)).cell? ⟨w1.heap.size, 1, none⟩ = some (.slice (some ⟨gR, 0, none⟩) nu cu) := HXD5.out.cell 1
      have r0 := HX25.out.frozen 0; have r1 := HX25.out.frozen 1; have r2 := HX25.out.cell 0; have r3 := HX25.out.cell 1
      have Z := Lib.hid ((HX25.out.set 0 (.int .i64 ce)).set 1 (.slice (some ⟨gR, 0, none⟩) nu cu))
      have ZO := Lib.hid (own_setS (i := 1) (u := .slice (some ⟨gR, 0, none⟩) nu cu) (own_setS (i := 0) (u := .int .i64 ce) HO5.out (g := w.heap.size + 1 + 1) (by omega)) (g := w.heap.size + 1 + 1) (by omega))
      have ZB := Lib.hid ((HB5.out.setCell (p := ⟨w.heap.size + 1 + 1, 0, none⟩) (by show w.heap.size ≤ w.heap.size + 1 + 1; omega) (.int .i64 ce)).setCell (p := ⟨w.heap.size + 1 + 1, 1, none⟩) (by show w.heap.size ≤ w.heap.size + 1 + 1; omega) (.slice (some ⟨gR, 0, none⟩) nu cu))
      go_wp2_with fail
      refine bodyPost_ret (Ret.results_c rfl _ _ (w.heap.size + 1 + 1) [.int .i64 ce, .slice (some ⟨gR, 0, none⟩) nu cu] rfl aggCn Z.out.cells) rfl ?_
      exact ⟨_, rfl, cn_in ZO.out (by omega) HRES.out ZB.out.size, ZB.out⟩
end Go.Proofs.Ythfljbbigpophaa.Row
/- CachedNames, model and program. No conditions but that lengths fit. -/
namespace Go.Proofs.Ythfljbbigpophaa.Row
open Go.ChangeShapes Go.WideShapes Go.ChangeAt Go.RowKit Go.Instr
set_option linter.unusedVariables false
set_option maxRecDepth 100000
theorem one_nn {W : World} {m1 : Rw ByteArray} {g : Nat} {a : Value} (hd : kNn.cells m1 = [a]) (hg : g = W.heap.size) : HoldsK kNn.cells 1 (W.alloc (.cells #[a] 44)) (.slice (some ⟨g, 0, none⟩) 1 1) [m1] := by
  subst hg
  have h := holdsK_one szNn_cells 44 W m1
  rw [hd] at h
  exact h
theorem kN_split {B E : Nat} {w : World} {V : Value} {x : List ByteArray} (h : kN.In B E w V x) : ∃ (m1 : Rw ByteArray) (ya : Option Addr) (ma da : Nat), V = .agg #[.slice ya ma da] ∧ kNn.strip m1 = x ∧ kNn.cells m1 = [.slice ya ma da] ∧ kNn.Own B E w m1 := by
  obtain ⟨m1, rfl, rfl, ho⟩ := h.split
  obtain ⟨ya, ma, da, e, -⟩ := kN_shapeA (Kd.at_of (k := kN) ho.holds)
  exact ⟨m1, ya, ma, da, e, rfl, by injection e with e; exact congrArg Array.toList e, ho⟩
theorem nn_grow {B : Nat} {wr w1 W w4 : World} {r : Rw Nnm} {m1 : Nnm} {x4 : Option Addr} {n4 c4 : Nat} (h : kLNn.Own B wr.heap.size wr r) (hb1 : Below wr.heap.size wr w1) (hm : kNn.Own wr.heap.size w1.heap.size w1 m1) (hbW : Below w1.heap.size w1 W)
    (ho : OwnK 44 kNn.cells 1 B w4 (.slice x4 n4 c4) (r.els ++ [m1])) (hg : W.grownBy w4 r.v.ownBlock) (hB : B ≤ wr.heap.size) : kLNn.Own B w4.heap.size w4 ⟨x4, n4, c4, r.els ++ [m1]⟩ :=
  Kd.push_later noRow_kN ((h.on hb1).on hbW) (hm.on hbW) hB ho hg
set_option maxHeartbeats 8000000 in
theorem specCachedNames (V : Value) (x : Cnt) (w : World) (h : kCn.At w V x) (hp : FitC x) :
    Calls Try.prog 37 #[V] w fun e w' => ∃ U, e = .returned U ∧ kLNn.In w.heap.size w'.heap.size w' U (namesC x) ∧ Below w.heap.size w w' := by
  obtain ⟨x1_0, n1_0, c1_0, rfl, g1⟩ := kCn_at h
  clear h
  obtain ⟨cc, l⟩ := x
  have hfit := hp
  obtain ⟨hl, hp7⟩ := hp.fields
  clear hp
  have hp := hp7
  clear hp7
  dsimp only at g1 hl hp ⊢
  have b0 := (Below.refl w.heap.size w).alloc (Nat.le_refl _) (.cells #[.int .i64 cc, .slice x1_0 n1_0 c1_0] 24)
  obtain ⟨x, n, cx, L, e9, hn, ht, hh, hel⟩ := kLCe_at g1
  cases e9
  have hlen : l.length = n1_0 := by rw [← ht, List.length_map]; exact hn.symm
  rw [hlen] at hl
  have hcap : n1_0 ≤ c1_0 := by obtain ⟨x', n', cap', hv, hn', hc', -⟩ := hh.shapeN; cases hv; exact hc'
  have HN := Lib.hid hn; have HT := Lib.hid ht; have HH := Lib.hid hh; have HEL := Lib.hid hel; have HLEN := Lib.hid hlen; have HP := Lib.hid hp
  have HNC : Hid (namesC (cc, l) = l.map fun e => e.1.1) := Lib.hid rfl
  clear hn ht hh hel hlen hp g1 hfit
  have hown := ownK_empty kNn.cells 1 44 (w.alloc (.cells #[.int .i64 cc, .slice x1_0 n1_0 c1_0] 24))
  have hbe := (Below.refl (w.alloc (.cells #[.int .i64 cc, .slice x1_0 n1_0 c1_0] 24)).heap.size (w.alloc (.cells #[.int .i64 cc, .slice x1_0 n1_0 c1_0] 24))).alloc (Nat.le_refl _) (.cells #[] 44)
  have HX := Lib.hid ((Ret.Blk.new w #[.int .i64 cc, .slice x1_0 n1_0 c1_0] 24).on hbe); have HB := Lib.hid (b0.trans (hbe.mono b0.size))
  rw [World.size_alloc] at hown
  have HO := Lib.hid (show kLNn.Own (w.heap.size + 1) ((w.alloc (.cells #[.int .i64 cc, .slice x1_0 n1_0 c1_0] 24)).alloc (.cells #[] 44)).heap.size _ ⟨some ⟨w.heap.size + 1, 0, none⟩, 0, 0, []⟩ from Kd.own_row hown rfl)
  have HS : Hid (w.heap.size + 1 ≤ ((w.alloc (.cells #[.int .i64 cc, .slice x1_0 n1_0 c1_0] 24)).alloc (.cells #[] 44)).heap.size) := Lib.hid (by simp)
  clear hown hbe b0
  go_enter Try.func37, Try.ntmps37
  go_wp2
  go_loopw [3, 4] (fun uv iv wr => ∃ k : Nat, k ≤ n1_0 ∧ iv = .int .i64 k ∧ ∃ xu nu cu Lu, uv = .slice xu nu cu ∧ Hid (Lu.length = k) ∧ Hid (Lu.map kNn.strip = (l.take k).map fun e => e.1.1) ∧ Hid (kLNn.Own (w.heap.size + 1) wr.heap.size wr ⟨xu, nu, cu, Lu⟩) ∧ Hid (Ret.Blk wr w.heap.size #[.int .i64 cc, .slice x1_0 n1_0 c1_0] 24) ∧ Hid (Below w.heap.size w wr) ∧ Hid (w.heap.size + 1 ≤ wr.heap.size)) (fun _ iv _ => n1_0 - (intOf iv).toNat)
  case atStart => exact ⟨0, Nat.zero_le _, rfl, some ⟨w.heap.size + 1, 0, none⟩, 0, 0, [], rfl, Lib.hid rfl, Lib.hid (by simp), HO, HX, HB, HS⟩
  case round =>
    clear HO HX HB HS
    obtain ⟨k, hk, rfl, xu, nu, cu, Lu, rfl, hM, hst, ho, hx, hb, hsz⟩ := hrel
    have q1 : wr.cell? ⟨w.heap.size, 1, none⟩ = some (.slice x1_0 n1_0 c1_0) := hx.out.cell 1
    by_cases hlt : k < n1_0
    · have hlen := HN.out
      obtain ⟨b, off, y0, m0, d0, y1, m1, d1, y2, m2, d2, rfl, -, hc0, hc1, hc2, hc3, hc4, hc5, hA⟩ := kLCe_elem (HH.out.on hb.out) (fun y hy => kCe.holds_on (HEL.out y hy) hb.out) (j := k) (by omega)
      have hpt : nth l k = kCe.strip (nth L k) := by rw [← HT.out, nth_map _ (by omega)]
      have hps := HP.out (nth l k) (nth_mem (by have := HLEN.out; omega))
      rw [← hpt] at hA hc3 hc4 hc5
      obtain ⟨hD, hNM⟩ := kCe_parts hA
      have HA := Lib.hid hA; have HD := Lib.hid hD; have HNM := Lib.hid hNM; have HPS := Lib.hid hps; have HPD := Lib.hid (show wtDz (nth l k).1 ≤ 1200000 from hps); have HPN := Lib.hid (show bulk (nth l k).1.1 ≤ 1200000 from (wtDz_lens _ hps).1)
      have H0 := Lib.hid hc0; have H1 := Lib.hid hc1; have H2 := Lib.hid hc2; have H3 := Lib.hid hc3; have H4 := Lib.hid hc4; have H5 := Lib.hid hc5
      clear hlen hpt hps hA hD hNM
      go_wp2_with fail
      refine (sCpyN HNM.out (Nat.le_trans HPN.out (by decide))).mono ?_
      rintro e w5 ⟨U, rfl, hi5, hb5⟩
      obtain ⟨m5, za, na, ea, rfl, hs5, hd5, ho5⟩ := kN_split hi5
      have hal5 := (Below.refl w5.heap.size w5).alloc (Nat.le_refl _) (.cells #[.slice za na ea] 44)
      have hbl := hal5.alloc hal5.size (.cells #[.slice za na ea] 44)
      have HSO := Lib.hid (one_nn (W := w5.alloc (.cells #[.slice za na ea] 44)) (g := w5.heap.size + 1) hd5 (by simp))
      have HOA := Lib.hid (show OwnK 44 kNn.cells 1 (w.heap.size + 1) _ (.slice xu nu cu) Lu from ((ho.out.on hb5).on hbl).1.1)
      have HB5 := Lib.hid hb5; have HI5 := Lib.hid ho5; have HBL := Lib.hid hbl; have HS5 := Lib.hid hs5
      have HLM := Lib.hid (show (Lu.length + 1) * 24 ≤ 140737488355328 by have := hM.out; omega)
      have HLX := Lib.hid (show Lu.length + 1 ≤ maxLen by have := hM.out; unfold maxLen; omega)
      have HB3 := Lib.hid (Nat.le_trans hsz.out (Nat.le_trans hb5.size hbl.size))
      have HXL := Lib.hid ((hx.out.on hb5).on hbl); have HBC := Lib.hid (hb.out.trans ((hb5.trans (hbl.mono hb5.size)).mono hb.out.size))
      clear hi5 ho5 hs5 hd5 hb5 hbl hal5 hc0 hc1 hc2 hc3 hc4 hc5 q1
      go_wp2_with (at_builtin; refine wpList_appK kindNn (B := w.heap.size + 1) (l := Lu) (m := [m5]) rfl _ _ rfl Try.underlying61 rfl rfl HOA.out HSO.out HLM.out HLX.out HB3.out ?_)
      intro v6 w6 ho6 hg6
      obtain ⟨x6, n6, c6, rfl, -, -, ho6⟩ := ho6.shapeN
      have HO6 := Lib.hid (nn_grow ho.out HB5.out HI5.out HBL.out ho6 hg6 hsz.out)
      have HX6 := Lib.hid (HXL.out.grown hg6 (fun e => by have := (HOA.out.lt _ e.symm).1; omega))
      have HB6 := Lib.hid (HBC.out.grown hg6 HBC.out.size (fun g hg => by have := (HOA.out.lt g hg).1; omega))
      have HZ6 := Lib.hid (Nat.le_trans HB3.out hg6.size)
      have HST := Lib.hid (show (Lu ++ [m5]).map kNn.strip = (l.take (k + 1)).map fun e => e.1.1 by
        rw [List.map_append, hst.out, take_nx (by have := HLEN.out; omega), List.map_append]
        show _ ++ [kNn.strip m5] = _
        rw [HS5.out]; rfl)
      clear ho6 hg6
      go_wp2_with fail
      go_roundw
      case rel => exact ⟨k + 1, by omega, by go_num, x6, n6, c6, Lu ++ [m5], rfl, Lib.hid (by simp [hM.out]), HST, HO6, HX6, HB6, HZ6⟩
      case measure => simp [intOf]; omega
    · obtain rfl : k = n1_0 := by omega
      clear hlt
      have HRES := Lib.hid (show Lu.map kNn.strip = namesC (cc, l) by rw [hst.out, HNC.out, List.take_of_length_le (by rw [HLEN.out]; exact Nat.le_refl _)])
      go_wp2
      go_ret
      refine ⟨_, rfl, ?_, hb.out⟩
      have h9 := (ho.out.mono (Nat.le_succ _) (Nat.le_refl _)).in
      rw [show kLNn.strip ⟨xu, nu, cu, Lu⟩ = Lu.map kNn.strip from rfl, HRES.out] at h9
      exact h9
set_option maxHeartbeats 8000000 in
theorem implCachedNames (V : Value) (x : Cnt) (w : World) (h : kCn.At w V x) (hp : FitC x) :
    Calls Try.prog 38 #[V] w fun e w' => ∃ U, e = .returned U ∧ kLNn.In w.heap.size w'.heap.size w' U (namesC x) ∧ Below w.heap.size w w' := by
  obtain ⟨x1_0, n1_0, c1_0, rfl, g1⟩ := kCn_at h
  clear h
  obtain ⟨cc, l⟩ := x
  have hfit := hp
  obtain ⟨hl, hp7⟩ := hp.fields
  clear hp
  have hp := hp7
  clear hp7
  dsimp only at g1 hl hp ⊢
  have b0 := (Below.refl w.heap.size w).alloc (Nat.le_refl _) (.cells #[.int .i64 cc, .slice x1_0 n1_0 c1_0] 24)
  obtain ⟨x, n, cx, L, e9, hn, ht, hh, hel⟩ := kLCe_at g1
  cases e9
  have hlen : l.length = n1_0 := by rw [← ht, List.length_map]; exact hn.symm
  rw [hlen] at hl
  have hcap : n1_0 ≤ c1_0 := by obtain ⟨x', n', cap', hv, hn', hc', -⟩ := hh.shapeN; cases hv; exact hc'
  have HN := Lib.hid hn; have HT := Lib.hid ht; have HH := Lib.hid hh; have HEL := Lib.hid hel; have HLEN := Lib.hid hlen; have HP := Lib.hid hp
  have HNC : Hid (namesC (cc, l) = l.map fun e => e.1.1) := Lib.hid rfl
  clear hn ht hh hel hlen hp g1 hfit
  obtain ⟨i0, hi, hz0, hz1, hz2⟩ := info_parts kindNn.elem
  have HI := Lib.hid hi; have HZ0 := Lib.hid hz0; have HZ1 := Lib.hid hz1; have HZ2 := Lib.hid hz2
  have HX0 := Lib.hid (Ret.Blk.new w #[.int .i64 cc, .slice x1_0 n1_0 c1_0] 24); have HB0 := Lib.hid b0
  have hs0 : (w.alloc (.cells #[.int .i64 cc, .slice x1_0 n1_0 c1_0] 24)).heap.size = w.heap.size + 1 := by simp
  have HS0 := Lib.hid hs0
  have q1 : (w.alloc (.cells #[.int .i64 cc, .slice x1_0 n1_0 c1_0] 24)).cell? ⟨w.heap.size, 1, none⟩ = some (.slice x1_0 n1_0 c1_0) := HX0.out.cell 1
  clear b0 hi hz0 hz1 hz2 hs0
  go_enter Try.func38, Try.ntmps38
  go_wp2_with (at_make; refine wpList_make_own _ rfl _ _ 61 rfl (w.heap.size + 1) 44 i0 (.agg #[.slice none 0 0]) 1 Try.underlying61 HI.out HZ0.out HZ1.out _ _ _ n1_0 rfl rfl rfl (by rw [HZ2.out]; omega) (by unfold maxLen; omega) (by rw [HS0.out]; exact Nat.le_refl _) ?_)
  intro w9 hown hgrow
  have HX := Lib.hid (HX0.out.grown hgrow (by simp)); have HB := Lib.hid (HB0.out.grown hgrow HB0.out.size (fun g hg => by cases hg))
  have HO := Lib.hid (show kLNn.Own (w.heap.size + 1) w9.heap.size w9 ⟨some ⟨w.heap.size + 1, 0, none⟩, 0, n1_0, []⟩ from Kd.own_row hown rfl)
  have HS : Hid (w.heap.size + 1 ≤ w9.heap.size) := Lib.hid (by rw [← HS0.out]; exact hgrow.size)
  clear hown hgrow HI HZ0 HZ1 HZ2 HX0 HB0 HS0 q1
  have q1 : w9.cell? ⟨w.heap.size, 1, none⟩ = some (.slice x1_0 n1_0 c1_0) := HX.out.cell 1
  go_wp2
  go_loopw [3, 13] (fun uv iv wr => ∃ k : Nat, k ≤ n1_0 ∧ iv = .int .i64 k ∧ ∃ xu nu cu Lu, uv = .slice xu nu cu ∧ Hid (Lu.length = k) ∧ Hid (Lu.map kNn.strip = (l.take k).map fun e => e.1.1) ∧ Hid (kLNn.Own (w.heap.size + 1) wr.heap.size wr ⟨xu, nu, cu, Lu⟩) ∧ Hid (Ret.Blk wr w.heap.size #[.int .i64 cc, .slice x1_0 n1_0 c1_0] 24) ∧ Hid (Below w.heap.size w wr) ∧ Hid (w.heap.size + 1 ≤ wr.heap.size)) (fun _ iv _ => n1_0 - (intOf iv).toNat)
  case atStart => exact ⟨0, Nat.zero_le _, rfl, some ⟨w.heap.size + 1, 0, none⟩, 0, n1_0, [], rfl, Lib.hid rfl, Lib.hid (by simp), HO, HX, HB, HS⟩
  case round =>
    clear HO HX HB HS
    obtain ⟨k, hk, rfl, xu, nu, cu, Lu, rfl, hM, hst, ho, hx, hb, hsz⟩ := hrel
    have q1 : wr.cell? ⟨w.heap.size, 1, none⟩ = some (.slice x1_0 n1_0 c1_0) := hx.out.cell 1
    by_cases hlt : k < n1_0
    · have hlen := HN.out
      obtain ⟨b, off, y0, m0, d0, y1, m1, d1, y2, m2, d2, rfl, -, hc0, hc1, hc2, hc3, hc4, hc5, hA⟩ := kLCe_elem (HH.out.on hb.out) (fun y hy => kCe.holds_on (HEL.out y hy) hb.out) (j := k) (by omega)
      have hpt : nth l k = kCe.strip (nth L k) := by rw [← HT.out, nth_map _ (by omega)]
      have hps := HP.out (nth l k) (nth_mem (by have := HLEN.out; omega))
      rw [← hpt] at hA hc3 hc4 hc5
      obtain ⟨hD, hNM⟩ := kCe_parts hA
      have HA := Lib.hid hA; have HD := Lib.hid hD; have HNM := Lib.hid hNM; have HPS := Lib.hid hps; have HPD := Lib.hid (show wtDz (nth l k).1 ≤ 1200000 from hps); have HPN := Lib.hid (show bulk (nth l k).1.1 ≤ 1200000 from (wtDz_lens _ hps).1)
      have H0 := Lib.hid hc0; have H1 := Lib.hid hc1; have H2 := Lib.hid hc2; have H3 := Lib.hid hc3; have H4 := Lib.hid hc4; have H5 := Lib.hid hc5
      clear hlen hpt hps hA hD hNM
      have hal := (Below.refl wr.heap.size wr).alloc (Nat.le_refl _) (.cells #[.slice y0 m0 d0, .slice y1 m1 d1, .slice y2 m2 d2, .int .i64 (nth l k).1.2.2.2.1, .int .i64 (nth l k).1.2.2.2.2, .int .i64 (nth l k).2] 72)
      have HXE := Lib.hid (Ret.Blk.new wr #[.slice y0 m0 d0, .slice y1 m1 d1, .slice y2 m2 d2, .int .i64 (nth l k).1.2.2.2.1, .int .i64 (nth l k).1.2.2.2.2, .int .i64 (nth l k).2] 72)
      replace hx := Lib.hid (hx.out.on hal); replace hb := Lib.hid (hb.out.trans (hal.mono hb.out.size)); replace ho := Lib.hid (ho.out.upto hal); replace hsz := Lib.hid (Nat.le_trans hsz.out hal.size); replace HNM := Lib.hid (HNM.out.on hal)
      clear hal
      go_wp2_with fail
      refine (iCpyN HNM.out (Nat.le_trans HPN.out (by decide))).mono ?_
      rintro e w5 ⟨U, rfl, hi5, hb5⟩
      obtain ⟨m5, za, na, ea, rfl, hs5, hd5, ho5⟩ := kN_split hi5
      have hbl := (Below.refl w5.heap.size w5).alloc (Nat.le_refl _) (.cells #[.slice za na ea] 44)
      have HSO := Lib.hid (one_nn (W := w5) (g := w5.heap.size) hd5 rfl)
      have HOA := Lib.hid (show OwnK 44 kNn.cells 1 (w.heap.size + 1) _ (.slice xu nu cu) Lu from ((ho.out.on hb5).on hbl).1.1)
      have HB5 := Lib.hid hb5; have HI5 := Lib.hid ho5; have HBL := Lib.hid hbl; have HS5 := Lib.hid hs5
      have HLM := Lib.hid (show (Lu.length + 1) * 24 ≤ 140737488355328 by have := hM.out; omega)
      have HLX := Lib.hid (show Lu.length + 1 ≤ maxLen by have := hM.out; unfold maxLen; omega)
      have HB3 := Lib.hid (Nat.le_trans hsz.out (Nat.le_trans hb5.size hbl.size))
      have HXL := Lib.hid ((hx.out.on hb5).on hbl); have HBC := Lib.hid (hb.out.trans ((hb5.trans (hbl.mono hb5.size)).mono hb.out.size))
      clear hi5 ho5 hs5 hd5 hb5 hbl  hc0 hc1 hc2 hc3 hc4 hc5 q1
      go_wp2_with (at_builtin; refine wpList_appK kindNn (B := w.heap.size + 1) (l := Lu) (m := [m5]) rfl _ _ rfl Try.underlying61 rfl rfl HOA.out HSO.out HLM.out HLX.out HB3.out ?_)
      intro v6 w6 ho6 hg6
      obtain ⟨x6, n6, c6, rfl, -, -, ho6⟩ := ho6.shapeN
      have HO6 := Lib.hid (nn_grow ho.out HB5.out HI5.out HBL.out ho6 hg6 hsz.out)
      have HX6 := Lib.hid (HXL.out.grown hg6 (fun e => by have := (HOA.out.lt _ e.symm).1; omega))
      have HB6 := Lib.hid (HBC.out.grown hg6 HBC.out.size (fun g hg => by have := (HOA.out.lt g hg).1; omega))
      have HZ6 := Lib.hid (Nat.le_trans HB3.out hg6.size)
      have HST := Lib.hid (show (Lu ++ [m5]).map kNn.strip = (l.take (k + 1)).map fun e => e.1.1 by
        rw [List.map_append, hst.out, take_nx (by have := HLEN.out; omega), List.map_append]
        show _ ++ [kNn.strip m5] = _
        rw [HS5.out]; rfl)
      clear ho6 hg6
      go_wp2_with fail
      go_roundw
      case rel => exact ⟨k + 1, by omega, by go_num, x6, n6, c6, Lu ++ [m5], rfl, Lib.hid (by simp [hM.out]), HST, HO6, HX6, HB6, HZ6⟩
      case measure => simp [intOf]; omega
    · obtain rfl : k = n1_0 := by omega
      clear hlt
      have HRES := Lib.hid (show Lu.map kNn.strip = namesC (cc, l) by rw [hst.out, HNC.out, List.take_of_length_le (by rw [HLEN.out]; exact Nat.le_refl _)])
      go_wp2
      go_ret
      refine ⟨_, rfl, ?_, hb.out⟩
      have h9 := (ho.out.mono (Nat.le_succ _) (Nat.le_refl _)).in
      rw [show kLNn.strip ⟨xu, nu, cu, Lu⟩ = Lu.map kNn.strip from rfl, HRES.out] at h9
      exact h9
end Go.Proofs.Ythfljbbigpophaa.Row
/- EqualContentStores, model and program. No conditions but that lengths fit. -/
namespace Go.Proofs.Ythfljbbigpophaa.Row
open Go.ChangeShapes Go.WideShapes Go.ChangeAt Go.RowKit Go.Instr
set_option linter.unusedVariables false
set_option maxRecDepth 100000
set_option maxRecDepth 100000 in
set_option maxHeartbeats 4000000 in
theorem req0 {Q : Exit → Act → World → Prop} {v0 v1 v4 v6 v7 v8 v9 v10 v11 v12 v13 v14 v15 v16 v17 v18 v19 v20 v21 v22 v23 v24 v25 v26 v27 v28 v29 v30 v31 v32 v33 v34 v35 v36 v37 v38 v39 v40 v41 v42 v43 v44 v45 v46 v47 v48 v49 v50 v51 v52 v53 v54 v55 : Value} {w : World} {b off n c b' off' n' c' g g' k : Nat} {u1 u2 : Int} (hk : k < n) (hk2 : k < n') (hkc : k ≤ c) (hkc2 : k ≤ c') (hn : n ≤ 9000000) (hne : (u1 != u2) = true) (K1 : Hid (w.cell? ⟨g, 1, none⟩ = some (.slice (some ⟨b, off, none⟩) n c))) (K2 : Hid (w.cell? ⟨g', 1, none⟩ = some (.slice (some ⟨b', off', none⟩) n' c'))) (U1 : Hid (w.cell? ⟨b, off + k * 6 + 5, none⟩ = some (.int .i64 u1))) (U2 : Hid (w.cell? ⟨b', off' + k * 6 + 5, none⟩ = some (.int .i64 u2)))
  (hQ : ∀ (u27 u28 u29 u30 u31 u32 u33 u34 u35 u36 u37 u38 u39 u40 u41 u42 u43 u44 u45 u46 u47 u48 u49 u50 u51 u52 u53 u54 : Value)  (wx : World), Below w.heap.size w wx → Q .normal ⟨#[v0, v1, .pointer (some ⟨g, 0, none⟩), .pointer (some ⟨g', 0, none⟩), v4, .int .i64 k, v6, v7, v8, v9, v10, v11, v12, v13, v14, v15, v16, v17, v18, v19, v20, v21, v22, v23, v24, v25, v26, u27, u28, u29, u30, u31, u32, u33, u34, u35, u36, u37, u38, u39, u40, u41, u42, u43, u44, u45, u46, u47, u48, u49, u50, u51, u52, u53, u54, .bool true], []⟩ wx) :
  (Code.region 6 #[⟨some 27, .fieldAddr 24 (.tmp 2) 1, 0, "l12_cache.go:108", #[], none⟩,
   ⟨some 28, .load 22 (.tmp 27), 22, "l12_cache.go:108", #[⟨0, .data⟩], none⟩,
   ⟨some 29, .move (.tmp 5), 3, "l12_cache.go:108", #[], none⟩,
   ⟨some 30, .indexAddr 22 (.tmp 28) (.tmp 29), 0, "l12_cache.go:108", #[⟨1, .data⟩, ⟨2, .data⟩], none⟩,
   ⟨some 31, .fieldAddr 72 (.tmp 30) 1, 0, "l12_cache.go:108", #[⟨3, .data⟩], none⟩,
   ⟨some 32, .load 3 (.tmp 31), 3, "l12_cache.go:108", #[⟨4, .data⟩], none⟩,
   ⟨some 33, .fieldAddr 24 (.tmp 3) 1, 0, "l12_cache.go:108", #[], none⟩,
   ⟨some 34, .load 22 (.tmp 33), 22, "l12_cache.go:108", #[⟨6, .data⟩], none⟩,
   ⟨some 35, .move (.tmp 5), 3, "l12_cache.go:108", #[], none⟩,
   ⟨some 36, .indexAddr 22 (.tmp 34) (.tmp 35), 0, "l12_cache.go:108", #[⟨7, .data⟩, ⟨8, .data⟩], none⟩,
   ⟨some 37, .fieldAddr 72 (.tmp 36) 1, 0, "l12_cache.go:108", #[⟨9, .data⟩], none⟩,
   ⟨some 38, .load 3 (.tmp 37), 3, "l12_cache.go:108", #[⟨10, .data⟩], none⟩,
   ⟨some 39, .binOp BinOp.neq 3 (.tmp 32) (.tmp 38) 3, 4, "l12_cache.go:108", #[⟨5, .data⟩, ⟨11, .data⟩], none⟩,
   ⟨some 40, .move (.tmp 39), 4, "l12_cache.go:108", #[⟨12, .data⟩], none⟩,
   ⟨some 41, .fieldAddr 24 (.tmp 2) 1, 0, "l12_cache.go:108", #[⟨13, .guard⟩], some (13, false)⟩,
   ⟨some 42, .load 22 (.tmp 41), 22, "l12_cache.go:108", #[⟨14, .data⟩, ⟨13, .guard⟩], some (13, false)⟩,
   ⟨some 43, .move (.tmp 5), 3, "l12_cache.go:108", #[⟨13, .guard⟩], some (13, false)⟩,
   ⟨some 44, .indexAddr 22 (.tmp 42) (.tmp 43), 0, "l12_cache.go:108", #[⟨15, .data⟩, ⟨16, .data⟩, ⟨13, .guard⟩], some (13, false)⟩,
   ⟨some 45, .fieldAddr 72 (.tmp 44) 0, 0, "l12_cache.go:108", #[⟨17, .data⟩, ⟨13, .guard⟩], some (13, false)⟩,
   ⟨some 46, .load 46 (.tmp 45), 46, "l12_cache.go:108", #[⟨18, .data⟩, ⟨13, .guard⟩], some (13, false)⟩,
   ⟨some 47, .fieldAddr 24 (.tmp 3) 1, 0, "l12_cache.go:108", #[⟨13, .guard⟩], some (13, false)⟩,
   ⟨some 48, .load 22 (.tmp 47), 22, "l12_cache.go:108", #[⟨20, .data⟩, ⟨13, .guard⟩], some (13, false)⟩,
   ⟨some 49, .move (.tmp 5), 3, "l12_cache.go:108", #[⟨13, .guard⟩], some (13, false)⟩,
   ⟨some 50, .indexAddr 22 (.tmp 48) (.tmp 49), 0, "l12_cache.go:108", #[⟨21, .data⟩, ⟨22, .data⟩, ⟨13, .guard⟩], some (13, false)⟩,
   ⟨some 51, .fieldAddr 72 (.tmp 50) 0, 0, "l12_cache.go:108", #[⟨23, .data⟩, ⟨13, .guard⟩], some (13, false)⟩,
   ⟨some 52, .load 46 (.tmp 51), 46, "l12_cache.go:108", #[⟨24, .data⟩, ⟨13, .guard⟩], some (13, false)⟩,
   ⟨some 53, .call ⟨.value (.func 84), #[.tmp 46, .tmp 52], #[46, 46]⟩, 4, "l12_cache.go:108", #[⟨19, .data⟩, ⟨25, .data⟩, ⟨13, .chain⟩, ⟨13, .guard⟩], some (13, false)⟩,
   ⟨some 54, .unOp UnOp.not 4 (.tmp 53), 4, "l12_cache.go:108", #[⟨26, .data⟩, ⟨13, .guard⟩], some (13, false)⟩,
   ⟨some 55, .pick (.tmp 40) (.const (Value.bool true)) (.tmp 54), 4, "l12_cache.go:108", #[⟨13, .data⟩, ⟨27, .data⟩], none⟩] true).wp Try.prog Q ⟨#[v0, v1, .pointer (some ⟨g, 0, none⟩), .pointer (some ⟨g', 0, none⟩), v4, .int .i64 k, v6, v7, v8, v9, v10, v11, v12, v13, v14, v15, v16, v17, v18, v19, v20, v21, v22, v23, v24, v25, v26, v27, v28, v29, v30, v31, v32, v33, v34, v35, v36, v37, v38, v39, v40, v41, v42, v43, v44, v45, v46, v47, v48, v49, v50, v51, v52, v53, v54, v55], []⟩ w := by
 have HQ := Lib.hid hQ; clear hQ
 have hdr : Below w.heap.size w w.drew := (Below.refl _ _).drew
 have BB := Lib.hid hdr
 refine wp_region_noPanic ?_
 refine wp_region_held_drew (S := (fun w' => w'.cell? ⟨g, 1, none⟩ = some (.slice (some ⟨b, off, none⟩) n c) ∧ w'.cell? ⟨g', 1, none⟩ = some (.slice (some ⟨b', off', none⟩) n' c') ∧ w'.cell? ⟨b, off + k * 6 + 5, none⟩ = some (.int .i64 u1) ∧ w'.cell? ⟨b', off' + k * 6 + 5, none⟩ = some (.int .i64 u2))) (by kernel_rfl) ?_ (fun hHeld => ?_)
 ·
  exact ⟨kc K1.out BB.out, kc K2.out BB.out, kc U1.out BB.out, kc U2.out BB.out⟩
 clear hdr
 generalize w.drew = wd at *
 refine wpAnyH_take (i := 0) (oi := ⟨some 27, .fieldAddr 24 (.tmp 2) 1, 0, "l12_cache.go:108", #[], none⟩) (v := ?_) rfl (by kernel_rfl) (by kernel_rfl) (by kernel_rfl) (fun _ _ _ h => h) (Or.inl ⟨by rfl, ?_⟩) (by assumption) ?_
 rotate_left
 ·
  intro w' hSw; (try dsimp only at hSw); first | (go_simp; done) | (go_simp; with_reducible rfl)
 (try simp only [Act.put, Row.pB0, Row.pB1, Row.pB2])
 refine wpAnyH_take (i := 1) (oi := ⟨some 28, .load 22 (.tmp 27), 22, "l12_cache.go:108", #[⟨0, .data⟩], none⟩) (v := ?_) rfl (by kernel_rfl) (by kernel_rfl) (by kernel_rfl) (fun _ _ _ h => h) (Or.inl ⟨by rfl, ?_⟩) (by assumption) ?_
 rotate_left
 ·
  intro w' hSw; (try dsimp only at hSw); first | (go_simp; done) | (go_simp; with_reducible rfl)
 (try simp only [Act.put, Row.pB0, Row.pB1, Row.pB2])
 refine wpAnyH_take (i := 2) (oi := ⟨some 29, .move (.tmp 5), 3, "l12_cache.go:108", #[], none⟩) (v := ?_) rfl (by kernel_rfl) (by kernel_rfl) (by kernel_rfl) (fun _ _ _ h => h) (Or.inl ⟨by rfl, ?_⟩) (by assumption) ?_
 rotate_left
 ·
  intro w' hSw; (try dsimp only at hSw); first | (go_simp; done) | (go_simp; with_reducible rfl)
 (try simp only [Act.put, Row.pB0, Row.pB1, Row.pB2])
 refine wpAnyH_take (i := 3) (oi := ⟨some 30, .indexAddr 22 (.tmp 28) (.tmp 29), 0, "l12_cache.go:108", #[⟨1, .data⟩, ⟨2, .data⟩], none⟩) (v := ?_) rfl (by kernel_rfl) (by kernel_rfl) (by kernel_rfl) (fun _ _ _ h => h) (Or.inl ⟨by rfl, ?_⟩) (by assumption) ?_
 rotate_left
 ·
  intro w' hSw; (try dsimp only at hSw); first | (go_simp; done) | (go_simp; with_reducible rfl)
 (try simp only [Act.put, Row.pB0, Row.pB1, Row.pB2])
 refine wpAnyH_take (i := 4) (oi := ⟨some 31, .fieldAddr 72 (.tmp 30) 1, 0, "l12_cache.go:108", #[⟨3, .data⟩], none⟩) (v := ?_) rfl (by kernel_rfl) (by kernel_rfl) (by kernel_rfl) (fun _ _ _ h => h) (Or.inl ⟨by rfl, ?_⟩) (by assumption) ?_
 rotate_left
 ·
  intro w' hSw; (try dsimp only at hSw); first | (go_simp; done) | (go_simp; with_reducible rfl)
 (try simp only [Act.put, Row.pB0, Row.pB1, Row.pB2])
 refine wpAnyH_take (i := 5) (oi := ⟨some 32, .load 3 (.tmp 31), 3, "l12_cache.go:108", #[⟨4, .data⟩], none⟩) (v := ?_) rfl (by kernel_rfl) (by kernel_rfl) (by kernel_rfl) (fun _ _ _ h => h) (Or.inl ⟨by rfl, ?_⟩) (by assumption) ?_
 rotate_left
 ·
  intro w' hSw; (try dsimp only at hSw); first | (go_simp; done) | (go_simp; with_reducible rfl)
 (try simp only [Act.put, Row.pB0, Row.pB1, Row.pB2])
 refine wpAnyH_take (i := 6) (oi := ⟨some 33, .fieldAddr 24 (.tmp 3) 1, 0, "l12_cache.go:108", #[], none⟩) (v := ?_) rfl (by kernel_rfl) (by kernel_rfl) (by kernel_rfl) (fun _ _ _ h => h) (Or.inl ⟨by rfl, ?_⟩) (by assumption) ?_
 rotate_left
 ·
  intro w' hSw; (try dsimp only at hSw); first | (go_simp; done) | (go_simp; with_reducible rfl)
 (try simp only [Act.put, Row.pB0, Row.pB1, Row.pB2])
 refine wpAnyH_take (i := 7) (oi := ⟨some 34, .load 22 (.tmp 33), 22, "l12_cache.go:108", #[⟨6, .data⟩], none⟩) (v := ?_) rfl (by kernel_rfl) (by kernel_rfl) (by kernel_rfl) (fun _ _ _ h => h) (Or.inl ⟨by rfl, ?_⟩) (by assumption) ?_
 rotate_left
 ·
  intro w' hSw; (try dsimp only at hSw); first | (go_simp; done) | (go_simp; with_reducible rfl)
 (try simp only [Act.put, Row.pB0, Row.pB1, Row.pB2])
 refine wpAnyH_take (i := 8) (oi := ⟨some 35, .move (.tmp 5), 3, "l12_cache.go:108", #[], none⟩) (v := ?_) rfl (by kernel_rfl) (by kernel_rfl) (by kernel_rfl) (fun _ _ _ h => h) (Or.inl ⟨by rfl, ?_⟩) (by assumption) ?_
 rotate_left
 ·
  intro w' hSw; (try dsimp only at hSw); first | (go_simp; done) | (go_simp; with_reducible rfl)
 (try simp only [Act.put, Row.pB0, Row.pB1, Row.pB2])
 refine wpAnyH_take (i := 9) (oi := ⟨some 36, .indexAddr 22 (.tmp 34) (.tmp 35), 0, "l12_cache.go:108", #[⟨7, .data⟩, ⟨8, .data⟩], none⟩) (v := ?_) rfl (by kernel_rfl) (by kernel_rfl) (by kernel_rfl) (fun _ _ _ h => h) (Or.inl ⟨by rfl, ?_⟩) (by assumption) ?_
 rotate_left
 ·
  intro w' hSw; (try dsimp only at hSw); first | (go_simp; done) | (go_simp; with_reducible rfl)
 (try simp only [Act.put, Row.pB0, Row.pB1, Row.pB2])
 refine wpAnyH_take (i := 10) (oi := ⟨some 37, .fieldAddr 72 (.tmp 36) 1, 0, "l12_cache.go:108", #[⟨9, .data⟩], none⟩) (v := ?_) rfl (by kernel_rfl) (by kernel_rfl) (by kernel_rfl) (fun _ _ _ h => h) (Or.inl ⟨by rfl, ?_⟩) (by assumption) ?_
 rotate_left
 ·
  intro w' hSw; (try dsimp only at hSw); first | (go_simp; done) | (go_simp; with_reducible rfl)
 (try simp only [Act.put, Row.pB0, Row.pB1, Row.pB2])
 refine wpAnyH_take (i := 11) (oi := ⟨some 38, .load 3 (.tmp 37), 3, "l12_cache.go:108", #[⟨10, .data⟩], none⟩) (v := ?_) rfl (by kernel_rfl) (by kernel_rfl) (by kernel_rfl) (fun _ _ _ h => h) (Or.inl ⟨by rfl, ?_⟩) (by assumption) ?_
 rotate_left
 ·
  intro w' hSw; (try dsimp only at hSw); first | (go_simp; done) | (go_simp; with_reducible rfl)
 (try simp only [Act.put, Row.pB0, Row.pB1, Row.pB2])
 refine wpAnyH_take (i := 12) (oi := ⟨some 39, .binOp BinOp.neq 3 (.tmp 32) (.tmp 38) 3, 4, "l12_cache.go:108", #[⟨5, .data⟩, ⟨11, .data⟩], none⟩) (v := ?_) rfl (by kernel_rfl) (by kernel_rfl) (by kernel_rfl) (fun _ _ _ h => h) (Or.inl ⟨by rfl, ?_⟩) (by assumption) ?_
 rotate_left
 ·
  intro w' hSw; (try dsimp only at hSw); first | (go_simp; done) | (go_simp; with_reducible rfl)
 (try simp only [Act.put, Row.pB0, Row.pB1, Row.pB2])
 refine wpAnyH_take (i := 13) (oi := ⟨some 40, .move (.tmp 39), 4, "l12_cache.go:108", #[⟨12, .data⟩], none⟩) (v := ?_) rfl (by kernel_rfl) (by kernel_rfl) (by kernel_rfl) (fun _ _ _ h => h) (Or.inl ⟨by rfl, ?_⟩) (by assumption) ?_
 rotate_left
 ·
  intro w' hSw; (try dsimp only at hSw); first | (go_simp; done) | (go_simp; with_reducible rfl)
 (try simp only [Act.put, Row.pB0, Row.pB1, Row.pB2])
 refine wpAnyH_take (i := 14) (oi := ⟨some 41, .fieldAddr 24 (.tmp 2) 1, 0, "l12_cache.go:108", #[⟨13, .guard⟩], some (13, false)⟩) (v := undef) rfl (by kernel_rfl) (by kernel_rfl) (by kernel_rfl) (fun _ _ _ h => h) (Or.inr ⟨by rfl, rfl⟩) (by assumption) ?_
 (try simp only [Act.put, Row.pB0, Row.pB1, Row.pB2])
 refine wpAnyH_take (i := 15) (oi := ⟨some 42, .load 22 (.tmp 41), 22, "l12_cache.go:108", #[⟨14, .data⟩, ⟨13, .guard⟩], some (13, false)⟩) (v := undef) rfl (by kernel_rfl) (by kernel_rfl) (by kernel_rfl) (fun _ _ _ h => h) (Or.inr ⟨by rfl, rfl⟩) (by assumption) ?_
 (try simp only [Act.put, Row.pB0, Row.pB1, Row.pB2])
 refine wpAnyH_take (i := 16) (oi := ⟨some 43, .move (.tmp 5), 3, "l12_cache.go:108", #[⟨13, .guard⟩], some (13, false)⟩) (v := undef) rfl (by kernel_rfl) (by kernel_rfl) (by kernel_rfl) (fun _ _ _ h => h) (Or.inr ⟨by rfl, rfl⟩) (by assumption) ?_
 (try simp only [Act.put, Row.pB0, Row.pB1, Row.pB2])
 refine wpAnyH_take (i := 17) (oi := ⟨some 44, .indexAddr 22 (.tmp 42) (.tmp 43), 0, "l12_cache.go:108", #[⟨15, .data⟩, ⟨16, .data⟩, ⟨13, .guard⟩], some (13, false)⟩) (v := undef) rfl (by kernel_rfl) (by kernel_rfl) (by kernel_rfl) (fun _ _ _ h => h) (Or.inr ⟨by rfl, rfl⟩) (by assumption) ?_
 (try simp only [Act.put, Row.pB0, Row.pB1, Row.pB2])
 refine wpAnyH_take (i := 18) (oi := ⟨some 45, .fieldAddr 72 (.tmp 44) 0, 0, "l12_cache.go:108", #[⟨17, .data⟩, ⟨13, .guard⟩], some (13, false)⟩) (v := undef) rfl (by kernel_rfl) (by kernel_rfl) (by kernel_rfl) (fun _ _ _ h => h) (Or.inr ⟨by rfl, rfl⟩) (by assumption) ?_
 (try simp only [Act.put, Row.pB0, Row.pB1, Row.pB2])
 refine wpAnyH_take (i := 19) (oi := ⟨some 46, .load 46 (.tmp 45), 46, "l12_cache.go:108", #[⟨18, .data⟩, ⟨13, .guard⟩], some (13, false)⟩) (v := undef) rfl (by kernel_rfl) (by kernel_rfl) (by kernel_rfl) (fun _ _ _ h => h) (Or.inr ⟨by rfl, rfl⟩) (by assumption) ?_
 (try simp only [Act.put, Row.pB0, Row.pB1, Row.pB2])
 refine wpAnyH_take (i := 20) (oi := ⟨some 47, .fieldAddr 24 (.tmp 3) 1, 0, "l12_cache.go:108", #[⟨13, .guard⟩], some (13, false)⟩) (v := undef) rfl (by kernel_rfl) (by kernel_rfl) (by kernel_rfl) (fun _ _ _ h => h) (Or.inr ⟨by rfl, rfl⟩) (by assumption) ?_
 (try simp only [Act.put, Row.pB0, Row.pB1, Row.pB2])
 refine wpAnyH_take (i := 21) (oi := ⟨some 48, .load 22 (.tmp 47), 22, "l12_cache.go:108", #[⟨20, .data⟩, ⟨13, .guard⟩], some (13, false)⟩) (v := undef) rfl (by kernel_rfl) (by kernel_rfl) (by kernel_rfl) (fun _ _ _ h => h) (Or.inr ⟨by rfl, rfl⟩) (by assumption) ?_
 (try simp only [Act.put, Row.pB0, Row.pB1, Row.pB2])
 refine wpAnyH_take (i := 22) (oi := ⟨some 49, .move (.tmp 5), 3, "l12_cache.go:108", #[⟨13, .guard⟩], some (13, false)⟩) (v := undef) rfl (by kernel_rfl) (by kernel_rfl) (by kernel_rfl) (fun _ _ _ h => h) (Or.inr ⟨by rfl, rfl⟩) (by assumption) ?_
 (try simp only [Act.put, Row.pB0, Row.pB1, Row.pB2])
 refine wpAnyH_take (i := 23) (oi := ⟨some 50, .indexAddr 22 (.tmp 48) (.tmp 49), 0, "l12_cache.go:108", #[⟨21, .data⟩, ⟨22, .data⟩, ⟨13, .guard⟩], some (13, false)⟩) (v := undef) rfl (by kernel_rfl) (by kernel_rfl) (by kernel_rfl) (fun _ _ _ h => h) (Or.inr ⟨by rfl, rfl⟩) (by assumption) ?_
 (try simp only [Act.put, Row.pB0, Row.pB1, Row.pB2])
 refine wpAnyH_take (i := 24) (oi := ⟨some 51, .fieldAddr 72 (.tmp 50) 0, 0, "l12_cache.go:108", #[⟨23, .data⟩, ⟨13, .guard⟩], some (13, false)⟩) (v := undef) rfl (by kernel_rfl) (by kernel_rfl) (by kernel_rfl) (fun _ _ _ h => h) (Or.inr ⟨by rfl, rfl⟩) (by assumption) ?_
 (try simp only [Act.put, Row.pB0, Row.pB1, Row.pB2])
 refine wpAnyH_take (i := 25) (oi := ⟨some 52, .load 46 (.tmp 51), 46, "l12_cache.go:108", #[⟨24, .data⟩, ⟨13, .guard⟩], some (13, false)⟩) (v := undef) rfl (by kernel_rfl) (by kernel_rfl) (by kernel_rfl) (fun _ _ _ h => h) (Or.inr ⟨by rfl, rfl⟩) (by assumption) ?_
 (try simp only [Act.put, Row.pB0, Row.pB1, Row.pB2])
 refine wpAnyH_take (i := 26) (oi := ⟨some 53, .call ⟨.value (.func 84), #[.tmp 46, .tmp 52], #[46, 46]⟩, 4, "l12_cache.go:108", #[⟨19, .data⟩, ⟨25, .data⟩, ⟨13, .chain⟩, ⟨13, .guard⟩], some (13, false)⟩) (v := undef) rfl (by kernel_rfl) (by kernel_rfl) (by kernel_rfl) (fun _ _ _ h => h) (Or.inr ⟨by rfl, rfl⟩) (by assumption) ?_
 (try simp only [Act.put, Row.pB0, Row.pB1, Row.pB2])
 refine wpAnyH_take (i := 27) (oi := ⟨some 54, .unOp UnOp.not 4 (.tmp 53), 4, "l12_cache.go:108", #[⟨26, .data⟩, ⟨13, .guard⟩], some (13, false)⟩) (v := undef) rfl (by kernel_rfl) (by kernel_rfl) (by kernel_rfl) (fun _ _ _ h => h) (Or.inr ⟨by rfl, rfl⟩) (by assumption) ?_
 (try simp only [Act.put, Row.pB0, Row.pB1, Row.pB2])
 refine wpAnyH_take (i := 28) (oi := ⟨some 55, .pick (.tmp 40) (.const (Value.bool true)) (.tmp 54), 4, "l12_cache.go:108", #[⟨13, .data⟩, ⟨27, .data⟩], none⟩) (v := ?_) rfl (by kernel_rfl) (by kernel_rfl) (by kernel_rfl) (fun _ _ _ h => h) (Or.inl ⟨by rfl, ?_⟩) (by assumption) ?_
 rotate_left
 ·
  intro w' hSw; (try dsimp only at hSw); first | (go_simp; done) | (go_simp; with_reducible rfl)
 (try simp only [Act.put, Row.pB0, Row.pB1, Row.pB2])
 refine wpAnyH_done (by kernel_rfl) ?_ _
 exact NoPanic.normal (HQ.out _ _ _ _ _ _ _ _ _ _ _ _ _ _ _ _ _ _ _ _ _ _ _ _ _ _ _ _  _  BB.out)
set_option maxRecDepth 100000 in
set_option maxHeartbeats 4000000 in
theorem req1 {Q : Exit → Act → World → Prop} {v0 v1 v4 v6 v7 v8 v9 v10 v11 v12 v13 v14 v15 v16 v17 v18 v19 v20 v21 v22 v23 v24 v25 v26 v27 v28 v29 v30 v31 v32 v33 v34 v35 v36 v37 v38 v39 v40 v41 v42 v43 v44 v45 v46 v47 v48 v49 v50 v51 v52 v53 v54 v55 : Value} {w : World} {b off n c b' off' n' c' g g' k : Nat} {u1 u2 : Int} (hk : k < n) (hk2 : k < n') (hkc : k ≤ c) (hkc2 : k ≤ c') (hn : n ≤ 9000000) (hne : (u1 != u2) = false) {na ca nb cb nc cc_ nd cd ne ce nf cf : Nat} {xa xb xc xd xe xf : Option Addr} {f1 s1 f2 s2 : Int} {da db : Dzt} {q : Bool} (HQE : Hid (decide (da = db) = q)) (H_a : Hid (kDz.At w (.agg #[.slice xa na ca, .slice xb nb cb, .slice xc nc cc_, .int .i64 f1, .int .i64 s1]) da)) (H_b : Hid (kDz.At w (.agg #[.slice xd nd cd, .slice xe ne ce, .slice xf nf cf, .int .i64 f2, .int .i64 s2]) db)) (HI1 : Hid (inDz da)) (HI2 : Hid (inDz db)) (HW1 : Hid (wtDz da ≤ 1200000)) (HW2 : Hid (wtDz db ≤ 1200000)) (K1 : Hid (w.cell? ⟨g, 1, none⟩ = some (.slice (some ⟨b, off, none⟩) n c))) (K2 : Hid (w.cell? ⟨g', 1, none⟩ = some (.slice (some ⟨b', off', none⟩) n' c'))) (U1 : Hid (w.cell? ⟨b, off + k * 6 + 5, none⟩ = some (.int .i64 u1))) (U2 : Hid (w.cell? ⟨b', off' + k * 6 + 5, none⟩ = some (.int .i64 u2))) (E0 : Hid (w.cell? ⟨b, off + k * 6, none⟩ = some (.slice xa na ca))) (E1 : Hid (w.cell? ⟨b, off + k * 6 + 1, none⟩ = some (.slice xb nb cb))) (E2 : Hid (w.cell? ⟨b, off + k * 6 + 2, none⟩ = some (.slice xc nc cc_))) (E3 : Hid (w.cell? ⟨b, off + k * 6 + 3, none⟩ = some (.int .i64 f1))) (E4 : Hid (w.cell? ⟨b, off + k * 6 + 4, none⟩ = some (.int .i64 s1))) (F0 : Hid (w.cell? ⟨b', off' + k * 6, none⟩ = some (.slice xd nd cd))) (F1 : Hid (w.cell? ⟨b', off' + k * 6 + 1, none⟩ = some (.slice xe ne ce))) (F2 : Hid (w.cell? ⟨b', off' + k * 6 + 2, none⟩ = some (.slice xf nf cf))) (F3 : Hid (w.cell? ⟨b', off' + k * 6 + 3, none⟩ = some (.int .i64 f2))) (F4 : Hid (w.cell? ⟨b', off' + k * 6 + 4, none⟩ = some (.int .i64 s2)))
  (hQ : ∀ (u27 u28 u29 u30 u31 u32 u33 u34 u35 u36 u37 u38 u39 u40 u41 u42 u43 u44 u45 u46 u47 u48 u49 u50 u51 u52 u53 u54 : Value)  (wx : World), Below w.heap.size w wx → Q .normal ⟨#[v0, v1, .pointer (some ⟨g, 0, none⟩), .pointer (some ⟨g', 0, none⟩), v4, .int .i64 k, v6, v7, v8, v9, v10, v11, v12, v13, v14, v15, v16, v17, v18, v19, v20, v21, v22, v23, v24, v25, v26, u27, u28, u29, u30, u31, u32, u33, u34, u35, u36, u37, u38, u39, u40, u41, u42, u43, u44, u45, u46, u47, u48, u49, u50, u51, u52, u53, u54, .bool (!q)], []⟩ wx) :
  (Code.region 6 #[⟨some 27, .fieldAddr 24 (.tmp 2) 1, 0, "l12_cache.go:108", #[], none⟩,
   ⟨some 28, .load 22 (.tmp 27), 22, "l12_cache.go:108", #[⟨0, .data⟩], none⟩,
   ⟨some 29, .move (.tmp 5), 3, "l12_cache.go:108", #[], none⟩,
   ⟨some 30, .indexAddr 22 (.tmp 28) (.tmp 29), 0, "l12_cache.go:108", #[⟨1, .data⟩, ⟨2, .data⟩], none⟩,
   ⟨some 31, .fieldAddr 72 (.tmp 30) 1, 0, "l12_cache.go:108", #[⟨3, .data⟩], none⟩,
   ⟨some 32, .load 3 (.tmp 31), 3, "l12_cache.go:108", #[⟨4, .data⟩], none⟩,
   ⟨some 33, .fieldAddr 24 (.tmp 3) 1, 0, "l12_cache.go:108", #[], none⟩,
   ⟨some 34, .load 22 (.tmp 33), 22, "l12_cache.go:108", #[⟨6, .data⟩], none⟩,
   ⟨some 35, .move (.tmp 5), 3, "l12_cache.go:108", #[], none⟩,
   ⟨some 36, .indexAddr 22 (.tmp 34) (.tmp 35), 0, "l12_cache.go:108", #[⟨7, .data⟩, ⟨8, .data⟩], none⟩,
   ⟨some 37, .fieldAddr 72 (.tmp 36) 1, 0, "l12_cache.go:108", #[⟨9, .data⟩], none⟩,
   ⟨some 38, .load 3 (.tmp 37), 3, "l12_cache.go:108", #[⟨10, .data⟩], none⟩,
   ⟨some 39, .binOp BinOp.neq 3 (.tmp 32) (.tmp 38) 3, 4, "l12_cache.go:108", #[⟨5, .data⟩, ⟨11, .data⟩], none⟩,
   ⟨some 40, .move (.tmp 39), 4, "l12_cache.go:108", #[⟨12, .data⟩], none⟩,
   ⟨some 41, .fieldAddr 24 (.tmp 2) 1, 0, "l12_cache.go:108", #[⟨13, .guard⟩], some (13, false)⟩,
   ⟨some 42, .load 22 (.tmp 41), 22, "l12_cache.go:108", #[⟨14, .data⟩, ⟨13, .guard⟩], some (13, false)⟩,
   ⟨some 43, .move (.tmp 5), 3, "l12_cache.go:108", #[⟨13, .guard⟩], some (13, false)⟩,
   ⟨some 44, .indexAddr 22 (.tmp 42) (.tmp 43), 0, "l12_cache.go:108", #[⟨15, .data⟩, ⟨16, .data⟩, ⟨13, .guard⟩], some (13, false)⟩,
   ⟨some 45, .fieldAddr 72 (.tmp 44) 0, 0, "l12_cache.go:108", #[⟨17, .data⟩, ⟨13, .guard⟩], some (13, false)⟩,
   ⟨some 46, .load 46 (.tmp 45), 46, "l12_cache.go:108", #[⟨18, .data⟩, ⟨13, .guard⟩], some (13, false)⟩,
   ⟨some 47, .fieldAddr 24 (.tmp 3) 1, 0, "l12_cache.go:108", #[⟨13, .guard⟩], some (13, false)⟩,
   ⟨some 48, .load 22 (.tmp 47), 22, "l12_cache.go:108", #[⟨20, .data⟩, ⟨13, .guard⟩], some (13, false)⟩,
   ⟨some 49, .move (.tmp 5), 3, "l12_cache.go:108", #[⟨13, .guard⟩], some (13, false)⟩,
   ⟨some 50, .indexAddr 22 (.tmp 48) (.tmp 49), 0, "l12_cache.go:108", #[⟨21, .data⟩, ⟨22, .data⟩, ⟨13, .guard⟩], some (13, false)⟩,
   ⟨some 51, .fieldAddr 72 (.tmp 50) 0, 0, "l12_cache.go:108", #[⟨23, .data⟩, ⟨13, .guard⟩], some (13, false)⟩,
   ⟨some 52, .load 46 (.tmp 51), 46, "l12_cache.go:108", #[⟨24, .data⟩, ⟨13, .guard⟩], some (13, false)⟩,
   ⟨some 53, .call ⟨.value (.func 84), #[.tmp 46, .tmp 52], #[46, 46]⟩, 4, "l12_cache.go:108", #[⟨19, .data⟩, ⟨25, .data⟩, ⟨13, .chain⟩, ⟨13, .guard⟩], some (13, false)⟩,
   ⟨some 54, .unOp UnOp.not 4 (.tmp 53), 4, "l12_cache.go:108", #[⟨26, .data⟩, ⟨13, .guard⟩], some (13, false)⟩,
   ⟨some 55, .pick (.tmp 40) (.const (Value.bool true)) (.tmp 54), 4, "l12_cache.go:108", #[⟨13, .data⟩, ⟨27, .data⟩], none⟩] true).wp Try.prog Q ⟨#[v0, v1, .pointer (some ⟨g, 0, none⟩), .pointer (some ⟨g', 0, none⟩), v4, .int .i64 k, v6, v7, v8, v9, v10, v11, v12, v13, v14, v15, v16, v17, v18, v19, v20, v21, v22, v23, v24, v25, v26, v27, v28, v29, v30, v31, v32, v33, v34, v35, v36, v37, v38, v39, v40, v41, v42, v43, v44, v45, v46, v47, v48, v49, v50, v51, v52, v53, v54, v55], []⟩ w := by
 have HQ := Lib.hid hQ; clear hQ
 have hdr : Below w.heap.size w w.drew := (Below.refl _ _).drew
 have BB := Lib.hid hdr
 refine wp_region_noPanic ?_
 refine wp_region_held_drew (S := (fun w' => w'.cell? ⟨g, 1, none⟩ = some (.slice (some ⟨b, off, none⟩) n c) ∧ w'.cell? ⟨g', 1, none⟩ = some (.slice (some ⟨b', off', none⟩) n' c') ∧ w'.cell? ⟨b, off + k * 6 + 5, none⟩ = some (.int .i64 u1) ∧ w'.cell? ⟨b', off' + k * 6 + 5, none⟩ = some (.int .i64 u2) ∧ w'.cell? ⟨b, off + k * 6, none⟩ = some (.slice xa na ca) ∧ w'.cell? ⟨b, off + k * 6 + 1, none⟩ = some (.slice xb nb cb) ∧ w'.cell? ⟨b, off + k * 6 + 2, none⟩ = some (.slice xc nc cc_) ∧ w'.cell? ⟨b, off + k * 6 + 3, none⟩ = some (.int .i64 f1) ∧ w'.cell? ⟨b, off + k * 6 + 4, none⟩ = some (.int .i64 s1) ∧ w'.cell? ⟨b', off' + k * 6, none⟩ = some (.slice xd nd cd) ∧ w'.cell? ⟨b', off' + k * 6 + 1, none⟩ = some (.slice xe ne ce) ∧ w'.cell? ⟨b', off' + k * 6 + 2, none⟩ = some (.slice xf nf cf) ∧ w'.cell? ⟨b', off' + k * 6 + 3, none⟩ = some (.int .i64 f2) ∧ w'.cell? ⟨b', off' + k * 6 + 4, none⟩ = some (.int .i64 s2))) (by kernel_rfl) ?_ (fun hHeld => ?_)
 ·
  exact ⟨kc K1.out BB.out, kc K2.out BB.out, kc U1.out BB.out, kc U2.out BB.out, kc E0.out BB.out, kc E1.out BB.out, kc E2.out BB.out, kc E3.out BB.out, kc E4.out BB.out, kc F0.out BB.out, kc F1.out BB.out, kc F2.out BB.out, kc F3.out BB.out, kc F4.out BB.out⟩
 clear hdr
 generalize w.drew = wd at *
 refine wpAnyH_take (i := 0) (oi := ⟨some 27, .fieldAddr 24 (.tmp 2) 1, 0, "l12_cache.go:108", #[], none⟩) (v := ?_) rfl (by kernel_rfl) (by kernel_rfl) (by kernel_rfl) (fun _ _ _ h => h) (Or.inl ⟨by rfl, ?_⟩) (by assumption) ?_
 rotate_left
 ·
  intro w' hSw; (try dsimp only at hSw); first | (go_simp; done) | (go_simp; with_reducible rfl)
 (try simp only [Act.put, Row.pB0, Row.pB1, Row.pB2])
 refine wpAnyH_take (i := 1) (oi := ⟨some 28, .load 22 (.tmp 27), 22, "l12_cache.go:108", #[⟨0, .data⟩], none⟩) (v := ?_) rfl (by kernel_rfl) (by kernel_rfl) (by kernel_rfl) (fun _ _ _ h => h) (Or.inl ⟨by rfl, ?_⟩) (by assumption) ?_
 rotate_left
 ·
  intro w' hSw; (try dsimp only at hSw); first | (go_simp; done) | (go_simp; with_reducible rfl)
 (try simp only [Act.put, Row.pB0, Row.pB1, Row.pB2])
 refine wpAnyH_take (i := 2) (oi := ⟨some 29, .move (.tmp 5), 3, "l12_cache.go:108", #[], none⟩) (v := ?_) rfl (by kernel_rfl) (by kernel_rfl) (by kernel_rfl) (fun _ _ _ h => h) (Or.inl ⟨by rfl, ?_⟩) (by assumption) ?_
 rotate_left
 ·
  intro w' hSw; (try dsimp only at hSw); first | (go_simp; done) | (go_simp; with_reducible rfl)
 (try simp only [Act.put, Row.pB0, Row.pB1, Row.pB2])
 refine wpAnyH_take (i := 3) (oi := ⟨some 30, .indexAddr 22 (.tmp 28) (.tmp 29), 0, "l12_cache.go:108", #[⟨1, .data⟩, ⟨2, .data⟩], none⟩) (v := ?_) rfl (by kernel_rfl) (by kernel_rfl) (by kernel_rfl) (fun _ _ _ h => h) (Or.inl ⟨by rfl, ?_⟩) (by assumption) ?_
 rotate_left
 ·
  intro w' hSw; (try dsimp only at hSw); first | (go_simp; done) | (go_simp; with_reducible rfl)
 (try simp only [Act.put, Row.pB0, Row.pB1, Row.pB2])
 refine wpAnyH_take (i := 4) (oi := ⟨some 31, .fieldAddr 72 (.tmp 30) 1, 0, "l12_cache.go:108", #[⟨3, .data⟩], none⟩) (v := ?_) rfl (by kernel_rfl) (by kernel_rfl) (by kernel_rfl) (fun _ _ _ h => h) (Or.inl ⟨by rfl, ?_⟩) (by assumption) ?_
 rotate_left
 ·
  intro w' hSw; (try dsimp only at hSw); first | (go_simp; done) | (go_simp; with_reducible rfl)
 (try simp only [Act.put, Row.pB0, Row.pB1, Row.pB2])
 refine wpAnyH_take (i := 5) (oi := ⟨some 32, .load 3 (.tmp 31), 3, "l12_cache.go:108", #[⟨4, .data⟩], none⟩) (v := ?_) rfl (by kernel_rfl) (by kernel_rfl) (by kernel_rfl) (fun _ _ _ h => h) (Or.inl ⟨by rfl, ?_⟩) (by assumption) ?_
 rotate_left
 ·
  intro w' hSw; (try dsimp only at hSw); first | (go_simp; done) | (go_simp; with_reducible rfl)
 (try simp only [Act.put, Row.pB0, Row.pB1, Row.pB2])
 refine wpAnyH_take (i := 6) (oi := ⟨some 33, .fieldAddr 24 (.tmp 3) 1, 0, "l12_cache.go:108", #[], none⟩) (v := ?_) rfl (by kernel_rfl) (by kernel_rfl) (by kernel_rfl) (fun _ _ _ h => h) (Or.inl ⟨by rfl, ?_⟩) (by assumption) ?_
 rotate_left
 ·
  intro w' hSw; (try dsimp only at hSw); first | (go_simp; done) | (go_simp; with_reducible rfl)
 (try simp only [Act.put, Row.pB0, Row.pB1, Row.pB2])
 refine wpAnyH_take (i := 7) (oi := ⟨some 34, .load 22 (.tmp 33), 22, "l12_cache.go:108", #[⟨6, .data⟩], none⟩) (v := ?_) rfl (by kernel_rfl) (by kernel_rfl) (by kernel_rfl) (fun _ _ _ h => h) (Or.inl ⟨by rfl, ?_⟩) (by assumption) ?_
 rotate_left
 ·
  intro w' hSw; (try dsimp only at hSw); first | (go_simp; done) | (go_simp; with_reducible rfl)
 (try simp only [Act.put, Row.pB0, Row.pB1, Row.pB2])
 refine wpAnyH_take (i := 8) (oi := ⟨some 35, .move (.tmp 5), 3, "l12_cache.go:108", #[], none⟩) (v := ?_) rfl (by kernel_rfl) (by kernel_rfl) (by kernel_rfl) (fun _ _ _ h => h) (Or.inl ⟨by rfl, ?_⟩) (by assumption) ?_
 rotate_left
 ·
  intro w' hSw; (try dsimp only at hSw); first | (go_simp; done) | (go_simp; with_reducible rfl)
 (try simp only [Act.put, Row.pB0, Row.pB1, Row.pB2])
 refine wpAnyH_take (i := 9) (oi := ⟨some 36, .indexAddr 22 (.tmp 34) (.tmp 35), 0, "l12_cache.go:108", #[⟨7, .data⟩, ⟨8, .data⟩], none⟩) (v := ?_) rfl (by kernel_rfl) (by kernel_rfl) (by kernel_rfl) (fun _ _ _ h => h) (Or.inl ⟨by rfl, ?_⟩) (by assumption) ?_
 rotate_left
 ·
  intro w' hSw; (try dsimp only at hSw); first | (go_simp; done) | (go_simp; with_reducible rfl)
 (try simp only [Act.put, Row.pB0, Row.pB1, Row.pB2])
 refine wpAnyH_take (i := 10) (oi := ⟨some 37, .fieldAddr 72 (.tmp 36) 1, 0, "l12_cache.go:108", #[⟨9, .data⟩], none⟩) (v := ?_) rfl (by kernel_rfl) (by kernel_rfl) (by kernel_rfl) (fun _ _ _ h => h) (Or.inl ⟨by rfl, ?_⟩) (by assumption) ?_
 rotate_left
 ·
  intro w' hSw; (try dsimp only at hSw); first | (go_simp; done) | (go_simp; with_reducible rfl)
 (try simp only [Act.put, Row.pB0, Row.pB1, Row.pB2])
 refine wpAnyH_take (i := 11) (oi := ⟨some 38, .load 3 (.tmp 37), 3, "l12_cache.go:108", #[⟨10, .data⟩], none⟩) (v := ?_) rfl (by kernel_rfl) (by kernel_rfl) (by kernel_rfl) (fun _ _ _ h => h) (Or.inl ⟨by rfl, ?_⟩) (by assumption) ?_
 rotate_left
 ·
  intro w' hSw; (try dsimp only at hSw); first | (go_simp; done) | (go_simp; with_reducible rfl)
 (try simp only [Act.put, Row.pB0, Row.pB1, Row.pB2])
 refine wpAnyH_take (i := 12) (oi := ⟨some 39, .binOp BinOp.neq 3 (.tmp 32) (.tmp 38) 3, 4, "l12_cache.go:108", #[⟨5, .data⟩, ⟨11, .data⟩], none⟩) (v := ?_) rfl (by kernel_rfl) (by kernel_rfl) (by kernel_rfl) (fun _ _ _ h => h) (Or.inl ⟨by rfl, ?_⟩) (by assumption) ?_
 rotate_left
 ·
  intro w' hSw; (try dsimp only at hSw); first | (go_simp; done) | (go_simp; with_reducible rfl)
 (try simp only [Act.put, Row.pB0, Row.pB1, Row.pB2])
 refine wpAnyH_take (i := 13) (oi := ⟨some 40, .move (.tmp 39), 4, "l12_cache.go:108", #[⟨12, .data⟩], none⟩) (v := ?_) rfl (by kernel_rfl) (by kernel_rfl) (by kernel_rfl) (fun _ _ _ h => h) (Or.inl ⟨by rfl, ?_⟩) (by assumption) ?_
 rotate_left
 ·
  intro w' hSw; (try dsimp only at hSw); first | (go_simp; done) | (go_simp; with_reducible rfl)
 (try simp only [Act.put, Row.pB0, Row.pB1, Row.pB2])
 refine wpAnyH_take (i := 14) (oi := ⟨some 41, .fieldAddr 24 (.tmp 2) 1, 0, "l12_cache.go:108", #[⟨13, .guard⟩], some (13, false)⟩) (v := ?_) rfl (by kernel_rfl) (by kernel_rfl) (by kernel_rfl) (fun _ _ _ h => h) (Or.inl ⟨by rfl, ?_⟩) (by assumption) ?_
 rotate_left
 ·
  intro w' hSw; (try dsimp only at hSw); first | (go_simp; done) | (go_simp; with_reducible rfl)
 (try simp only [Act.put, Row.pB0, Row.pB1, Row.pB2])
 refine wpAnyH_take (i := 15) (oi := ⟨some 42, .load 22 (.tmp 41), 22, "l12_cache.go:108", #[⟨14, .data⟩, ⟨13, .guard⟩], some (13, false)⟩) (v := ?_) rfl (by kernel_rfl) (by kernel_rfl) (by kernel_rfl) (fun _ _ _ h => h) (Or.inl ⟨by rfl, ?_⟩) (by assumption) ?_
 rotate_left
 ·
  intro w' hSw; (try dsimp only at hSw); first | (go_simp; done) | (go_simp; with_reducible rfl)
 (try simp only [Act.put, Row.pB0, Row.pB1, Row.pB2])
 refine wpAnyH_take (i := 16) (oi := ⟨some 43, .move (.tmp 5), 3, "l12_cache.go:108", #[⟨13, .guard⟩], some (13, false)⟩) (v := ?_) rfl (by kernel_rfl) (by kernel_rfl) (by kernel_rfl) (fun _ _ _ h => h) (Or.inl ⟨by rfl, ?_⟩) (by assumption) ?_
 rotate_left
 ·
  intro w' hSw; (try dsimp only at hSw); first | (go_simp; done) | (go_simp; with_reducible rfl)
 (try simp only [Act.put, Row.pB0, Row.pB1, Row.pB2])
 refine wpAnyH_take (i := 17) (oi := ⟨some 44, .indexAddr 22 (.tmp 42) (.tmp 43), 0, "l12_cache.go:108", #[⟨15, .data⟩, ⟨16, .data⟩, ⟨13, .guard⟩], some (13, false)⟩) (v := ?_) rfl (by kernel_rfl) (by kernel_rfl) (by kernel_rfl) (fun _ _ _ h => h) (Or.inl ⟨by rfl, ?_⟩) (by assumption) ?_
 rotate_left
 ·
  intro w' hSw; (try dsimp only at hSw); first | (go_simp; done) | (go_simp; with_reducible rfl)
 (try simp only [Act.put, Row.pB0, Row.pB1, Row.pB2])
 refine wpAnyH_take (i := 18) (oi := ⟨some 45, .fieldAddr 72 (.tmp 44) 0, 0, "l12_cache.go:108", #[⟨17, .data⟩, ⟨13, .guard⟩], some (13, false)⟩) (v := ?_) rfl (by kernel_rfl) (by kernel_rfl) (by kernel_rfl) (fun _ _ _ h => h) (Or.inl ⟨by rfl, ?_⟩) (by assumption) ?_
 rotate_left
 ·
  intro w' hSw; (try dsimp only at hSw); first | (go_simp; done) | (go_simp; with_reducible rfl)
 (try simp only [Act.put, Row.pB0, Row.pB1, Row.pB2])
 refine wpAnyH_take (i := 19) (oi := ⟨some 46, .load 46 (.tmp 45), 46, "l12_cache.go:108", #[⟨18, .data⟩, ⟨13, .guard⟩], some (13, false)⟩) (v := ?_) rfl (by kernel_rfl) (by kernel_rfl) (by kernel_rfl) (fun _ _ _ h => h) (Or.inl ⟨by rfl, ?_⟩) (by assumption) ?_
 rotate_left
 ·
  intro w' hSw; (try dsimp only at hSw); first | (go_simp; done) | (go_simp; with_reducible rfl)
 (try simp only [Act.put, Row.pB0, Row.pB1, Row.pB2])
 refine wpAnyH_take (i := 20) (oi := ⟨some 47, .fieldAddr 24 (.tmp 3) 1, 0, "l12_cache.go:108", #[⟨13, .guard⟩], some (13, false)⟩) (v := ?_) rfl (by kernel_rfl) (by kernel_rfl) (by kernel_rfl) (fun _ _ _ h => h) (Or.inl ⟨by rfl, ?_⟩) (by assumption) ?_
 rotate_left
 ·
  intro w' hSw; (try dsimp only at hSw); first | (go_simp; done) | (go_simp; with_reducible rfl)
 (try simp only [Act.put, Row.pB0, Row.pB1, Row.pB2])
 refine wpAnyH_take (i := 21) (oi := ⟨some 48, .load 22 (.tmp 47), 22, "l12_cache.go:108", #[⟨20, .data⟩, ⟨13, .guard⟩], some (13, false)⟩) (v := ?_) rfl (by kernel_rfl) (by kernel_rfl) (by kernel_rfl) (fun _ _ _ h => h) (Or.inl ⟨by rfl, ?_⟩) (by assumption) ?_
 rotate_left
 ·
  intro w' hSw; (try dsimp only at hSw); first | (go_simp; done) | (go_simp; with_reducible rfl)
 (try simp only [Act.put, Row.pB0, Row.pB1, Row.pB2])
 refine wpAnyH_take (i := 22) (oi := ⟨some 49, .move (.tmp 5), 3, "l12_cache.go:108", #[⟨13, .guard⟩], some (13, false)⟩) (v := ?_) rfl (by kernel_rfl) (by kernel_rfl) (by kernel_rfl) (fun _ _ _ h => h) (Or.inl ⟨by rfl, ?_⟩) (by assumption) ?_
 rotate_left
 ·
  intro w' hSw; (try dsimp only at hSw); first | (go_simp; done) | (go_simp; with_reducible rfl)
 (try simp only [Act.put, Row.pB0, Row.pB1, Row.pB2])
 refine wpAnyH_take (i := 23) (oi := ⟨some 50, .indexAddr 22 (.tmp 48) (.tmp 49), 0, "l12_cache.go:108", #[⟨21, .data⟩, ⟨22, .data⟩, ⟨13, .guard⟩], some (13, false)⟩) (v := ?_) rfl (by kernel_rfl) (by kernel_rfl) (by kernel_rfl) (fun _ _ _ h => h) (Or.inl ⟨by rfl, ?_⟩) (by assumption) ?_
 rotate_left
 ·
  intro w' hSw; (try dsimp only at hSw); first | (go_simp; done) | (go_simp; with_reducible rfl)
 (try simp only [Act.put, Row.pB0, Row.pB1, Row.pB2])
 refine wpAnyH_take (i := 24) (oi := ⟨some 51, .fieldAddr 72 (.tmp 50) 0, 0, "l12_cache.go:108", #[⟨23, .data⟩, ⟨13, .guard⟩], some (13, false)⟩) (v := ?_) rfl (by kernel_rfl) (by kernel_rfl) (by kernel_rfl) (fun _ _ _ h => h) (Or.inl ⟨by rfl, ?_⟩) (by assumption) ?_
 rotate_left
 ·
  intro w' hSw; (try dsimp only at hSw); first | (go_simp; done) | (go_simp; with_reducible rfl)
 (try simp only [Act.put, Row.pB0, Row.pB1, Row.pB2])
 refine wpAnyH_take (i := 25) (oi := ⟨some 52, .load 46 (.tmp 51), 46, "l12_cache.go:108", #[⟨24, .data⟩, ⟨13, .guard⟩], some (13, false)⟩) (v := ?_) rfl (by kernel_rfl) (by kernel_rfl) (by kernel_rfl) (fun _ _ _ h => h) (Or.inl ⟨by rfl, ?_⟩) (by assumption) ?_
 rotate_left
 ·
  intro w' hSw; (try dsimp only at hSw); first | (go_simp; done) | (go_simp; with_reducible rfl)
 (try simp only [Act.put, Row.pB0, Row.pB1, Row.pB2])
 refine wpAnyH_ready (rs := [26]) (by kernel_rfl) (by simp) ?_
 refine AllReadyH.cons (o := ⟨some 53, .call ⟨.value (.func 84), #[.tmp 46, .tmp 52], #[46, 46]⟩, 4, "l12_cache.go:108", #[⟨19, .data⟩, ⟨25, .data⟩, ⟨13, .chain⟩, ⟨13, .guard⟩], some (13, false)⟩) rfl (fun K hK => ?_) AllReadyH.nil
 go_simp
 refine (sEqZ q HQE.out (H_a.out.on BB.out) (H_b.out.on BB.out) HI1.out HI2.out (Nat.le_trans HW1.out (by decide)) (Nat.le_trans HW2.out (by decide))).mono ?_
 rintro e wn1 ⟨rfl, hb⟩
 replace BB := Lib.hid (BB.out.trans (hb.mono BB.out.size))
 clear hb
 (try go_wp2_with fail)
 clear hHeld
 refine hK.out _ _ ?_ (fun hHeld => ?_)
 ·
  (try dsimp only); exact ⟨kc K1.out BB.out, kc K2.out BB.out, kc U1.out BB.out, kc U2.out BB.out, kc E0.out BB.out, kc E1.out BB.out, kc E2.out BB.out, kc E3.out BB.out, kc E4.out BB.out, kc F0.out BB.out, kc F1.out BB.out, kc F2.out BB.out, kc F3.out BB.out, kc F4.out BB.out⟩
 clear hK K
 (try simp only [Act.put, Row.pB0, Row.pB1, Row.pB2])
 refine wpAnyH_take (i := 27) (oi := ⟨some 54, .unOp UnOp.not 4 (.tmp 53), 4, "l12_cache.go:108", #[⟨26, .data⟩, ⟨13, .guard⟩], some (13, false)⟩) (v := ?_) rfl (by kernel_rfl) (by kernel_rfl) (by kernel_rfl) (fun _ _ _ h => h) (Or.inl ⟨by rfl, ?_⟩) (by assumption) ?_
 rotate_left
 ·
  intro w' hSw; (try dsimp only at hSw); first | (go_simp; done) | (go_simp; with_reducible rfl)
 (try simp only [Act.put, Row.pB0, Row.pB1, Row.pB2])
 refine wpAnyH_take (i := 28) (oi := ⟨some 55, .pick (.tmp 40) (.const (Value.bool true)) (.tmp 54), 4, "l12_cache.go:108", #[⟨13, .data⟩, ⟨27, .data⟩], none⟩) (v := ?_) rfl (by kernel_rfl) (by kernel_rfl) (by kernel_rfl) (fun _ _ _ h => h) (Or.inl ⟨by rfl, ?_⟩) (by assumption) ?_
 rotate_left
 ·
  intro w' hSw; (try dsimp only at hSw); first | (go_simp; done) | (go_simp; with_reducible rfl)
 (try simp only [Act.put, Row.pB0, Row.pB1, Row.pB2])
 refine wpAnyH_done (by kernel_rfl) ?_ _
 exact NoPanic.normal (HQ.out _ _ _ _ _ _ _ _ _ _ _ _ _ _ _ _ _ _ _ _ _ _ _ _ _ _ _ _  _  BB.out)
theorem eq_step {l m : List Cet} {k : Nat} (h : l.take k = m.take k) (hl : k < l.length) (hm : k < m.length) (he : nth l k = nth m k) : l.take (k + 1) = m.take (k + 1) := by rw [take_nx hl, take_nx hm, h, he]
theorem ne_step {l m : List Cet} {k : Nat} (he : nth l k ≠ nth m k) : l ≠ m := fun e => he (by rw [e])
set_option maxHeartbeats 8000000 in
theorem specEqualCn (V U : Value) (x y : Cnt) (w : World) (z : Bool) (hz : eqC x y = z) (h : kCn.At w V x) (g : kCn.At w U y) (hix : inCn x) (hiy : inCn y) (hpx : FitC x) (hpy : FitC y) :
    Calls Try.prog 42 #[V, U] w fun e w' => e = .returned (.bool z) ∧ Below w.heap.size w w' := by
  obtain ⟨x1, n1, c1, rfl, g1⟩ := kCn_at h
  obtain ⟨x2, n2, c2, rfl, g2⟩ := kCn_at g
  clear h g
  obtain ⟨ca_, l⟩ := x
  obtain ⟨cb_, m⟩ := y
  obtain ⟨hl, hp⟩ := hpx.fields
  obtain ⟨hl', hp'⟩ := hpy.fields
  dsimp only at g1 g2 hl hp hl' hp' ⊢
  have hin : ∀ x ∈ l, inDz x.1 := fun x hx => (hix.2.2 x hx).1
  have hin' : ∀ x ∈ m, inDz x.1 := fun x hx => (hiy.2.2 x hx).1
  obtain ⟨x, n, cx, L, e9, hn, ht, hh, hel⟩ := kLCe_at g1
  cases e9
  obtain ⟨x, n, cx, M, e9, hn2, ht2, hh2, hel2⟩ := kLCe_at g2
  cases e9
  have hlen : l.length = n1 := by rw [← ht, List.length_map]; exact hn.symm
  have hlen2 : m.length = n2 := by rw [← ht2, List.length_map]; exact hn2.symm
  rw [hlen] at hl
  rw [hlen2] at hl'
  have hcap : n1 ≤ c1 := by obtain ⟨x', n', cap', hv, hn', hc', -⟩ := hh.shapeN; cases hv; exact hc'
  have hcap2 : n2 ≤ c2 := by obtain ⟨x', n', cap', hv, hn', hc', -⟩ := hh2.shapeN; cases hv; exact hc'
  have b0 := (Below.refl w.heap.size w).alloc (Nat.le_refl _) (.cells #[.int .i64 ca_, .slice x1 n1 c1] 24)
  have b1 := (Below.refl (w.alloc (.cells #[.int .i64 ca_, .slice x1 n1 c1] 24)).heap.size (w.alloc (.cells #[.int .i64 ca_, .slice x1 n1 c1] 24))).alloc (Nat.le_refl _) (.cells #[.int .i64 cb_, .slice x2 n2 c2] 24)
  have HX := Lib.hid ((Ret.Blk.new w #[.int .i64 ca_, .slice x1 n1 c1] 24).on b1)
  have HY := Lib.hid (Ret.Blk.new' (w := w.alloc (.cells #[.int .i64 ca_, .slice x1 n1 c1] 24)) (n := w.heap.size + 1) #[.int .i64 cb_, .slice x2 n2 c2] 24 (by simp))
  have HB := Lib.hid (b0.trans (b1.mono b0.size)); have HZ := Lib.hid hz
  have HN := Lib.hid hn; have HT := Lib.hid ht; have HH := Lib.hid hh; have HEL := Lib.hid hel; have HLEN := Lib.hid hlen; have HP := Lib.hid hp; have HIN := Lib.hid hin
  have HN2 := Lib.hid hn2; have HT2 := Lib.hid ht2; have HH2 := Lib.hid hh2; have HEL2 := Lib.hid hel2; have HLEN2 := Lib.hid hlen2; have HP2 := Lib.hid hp'; have HIN2 := Lib.hid hin'
  clear b0 b1 hz g1 g2 hix hiy hpx hpy hn ht hh hel hlen hp hin hn2 ht2 hh2 hel2 hlen2 hp' hin'
  by_cases hcab : ca_ = cb_
  · by_cases hnn : n1 = n2
    · have tc : (ca_ != cb_) = false := by simp [hcab]
      have tn : (((n1 : Nat) : Int) != ((n2 : Nat) : Int)) = false := by rw [hnn]; simp
      have HCAB := Lib.hid hcab; have HNN := Lib.hid hnn
      clear hcab hnn
      go_enter Try.func42, Try.ntmps42
      go_wp2
      go_loopw [5] (fun iv wr => ∃ i : Nat, i ≤ n1 ∧ iv = .int .i64 i ∧ Hid (l.take i = m.take i) ∧ Hid (Ret.Blk wr w.heap.size #[.int .i64 ca_, .slice x1 n1 c1] 24) ∧ Hid (Ret.Blk wr (w.heap.size + 1) #[.int .i64 cb_, .slice x2 n2 c2] 24) ∧ Hid (Below w.heap.size w wr)) (fun iv _ => n1 - (intOf iv).toNat)
      case atStart => exact ⟨0, Nat.zero_le _, rfl, Lib.hid rfl, HX, HY, HB⟩
      case round =>
        obtain ⟨k, hk, rfl, ha, hx, hy, hb⟩ := hrel
        have q1 : wr.cell? ⟨w.heap.size, 1, none⟩ = some (.slice x1 n1 c1) := hx.out.cell 1
        by_cases hlt : k < n1
        · have hlt2 : k < n2 := by have := HNN.out; omega
          have hlen := HN.out
          obtain ⟨b, off, y0, m0, d0, y1, m1, d1, y2, m2, d2, rfl, -, hc0, hc1, hc2, hc3, hc4, hc5, hA⟩ := kLCe_elem (HH.out.on hb.out) (fun y hy => kCe.holds_on (HEL.out y hy) hb.out) (j := k) (by omega)
          have hpt : nth l k = kCe.strip (nth L k) := by rw [← HT.out, nth_map _ (by omega)]
          have hps := HP.out (nth l k) (nth_mem (by have := HLEN.out; omega))
          rw [← hpt] at hA hc3 hc4 hc5
          obtain ⟨hD, hNM⟩ := kCe_parts hA
          have HA := Lib.hid hA; have HD := Lib.hid hD; have HNM := Lib.hid hNM; have HPS := Lib.hid hps; have HPD := Lib.hid (show wtDz (nth l k).1 ≤ 1200000 from hps); have HPN := Lib.hid (show bulk (nth l k).1.1 ≤ 1200000 from (wtDz_lens _ hps).1)
          have H0 := Lib.hid hc0; have H1 := Lib.hid hc1; have H2 := Lib.hid hc2; have H3 := Lib.hid hc3; have H4 := Lib.hid hc4; have H5 := Lib.hid hc5
          clear hlen hpt hps hA hD hNM
          have hlen2 := HN2.out
          obtain ⟨b', off', z0, m3, d3, z1, m4, d4, z2, m5, d5, rfl, -, gc0, gc1, gc2, gc3, gc4, gc5, hA2⟩ := kLCe_elem (HH2.out.on hb.out) (fun y hy => kCe.holds_on (HEL2.out y hy) hb.out) (j := k) (by omega)
          have hpt2 : nth m k = kCe.strip (nth M k) := by rw [← HT2.out, nth_map _ (by omega)]
          have hps2 := HP2.out (nth m k) (nth_mem (by have := HLEN2.out; omega))
          have hin2 := HIN2.out (nth m k) (nth_mem (by have := HLEN2.out; omega))
          have hin1 := HIN.out (nth l k) (nth_mem (by have := HLEN.out; omega))
          rw [← hpt2] at hA2 gc3 gc4 gc5
          obtain ⟨hD2, -⟩ := kCe_parts hA2
          have HA2 := Lib.hid hA2; have HD2 := Lib.hid hD2; have HI1 := Lib.hid hin1; have HI2 := Lib.hid hin2; have HPS2 := Lib.hid hps2; have HPD2 := Lib.hid (show wtDz (nth m k).1 ≤ 1200000 from hps2)
          have G0 := Lib.hid gc0; have G1 := Lib.hid gc1; have G2 := Lib.hid gc2; have G3 := Lib.hid gc3; have G4 := Lib.hid gc4; have G5 := Lib.hid gc5
          clear hlen2 hpt2 hps2 hA2 hD2 hin1 hin2
          have HHX := hx; have HHY := hy
          clear hc0 hc1 hc2 hc3 hc4 hc5 gc0 gc1 gc2 gc3 gc4 gc5
          by_cases hu : (nth l k).2 = (nth m k).2
          · have t0 : ((nth l k).2 != (nth m k).2) = false := by simp [hu]
            obtain ⟨q, hq⟩ : ∃ q, decide ((nth l k).1 = (nth m k).1) = q := ⟨_, rfl⟩
            have HQ := Lib.hid hq; have HU := Lib.hid hu; clear hq hu
            go_wp2_with fail
            clear q1
            refine req1 hlt hlt2 (by omega) (by omega) (by omega) t0 HQ HD HD2 HI1 HI2 HPD HPD2 (Lib.hid (hx.out.cell 1)) (Lib.hid (hy.out.cell 1)) H5 G5 H0 H1 H2 H3 H4 G0 G1 G2 G3 G4 ?_
            intro u27 u28 u29 u30 u31 u32 u33 u34 u35 u36 u37 u38 u39 u40 u41 u42 u43 u44 u45 u46 u47 u48 u49 u50 u51 u52 u53 u54 wx hbx
            replace hx := Lib.hid (hx.out.on hbx); replace hy := Lib.hid (hy.out.on hbx); replace hb := Lib.hid (hb.out.trans (hbx.mono hb.out.size)); clear hbx HHX HHY
            cases q with
            | true =>
              have HA3 := Lib.hid (eq_step ha.out (by have := HLEN.out; omega) (by have := HLEN2.out; omega) (Prod.ext (of_decide_eq_true HQ.out) HU.out))
              go_wp2
              go_roundw
              case rel => exact ⟨k + 1, by omega, by go_num, HA3, hx, hy, hb⟩
              case measure => simp [intOf]; omega
            | false =>
              have HE : Hid (z = false) := Lib.hid (by rw [← HZ.out]; unfold eqC; exact decide_eq_false (fun e => ne_step (l := l) (m := m) (k := k) (fun e2 => of_decide_eq_false HQ.out (congrArg Prod.fst e2)) (congrArg Prod.snd e)))
              go_wp2
              go_ret
              exact ⟨ret_bool HE.out.symm, hb.out⟩
          · have t0 : ((nth l k).2 != (nth m k).2) = true := by simpa using hu
            have HE : Hid (z = false) := Lib.hid (by rw [← HZ.out]; unfold eqC; exact decide_eq_false (fun e => ne_step (l := l) (m := m) (k := k) (fun e2 => hu (congrArg Prod.snd e2)) (congrArg Prod.snd e)))
            clear hu
            go_wp2_with fail
            clear q1
            refine req0 hlt hlt2 (by omega) (by omega) (by omega) t0 (Lib.hid (hx.out.cell 1)) (Lib.hid (hy.out.cell 1)) H5 G5 ?_
            intro u27 u28 u29 u30 u31 u32 u33 u34 u35 u36 u37 u38 u39 u40 u41 u42 u43 u44 u45 u46 u47 u48 u49 u50 u51 u52 u53 u54 wx hbx
            replace hb := Lib.hid (hb.out.trans (hbx.mono hb.out.size)); clear hbx
            go_wp2
            go_ret
            exact ⟨ret_bool HE.out.symm, hb.out⟩
        · obtain rfl : k = n1 := by omega
          have HE : Hid (z = true) := Lib.hid (by
            rw [← HZ.out]; unfold eqC
            have h1 := ha.out
            rw [List.take_of_length_le (by rw [HLEN.out]; exact Nat.le_refl _), List.take_of_length_le (by rw [HLEN2.out, HNN.out]; exact Nat.le_refl _)] at h1
            exact decide_eq_true (Prod.ext HCAB.out h1))
          clear hlt
          go_wp2
          go_ret
          exact ⟨ret_bool HE.out.symm, hb.out⟩
    · have tc : (ca_ != cb_) = false := by simp [hcab]
      have tn : (((n1 : Nat) : Int) != ((n2 : Nat) : Int)) = true := by rw [bne_iff_ne]; omega
      have HE : Hid (z = false) := Lib.hid (by rw [← HZ.out]; unfold eqC; exact decide_eq_false (fun e => hnn (by rw [← HLEN.out, ← HLEN2.out, show l = m from congrArg Prod.snd e])))
      have HCAB := Lib.hid hcab
      clear hcab hnn
      go_enter Try.func42, Try.ntmps42
      go_wp2
      go_ret
      exact ⟨ret_bool HE.out.symm, HB.out⟩
  · have tc : (ca_ != cb_) = true := by simpa using hcab
    have HE : Hid (z = false) := Lib.hid (by rw [← HZ.out]; unfold eqC; exact decide_eq_false (fun e => hcab (congrArg Prod.fst e)))
    go_enter Try.func42, Try.ntmps42
    go_wp2
    go_ret
    exact ⟨ret_bool HE.out.symm, HB.out⟩
set_option maxHeartbeats 4000000 in
theorem iEqEnt (V U : Value) (x y : Cet) (w : World) (q : Bool) (hq : decide (x = y) = q) (h : kCe.At w V x) (g : kCe.At w U y) (hi : inDz x.1) (hj : inDz y.1) (hp : wtCe x ≤ 1200000) (hp' : wtCe y ≤ 1200000) :
    Calls Try.prog 86 #[V, U] w fun e w' => e = .returned (.bool q) ∧ Below w.heap.size w w' := by
  obtain ⟨y0, m0, d0, y1, m1, d1, y2, m2, d2, rfl, h⟩ := kCe_shapeA h
  obtain ⟨z0, m3, d3, z1, m4, d4, z2, m5, d5, rfl, g⟩ := kCe_shapeA g
  have b0 := (Below.refl w.heap.size w).alloc (Nat.le_refl _) (.cells #[.slice y0 m0 d0, .slice y1 m1 d1, .slice y2 m2 d2, .int .i64 x.1.2.2.2.1, .int .i64 x.1.2.2.2.2, .int .i64 x.2] 72)
  have b1 := (Below.refl (w.alloc (.cells #[.slice y0 m0 d0, .slice y1 m1 d1, .slice y2 m2 d2, .int .i64 x.1.2.2.2.1, .int .i64 x.1.2.2.2.2, .int .i64 x.2] 72)).heap.size (w.alloc (.cells #[.slice y0 m0 d0, .slice y1 m1 d1, .slice y2 m2 d2, .int .i64 x.1.2.2.2.1, .int .i64 x.1.2.2.2.2, .int .i64 x.2] 72))).alloc (Nat.le_refl _) (.cells #[.slice z0 m3 d3, .slice z1 m4 d4, .slice z2 m5 d5, .int .i64 y.1.2.2.2.1, .int .i64 y.1.2.2.2.2, .int .i64 y.2] 72)
  have b01 := b0.trans (b1.mono b0.size)
  have HX := Lib.hid ((Ret.Blk.new w #[.slice y0 m0 d0, .slice y1 m1 d1, .slice y2 m2 d2, .int .i64 x.1.2.2.2.1, .int .i64 x.1.2.2.2.2, .int .i64 x.2] 72).on b1)
  have HY := Lib.hid (Ret.Blk.new' (w := (w.alloc (.cells #[.slice y0 m0 d0, .slice y1 m1 d1, .slice y2 m2 d2, .int .i64 x.1.2.2.2.1, .int .i64 x.1.2.2.2.2, .int .i64 x.2] 72))) (n := w.heap.size + 1) #[.slice z0 m3 d3, .slice z1 m4 d4, .slice z2 m5 d5, .int .i64 y.1.2.2.2.1, .int .i64 y.1.2.2.2.2, .int .i64 y.2] 72 (by simp))
  have HD := Lib.hid ((kCe_parts h).1.on b01); have HD2 := Lib.hid ((kCe_parts g).1.on b01); have HB := Lib.hid b01
  obtain ⟨a, ha⟩ : ∃ a, decide (x.1 = y.1) = a := ⟨_, rfl⟩
  have HA := Lib.hid ha
  have HQ : Hid (q = (a && decide (x.2 = y.2))) := Lib.hid (by rw [← hq, ← ha]; simp [Prod.ext_iff])
  have HI := Lib.hid hi; have HJ := Lib.hid hj; have HP := Lib.hid (show wtDz x.1 ≤ 9000000 from Nat.le_trans hp (by decide)); have HP' := Lib.hid (show wtDz y.1 ≤ 9000000 from Nat.le_trans hp' (by decide))
  clear b0 b1 b01 h g ha hq hi hj hp hp'
  go_enter Try.func86, Try.ntmps86
  go_wp2_with fail
  refine (iEqZ a HA.out HD.out HD2.out HI.out HJ.out HP.out HP'.out).mono ?_
  rintro e w1 ⟨rfl, hb⟩
  have f5 : w1.cell? ⟨w.heap.size, 5, none⟩ = some (.int .i64 x.2) := (HX.out.on hb).cell 5
  have g5 : w1.cell? ⟨w.heap.size + 1, 5, none⟩ = some (.int .i64 y.2) := (HY.out.on hb).cell 5
  have HB2 := Lib.hid (HB.out.trans (hb.mono HB.out.size)); clear hb
  cases a with
  | false =>
    have HE : Hid (q = false) := Lib.hid (by rw [HQ.out]; rfl)
    go_wp2
    go_ret
    exact ⟨ret_bool HE.out.symm, HB2.out⟩
  | true =>
    by_cases hu : x.2 = y.2
    · have HE : Hid (q = true) := Lib.hid (by rw [HQ.out]; simp [hu])
      have t0 : (x.2 == y.2) = true := by simp [hu]
      have HU := Lib.hid hu; clear hu
      go_wp2
      go_ret
      exact ⟨ret_bool HE.out.symm, HB2.out⟩
    · have HE : Hid (q = false) := Lib.hid (by rw [HQ.out]; simp [hu])
      have t0 : (x.2 == y.2) = false := by simpa using hu
      clear hu
      go_wp2
      go_ret
      exact ⟨ret_bool HE.out.symm, HB2.out⟩
set_option maxHeartbeats 8000000 in
theorem iEqFunc (x1 x2 : Option Addr) (n1 c1 n2 c2 : Nat) (l m : List Cet) (w : World) (z : Bool) (hz : decide (l = m) = z) (h : kLCe.At w (.slice x1 n1 c1) l) (g : kLCe.At w (.slice x2 n2 c2) m) (hin : ∀ x ∈ l, inDz x.1) (hin' : ∀ x ∈ m, inDz x.1) (hl : l.length ≤ 1100000) (hl' : m.length ≤ 1100000) (hp : ∀ x ∈ l, wtCe x ≤ 1200000) (hp' : ∀ x ∈ m, wtCe x ≤ 1200000) :
    Calls Try.prog 105 #[.slice x1 n1 c1, .slice x2 n2 c2, .func (.func 86) #[] #[]] w fun e w' => e = .returned (.bool z) ∧ Below w.heap.size w w' := by
  obtain ⟨x, n, cx, L, e9, hn, ht, hh, hel⟩ := kLCe_at h
  cases e9
  obtain ⟨x, n, cx, M, e9, hn2, ht2, hh2, hel2⟩ := kLCe_at g
  cases e9
  have hlen : l.length = n1 := by rw [← ht, List.length_map]; exact hn.symm
  have hlen2 : m.length = n2 := by rw [← ht2, List.length_map]; exact hn2.symm
  rw [hlen] at hl
  rw [hlen2] at hl'
  have hcap : n1 ≤ c1 := by obtain ⟨x', n', cap', hv, hn', hc', -⟩ := hh.shapeN; cases hv; exact hc'
  have hcap2 : n2 ≤ c2 := by obtain ⟨x', n', cap', hv, hn', hc', -⟩ := hh2.shapeN; cases hv; exact hc'
  have HZ := Lib.hid hz
  have HN := Lib.hid hn; have HT := Lib.hid ht; have HH := Lib.hid hh; have HEL := Lib.hid hel; have HLEN := Lib.hid hlen; have HP := Lib.hid hp; have HIN := Lib.hid hin
  have HN2 := Lib.hid hn2; have HT2 := Lib.hid ht2; have HH2 := Lib.hid hh2; have HEL2 := Lib.hid hel2; have HLEN2 := Lib.hid hlen2; have HP2 := Lib.hid hp'; have HIN2 := Lib.hid hin'
  clear hz h g hn ht hh hel hlen hp hin hn2 ht2 hh2 hel2 hlen2 hp' hin'
  by_cases hnn : n1 = n2
  · have tn : (((n1 : Nat) : Int) != ((n2 : Nat) : Int)) = false := by rw [hnn]; simp
    have HNN := Lib.hid hnn
    clear hnn
    go_enter Try.func105, Try.ntmps105
    go_wp2
    go_loopw [17] (fun iv wr => ∃ i : Nat, i ≤ n1 ∧ iv = .int .i64 i ∧ Hid (l.take i = m.take i) ∧ Hid (Below w.heap.size w wr)) (fun iv _ => n1 - (intOf iv).toNat)
    case atStart => exact ⟨0, Nat.zero_le _, rfl, Lib.hid rfl, Lib.hid (Below.refl _ _)⟩
    case round =>
      obtain ⟨k, hk, rfl, ha, hb⟩ := hrel
      by_cases hlt : k < n1
      · have hlt2 : k < n2 := by have := HNN.out; omega
        have hlen := HN.out
        obtain ⟨b, off, y0, m0, d0, y1, m1, d1, y2, m2, d2, rfl, -, hc0, hc1, hc2, hc3, hc4, hc5, hA⟩ := kLCe_elem (HH.out.on hb.out) (fun y hy => kCe.holds_on (HEL.out y hy) hb.out) (j := k) (by omega)
        have hpt : nth l k = kCe.strip (nth L k) := by rw [← HT.out, nth_map _ (by omega)]
        have hps := HP.out (nth l k) (nth_mem (by have := HLEN.out; omega))
        rw [← hpt] at hA hc3 hc4 hc5
        obtain ⟨hD, hNM⟩ := kCe_parts hA
        have HA := Lib.hid hA; have HD := Lib.hid hD; have HNM := Lib.hid hNM; have HPS := Lib.hid hps; have HPD := Lib.hid (show wtDz (nth l k).1 ≤ 1200000 from hps); have HPN := Lib.hid (show bulk (nth l k).1.1 ≤ 1200000 from (wtDz_lens _ hps).1)
        have H0 := Lib.hid hc0; have H1 := Lib.hid hc1; have H2 := Lib.hid hc2; have H3 := Lib.hid hc3; have H4 := Lib.hid hc4; have H5 := Lib.hid hc5
        clear hlen hpt hps hA hD hNM
        have hlen2 := HN2.out
        obtain ⟨b', off', z0, m3, d3, z1, m4, d4, z2, m5, d5, rfl, -, gc0, gc1, gc2, gc3, gc4, gc5, hA2⟩ := kLCe_elem (HH2.out.on hb.out) (fun y hy => kCe.holds_on (HEL2.out y hy) hb.out) (j := k) (by omega)
        have hpt2 : nth m k = kCe.strip (nth M k) := by rw [← HT2.out, nth_map _ (by omega)]
        have hps2 := HP2.out (nth m k) (nth_mem (by have := HLEN2.out; omega))
        have hin2 := HIN2.out (nth m k) (nth_mem (by have := HLEN2.out; omega))
        have hin1 := HIN.out (nth l k) (nth_mem (by have := HLEN.out; omega))
        rw [← hpt2] at hA2 gc3 gc4 gc5
        obtain ⟨hD2, -⟩ := kCe_parts hA2
        have HA2 := Lib.hid hA2; have HD2 := Lib.hid hD2; have HI1 := Lib.hid hin1; have HI2 := Lib.hid hin2; have HPS2 := Lib.hid hps2; have HPD2 := Lib.hid (show wtDz (nth m k).1 ≤ 1200000 from hps2)
        have G0 := Lib.hid gc0; have G1 := Lib.hid gc1; have G2 := Lib.hid gc2; have G3 := Lib.hid gc3; have G4 := Lib.hid gc4; have G5 := Lib.hid gc5
        clear hlen2 hpt2 hps2 hA2 hD2 hin1 hin2
        have hal := (Below.refl wr.heap.size wr).alloc (Nat.le_refl _) (.cells #[.slice y0 m0 d0, .slice y1 m1 d1, .slice y2 m2 d2, .int .i64 (nth l k).1.2.2.2.1, .int .i64 (nth l k).1.2.2.2.2, .int .i64 (nth l k).2] 72)
        have hal2 := hal.alloc hal.size (.cells #[.slice z0 m3 d3, .slice z1 m4 d4, .slice z2 m5 d5, .int .i64 (nth m k).1.2.2.2.1, .int .i64 (nth m k).1.2.2.2.2, .int .i64 (nth m k).2] 72)
        have hx := (Ret.Blk.new wr #[.slice y0 m0 d0, .slice y1 m1 d1, .slice y2 m2 d2, .int .i64 (nth l k).1.2.2.2.1, .int .i64 (nth l k).1.2.2.2.2, .int .i64 (nth l k).2] 72)
        have k0 := kc gc0 hal; have k1 := kc gc1 hal; have k2 := kc gc2 hal; have k3 := kc gc3 hal; have k4 := kc gc4 hal; have k5 := kc gc5 hal
        have HA3 := Lib.hid (HA.out.on hal2); have HA4 := Lib.hid (HA2.out.on hal2); have HB2 := Lib.hid (hb.out.trans (hal2.mono hb.out.size))
        obtain ⟨q, hq⟩ : ∃ q, decide (nth l k = nth m k) = q := ⟨_, rfl⟩
        have HQ := Lib.hid hq
        clear hal hal2 hx hq
        go_wp2_with fail
        refine (iEqEnt _ _ (nth l k) (nth m k) _ q HQ.out HA3.out HA4.out HI1.out HI2.out HPS.out HPS2.out).mono ?_
        rintro e w5 ⟨rfl, hb5⟩
        have HB3 := Lib.hid (HB2.out.trans (hb5.mono HB2.out.size))
        clear hb5 hc0 hc1 hc2 hc3 hc4 hc5 gc0 gc1 gc2 gc3 gc4 gc5 k0 k1 k2 k3 k4 k5
        cases q with
        | true =>
          have HA5 := Lib.hid (eq_step ha.out (by have := HLEN.out; omega) (by have := HLEN2.out; omega) (of_decide_eq_true HQ.out))
          go_wp2
          go_roundw
          case rel => exact ⟨k + 1, by omega, by go_num, HA5, HB3⟩
          case measure => simp [intOf]; omega
        | false =>
          have HE : Hid (z = false) := Lib.hid (by rw [← HZ.out]; exact decide_eq_false (ne_step (k := k) (of_decide_eq_false HQ.out)))
          go_wp2
          go_ret
          exact ⟨ret_bool HE.out.symm, HB3.out⟩
      · obtain rfl : k = n1 := by omega
        have HE : Hid (z = true) := Lib.hid (by
          rw [← HZ.out]
          have h1 := ha.out
          rw [List.take_of_length_le (by rw [HLEN.out]; exact Nat.le_refl _), List.take_of_length_le (by rw [HLEN2.out, HNN.out]; exact Nat.le_refl _)] at h1
          exact decide_eq_true h1)
        clear hlt
        go_wp2
        go_ret
        exact ⟨ret_bool HE.out.symm, hb.out⟩
  · have tn : (((n1 : Nat) : Int) != ((n2 : Nat) : Int)) = true := by rw [bne_iff_ne]; omega
    have HE : Hid (z = false) := Lib.hid (by rw [← HZ.out]; exact decide_eq_false (fun e => hnn (by rw [← HLEN.out, ← HLEN2.out, e])))
    go_enter Try.func105, Try.ntmps105
    go_wp2
    go_ret
    exact ⟨ret_bool HE.out.symm, Below.refl _ _⟩
set_option maxHeartbeats 4000000 in
theorem iEquals (x1 x2 : Option Addr) (n1 c1 n2 c2 : Nat) (ca_ cb_ : Int) (l m : List Cet) (w : World) (z : Bool) (hz : eqC (ca_, l) (cb_, m) = z) (h : kLCe.At w (.slice x1 n1 c1) l) (g : kLCe.At w (.slice x2 n2 c2) m) (hin : ∀ x ∈ l, inDz x.1) (hin' : ∀ x ∈ m, inDz x.1) (hl : l.length ≤ 1100000) (hl' : m.length ≤ 1100000) (hp : ∀ x ∈ l, wtCe x ≤ 1200000) (hp' : ∀ x ∈ m, wtCe x ≤ 1200000) :
    Calls Try.prog 85 #[.agg #[.int .i64 ca_, .slice x1 n1 c1], .agg #[.int .i64 cb_, .slice x2 n2 c2], .func (.func 86) #[] #[]] w fun e w' => e = .returned (.bool z) ∧ Below w.heap.size w w' := by
  have b0 := (Below.refl w.heap.size w).alloc (Nat.le_refl _) (.cells #[.int .i64 ca_, .slice x1 n1 c1] 76)
  have b1 := (Below.refl (w.alloc (.cells #[.int .i64 ca_, .slice x1 n1 c1] 76)).heap.size (w.alloc (.cells #[.int .i64 ca_, .slice x1 n1 c1] 76))).alloc (Nat.le_refl _) (.cells #[.int .i64 cb_, .slice x2 n2 c2] 76)
  have b01 := b0.trans (b1.mono b0.size)
  obtain ⟨a, ha⟩ : ∃ a, decide (l = m) = a := ⟨_, rfl⟩
  have HC := Lib.hid (iEqFunc x1 x2 n1 c1 n2 c2 l m _ a ha (h.on b01) (g.on b01) hin hin' hl hl' hp hp')
  have HB := Lib.hid b01
  by_cases hc : ca_ = cb_
  · have tc : (ca_ == cb_) = true := by simp [hc]
    have HE : Hid (z = a) := Lib.hid (by rw [← hz, ← ha]; unfold eqC; simp [hc])
    have HCC := Lib.hid hc
    clear b0 b1 b01 ha h g hin hin' hp hp' hz hc
    go_enter Try.func85, Try.ntmps85
    go_wp2_with fail
    refine HC.out.mono ?_
    rintro e w1 ⟨rfl, hb⟩
    have HB2 := Lib.hid (HB.out.trans (hb.mono HB.out.size)); clear hb
    go_wp2
    go_ret
    exact ⟨ret_bool HE.out.symm, HB2.out⟩
  · have tc : (ca_ == cb_) = false := by simpa using hc
    have HE : Hid (z = false) := Lib.hid (by rw [← hz]; unfold eqC; exact decide_eq_false (fun e => hc (congrArg Prod.fst e)))
    clear b0 b1 b01 ha h g hin hin' hp hp' hz hc
    go_enter Try.func85, Try.ntmps85
    go_wp2
    go_ret
    exact ⟨ret_bool HE.out.symm, HB.out⟩
set_option maxHeartbeats 4000000 in
theorem implEqualCn (V U : Value) (x y : Cnt) (w : World) (z : Bool) (hz : eqC x y = z) (h : kCn.At w V x) (g : kCn.At w U y) (hix : inCn x) (hiy : inCn y) (hpx : FitC x) (hpy : FitC y) :
    Calls Try.prog 43 #[V, U] w fun e w' => e = .returned (.bool z) ∧ Below w.heap.size w w' := by
  obtain ⟨x1, n1, c1, rfl, g1⟩ := kCn_at h
  obtain ⟨x2, n2, c2, rfl, g2⟩ := kCn_at g
  clear h g
  obtain ⟨ca_, l⟩ := x
  obtain ⟨cb_, m⟩ := y
  obtain ⟨hl, hp⟩ := hpx.fields
  obtain ⟨hl', hp'⟩ := hpy.fields
  dsimp only at g1 g2 hl hp hl' hp' ⊢
  have b0 := (Below.refl w.heap.size w).alloc (Nat.le_refl _) (.cells #[.int .i64 ca_, .slice x1 n1 c1] 24)
  have b1 := (Below.refl (w.alloc (.cells #[.int .i64 ca_, .slice x1 n1 c1] 24)).heap.size (w.alloc (.cells #[.int .i64 ca_, .slice x1 n1 c1] 24))).alloc (Nat.le_refl _) (.cells #[.int .i64 cb_, .slice x2 n2 c2] 24)
  have b01 := b0.trans (b1.mono b0.size)
  have HC := Lib.hid (iEquals x1 x2 n1 c1 n2 c2 ca_ cb_ l m _ z hz (g1.on b01) (g2.on b01) (fun x hx => (hix.2.2 x hx).1) (fun x hx => (hiy.2.2 x hx).1) hl hl' hp hp')
  have HB := Lib.hid b01
  clear b0 b1 b01 g1 g2 hl hp hl' hp' hz hix hiy hpx hpy
  go_enter Try.func43, Try.ntmps43
  go_wp2_with fail
  refine HC.out.mono ?_
  rintro e w1 ⟨rfl, hb⟩
  have HB2 := Lib.hid (HB.out.trans (hb.mono HB.out.size)); clear hb
  go_wp2
  go_ret
  exact ⟨rfl, HB2.out⟩
end Go.Proofs.Ythfljbbigpophaa.Row
/- The model's l12Without, Touch, CacheData. No conditions but that lengths fit. -/
namespace Go.Proofs.Ythfljbbigpophaa.Row
open Go.ChangeShapes Go.WideShapes Go.ChangeAt Go.RowKit Go.Instr
set_option linter.unusedVariables false
set_option maxRecDepth 100000
theorem holds_rest2 {w : World} {b off n cap i : Nat} {L : List Cem} (h : HoldsK kCe.cells 6 w (.slice (some ⟨b, off, none⟩) n cap) L) (hi : i ≤ L.length) : HoldsK kCe.cells 6 w (.slice (if cap = i then some ⟨b, off, none⟩ else some ⟨b, off + i * 6, none⟩) (n - i) (cap - i)) (L.drop i) := by
  have hn := h.lenEq
  obtain ⟨x', n', cap', hv, hn', hc', -⟩ := h.shapeN
  cases hv
  by_cases e : cap = i
  · rw [if_pos e]
    exact holds_dropIf szCe_cells h hi (Or.inr (by omega))
  · rw [if_neg e]
    exact holds_dropIf szCe_cells h hi (Or.inl rfl)
theorem step_appKx {P : Program} {ops : Array Oper} {o : Oper} {a : Act} {w : World} {K : Act → World → Prop} {Q : Exit → Act → World → Prop} {E : Prop} {α : Type} {enc : α → List Value} {sz : Nat} {e t : TypeId} {bytes : Nat} {z : Value}
    (KD : Kind P e enc z sz bytes) (hg : o.guard = none) (s x : Operand) (hop : o.op = Op.call { callee := Callee.builtin Builtin.append, args := #[s, x], argTypes := #[t, t] }) (ht : P.underlying t = some (.slice e))
    {B : Nat} {v : Value} {xo : Option Addr} {n c : Nat} {l m : List α} (hs : a.eval s = v) (hx : a.eval x = .slice xo n c) (hxo : xo ≠ none) (hown : OwnK e enc sz B w v l) (hsrc : HoldsK enc sz w (.slice xo n c) m) (hlen : (l.length + m.length) * bytes ≤ 140737488355328) (hmx : l.length + m.length ≤ maxLen) (hB : B ≤ w.heap.size)
    (hK : ∀ v' w', OwnK e enc sz B w' v' (l ++ m) → w.grownBy w' v.ownBlock → K (a.put o.dst v') w') :
    if Region.wanted o (yielded ops a.tmps) = true then Oper.wp P o a w K Q else E := by
  cases xo with
  | none => exact absurd rfl hxo
  | some ad => exact step_appK KD hg s x hop ht hs hx hown hsrc hlen hmx hB hK
set_option maxHeartbeats 8000000 in
theorem l12Without (x : Option Addr) (n c : Nat) (L : List Cem) (k : Nat) (w : World) (h : HoldsK kCe.cells 6 w (.slice x n c) L) (hk : k < L.length) (hl : L.length ≤ 1100000) :
    Calls Try.prog 56 #[.slice x n c, .int .i64 k] w fun e w' => ∃ x' n' c', e = .returned (.slice x' n' c') ∧ OwnK 72 kCe.cells 6 w.heap.size w' (.slice x' n' c') (L.eraseIdx k) ∧ Below w.heap.size w w' := by
  have hnl := h.lenEq
  obtain ⟨x', n', cap', hv, hn', hc', -⟩ := h.shapeN
  cases hv
  obtain ⟨b, off, rfl, -⟩ := h.at szCe_cells hk
  have hT := h.take szCe_cells (i := k) (by omega)
  have hR := holds_rest2 (i := k + 1) h (by omega)
  have hbe := (Below.refl w.heap.size w).alloc (Nat.le_refl _) (.cells #[] 72)
  have hbd := hbe.drew
  have hE : OwnK 72 kCe.cells 6 w.heap.size (w.drew.alloc (.cells #[] 72)) (.slice (some ⟨w.heap.size, 0, none⟩) 0 0) [] := ownK_empty kCe.cells 6 72 w.drew
  have HE := Lib.hid hE
  have HT := Lib.hid (hT.on (show Below w.heap.size w (w.drew.alloc (.cells #[] 72)) from (Below.refl w.heap.size w).drew.alloc (Nat.le_refl _) _))
  have HR := Lib.hid hR
  have HBE := Lib.hid (show Below w.heap.size w (w.drew.alloc (.cells #[] 72)) from (Below.refl w.heap.size w).drew.alloc (Nat.le_refl _) _)
  have hkn : k < n := by omega
  have hkc : k ≤ c := by omega
  have hk1n : k + 1 ≤ n := by omega
  have hk1c : k + 1 ≤ c := by omega
  have u0 : (0 : Int) ≤ (k : Int) + 1 := by omega
  have u1 : (k : Int) + 1 ≤ (n : Int) := by omega
  have u2 : ((k : Int) + 1).toNat = k + 1 := by omega
  have HTL := Lib.hid (show (L.take k).length = k by rw [List.length_take]; omega); have HDL := Lib.hid (show (L.drop (k + 1)).length = n - (k + 1) by rw [List.length_drop]; omega)
  have hn11 : n ≤ 1100000 := by omega
  have hk11 : k ≤ 1100000 := by omega
  have hki : (k : Int) ≤ 1100000 := by omega
  have hk0 : (0 : Int) ≤ (k : Int) := by omega
  have hw : IntKind.i64.wrap ((k : Int) + 1) = ((k + 1 : Nat) : Int) := by rw [Go.IntWalk.i64_left, Go.IntWalk.wrap64_in _ (by omega)]; rfl
  have HNE := Lib.hid (show (if c = k + 1 then (some ⟨b, off, none⟩ : Option Addr) else some ⟨b, off + (k + 1) * 6, none⟩) ≠ none by split <;> simp)
  clear h hT hR hbe hbd hE hnl hn' hk hl
  go_enter Try.func56, Try.ntmps56
  go_wp2_with fail
  go_region_law (first | (refine step_appKx kindCe (B := w.heap.size) (l := [] ++ L.take k) (m := L.drop (k + 1)) rfl _ _ (by rfl) Try.underlying22 (by rfl) (by rfl) HNE.out HO1.out (HR.out.on HB1.out) (by rw [List.nil_append, HTL.out, HDL.out]; omega) (by rw [List.nil_append, HTL.out, HDL.out]; unfold maxLen; omega) HB1.out.size ?_; intro v5 w5 ho5 hg5; have HO2 := Lib.hid ho5; have HB2 := Lib.hid (HB1.out.grown hg5 HB1.out.size (fun g hg => (HO1.out.lt g hg).1)); clear ho5 hg5) | (refine step_appK kindCe (B := w.heap.size) (l := ([] : List Cem)) (m := L.take k) rfl _ _ (by rfl) Try.underlying22 (by rfl) (by rfl) HE.out HT.out (by rw [HTL.out]; simp; omega) (by rw [HTL.out]; unfold maxLen; simp; omega) HBE.out.size ?_; intro v4 w4 ho4 hg4; have HO1 := Lib.hid ho4; have HB1 := Lib.hid (HBE.out.grown hg4 HBE.out.size (fun g hg => (HE.out.lt g hg).1)); clear ho4 hg4))
  all_goals
    clear HR HNE
    generalize (if c = k + 1 then (some ⟨b, off, none⟩ : Option Addr) else some ⟨b, off + (k + 1) * 6, none⟩) = xo7
    obtain ⟨x5, n5, c5, rfl, -, -, ho5⟩ := HO2.out.shapeN
    have HO5 := Lib.hid ho5; clear ho5
    go_wp2_with fail
    go_ret
    exact ⟨x5, n5, c5, rfl, by rw [erase_parts]; simpa using HO5.out, HB2.out⟩
end Go.Proofs.Ythfljbbigpophaa.Row
