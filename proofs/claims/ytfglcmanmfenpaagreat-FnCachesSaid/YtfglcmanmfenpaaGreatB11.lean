/- Contracts and mathematics, joined: CacheO. No conditions but those that each states. -/
import Derived.WalkKit
import Derived.Deep.RegionHeld3
import Derived.Deep.RegionLaw
import Derived.Test.YtfglcmanmfenpaaGreatB10
/- The program's copy of a content store: cloneStore. No conditions but that lengths fit. -/
namespace Go.Proofs.YtfglcmanmfenpaaGreat.Row
open Go.ChangeShapes Go.WideShapes Go.ChangeAt Go.RowKit Go.Instr
set_option linter.unusedVariables false
set_option maxRecDepth 100000
theorem cell_six {w : World} {p q i : Nat} {v a b c d e f : Value} (h : w.cell? ⟨p, i, none⟩ = some v) (hne : q ≠ p) : ((((((w.setCell ⟨q, 0, none⟩ (a)).setCell ⟨q, 1, none⟩ (b)).setCell ⟨q, 2, none⟩ (c)).setCell ⟨q, 3, none⟩ (d)).setCell ⟨q, 4, none⟩ (e)).setCell ⟨q, 5, none⟩ (f)).cell? ⟨p, i, none⟩ = some v := by
  have ne : ∀ (W : World) (j : Nat) (u : Value), W.cell? ⟨p, i, none⟩ = some v → (W.setCell ⟨q, j, none⟩ u).cell? ⟨p, i, none⟩ = some v := fun W j u h => (Ret.grownBy_set W ⟨q, j, none⟩ u).cell h (fun e => hne (by cases e; rfl))
  exact ne _ _ _ (ne _ _ _ (ne _ _ _ (ne _ _ _ (ne _ _ _ (ne _ _ _ h)))))
theorem blk_six {w : World} {g : Nat} {t : TypeId} {a0 a1 a2 a3 a4 a5 a b c d e f : Value} (h : Ret.Blk w g #[a0, a1, a2, a3, a4, a5] t) : Ret.Blk ((((((w.setCell ⟨g, 0, none⟩ (a)).setCell ⟨g, 1, none⟩ (b)).setCell ⟨g, 2, none⟩ (c)).setCell ⟨g, 3, none⟩ (d)).setCell ⟨g, 4, none⟩ (e)).setCell ⟨g, 5, none⟩ (f)) g #[a, b, c, d, e, f] t := (((((h.set 0 a).set 1 b).set 2 c).set 3 d).set 4 e).set 5 f
theorem own_six {α M : Type} {k : Kd α M} {B E g : Nat} {w : World} {m : M} {a b c d e f : Value} (h : k.Own B E w m) (hg : g < B) : k.Own B E ((((((w.setCell ⟨g, 0, none⟩ (a)).setCell ⟨g, 1, none⟩ (b)).setCell ⟨g, 2, none⟩ (c)).setCell ⟨g, 3, none⟩ (d)).setCell ⟨g, 4, none⟩ (e)).setCell ⟨g, 5, none⟩ (f)) m := (((((h.set hg).set hg).set hg).set hg).set hg).set hg
theorem below_six {w0 w : World} {g : Nat} {B : Nat} {a b c d e f : Value} (h : Below B w0 w) (hg : B ≤ g) : Below B w0 ((((((w.setCell ⟨g, 0, none⟩ (a)).setCell ⟨g, 1, none⟩ (b)).setCell ⟨g, 2, none⟩ (c)).setCell ⟨g, 3, none⟩ (d)).setCell ⟨g, 4, none⟩ (e)).setCell ⟨g, 5, none⟩ (f)) := (((((h.setCell hg a).setCell hg b).setCell hg c).setCell hg d).setCell hg e).setCell hg f
theorem size_six {w : World} {g : Nat} {a b c d e f : Value} : ((((((w.setCell ⟨g, 0, none⟩ (a)).setCell ⟨g, 1, none⟩ (b)).setCell ⟨g, 2, none⟩ (c)).setCell ⟨g, 3, none⟩ (d)).setCell ⟨g, 4, none⟩ (e)).setCell ⟨g, 5, none⟩ (f)).heap.size = w.heap.size := by simp
theorem row_ne_blk {α : Type} {enc : α → List Value} {sz : Nat} {e t : TypeId} {B g : Nat} {w : World} {v : Value} {l : List α} {cs : Array Value} (h : OwnK e enc sz B w v l) (hx : Ret.Blk w g cs t) (hne : e ≠ t) : some g ≠ v.ownBlock := fun eg => by
  obtain ⟨cs2, h2⟩ := h.row eg.symm
  rw [show w.heap[g]? = some (.cells cs t) from hx] at h2
  injection h2 with h2
  injection h2 with h3 h4
  exact hne h4.symm
theorem own_setT {α M : Type} {k : Kd α M} {B E g i : Nat} {u : Value} {w : World} {m : M} {cs : Array Value} {t : TypeId} (hN : k.NoRow t) (h : k.Own B E w m) (hx : Ret.Blk w g cs t) : k.Own B E (w.setCell ⟨g, i, none⟩ u) m :=
  h.keep fun q hq => Go.RowKit.Below.heap_setCell w ⟨g, i, none⟩ u q (fun e => by
    have e1 : q = g := e
    subst e1
    exact hN B w m h.1 q hq cs hx)
theorem noRow_kLCe (t : TypeId) (h1 : 9 ≠ t) (h2 : 5 ≠ t) (h3 : 64 ≠ t) : kLCe.NoRow t := Kd.NoRow.slice ((noRow_kDz t h1 h2).pair Kd.noRow_scalar) h3
theorem noRow_St : kLCe.NoRow 60 := noRow_kLCe _ (by decide) (by decide) (by decide)
theorem step_makeK {P : Program} {α : Type} {enc : α → List Value} {sz : Nat} {e t : TypeId} {bytes : Nat} {z : Value} (KD : Kind P e enc z sz bytes) {ops : Array Oper} {o : Oper} {a : Act} {w : World} {K : Act → World → Prop} {Q : Exit → Act → World → Prop} {E : Prop} (hg : o.guard = none) (l c : Operand)
    (hop : o.op = Op.makeSlice t l c) (ht : P.underlying t = some (.slice e)) {kl kc : IntKind} {n B : Nat} (hl : a.eval l = .int kl 0) (hc : a.eval c = .int kc (n : Int)) (b2 : bytes * n ≤ 281474976710656) (b3 : n ≤ maxLen) (hB : B ≤ w.heap.size)
    (hK : ∀ w', OwnK e enc sz B w' (.slice (some ⟨w.heap.size, 0, none⟩) 0 n) [] → w.grownBy w' none → K (a.put o.dst (.slice (some ⟨w.heap.size, 0, none⟩) 0 n)) w') :
    if Region.wanted o (yielded ops a.tmps) = true then Oper.wp P o a w K Q else E := by
  have hw : Region.wanted o (yielded ops a.tmps) = true := by simp [Region.wanted, hg]
  rw [if_pos hw]
  obtain ⟨i, h1, h2, h3, h4⟩ := info_parts KD.elem
  obtain ⟨w', hrun, r1, r2⟩ := run_make_own (P := P) w B t e i z sz ht h1 h2 h3 kl kc n (by rw [h4]; exact b2) b3 hB
  unfold Oper.wp
  simp [execOp, hop, hl, hc, hrun, Result.andThen]
  exact hK _ r1 r2
set_option maxRecDepth 100000 in
set_option maxHeartbeats 4000000 in
theorem rcl {Q : Exit → Act → World → Prop} {v0 v3 v4 v5 v6 v7 : Value} {w : World} {p q m0 d0 m1 d1 m2 d2 : Nat} {y0 y1 y2 : Option Addr} {x : Cet} (HF : Hid (Five w p 0 (.slice y0 m0 d0) (.slice y1 m1 d1) (.slice y2 m2 d2) x.1.2.2.2.1 x.1.2.2.2.2)) (HD : Hid (kDz.At w (.agg #[.slice y0 m0 d0, .slice y1 m1 d1, .slice y2 m2 d2, .int .i64 x.1.2.2.2.1, .int .i64 x.1.2.2.2.2]) x.1)) (HPD : Hid (wtDz x.1 ≤ 1200000)) (hpq : q ≠ p) (XR : Hid (Ret.Blk w q #[.slice none 0 0, .slice none 0 0, .slice none 0 0, .int .i64 0, .int .i64 0, .int .i64 0] 64)) (K5 : Hid (w.cell? ⟨p, 5, none⟩ = some (.int .i64 x.2)))
  (hQ : ∀ (u3 u4 u5 u6 u7 : Value) (m9 : Dzm) (ma da mb db mc dc_ : Nat) (ya yb yc : Option Addr)  (wx : World), kDz.strip m9 = x.1 → kDz.cells m9 = [.slice ya ma da, .slice yb mb db, .slice yc mc dc_, .int .i64 x.1.2.2.2.1, .int .i64 x.1.2.2.2.2] → kDz.Own w.heap.size wx.heap.size wx m9 → Below w.heap.size w wx → Q .normal ⟨#[v0, .pointer (some ⟨p, 0, none⟩), .pointer (some ⟨q, 0, none⟩), u3, u4, u5, u6, u7], []⟩ ((((((wx.setCell ⟨q, 0, none⟩ (.slice ya ma da)).setCell ⟨q, 1, none⟩ (.slice yb mb db)).setCell ⟨q, 2, none⟩ (.slice yc mc dc_)).setCell ⟨q, 3, none⟩ (.int .i64 x.1.2.2.2.1)).setCell ⟨q, 4, none⟩ (.int .i64 x.1.2.2.2.2)).setCell ⟨q, 5, none⟩ (.int .i64 x.2))) :
  (Code.region 1 #[⟨some 3, .fieldAddr 64 (.tmp 1) 0, 0, "l12_cache.go:109", #[], none⟩,
   ⟨some 4, .call ⟨.value (.func 38), #[.tmp 3], #[31]⟩, 31, "l12_cache.go:109", #[⟨0, .data⟩], none⟩,
   ⟨some 5, .fieldAddr 64 (.tmp 1) 1, 0, "l12_cache.go:109", #[], none⟩,
   ⟨some 6, .load 3 (.tmp 5), 3, "l12_cache.go:109", #[⟨2, .data⟩], none⟩,
   ⟨some 7, .build 64 #[(0, .tmp 4), (1, .tmp 6)], 64, "l12_cache.go:109", #[⟨1, .data⟩, ⟨3, .data⟩], none⟩,
   ⟨none, .store 64 (.tmp 2) (.tmp 7), 0, "l12_cache.go:109", #[⟨4, .data⟩, ⟨1, .chain⟩, ⟨0, .phase⟩, ⟨1, .phase⟩, ⟨2, .phase⟩, ⟨3, .phase⟩, ⟨4, .phase⟩], none⟩] true).wp Tryz.prog Q ⟨#[v0, .pointer (some ⟨p, 0, none⟩), .pointer (some ⟨q, 0, none⟩), v3, v4, v5, v6, v7], []⟩ w := by
 have HQ := Lib.hid hQ; clear hQ
 have hdr : Below w.heap.size w w.drew := (Below.refl _ _).drew
 have BB := Lib.hid hdr
 refine wp_region_noPanic ?_
 refine wp_region_held_drew (S := (fun w' => w'.cell? ⟨p, 5, none⟩ = some (.int .i64 x.2))) (by kernel_rfl) ?_ (fun hHeld => ?_)
 ·
  exact kc K5.out BB.out
 clear hdr
 generalize w.drew = wd at *
 refine wpAnyH_take (i := 0) (oi := ⟨some 3, .fieldAddr 64 (.tmp 1) 0, 0, "l12_cache.go:109", #[], none⟩) (v := ?_) rfl (by kernel_rfl) (by kernel_rfl) (by kernel_rfl) (fun _ _ _ h => h) (Or.inl ⟨by rfl, ?_⟩) (by assumption) ?_
 rotate_left
 ·
  intro w' hSw; (try dsimp only at hSw); first | (go_simp; done) | (go_simp; with_reducible rfl)
 (try simp only [Act.put, Row.pB0, Row.pB1, Row.pB2])
 refine wpAnyH_take (i := 2) (oi := ⟨some 5, .fieldAddr 64 (.tmp 1) 1, 0, "l12_cache.go:109", #[], none⟩) (v := ?_) rfl (by kernel_rfl) (by kernel_rfl) (by kernel_rfl) (fun _ _ _ h => h) (Or.inl ⟨by rfl, ?_⟩) (by assumption) ?_
 rotate_left
 ·
  intro w' hSw; (try dsimp only at hSw); first | (go_simp; done) | (go_simp; with_reducible rfl)
 (try simp only [Act.put, Row.pB0, Row.pB1, Row.pB2])
 refine wpAnyH_take (i := 3) (oi := ⟨some 6, .load 3 (.tmp 5), 3, "l12_cache.go:109", #[⟨2, .data⟩], none⟩) (v := ?_) rfl (by kernel_rfl) (by kernel_rfl) (by kernel_rfl) (fun _ _ _ h => h) (Or.inl ⟨by rfl, ?_⟩) (by assumption) ?_
 rotate_left
 ·
  intro w' hSw; (try dsimp only at hSw); first | (go_simp; done) | (go_simp; with_reducible rfl)
 (try simp only [Act.put, Row.pB0, Row.pB1, Row.pB2])
 refine wpAnyH_ready (rs := [1]) (by kernel_rfl) (by simp) ?_
 refine AllReadyH.cons (o := ⟨some 4, .call ⟨.value (.func 38), #[.tmp 3], #[31]⟩, 31, "l12_cache.go:109", #[⟨0, .data⟩], none⟩) rfl (fun K hK => ?_) AllReadyH.nil
 go_simp
 refine (iClnZ p 0 _ _ _ x.1 _ (HF.out.on BB.out) (HD.out.on BB.out) (Nat.le_trans HPD.out (by decide))).mono ?_
 rintro e wn1 ⟨U, rfl, ho, hb⟩
 obtain ⟨m9, ya, ma, da, yb, mb, db, yc, mc, dc_, rfl, hs1, hd1, ho⟩ := kDz_split ho
 have HO9 := Lib.hid (show kDz.Own w.heap.size wn1.heap.size wn1 m9 from ho.mono BB.out.size (Nat.le_refl _)); have HS1 := Lib.hid hs1; have HD1 := Lib.hid hd1; clear ho hs1 hd1
 replace BB := Lib.hid (BB.out.trans (hb.mono BB.out.size))
 clear hb
 (try go_wp2_with fail)
 clear hHeld
 refine hK.out _ _ ?_ (fun hHeld => ?_)
 ·
  (try dsimp only); exact kc K5.out BB.out
 clear hK K
 (try simp only [Act.put, Row.pB0, Row.pB1, Row.pB2])
 refine wpAnyH_take (i := 4) (oi := ⟨some 7, .build 64 #[(0, .tmp 4), (1, .tmp 6)], 64, "l12_cache.go:109", #[⟨1, .data⟩, ⟨3, .data⟩], none⟩) (v := ?_) rfl (by kernel_rfl) (by kernel_rfl) (by kernel_rfl) (fun _ _ _ h => h) (Or.inl ⟨by rfl, ?_⟩) (by assumption) ?_
 rotate_left
 ·
  intro w' hSw; (try dsimp only at hSw); first | (go_simp; done) | (go_simp; with_reducible rfl)
 (try simp only [Act.put, Row.pB0, Row.pB1, Row.pB2])
 refine wpAnyH_ready (rs := [5]) (by kernel_rfl) (by simp) ?_
 refine AllReadyH.cons (o := ⟨none, .store 64 (.tmp 2) (.tmp 7), 0, "l12_cache.go:109", #[⟨4, .data⟩, ⟨1, .chain⟩, ⟨0, .phase⟩, ⟨1, .phase⟩, ⟨2, .phase⟩, ⟨3, .phase⟩, ⟨4, .phase⟩], none⟩) rfl (fun K hK => ?_) AllReadyH.nil
 have xr := XR.out.on BB.out
 have r0 := xr.cell 0; have r1 := xr.cell 1; have r2 := xr.cell 2; have r3 := xr.cell 3; have r4 := xr.cell 4; have r5 := xr.cell 5
 have t0 := xr.frozen 0; have t1 := xr.frozen 1; have t2 := xr.frozen 2; have t3 := xr.frozen 3; have t4 := xr.frozen 4; have t5 := xr.frozen 5
 go_simp
 clear hHeld
 refine hK.out _ _ ?_ (fun hHeld => ?_)
 ·
  (try dsimp only); exact cell_six (kc K5.out BB.out) hpq
 clear hK K
 (try simp only [Act.put, Row.pB0, Row.pB1, Row.pB2])
 refine wpAnyH_done (by kernel_rfl) ?_ _
 exact NoPanic.normal (HQ.out _ _ _ _ _ m9 ma da mb db mc dc_ ya yb yc _ HS1.out HD1.out HO9.out BB.out)
set_option maxHeartbeats 4000000 in
theorem cloneEnt (V : Value) (x : Cet) (w : World) (h : kCe.At w V x) (hp : wtCe x ≤ 1200000) :
    Calls Tryz.prog 70 #[V] w fun e w' => ∃ U, e = .returned U ∧ kCe.In w.heap.size w'.heap.size w' U x ∧ Below w.heap.size w w' := by
  obtain ⟨y0, m0, d0, y1, m1, d1, y2, m2, d2, rfl, h⟩ := kCe_shapeA h
  have b1 := (Below.refl w.heap.size w).alloc (Nat.le_refl _) (.cells #[.slice y0 m0 d0, .slice y1 m1 d1, .slice y2 m2 d2, .int .i64 x.1.2.2.2.1, .int .i64 x.1.2.2.2.2, .int .i64 x.2] 64)
  have b2 := (Below.refl (w.alloc (.cells #[.slice y0 m0 d0, .slice y1 m1 d1, .slice y2 m2 d2, .int .i64 x.1.2.2.2.1, .int .i64 x.1.2.2.2.2, .int .i64 x.2] 64)).heap.size (w.alloc (.cells #[.slice y0 m0 d0, .slice y1 m1 d1, .slice y2 m2 d2, .int .i64 x.1.2.2.2.1, .int .i64 x.1.2.2.2.2, .int .i64 x.2] 64))).alloc (Nat.le_refl _) (.cells #[.slice none 0 0, .slice none 0 0, .slice none 0 0, .int .i64 0, .int .i64 0, .int .i64 0] 64)
  have b12 := b1.trans (b2.mono b1.size)
  have hX := (Ret.Blk.new w #[.slice y0 m0 d0, .slice y1 m1 d1, .slice y2 m2 d2, .int .i64 x.1.2.2.2.1, .int .i64 x.1.2.2.2.2, .int .i64 x.2] 64).on b2
  have HR := Lib.hid (Ret.Blk.new' (w := (w.alloc (.cells #[.slice y0 m0 d0, .slice y1 m1 d1, .slice y2 m2 d2, .int .i64 x.1.2.2.2.1, .int .i64 x.1.2.2.2.2, .int .i64 x.2] 64))) (n := w.heap.size + 1) #[.slice none 0 0, .slice none 0 0, .slice none 0 0, .int .i64 0, .int .i64 0, .int .i64 0] 64 (by simp))
  have HD := Lib.hid ((kCe_parts h).1.on b12)
  have HF := Lib.hid (show Five ((w.alloc (.cells #[.slice y0 m0 d0, .slice y1 m1 d1, .slice y2 m2 d2, .int .i64 x.1.2.2.2.1, .int .i64 x.1.2.2.2.2, .int .i64 x.2] 64)).alloc (.cells #[.slice none 0 0, .slice none 0 0, .slice none 0 0, .int .i64 0, .int .i64 0, .int .i64 0] 64)) w.heap.size 0 (.slice y0 m0 d0) (.slice y1 m1 d1) (.slice y2 m2 d2) x.1.2.2.2.1 x.1.2.2.2.2 from ⟨hX.cell 0, hX.cell 1, hX.cell 2, hX.cell 3, hX.cell 4⟩)
  have HK := Lib.hid (hX.cell 5); have HB := Lib.hid b12; have HP := Lib.hid (show wtDz x.1 ≤ 1200000 from hp)
  clear b1 b2 b12 hX h hp
  go_enter Tryz.func70, Tryz.ntmps70
  go_wp2_with fail
  refine rcl HF HD HP (by omega) HR HK ?_
  intro u3 u4 u5 u6 u7 m9 ma da mb db mc dc_ ya yb yc wx hs1 hd1 ho hb
  have HBX := Lib.hid (HB.out.trans (hb.mono HB.out.size))
  have Z := Lib.hid (blk_six (a := .slice ya ma da) (b := .slice yb mb db) (c := .slice yc mc dc_) (d := .int .i64 x.1.2.2.2.1) (e := .int .i64 x.1.2.2.2.2) (f := .int .i64 x.2) (HR.out.on hb))
  have HO := Lib.hid (own_six (g := w.heap.size + 1) (a := .slice ya ma da) (b := .slice yb mb db) (c := .slice yc mc dc_) (d := .int .i64 x.1.2.2.2.1) (e := .int .i64 x.1.2.2.2.2) (f := .int .i64 x.2) ho (by simp))
  have HS := Lib.hid hs1; have HD1 := Lib.hid hd1; have HSZ := Lib.hid hb.size
  clear hs1 hd1 ho hb
  go_wp2_with fail
  refine bodyPost_ret (Ret.results_c rfl _ _ (w.heap.size + 1) [.slice ya ma da, .slice yb mb db, .slice yc mc dc_, .int .i64 x.1.2.2.2.1, .int .i64 x.1.2.2.2.2, .int .i64 x.2] rfl aggCe Z.out.cells) rfl ?_
  have hin : kCe.In w.heap.size wx.heap.size ((((((wx.setCell ⟨(w.heap.size + 1), 0, none⟩ (.slice ya ma da)).setCell ⟨(w.heap.size + 1), 1, none⟩ (.slice yb mb db)).setCell ⟨(w.heap.size + 1), 2, none⟩ (.slice yc mc dc_)).setCell ⟨(w.heap.size + 1), 3, none⟩ (.int .i64 x.1.2.2.2.1)).setCell ⟨(w.heap.size + 1), 4, none⟩ (.int .i64 x.1.2.2.2.2)).setCell ⟨(w.heap.size + 1), 5, none⟩ (.int .i64 x.2)) (kCe.val (m9, x.2)) (kCe.strip (m9, x.2)) := (kCe_own (HO.out.mono HB.out.size (Nat.le_refl _)) x.2 HBX.out.size).in
  have e1 : kCe.val ((m9, x.2) : Cem) = .agg #[.slice ya ma da, .slice yb mb db, .slice yc mc dc_, .int .i64 x.1.2.2.2.1, .int .i64 x.1.2.2.2.2, .int .i64 x.2] := by
    show Value.agg (kDz.cells m9 ++ kInt.cells x.2).toArray = _
    rw [HD1.out]; rfl
  have e2 : kCe.strip ((m9, x.2) : Cem) = x := Prod.ext HS.out rfl
  rw [e1, e2] at hin
  refine ⟨_, rfl, ?_, below_six HBX.out (by omega)⟩
  rw [size_six]
  exact hin
theorem cell_two {w : World} {p q i : Nat} {v a b : Value} (h : w.cell? ⟨p, i, none⟩ = some v) (hne : q ≠ p) : (((w).setCell ⟨q, 0, none⟩ (a)).setCell ⟨q, 1, none⟩ (b)).cell? ⟨p, i, none⟩ = some v :=
  (Ret.grownBy_set _ ⟨q, 1, none⟩ _).cell ((Ret.grownBy_set w ⟨q, 0, none⟩ _).cell h (fun e => hne (by cases e; rfl))) (fun e => hne (by cases e; rfl))
set_option maxRecDepth 100000 in
set_option maxHeartbeats 4000000 in
theorem rcw {Q : Exit → Act → World → Prop} {v0 v1 v3 v4 v5 v6 v7 v8 v9 v10 v11 v12 v13 v14 v15 v16 v17 v18 v19 v20 v21 v22 v23 v24 v25 v26 v27 v28 v29 v30 v31 : Value} {w : World} {p : Nat} {x : Option Addr} {n c : Nat} {cc : Int} (hn : n ≤ 1100000) (K0 : Hid (w.cell? ⟨p, 0, none⟩ = some (.int .i64 cc))) (K1 : Hid (w.cell? ⟨p, 1, none⟩ = some (.slice x n c)))
  (hQ : ∀ (u8 u9 u10 u11 u12 u13 u14 : Value) (gD gR : Nat)  (wx : World), w.heap.size ≤ gD → Ret.Blk wx gD #[.int .i64 0, .slice none 0 0] 60 → OwnK 64 kCe.cells 6 w.heap.size wx (.slice (some ⟨gR, 0, none⟩) 0 n) [] → Below w.heap.size w wx → Q .normal ⟨#[v0, v1, .pointer (some ⟨p, 0, none⟩), v3, v4, .pointer (some ⟨gD, 0, none⟩), v6, v7, u8, u9, u10, u11, u12, u13, u14, v15, v16, v17, v18, v19, v20, v21, v22, v23, v24, v25, v26, v27, v28, v29, v30, v31], []⟩ (((wx).setCell ⟨gD, 0, none⟩ (.int .i64 cc)).setCell ⟨gD, 1, none⟩ (.slice (some ⟨gR, 0, none⟩) 0 n))) :
  (Code.region 1 #[⟨some 8, .fieldAddr 60 (.tmp 2) 0, 0, "l12_cache.go:25", #[], none⟩,
   ⟨some 9, .load 3 (.tmp 8), 3, "l12_cache.go:25", #[⟨0, .data⟩], none⟩,
   ⟨some 10, .fieldAddr 60 (.tmp 2) 1, 0, "l12_cache.go:25", #[], none⟩,
   ⟨some 11, .load 24 (.tmp 10), 24, "l12_cache.go:25", #[⟨2, .data⟩], none⟩,
   ⟨some 12, .call ⟨.builtin .len, #[.tmp 11], #[24]⟩, 3, "l12_cache.go:25", #[⟨3, .data⟩], none⟩,
   ⟨some 13, .makeSlice 24 (.const (Value.int IntKind.i64 0)) (.tmp 12), 24, "l12_cache.go:25", #[⟨4, .data⟩], none⟩,
   ⟨some 14, .build 60 #[(0, .tmp 9), (1, .tmp 13)], 60, "l12_cache.go:25", #[⟨1, .data⟩, ⟨5, .data⟩], none⟩,
   ⟨some 5, .alloc 60, 0, "l12_cache.go:25", #[], none⟩,
   ⟨none, .store 60 (.tmp 5) (.tmp 14), 0, "l12_cache.go:25", #[⟨7, .data⟩, ⟨6, .data⟩, ⟨0, .phase⟩, ⟨1, .phase⟩, ⟨2, .phase⟩, ⟨3, .phase⟩, ⟨4, .phase⟩, ⟨5, .phase⟩, ⟨6, .phase⟩, ⟨7, .phase⟩], none⟩] true).wp Tryz.prog Q ⟨#[v0, v1, .pointer (some ⟨p, 0, none⟩), v3, v4, v5, v6, v7, v8, v9, v10, v11, v12, v13, v14, v15, v16, v17, v18, v19, v20, v21, v22, v23, v24, v25, v26, v27, v28, v29, v30, v31], []⟩ w := by
 have HQ := Lib.hid hQ; clear hQ
 have hdr : Below w.heap.size w w.drew := (Below.refl _ _).drew
 have BB := Lib.hid hdr
 refine wp_region_noPanic ?_
 refine wp_region_held_drew (S := (fun w' => w'.cell? ⟨p, 0, none⟩ = some (.int .i64 cc) ∧ w'.cell? ⟨p, 1, none⟩ = some (.slice x n c))) (by kernel_rfl) ?_ (fun hHeld => ?_)
 ·
  exact ⟨kc K0.out BB.out, kc K1.out BB.out⟩
 clear hdr
 generalize w.drew = wd at *
 refine wpAnyH_take (i := 0) (oi := ⟨some 8, .fieldAddr 60 (.tmp 2) 0, 0, "l12_cache.go:25", #[], none⟩) (v := ?_) rfl (by kernel_rfl) (by kernel_rfl) (by kernel_rfl) (fun _ _ _ h => h) (Or.inl ⟨by rfl, ?_⟩) (by assumption) ?_
 rotate_left
 ·
  intro w' hSw; (try dsimp only at hSw); first | (go_simp; done) | (go_simp; with_reducible rfl)
 (try simp only [Act.put, Row.pB0, Row.pB1, Row.pB2])
 refine wpAnyH_take (i := 1) (oi := ⟨some 9, .load 3 (.tmp 8), 3, "l12_cache.go:25", #[⟨0, .data⟩], none⟩) (v := ?_) rfl (by kernel_rfl) (by kernel_rfl) (by kernel_rfl) (fun _ _ _ h => h) (Or.inl ⟨by rfl, ?_⟩) (by assumption) ?_
 rotate_left
 ·
  intro w' hSw; (try dsimp only at hSw); first | (go_simp; done) | (go_simp; with_reducible rfl)
 (try simp only [Act.put, Row.pB0, Row.pB1, Row.pB2])
 refine wpAnyH_take (i := 2) (oi := ⟨some 10, .fieldAddr 60 (.tmp 2) 1, 0, "l12_cache.go:25", #[], none⟩) (v := ?_) rfl (by kernel_rfl) (by kernel_rfl) (by kernel_rfl) (fun _ _ _ h => h) (Or.inl ⟨by rfl, ?_⟩) (by assumption) ?_
 rotate_left
 ·
  intro w' hSw; (try dsimp only at hSw); first | (go_simp; done) | (go_simp; with_reducible rfl)
 (try simp only [Act.put, Row.pB0, Row.pB1, Row.pB2])
 refine wpAnyH_take (i := 3) (oi := ⟨some 11, .load 24 (.tmp 10), 24, "l12_cache.go:25", #[⟨2, .data⟩], none⟩) (v := ?_) rfl (by kernel_rfl) (by kernel_rfl) (by kernel_rfl) (fun _ _ _ h => h) (Or.inl ⟨by rfl, ?_⟩) (by assumption) ?_
 rotate_left
 ·
  intro w' hSw; (try dsimp only at hSw); first | (go_simp; done) | (go_simp; with_reducible rfl)
 (try simp only [Act.put, Row.pB0, Row.pB1, Row.pB2])
 refine wpAnyH_take (i := 4) (oi := ⟨some 12, .call ⟨.builtin .len, #[.tmp 11], #[24]⟩, 3, "l12_cache.go:25", #[⟨3, .data⟩], none⟩) (v := ?_) rfl (by kernel_rfl) (by kernel_rfl) (by kernel_rfl) (fun _ _ _ h => h) (Or.inl ⟨by rfl, ?_⟩) (by assumption) ?_
 rotate_left
 ·
  intro w' hSw; (try dsimp only at hSw); first | (go_simp; done) | (go_simp; with_reducible rfl)
 (try simp only [Act.put, Row.pB0, Row.pB1, Row.pB2])
 refine wpAnyH_ready (rs := [5, 7]) (by kernel_rfl) (by simp) ?_
 refine AllReadyH.cons (o := ⟨some 13, .makeSlice 24 (.const (Value.int IntKind.i64 0)) (.tmp 12), 24, "l12_cache.go:25", #[⟨4, .data⟩], none⟩) rfl (fun K hK => ?_) ?_
 ·
  refine step_makeK kindCe (B := w.heap.size) (n := n) rfl _ _ (by rfl) Tryz.underlying24 (by rfl) (by rfl) (by omega) (by unfold maxLen; omega) BB.out.size ?_
  intro wn1 hown hgr
  obtain ⟨gR, hgR⟩ : ∃ g, g = wd.heap.size := ⟨_, rfl⟩
  rw [← hgR] at hown ⊢
  have HO := Lib.hid hown
  (try replace XD := Lib.hid (XD.out.grown hgr (by simp)))
  replace BB := Lib.hid (BB.out.grown hgr BB.out.size (fun g e => by cases e))
  clear hown hgr hgR
  clear hHeld
  refine hK.out _ _ ?_ (fun hHeld => ?_)
  ·
   (try dsimp only); exact ⟨kc K0.out BB.out, kc K1.out BB.out⟩
  clear hK K
  (try simp only [Act.put, Row.pB0, Row.pB1, Row.pB2])
  refine wpAnyH_take (i := 6) (oi := ⟨some 14, .build 60 #[(0, .tmp 9), (1, .tmp 13)], 60, "l12_cache.go:25", #[⟨1, .data⟩, ⟨5, .data⟩], none⟩) (v := ?_) rfl (by kernel_rfl) (by kernel_rfl) (by kernel_rfl) (fun _ _ _ h => h) (Or.inl ⟨by rfl, ?_⟩) (by assumption) ?_
  rotate_left
  ·
   intro w' hSw; (try dsimp only at hSw); first | (go_simp; done) | (go_simp; with_reducible rfl)
  (try simp only [Act.put, Row.pB0, Row.pB1, Row.pB2])
  refine wpAnyH_ready (rs := [7]) (by kernel_rfl) (by simp) ?_
  refine AllReadyH.cons (o := ⟨some 5, .alloc 60, 0, "l12_cache.go:25", #[], none⟩) rfl (fun K hK => ?_) AllReadyH.nil
  go_simp
  have hb : Below wn1.heap.size wn1 (wn1.alloc (.cells #[.int .i64 0, .slice none 0 0] 60)) := (Below.refl _ _).alloc (Nat.le_refl _) _
  obtain ⟨gD, hgD⟩ : ∃ g, g = wn1.heap.size := ⟨_, rfl⟩
  have XD := Lib.hid (show Ret.Blk (wn1.alloc (.cells #[.int .i64 0, .slice none 0 0] 60)) gD #[.int .i64 0, .slice none 0 0] 60 from by rw [hgD]; exact Ret.Blk.new wn1 _ _)
  have HDW := Lib.hid (show w.heap.size ≤ gD from by rw [hgD]; exact BB.out.size)
  (first | rw [← hgD] | skip)
  clear hgD
  replace HO := Lib.hid (HO.out.on hb)
  replace BB := Lib.hid (BB.out.trans (hb.mono BB.out.size))
  clear hb
  generalize wn1.alloc (.cells #[.int .i64 0, .slice none 0 0] 60) = wn2 at *
  clear hHeld
  refine hK.out _ _ ?_ (fun hHeld => ?_)
  ·
   (try dsimp only); exact ⟨kc K0.out BB.out, kc K1.out BB.out⟩
  clear hK K
  (try simp only [Act.put, Row.pB0, Row.pB1, Row.pB2])
  refine wpAnyH_ready (rs := [8]) (by kernel_rfl) (by simp) ?_
  refine AllReadyH.cons (o := ⟨none, .store 60 (.tmp 5) (.tmp 14), 0, "l12_cache.go:25", #[⟨7, .data⟩, ⟨6, .data⟩, ⟨0, .phase⟩, ⟨1, .phase⟩, ⟨2, .phase⟩, ⟨3, .phase⟩, ⟨4, .phase⟩, ⟨5, .phase⟩, ⟨6, .phase⟩, ⟨7, .phase⟩], none⟩) rfl (fun K hK => ?_) AllReadyH.nil
  have r0 := XD.out.cell 0; have r1 := XD.out.cell 1; have t0 := XD.out.frozen 0; have t1 := XD.out.frozen 1
  have hlt : p < w.heap.size := Ret.cell_lt K0.out; have hdw := HDW.out
  go_simp
  clear hHeld
  refine hK.out _ _ ?_ (fun hHeld => ?_)
  ·
   (try dsimp only); exact ⟨cell_two (kc K0.out BB.out) (by omega), cell_two (kc K1.out BB.out) (by omega)⟩
  clear hK K
  (try simp only [Act.put, Row.pB0, Row.pB1, Row.pB2])
  refine wpAnyH_done (by kernel_rfl) ?_ _
  exact NoPanic.normal (HQ.out _ _ _ _ _ _ _ gD gR _ HDW.out XD.out HO.out BB.out)
 refine AllReadyH.cons (o := ⟨some 5, .alloc 60, 0, "l12_cache.go:25", #[], none⟩) rfl (fun K hK => ?_) AllReadyH.nil
 go_simp
 have hb : Below wd.heap.size wd (wd.alloc (.cells #[.int .i64 0, .slice none 0 0] 60)) := (Below.refl _ _).alloc (Nat.le_refl _) _
 obtain ⟨gD, hgD⟩ : ∃ g, g = wd.heap.size := ⟨_, rfl⟩
 have XD := Lib.hid (show Ret.Blk (wd.alloc (.cells #[.int .i64 0, .slice none 0 0] 60)) gD #[.int .i64 0, .slice none 0 0] 60 from by rw [hgD]; exact Ret.Blk.new wd _ _)
 have HDW := Lib.hid (show w.heap.size ≤ gD from by rw [hgD]; exact BB.out.size)
 (first | rw [← hgD] | skip)
 clear hgD
 replace BB := Lib.hid (BB.out.trans (hb.mono BB.out.size))
 clear hb
 generalize wd.alloc (.cells #[.int .i64 0, .slice none 0 0] 60) = wn4 at *
 clear hHeld
 refine hK.out _ _ ?_ (fun hHeld => ?_)
 ·
  (try dsimp only); exact ⟨kc K0.out BB.out, kc K1.out BB.out⟩
 clear hK K
 (try simp only [Act.put, Row.pB0, Row.pB1, Row.pB2])
 refine wpAnyH_ready (rs := [5]) (by kernel_rfl) (by simp) ?_
 refine AllReadyH.cons (o := ⟨some 13, .makeSlice 24 (.const (Value.int IntKind.i64 0)) (.tmp 12), 24, "l12_cache.go:25", #[⟨4, .data⟩], none⟩) rfl (fun K hK => ?_) AllReadyH.nil
 refine step_makeK kindCe (B := w.heap.size) (n := n) rfl _ _ (by rfl) Tryz.underlying24 (by rfl) (by rfl) (by omega) (by unfold maxLen; omega) BB.out.size ?_
 intro wn5 hown hgr
 obtain ⟨gR, hgR⟩ : ∃ g, g = wn4.heap.size := ⟨_, rfl⟩
 rw [← hgR] at hown ⊢
 have HO := Lib.hid hown
 (try replace XD := Lib.hid (XD.out.grown hgr (by simp)))
 replace BB := Lib.hid (BB.out.grown hgr BB.out.size (fun g e => by cases e))
 clear hown hgr hgR
 clear hHeld
 refine hK.out _ _ ?_ (fun hHeld => ?_)
 ·
  (try dsimp only); exact ⟨kc K0.out BB.out, kc K1.out BB.out⟩
 clear hK K
 (try simp only [Act.put, Row.pB0, Row.pB1, Row.pB2])
 refine wpAnyH_take (i := 6) (oi := ⟨some 14, .build 60 #[(0, .tmp 9), (1, .tmp 13)], 60, "l12_cache.go:25", #[⟨1, .data⟩, ⟨5, .data⟩], none⟩) (v := ?_) rfl (by kernel_rfl) (by kernel_rfl) (by kernel_rfl) (fun _ _ _ h => h) (Or.inl ⟨by rfl, ?_⟩) (by assumption) ?_
 rotate_left
 ·
  intro w' hSw; (try dsimp only at hSw); first | (go_simp; done) | (go_simp; with_reducible rfl)
 (try simp only [Act.put, Row.pB0, Row.pB1, Row.pB2])
 refine wpAnyH_ready (rs := [8]) (by kernel_rfl) (by simp) ?_
 refine AllReadyH.cons (o := ⟨none, .store 60 (.tmp 5) (.tmp 14), 0, "l12_cache.go:25", #[⟨7, .data⟩, ⟨6, .data⟩, ⟨0, .phase⟩, ⟨1, .phase⟩, ⟨2, .phase⟩, ⟨3, .phase⟩, ⟨4, .phase⟩, ⟨5, .phase⟩, ⟨6, .phase⟩, ⟨7, .phase⟩], none⟩) rfl (fun K hK => ?_) AllReadyH.nil
 have r0 := XD.out.cell 0; have r1 := XD.out.cell 1; have t0 := XD.out.frozen 0; have t1 := XD.out.frozen 1
 have hlt : p < w.heap.size := Ret.cell_lt K0.out; have hdw := HDW.out
 go_simp
 clear hHeld
 refine hK.out _ _ ?_ (fun hHeld => ?_)
 ·
  (try dsimp only); exact ⟨cell_two (kc K0.out BB.out) (by omega), cell_two (kc K1.out BB.out) (by omega)⟩
 clear hK K
 (try simp only [Act.put, Row.pB0, Row.pB1, Row.pB2])
 refine wpAnyH_done (by kernel_rfl) ?_ _
 exact NoPanic.normal (HQ.out _ _ _ _ _ _ _ gD gR _ HDW.out XD.out HO.out BB.out)
set_option maxHeartbeats 16000000 in
theorem implCloneWith (x : Option Addr) (n c : Nat) (cc : Int) (l : List Cet) (w : World) (h : kLCe.At w (.slice x n c) l) (hl : l.length ≤ 1100000) (hp : ∀ x ∈ l, wtCe x ≤ 1200000) :
    Calls Tryz.prog 69 #[.agg #[.int .i64 cc, .slice x n c], .func (.func 70) #[] #[]] w fun e w' => ∃ U, e = .returned U ∧ kCn.In w.heap.size w'.heap.size w' U (cc, l) ∧ Below w.heap.size w w' := by
  obtain ⟨x', n', c', L, e9, hn, ht, hh, hel⟩ := kLCe_at h
  cases e9
  have hlen : l.length = n := by rw [← ht, List.length_map]; exact hn.symm
  rw [hlen] at hl
  have hcap : n ≤ c := by obtain ⟨x', n', cap', hv, hn', hc', -⟩ := hh.shapeN; cases hv; exact hc'
  obtain ⟨k1, k2, k3, k4⟩ : Ret.Blk ((w.alloc (.cells #[.int .i64 cc, .slice x n c] 60)).alloc (.cells #[.int .i64 0, .slice none 0 0] 60)) w.heap.size #[.int .i64 cc, .slice x n c] 60 ∧ Ret.Blk ((w.alloc (.cells #[.int .i64 cc, .slice x n c] 60)).alloc (.cells #[.int .i64 0, .slice none 0 0] 60)) (w.heap.size + 1) #[.int .i64 0, .slice none 0 0] 60 ∧ Below w.heap.size w ((w.alloc (.cells #[.int .i64 cc, .slice x n c] 60)).alloc (.cells #[.int .i64 0, .slice none 0 0] 60)) ∧ ((w.alloc (.cells #[.int .i64 cc, .slice x n c] 60)).alloc (.cells #[.int .i64 0, .slice none 0 0] 60)).heap.size = w.heap.size + 2 := by
    have b1 := (Below.refl w.heap.size w).alloc (Nat.le_refl _) (.cells #[.int .i64 cc, .slice x n c] 60)
    have b2 := (Below.refl (w.alloc (.cells #[.int .i64 cc, .slice x n c] 60)).heap.size (w.alloc (.cells #[.int .i64 cc, .slice x n c] 60))).alloc (Nat.le_refl _) (.cells #[.int .i64 0, .slice none 0 0] 60)
    exact ⟨(Ret.Blk.new w _ _).on b2, Ret.Blk.new' (w := w.alloc _) (n := w.heap.size + 1) _ _ (by simp), b1.trans (b2.mono b1.size), by simp⟩
  have HX0 := Lib.hid k1; have HX1 := Lib.hid k2; have HB := Lib.hid k3; have HW4 := Lib.hid k4
  have HK0 := Lib.hid (k1.cell 0); have HK1 := Lib.hid (k1.cell 1)
  have HN := Lib.hid hn; have HT := Lib.hid ht; have HH := Lib.hid hh; have HEL := Lib.hid hel; have HLEN := Lib.hid hlen; have HP := Lib.hid hp
  clear k1 k2 k3 k4 hn ht hh hel hlen hp h
  go_enter Tryz.func69, Tryz.ntmps69
  go_wp2_with fail
  refine rcw hl HK0 HK1 ?_
  intro u8 u9 u10 u11 u12 u13 u14 gD gR wx hgD hXD hOR hbx
  have HX0' := Lib.hid (((HX0.out.on hbx).other (a := ⟨gD, 0, none⟩) (by show gD ≠ w.heap.size; have := HW4.out; omega) (.int .i64 cc)).other (a := ⟨gD, 1, none⟩) (by show gD ≠ w.heap.size; have := HW4.out; omega) (.slice (some ⟨gR, 0, none⟩) 0 n))
  have HX1' := Lib.hid (((HX1.out.on hbx).other (a := ⟨gD, 0, none⟩) (by show gD ≠ w.heap.size + 1; have := HW4.out; omega) (.int .i64 cc)).other (a := ⟨gD, 1, none⟩) (by show gD ≠ w.heap.size + 1; have := HW4.out; omega) (.slice (some ⟨gR, 0, none⟩) 0 n))
  have HXD := Lib.hid ((hXD.set 0 (.int .i64 cc)).set 1 (.slice (some ⟨gR, 0, none⟩) 0 n))
  have HB' := Lib.hid (((HB.out.trans (hbx.mono HB.out.size)).setCell (p := ⟨gD, 0, none⟩) (by show w.heap.size ≤ gD; have := HW4.out; omega) (.int .i64 cc)).setCell (p := ⟨gD, 1, none⟩) (by show w.heap.size ≤ gD; have := HW4.out; omega) (.slice (some ⟨gR, 0, none⟩) 0 n))
  have hOW : kLCe.Own (w.heap.size + 2) wx.heap.size wx ⟨some ⟨gR, 0, none⟩, 0, n, []⟩ := by
    have := Kd.own_row (k := kCe) (r := ⟨some ⟨gR, 0, none⟩, 0, n, []⟩) hOR rfl
    rw [HW4.out] at this
    exact this
  have HOW := Lib.hid (own_setT (i := 1) (u := .slice (some ⟨gR, 0, none⟩) 0 n) noRow_St (own_setT (i := 0) (u := .int .i64 cc) noRow_St hOW hXD) (hXD.set 0 (.int .i64 cc)))
  have HS2 := Lib.hid (show w.heap.size + 2 ≤ wx.heap.size from by rw [← HW4.out]; exact hbx.size)
  have HGD := Lib.hid (show w.heap.size + 2 ≤ gD from by rw [← HW4.out]; exact hgD)
  have HWX : Hid (((wx.setCell ⟨gD, 0, none⟩ (.int .i64 cc)).setCell ⟨gD, 1, none⟩ (.slice (some ⟨gR, 0, none⟩) 0 n)).heap.size = wx.heap.size) := Lib.hid (by simp)
  clear hgD hXD hOR hbx hOW HX0 HX1 HB HK0 HK1
  have q1 : ((wx.setCell ⟨gD, 0, none⟩ (.int .i64 cc)).setCell ⟨gD, 1, none⟩ (.slice (some ⟨gR, 0, none⟩) 0 n)).cell? ⟨w.heap.size, 1, none⟩ = some (.slice x n c) := HX0'.out.cell 1
  revert HX0' HX1' HXD HB' HOW HWX q1
  generalize ((wx.setCell ⟨gD, 0, none⟩ (.int .i64 cc)).setCell ⟨gD, 1, none⟩ (.slice (some ⟨gR, 0, none⟩) 0 n)) = wy
  intro HX0' HX1' HXD HB' HOW HWX q1
  have HOY := Lib.hid (show kLCe.Own (w.heap.size + 2) wy.heap.size wy ⟨some ⟨gR, 0, none⟩, 0, n, []⟩ from by rw [HWX.out]; exact HOW.out)
  have HSY := Lib.hid (show w.heap.size + 2 ≤ wy.heap.size from by rw [HWX.out]; exact HS2.out)
  clear HOW HS2 HWX
  go_wp2
  go_loopw [18] (fun iv wr => ∃ k : Nat, k ≤ n ∧ iv = .int .i64 k ∧ ∃ xu nu cu Lu, Hid (Lu.length = k) ∧ Hid (Lu.map kCe.strip = l.take k) ∧ Hid (kLCe.Own (w.heap.size + 2) wr.heap.size wr ⟨xu, nu, cu, Lu⟩) ∧ Hid (Ret.Blk wr gD #[.int .i64 cc, .slice xu nu cu] 60) ∧ Hid (Ret.Blk wr (w.heap.size + 1) #[.int .i64 0, .slice none 0 0] 60) ∧ Hid (Below w.heap.size w wr) ∧ Hid (w.heap.size + 2 ≤ wr.heap.size)) (fun iv _ => n - (intOf iv).toNat)
  case atStart => exact ⟨0, Nat.zero_le _, rfl, some ⟨gR, 0, none⟩, 0, n, [], Lib.hid rfl, Lib.hid (by simp), HOY, HXD, HX1', HB', HSY⟩
  case round =>
    clear q1 HX0' HX1' HXD HB' HOY HSY
    obtain ⟨k, hk, rfl, xu, nu, cu, Lu, hM, hst, ho, hx2, hx1, hb, hsz⟩ := hrel
    by_cases hlt : k < n
    · have hlen := HN.out
      obtain ⟨b, off, y0, m0, d0, y1, m1, d1, y2, m2, d2, rfl, -, hc0, hc1, hc2, hc3, hc4, hc5, hA⟩ := kLCe_elem (HH.out.on hb.out) (fun y hy => kCe.holds_on (HEL.out y hy) hb.out) (j := k) (by omega)
      have hpt : nth l k = kCe.strip (nth L k) := by rw [← HT.out, nth_map _ (by omega)]
      have hps := HP.out (nth l k) (nth_mem (by have := HLEN.out; omega))
      rw [← hpt] at hA hc3 hc4 hc5
      obtain ⟨hD, hNM⟩ := kCe_parts hA
      have HA := Lib.hid hA; have HD := Lib.hid hD; have HNM := Lib.hid hNM; have HPS := Lib.hid hps; have HPD := Lib.hid (show wtDz (nth l k).1 ≤ 1200000 from hps); have HPN := Lib.hid (show bulk (nth l k).1.1 ≤ 1200000 from (wtDz_lens _ hps).1)
      have H0 := Lib.hid hc0; have H1 := Lib.hid hc1; have H2 := Lib.hid hc2; have H3 := Lib.hid hc3; have H4 := Lib.hid hc4; have H5 := Lib.hid hc5
      clear hlen hpt hps hA hD hNM
      have hal := (Below.refl wr.heap.size wr).alloc (Nat.le_refl _) (.cells #[.slice y0 m0 d0, .slice y1 m1 d1, .slice y2 m2 d2, .int .i64 (nth l k).1.2.2.2.1, .int .i64 (nth l k).1.2.2.2.2, .int .i64 (nth l k).2] 64)
      have hda := hal.drew
      have hxe := Ret.Blk.new wr #[.slice y0 m0 d0, .slice y1 m1 d1, .slice y2 m2 d2, .int .i64 (nth l k).1.2.2.2.1, .int .i64 (nth l k).1.2.2.2.2, .int .i64 (nth l k).2] 64
      have HAd := Lib.hid (show kCe.At (wr.alloc (.cells #[.slice y0 m0 d0, .slice y1 m1 d1, .slice y2 m2 d2, .int .i64 (nth l k).1.2.2.2.1, .int .i64 (nth l k).1.2.2.2.2, .int .i64 (nth l k).2] 64)).drew (.agg #[.slice y0 m0 d0, .slice y1 m1 d1, .slice y2 m2 d2, .int .i64 (nth l k).1.2.2.2.1, .int .i64 (nth l k).1.2.2.2.2, .int .i64 (nth l k).2]) (nth l k) from HA.out.on hda)
      have X2 := hx2.out.on hda
      have g1 : (wr.alloc (.cells #[.slice y0 m0 d0, .slice y1 m1 d1, .slice y2 m2 d2, .int .i64 (nth l k).1.2.2.2.1, .int .i64 (nth l k).1.2.2.2.2, .int .i64 (nth l k).2] 64)).cell? ⟨gD, 1, none⟩ = some (.slice xu nu cu) := X2.cell 1
      have g1d : (wr.alloc (.cells #[.slice y0 m0 d0, .slice y1 m1 d1, .slice y2 m2 d2, .int .i64 (nth l k).1.2.2.2.1, .int .i64 (nth l k).1.2.2.2.2, .int .i64 (nth l k).2] 64)).drew.cell? ⟨gD, 1, none⟩ = some (.slice xu nu cu) := X2.cell 1
      have f0 : (wr.alloc (.cells #[.slice y0 m0 d0, .slice y1 m1 d1, .slice y2 m2 d2, .int .i64 (nth l k).1.2.2.2.1, .int .i64 (nth l k).1.2.2.2.2, .int .i64 (nth l k).2] 64)).cell? ⟨wr.heap.size, 0, none⟩ = some (.slice y0 m0 d0) := hxe.cell 0
      have f1 : (wr.alloc (.cells #[.slice y0 m0 d0, .slice y1 m1 d1, .slice y2 m2 d2, .int .i64 (nth l k).1.2.2.2.1, .int .i64 (nth l k).1.2.2.2.2, .int .i64 (nth l k).2] 64)).cell? ⟨wr.heap.size, 1, none⟩ = some (.slice y1 m1 d1) := hxe.cell 1
      have f2 : (wr.alloc (.cells #[.slice y0 m0 d0, .slice y1 m1 d1, .slice y2 m2 d2, .int .i64 (nth l k).1.2.2.2.1, .int .i64 (nth l k).1.2.2.2.2, .int .i64 (nth l k).2] 64)).cell? ⟨wr.heap.size, 2, none⟩ = some (.slice y2 m2 d2) := hxe.cell 2
      have f3 : (wr.alloc (.cells #[.slice y0 m0 d0, .slice y1 m1 d1, .slice y2 m2 d2, .int .i64 (nth l k).1.2.2.2.1, .int .i64 (nth l k).1.2.2.2.2, .int .i64 (nth l k).2] 64)).cell? ⟨wr.heap.size, 3, none⟩ = some (.int .i64 (nth l k).1.2.2.2.1) := hxe.cell 3
      have f4 : (wr.alloc (.cells #[.slice y0 m0 d0, .slice y1 m1 d1, .slice y2 m2 d2, .int .i64 (nth l k).1.2.2.2.1, .int .i64 (nth l k).1.2.2.2.2, .int .i64 (nth l k).2] 64)).cell? ⟨wr.heap.size, 4, none⟩ = some (.int .i64 (nth l k).1.2.2.2.2) := hxe.cell 4
      have f5 : (wr.alloc (.cells #[.slice y0 m0 d0, .slice y1 m1 d1, .slice y2 m2 d2, .int .i64 (nth l k).1.2.2.2.1, .int .i64 (nth l k).1.2.2.2.2, .int .i64 (nth l k).2] 64)).cell? ⟨wr.heap.size, 5, none⟩ = some (.int .i64 (nth l k).2) := hxe.cell 5
      have f0d : (wr.alloc (.cells #[.slice y0 m0 d0, .slice y1 m1 d1, .slice y2 m2 d2, .int .i64 (nth l k).1.2.2.2.1, .int .i64 (nth l k).1.2.2.2.2, .int .i64 (nth l k).2] 64)).drew.cell? ⟨wr.heap.size, 0, none⟩ = some (.slice y0 m0 d0) := f0
      have f1d : (wr.alloc (.cells #[.slice y0 m0 d0, .slice y1 m1 d1, .slice y2 m2 d2, .int .i64 (nth l k).1.2.2.2.1, .int .i64 (nth l k).1.2.2.2.2, .int .i64 (nth l k).2] 64)).drew.cell? ⟨wr.heap.size, 1, none⟩ = some (.slice y1 m1 d1) := f1
      have f2d : (wr.alloc (.cells #[.slice y0 m0 d0, .slice y1 m1 d1, .slice y2 m2 d2, .int .i64 (nth l k).1.2.2.2.1, .int .i64 (nth l k).1.2.2.2.2, .int .i64 (nth l k).2] 64)).drew.cell? ⟨wr.heap.size, 2, none⟩ = some (.slice y2 m2 d2) := f2
      have f3d : (wr.alloc (.cells #[.slice y0 m0 d0, .slice y1 m1 d1, .slice y2 m2 d2, .int .i64 (nth l k).1.2.2.2.1, .int .i64 (nth l k).1.2.2.2.2, .int .i64 (nth l k).2] 64)).drew.cell? ⟨wr.heap.size, 3, none⟩ = some (.int .i64 (nth l k).1.2.2.2.1) := f3
      have f4d : (wr.alloc (.cells #[.slice y0 m0 d0, .slice y1 m1 d1, .slice y2 m2 d2, .int .i64 (nth l k).1.2.2.2.1, .int .i64 (nth l k).1.2.2.2.2, .int .i64 (nth l k).2] 64)).drew.cell? ⟨wr.heap.size, 4, none⟩ = some (.int .i64 (nth l k).1.2.2.2.2) := f4
      have f5d : (wr.alloc (.cells #[.slice y0 m0 d0, .slice y1 m1 d1, .slice y2 m2 d2, .int .i64 (nth l k).1.2.2.2.1, .int .i64 (nth l k).1.2.2.2.2, .int .i64 (nth l k).2] 64)).drew.cell? ⟨wr.heap.size, 5, none⟩ = some (.int .i64 (nth l k).2) := f5
      have hlm : (Lu.length + 1) * 96 ≤ 140737488355328 := by have := hM.out; omega
      have hlx : Lu.length + 1 ≤ maxLen := by have := hM.out; unfold maxLen; omega
      have HLM := Lib.hid hlm; have HLX := Lib.hid hlx
      have HDA := Lib.hid hda
      have HOd := Lib.hid (ho.out.upto hda); have HX2d := Lib.hid X2; have HX1d := Lib.hid (hx1.out.on hda); have HBd := Lib.hid (hb.out.trans (hda.mono hb.out.size)); have HSd := Lib.hid (Nat.le_trans hsz.out hda.size)
      clear hal hda hxe X2 hlm hlx ho hx2 hx1 hb hsz
      go_wp2_with fail
      clear hc0 hc1 hc2 hc3 hc4 hc5
      go_region_law (first | (refine step_appK kindCe (B := w.heap.size + 2) (l := Lu) (m := [m9]) rfl _ _ (by rfl) Tryz.underlying24 (by rfl) (by rfl) HOA.out HSO.out HLM.out HLX.out HB3.out ?_; intro v4 w4 ho4 hg4; obtain ⟨x4, n4, c4, rfl, -, -, ho4⟩ := ho4.shapeN; have hX2 := HXL.out.grown hg4 (row_ne_blk HOA.out HXL.out (by decide)); have z0 := hX2.cell 1; have z1 := hX2.frozen 1; have HX2' := Lib.hid hX2; have HX1' := Lib.hid (HX1L.out.grown hg4 (row_ne_blk HOA.out HX1L.out (by decide))); have HO4 := Lib.hid (ce_grow2 HOd.out HB9.out HI9.out HBL.out ho4 hg4 HSd.out); have HB5 := Lib.hid (HB4.out.grown hg4 HB4.out.size (fun g hg => Nat.le_trans (Nat.le_add_right _ _) (HOA.out.lt g hg).1)); have HSZ := Lib.hid (Nat.le_trans HB3.out hg4.size); clear ho4 hg4 hX2) | (go_simp; go_at_call 70; refine (cloneEnt _ (nth l k) _ HAd.out HPS.out).mono ?_; rintro e w3 ⟨U, rfl, hi9, hb9⟩; obtain ⟨m9, ya, ma, da, yb, mb, db, yc, mc, dc_, rfl, hs9, hd9, hi9⟩ := kCe_split hi9; have hbl := (Below.refl w3.heap.size w3).alloc (Nat.le_refl _) (.cells #[.slice ya ma da, .slice yb mb db, .slice yc mc dc_, .int .i64 (nth l k).1.2.2.2.1, .int .i64 (nth l k).1.2.2.2.2, .int .i64 (nth l k).2] 64); have HOA := Lib.hid (show OwnK 64 kCe.cells 6 (w.heap.size + 2) (w3.alloc (.cells #[.slice ya ma da, .slice yb mb db, .slice yc mc dc_, .int .i64 (nth l k).1.2.2.2.1, .int .i64 (nth l k).1.2.2.2.2, .int .i64 (nth l k).2] 64)) (.slice xu nu cu) Lu from ((HOd.out.on hb9).on hbl).1.1); have HSO := Lib.hid (show HoldsK kCe.cells 6 (w3.alloc (.cells #[.slice ya ma da, .slice yb mb db, .slice yc mc dc_, .int .i64 (nth l k).1.2.2.2.1, .int .i64 (nth l k).1.2.2.2.2, .int .i64 (nth l k).2] 64)) (.slice (some ⟨w3.heap.size, 0, none⟩) 1 1) [m9] from one_ce2 hd9 rfl); have HXL := Lib.hid ((HX2d.out.on hb9).on hbl); have HX1L := Lib.hid ((HX1d.out.on hb9).on hbl); have HB9 := Lib.hid hb9; have HI9 := Lib.hid hi9; have HBL := Lib.hid hbl; have HS9 := Lib.hid hs9; have HB4 := Lib.hid (HBd.out.trans ((hb9.trans (hbl.mono hb9.size)).mono HBd.out.size)); have HB3 := Lib.hid (show w.heap.size + 2 ≤ (w3.alloc (.cells #[.slice ya ma da, .slice yb mb db, .slice yc mc dc_, .int .i64 (nth l k).1.2.2.2.1, .int .i64 (nth l k).1.2.2.2.2, .int .i64 (nth l k).2] 64)).heap.size from Nat.le_trans (Nat.le_trans HSd.out hb9.size) hbl.size); have g3 : w3.cell? ⟨gD, 1, none⟩ = some (.slice xu nu cu) := (HX2d.out.on hb9).cell 1; have g3L : (w3.alloc (.cells #[.slice ya ma da, .slice yb mb db, .slice yc mc dc_, .int .i64 (nth l k).1.2.2.2.1, .int .i64 (nth l k).1.2.2.2.2, .int .i64 (nth l k).2] 64)).cell? ⟨gD, 1, none⟩ = some (.slice xu nu cu) := HXL.out.cell 1; clear hi9 hb9 hs9 hd9 hbl))
      all_goals
        have HST := Lib.hid (show (Lu ++ [m9]).map kCe.strip = l.take (k + 1) by
          rw [List.map_append, hst.out, take_nx (by have := HLEN.out; omega)]
          show _ ++ [kCe.strip m9] = _
          rw [HS9.out])
        clear f0 f1 f2 f3 f4 f5 f0d f1d f2d f3d f4d f5d g1 g1d g3 g3L z0 z1
        go_wp2_with fail
        go_roundw
        case rel => exact ⟨k + 1, by omega, by go_num, x4, n4, c4, Lu ++ [m9], Lib.hid (by simp [hM.out]), HST, Lib.hid (by rw [World.size_setCell]; exact own_setT noRow_St HO4.out HX2'.out), Lib.hid (HX2'.out.set 1 (.slice x4 n4 c4)), Lib.hid (HX1'.out.other (by show gD ≠ w.heap.size + 1; have := HGD.out; omega) _), Lib.hid (HB5.out.setCell (by show w.heap.size ≤ gD; have := HGD.out; omega) _), Lib.hid (by rw [World.size_setCell]; exact HSZ.out)⟩
        case measure => simp [intOf]; omega
    · obtain rfl : k = n := by omega
      clear hlt
      have p0 : wr.cell? ⟨gD, 0, none⟩ = some (.int .i64 cc) := hx2.out.cell 0
      have p1 : wr.cell? ⟨gD, 1, none⟩ = some (.slice xu nu cu) := hx2.out.cell 1
      have r0 := hx1.out.frozen 0; have r1 := hx1.out.frozen 1; have r2 := hx1.out.cell 0; have r3 := hx1.out.cell 1
      have Z := Lib.hid ((hx1.out.set 0 (.int .i64 cc)).set 1 (.slice xu nu cu))
      have ZO := Lib.hid (own_setS (i := 1) (u := .slice xu nu cu) (own_setS (i := 0) (u := .int .i64 cc) ho.out (g := w.heap.size + 1) (by omega)) (g := w.heap.size + 1) (by omega))
      have ZB := Lib.hid ((hb.out.setCell (p := ⟨w.heap.size + 1, 0, none⟩) (by show w.heap.size ≤ w.heap.size + 1; omega) (.int .i64 cc)).setCell (p := ⟨w.heap.size + 1, 1, none⟩) (by show w.heap.size ≤ w.heap.size + 1; omega) (.slice xu nu cu))
      have HRES := Lib.hid (show Lu.map kCe.strip = l by rw [hst.out, List.take_of_length_le (by rw [HLEN.out]; exact Nat.le_refl _)])
      go_wp2_with fail
      refine bodyPost_ret (Ret.results_c rfl _ _ (w.heap.size + 1) [.int .i64 cc, .slice xu nu cu] rfl aggSt Z.out.cells) rfl ?_
      exact ⟨_, rfl, cn_in ZO.out (by omega) HRES.out ZB.out.size, ZB.out⟩
set_option maxHeartbeats 4000000 in
theorem implCloneStore (V : Value) (x : Cnt) (w : World) (h : kCn.At w V x) (hp : FitC x) :
    Calls Tryz.prog 34 #[V] w fun e w' => ∃ U, e = .returned U ∧ kCn.In w.heap.size w'.heap.size w' U x ∧ Below w.heap.size w w' := by
  obtain ⟨x1_0, n1_0, c1_0, rfl, g1⟩ := kCn_at h
  clear h
  obtain ⟨cc, l⟩ := x
  obtain ⟨hl, hp⟩ := hp.fields
  dsimp only at g1 hl hp ⊢
  have b0 := (Below.refl w.heap.size w).alloc (Nat.le_refl _) (.cells #[.int .i64 cc, .slice x1_0 n1_0 c1_0] 26)
  have b1 := (Below.refl (w.alloc (.cells #[.int .i64 cc, .slice x1_0 n1_0 c1_0] 26)).heap.size (w.alloc (.cells #[.int .i64 cc, .slice x1_0 n1_0 c1_0] 26))).alloc (Nat.le_refl _) (.cells #[.int .i64 0, .slice none 0 0] 60)
  have b01 := b0.trans (b1.mono b0.size)
  have hX0 := (Ret.Blk.new w #[.int .i64 cc, .slice x1_0 n1_0 c1_0] 26).on b1
  have HX1 := Lib.hid (Ret.Blk.new' (w := (w.alloc (.cells #[.int .i64 cc, .slice x1_0 n1_0 c1_0] 26))) (n := w.heap.size + 1) #[.int .i64 0, .slice none 0 0] 60 (by simp))
  have HA := Lib.hid (g1.on b01); have HB := Lib.hid b01; have HL := Lib.hid hl; have HP := Lib.hid hp
  have q0 : ((w.alloc (.cells #[.int .i64 cc, .slice x1_0 n1_0 c1_0] 26)).alloc (.cells #[.int .i64 0, .slice none 0 0] 60)).cell? ⟨w.heap.size, 0, none⟩ = some (.int .i64 cc) := hX0.cell 0
  have q1 : ((w.alloc (.cells #[.int .i64 cc, .slice x1_0 n1_0 c1_0] 26)).alloc (.cells #[.int .i64 0, .slice none 0 0] 60)).cell? ⟨w.heap.size, 1, none⟩ = some (.slice x1_0 n1_0 c1_0) := hX0.cell 1
  have HS2 : Hid (((w.alloc (.cells #[.int .i64 cc, .slice x1_0 n1_0 c1_0] 26)).alloc (.cells #[.int .i64 0, .slice none 0 0] 60)).heap.size = w.heap.size + 2) := Lib.hid (by simp)
  clear b0 b1 b01 hX0 g1 hl hp
  go_enter Tryz.func34, Tryz.ntmps34
  go_wp2_with fail
  refine (implCloneWith _ _ _ cc l _ HA.out HL.out HP.out).mono ?_
  rintro e w1 ⟨U, rfl, hi, hb1⟩
  obtain ⟨m, rfl, hs, hi⟩ := hi.split
  obtain ⟨ce, r⟩ := m
  obtain ⟨xu, nu, cu, Lu⟩ := r
  obtain ⟨rfl, hsl⟩ : ce = cc ∧ Lu.map kCe.strip = l := by
    have e1 : (ce, Lu.map kCe.strip) = (cc, l) := hs
    injection e1 with e1 e2
    exact ⟨e1, e2⟩
  obtain ⟨-, hi2, -⟩ := Kd.Own.parts hi
  have hX1 := HX1.out.on hb1
  have r0 := hX1.frozen 0; have r1 := hX1.frozen 1; have r2 := hX1.cell 0; have r3 := hX1.cell 1
  have hi3 : kLCe.Own (w.heap.size + 2) w1.heap.size w1 ⟨xu, nu, cu, Lu⟩ := by rw [← HS2.out]; exact hi2
  have Z := Lib.hid ((hX1.set 0 (.int .i64 ce)).set 1 (.slice xu nu cu))
  have ZO := Lib.hid (own_setS (i := 1) (u := .slice xu nu cu) (own_setS (i := 0) (u := .int .i64 ce) hi3 (g := w.heap.size + 1) (by omega)) (g := w.heap.size + 1) (by omega))
  have ZB := Lib.hid (((HB.out.trans (hb1.mono HB.out.size)).setCell (p := ⟨w.heap.size + 1, 0, none⟩) (by show w.heap.size ≤ w.heap.size + 1; omega) (.int .i64 ce)).setCell (p := ⟨w.heap.size + 1, 1, none⟩) (by show w.heap.size ≤ w.heap.size + 1; omega) (.slice xu nu cu))
  have HSL := Lib.hid hsl
  clear q0 q1 hi hi2 hi3 hX1 hb1 hs hsl
  rw [show kCn.val ((ce, (⟨xu, nu, cu, Lu⟩ : Rw Cem)) : Cnm) = .agg #[.int .i64 ce, .slice xu nu cu] from rfl]
  go_wp2_with fail
  refine bodyPost_ret (Ret.results_c rfl _ _ (w.heap.size + 1) [.int .i64 ce, .slice xu nu cu] rfl aggSt Z.out.cells) rfl ?_
  exact ⟨_, rfl, cn_in ZO.out (by omega) HSL.out ZB.out.size, ZB.out⟩
end Go.Proofs.YtfglcmanmfenpaaGreat.Row
