/- Contracts and mathematics, joined: ThingE, ThingQ, EqN, EqK, FindK, PushK, RowK, NameK. No conditions but those that each states. -/
import Derived.Test.YtfglcmanmfenpaaGreatB6
import Derived.Test.YtfglcmanmfenpaaGreatB5
import Derived.WalkKit
import Derived.Deep.RegionHeld3
import Derived.Test.YtfglcmanmfenpaaGreatB3
import Derived.Test.YtfglcmanmfenpaaGreatB4
import Derived.Test.YtfglcmanmfenpaaGreatB2
import Derived.Deep.RegionLaw
/- EncodeData, model and program; the program's numbers. No conditions but that lengths fit. -/
namespace Go.Proofs.YtfglcmanmfenpaaGreat.Row
open Go.ChangeShapes Go.WideShapes Go.ChangeAt Go.RowKit Go.Instr
set_option linter.unusedVariables false
set_option maxRecDepth 100000
def encD (x : Dt) : List Int := if validD x = true then appName (appName [] x.1 ++ Var.var x.2.1.length ++ x.2.1) x.2.2.1 ++ Sl.encs [x.2.2.2.1, x.2.2.2.2] else []
theorem own_two (e : TypeId) (w : World) (x y : Int) (b : Nat) (hb : b = w.heap.size) : Sl.Own e .i64 w.heap.size (w.alloc (.cells #[.int .i64 x, .int .i64 y] e)) (.slice (some ⟨b, 0, none⟩) 2 2) [x, y] := by
  subst hb
  exact World.ownsRow_lit w #[.int .i64 x, .int .i64 y] 2 (Nat.le_refl _) (by unfold maxLen; omega) rfl
set_option maxRecDepth 100000 in
set_option maxHeartbeats 4000000 in
theorem numsR {Q : Exit → Act → World → Prop} {v1 v2 v3 v4 v5 v6 v7 v8 v9 v10 v11 : Value} {w : World} {p : Nat} {f s : Int} (K3 : Hid (w.cell? ⟨p, 3, none⟩ = some (.int .i64 f))) (K4 : Hid (w.cell? ⟨p, 4, none⟩ = some (.int .i64 s)))
  (hQ : ∀ (u3 u4 u5 u6 u7 u8 u9 u10 : Value) (bb : Nat) (wx : World), Sl.Own 3 .i64 w.heap.size wx (.slice (some ⟨bb, 0, none⟩) 2 2) [f, s] → Below w.heap.size w wx → Q .normal ⟨#[.pointer (some ⟨p, 0, none⟩), v1, .slice (some ⟨bb, 0, none⟩) 2 2, u3, u4, u5, u6, u7, u8, u9, u10, .slice (some ⟨bb, 0, none⟩) 2 2], []⟩ wx) :
  (Code.region 1 #[⟨some 3, .move (.tmp 0), 96, "l08_thing.go:67", #[], none⟩,
   ⟨some 4, .nilCheck (.tmp 3), 0, "l08_thing.go:67", #[⟨0, .data⟩], none⟩,
   ⟨some 5, .fieldAddr 31 (.tmp 4) 3, 0, "l08_thing.go:67", #[⟨1, .data⟩], none⟩,
   ⟨some 6, .load 3 (.tmp 5), 3, "l08_thing.go:67", #[⟨2, .data⟩], none⟩,
   ⟨some 7, .move (.tmp 0), 96, "l08_thing.go:67", #[], none⟩,
   ⟨some 8, .nilCheck (.tmp 7), 0, "l08_thing.go:67", #[⟨4, .data⟩], none⟩,
   ⟨some 9, .fieldAddr 31 (.tmp 8) 4, 0, "l08_thing.go:67", #[⟨5, .data⟩], none⟩,
   ⟨some 10, .load 3 (.tmp 9), 3, "l08_thing.go:67", #[⟨6, .data⟩], none⟩,
   ⟨some 11, .buildSlice 76 2 #[(0, .tmp 6), (1, .tmp 10)], 76, "l08_thing.go:67", #[⟨3, .data⟩, ⟨7, .data⟩], none⟩,
   ⟨some 2, .assign (.tmp 11), 76, "l08_thing.go:67", #[⟨8, .data⟩, ⟨0, .phase⟩, ⟨1, .phase⟩, ⟨2, .phase⟩, ⟨3, .phase⟩, ⟨4, .phase⟩, ⟨5, .phase⟩, ⟨6, .phase⟩, ⟨7, .phase⟩, ⟨8, .phase⟩], none⟩] true).wp Tryz.prog Q ⟨#[.pointer (some ⟨p, 0, none⟩), v1, v2, v3, v4, v5, v6, v7, v8, v9, v10, v11], []⟩ w := by
 have HQ := Lib.hid hQ; clear hQ
 have hdr : Below w.heap.size w w.drew := (Below.refl _ _).drew
 have BB := Lib.hid hdr
 refine wp_region_noPanic ?_
 refine wp_region_held_drew (S := (fun w' => w'.cell? ⟨p, 3, none⟩ = some (.int .i64 f) ∧ w'.cell? ⟨p, 4, none⟩ = some (.int .i64 s))) (by kernel_rfl) ?_ (fun hHeld => ?_)
 ·
  exact ⟨kc K3.out BB.out, kc K4.out BB.out⟩
 clear hdr
 generalize w.drew = wd at *
 refine wpAnyH_take (i := 0) (oi := ⟨some 3, .move (.tmp 0), 96, "l08_thing.go:67", #[], none⟩) (v := ?_) rfl (by kernel_rfl) (by kernel_rfl) (by kernel_rfl) (fun _ _ _ h => h) (Or.inl ⟨by rfl, ?_⟩) (by assumption) ?_
 rotate_left
 ·
  intro w' hSw; (try dsimp only at hSw); first | (go_simp; done) | (go_simp; with_reducible rfl)
 (try simp only [Act.put, Row.pB0, Row.pB1, Row.pB2])
 refine wpAnyH_take (i := 1) (oi := ⟨some 4, .nilCheck (.tmp 3), 0, "l08_thing.go:67", #[⟨0, .data⟩], none⟩) (v := ?_) rfl (by kernel_rfl) (by kernel_rfl) (by kernel_rfl) (fun _ _ _ h => h) (Or.inl ⟨by rfl, ?_⟩) (by assumption) ?_
 rotate_left
 ·
  intro w' hSw; (try dsimp only at hSw); first | (go_simp; done) | (go_simp; with_reducible rfl)
 (try simp only [Act.put, Row.pB0, Row.pB1, Row.pB2])
 refine wpAnyH_take (i := 2) (oi := ⟨some 5, .fieldAddr 31 (.tmp 4) 3, 0, "l08_thing.go:67", #[⟨1, .data⟩], none⟩) (v := ?_) rfl (by kernel_rfl) (by kernel_rfl) (by kernel_rfl) (fun _ _ _ h => h) (Or.inl ⟨by rfl, ?_⟩) (by assumption) ?_
 rotate_left
 ·
  intro w' hSw; (try dsimp only at hSw); first | (go_simp; done) | (go_simp; with_reducible rfl)
 (try simp only [Act.put, Row.pB0, Row.pB1, Row.pB2])
 refine wpAnyH_take (i := 3) (oi := ⟨some 6, .load 3 (.tmp 5), 3, "l08_thing.go:67", #[⟨2, .data⟩], none⟩) (v := ?_) rfl (by kernel_rfl) (by kernel_rfl) (by kernel_rfl) (fun _ _ _ h => h) (Or.inl ⟨by rfl, ?_⟩) (by assumption) ?_
 rotate_left
 ·
  intro w' hSw; (try dsimp only at hSw); first | (go_simp; done) | (go_simp; with_reducible rfl)
 (try simp only [Act.put, Row.pB0, Row.pB1, Row.pB2])
 refine wpAnyH_take (i := 4) (oi := ⟨some 7, .move (.tmp 0), 96, "l08_thing.go:67", #[], none⟩) (v := ?_) rfl (by kernel_rfl) (by kernel_rfl) (by kernel_rfl) (fun _ _ _ h => h) (Or.inl ⟨by rfl, ?_⟩) (by assumption) ?_
 rotate_left
 ·
  intro w' hSw; (try dsimp only at hSw); first | (go_simp; done) | (go_simp; with_reducible rfl)
 (try simp only [Act.put, Row.pB0, Row.pB1, Row.pB2])
 refine wpAnyH_take (i := 5) (oi := ⟨some 8, .nilCheck (.tmp 7), 0, "l08_thing.go:67", #[⟨4, .data⟩], none⟩) (v := ?_) rfl (by kernel_rfl) (by kernel_rfl) (by kernel_rfl) (fun _ _ _ h => h) (Or.inl ⟨by rfl, ?_⟩) (by assumption) ?_
 rotate_left
 ·
  intro w' hSw; (try dsimp only at hSw); first | (go_simp; done) | (go_simp; with_reducible rfl)
 (try simp only [Act.put, Row.pB0, Row.pB1, Row.pB2])
 refine wpAnyH_take (i := 6) (oi := ⟨some 9, .fieldAddr 31 (.tmp 8) 4, 0, "l08_thing.go:67", #[⟨5, .data⟩], none⟩) (v := ?_) rfl (by kernel_rfl) (by kernel_rfl) (by kernel_rfl) (fun _ _ _ h => h) (Or.inl ⟨by rfl, ?_⟩) (by assumption) ?_
 rotate_left
 ·
  intro w' hSw; (try dsimp only at hSw); first | (go_simp; done) | (go_simp; with_reducible rfl)
 (try simp only [Act.put, Row.pB0, Row.pB1, Row.pB2])
 refine wpAnyH_take (i := 7) (oi := ⟨some 10, .load 3 (.tmp 9), 3, "l08_thing.go:67", #[⟨6, .data⟩], none⟩) (v := ?_) rfl (by kernel_rfl) (by kernel_rfl) (by kernel_rfl) (fun _ _ _ h => h) (Or.inl ⟨by rfl, ?_⟩) (by assumption) ?_
 rotate_left
 ·
  intro w' hSw; (try dsimp only at hSw); first | (go_simp; done) | (go_simp; with_reducible rfl)
 (try simp only [Act.put, Row.pB0, Row.pB1, Row.pB2])
 refine wpAnyH_ready (rs := [8]) (by kernel_rfl) (by simp) ?_
 refine AllReadyH.cons (o := ⟨some 11, .buildSlice 76 2 #[(0, .tmp 6), (1, .tmp 10)], 76, "l08_thing.go:67", #[⟨3, .data⟩, ⟨7, .data⟩], none⟩) rfl (fun K hK => ?_) AllReadyH.nil
 go_simp
 have hb : Below wd.heap.size wd (wd.alloc (.cells #[.int .i64 f, .int .i64 s] 3)) := (Below.refl _ _).alloc (Nat.le_refl _) _
 obtain ⟨bb, hbb⟩ : ∃ b, b = wd.heap.size := ⟨_, rfl⟩
 have HF := Lib.hid (Sl.Own.mono (own_two 3 wd f s bb hbb) BB.out.size)
 rw [← hbb]
 clear hbb
 replace BB := Lib.hid (BB.out.trans (hb.mono BB.out.size))
 clear hb
 generalize wd.alloc (.cells #[.int .i64 f, .int .i64 s] 3) = wn1 at *
 clear hHeld
 refine hK.out _ _ ?_ (fun hHeld => ?_)
 ·
  (try dsimp only); exact ⟨kc K3.out BB.out, kc K4.out BB.out⟩
 clear hK K
 (try simp only [Act.put, Row.pB0, Row.pB1, Row.pB2])
 refine wpAnyH_take (i := 9) (oi := ⟨some 2, .assign (.tmp 11), 76, "l08_thing.go:67", #[⟨8, .data⟩, ⟨0, .phase⟩, ⟨1, .phase⟩, ⟨2, .phase⟩, ⟨3, .phase⟩, ⟨4, .phase⟩, ⟨5, .phase⟩, ⟨6, .phase⟩, ⟨7, .phase⟩, ⟨8, .phase⟩], none⟩) (v := ?_) rfl (by kernel_rfl) (by kernel_rfl) (by kernel_rfl) (fun _ _ _ h => h) (Or.inl ⟨by rfl, ?_⟩) (by assumption) ?_
 rotate_left
 ·
  intro w' hSw; (try dsimp only at hSw); first | (go_simp; done) | (go_simp; with_reducible rfl)
 (try simp only [Act.put, Row.pB0, Row.pB1, Row.pB2])
 refine wpAnyH_done (by kernel_rfl) ?_ _
 exact NoPanic.normal (HQ.out _ _ _ _ _ _ _ _ _ _ HF.out BB.out)
set_option maxHeartbeats 1000000 in
theorem numbersD (g : Nat) (a b c : Value) (f s : Int) (w : World) (hx : Ret.Blk w g (dc a b c f s) 31) :
    Calls Tryz.prog 95 #[.pointer (some ⟨g, 0, none⟩)] w fun e w' => ∃ bb, e = .returned (.slice (some ⟨bb, 0, none⟩) 2 2) ∧ Sl.Own 3 .i64 w.heap.size w' (.slice (some ⟨bb, 0, none⟩) 2 2) [f, s] ∧ Below w.heap.size w w' := by
  have HX := Lib.hid hx
  clear hx
  go_enter Tryz.func95, Tryz.ntmps95
  go_wp2_with fail
  refine numsR (Lib.hid (HX.out.cell 3)) (Lib.hid (HX.out.cell 4)) ?_
  intro u3 u4 u5 u6 u7 u8 u9 u10 bb wx ho hb
  have HO := Lib.hid ho; have HB := Lib.hid hb
  clear ho hb
  go_wp2_with fail
  go_ret
  exact ⟨_, rfl, HO.out, HB.out⟩
end Go.Proofs.YtfglcmanmfenpaaGreat.Row
/- Contract of the program's EqualData. No conditions but that lengths fit. -/
namespace Go.Proofs.YtfglcmanmfenpaaGreat.Row
open Go.ChangeShapes Go.WideShapes Go.ChangeAt Go.RowKit Go.Instr
set_option linter.unusedVariables false
set_option maxRecDepth 100000
set_option maxHeartbeats 4000000 in
theorem implEqualData (a b c a2 b2 c2 : Value) (x y : Dt) (w : World) (q : Bool) (hq : decide (x = y) = q) (h : DHold w a b c x) (g : DHold w a2 b2 c2 y) (hB : Sl.Byt x.2.1) (gB : Sl.Byt y.2.1) (h1 : x.1.length ≤ 9000000) (h2 : x.2.1.length ≤ 9000000) (h3 : x.2.2.1.length ≤ 9000000) (g1 : y.1.length ≤ 9000000) (g2 : y.2.1.length ≤ 9000000) (g3 : y.2.2.1.length ≤ 9000000) :
    Calls Tryz.prog 82 #[.agg (dc a b c x.2.2.2.1 x.2.2.2.2), .agg (dc a2 b2 c2 y.2.2.2.1 y.2.2.2.2)] w fun e w' => e = .returned (.bool q) ∧ Below w.heap.size w w' := by
  obtain ⟨l, m, k, f, s⟩ := x
  obtain ⟨l2, m2, k2, f2, s2⟩ := y
  simp only at h1 h2 h3 g1 g2 g3 hB gB ⊢
  obtain ⟨xa, na, ca, xb, nb, cb, xc, nc, cc, rfl, rfl, rfl⟩ := h.shape
  obtain ⟨ua, va, oa, ub, vb, ob, uc, vc, oc, rfl, rfl, rfl⟩ := g.shape
  have hb0 := (Below.refl w.heap.size w).alloc (Nat.le_refl _) (.cells (dc (.slice xa na ca) (.slice xb nb cb) (.slice xc nc cc) f s) 31)
  have HB := Lib.hid (hb0.alloc (by simp) (.cells (dc (.slice ua va oa) (.slice ub vb ob) (.slice uc vc oc) f2 s2) 31))
  have H0 := Lib.hid h; have G0 := Lib.hid g; have HY1 := Lib.hid hB; have HY2 := Lib.hid gB
  have HX := Lib.hid ((Ret.Blk.new w (dc (.slice xa na ca) (.slice xb nb cb) (.slice xc nc cc) f s) 31).on ((Below.refl _ _).alloc (Nat.le_refl _) (.cells (dc (.slice ua va oa) (.slice ub vb ob) (.slice uc vc oc) f2 s2) 31)))
  have HY := Lib.hid (Ret.Blk.new' (w := w.alloc (.cells (dc (.slice xa na ca) (.slice xb nb cb) (.slice xc nc cc) f s) 31)) (n := w.heap.size + 1) (dc (.slice ua va oa) (.slice ub vb ob) (.slice uc vc oc) f2 s2) 31 (by simp))
  have HQ := Lib.hid hq
  clear h g hq hb0 hB gB
  go_enter Tryz.func82, Tryz.ntmps82
  go_wp2_with fail
  refine (implEqualNames _ _ l l2 _ (H0.out.on HB.out).1 (G0.out.on HB.out).1 (by omega) (by omega)).mono ?_
  rintro e w1 ⟨rfl, hb⟩
  replace HX := Lib.hid (HX.out.on hb); replace HY := Lib.hid (HY.out.on hb)
  replace HB := Lib.hid (HB.out.trans (hb.mono HB.out.size)); clear hb
  have q0 : w1.cell? ⟨w.heap.size, 0, none⟩ = some (.slice xa na ca) := HX.out.cell 0
  have q1 : w1.cell? ⟨w.heap.size, 1, none⟩ = some (.slice xb nb cb) := HX.out.cell 1
  have q2 : w1.cell? ⟨w.heap.size, 2, none⟩ = some (.slice xc nc cc) := HX.out.cell 2
  have q3 : w1.cell? ⟨w.heap.size, 3, none⟩ = some (.int .i64 f) := HX.out.cell 3
  have q4 : w1.cell? ⟨w.heap.size, 4, none⟩ = some (.int .i64 s) := HX.out.cell 4
  have p0 : w1.cell? ⟨w.heap.size + 1, 0, none⟩ = some (.slice ua va oa) := HY.out.cell 0
  have p1 : w1.cell? ⟨w.heap.size + 1, 1, none⟩ = some (.slice ub vb ob) := HY.out.cell 1
  have p2 : w1.cell? ⟨w.heap.size + 1, 2, none⟩ = some (.slice uc vc oc) := HY.out.cell 2
  have p3 : w1.cell? ⟨w.heap.size + 1, 3, none⟩ = some (.int .i64 f2) := HY.out.cell 3
  have p4 : w1.cell? ⟨w.heap.size + 1, 4, none⟩ = some (.int .i64 s2) := HY.out.cell 4
  by_cases e1 : l = l2
  · rw [eqB_true e1]
    go_wp2_with fail
    clear q0 q1 q2 q3 q4 p0 p1 p2 p3 p4
    refine (Sl.implEqualBytes _ _ m m2 _ (H0.out.on HB.out).2.1 (G0.out.on HB.out).2.1 HY1.out HY2.out).mono ?_
    rintro e w2 ⟨rfl, rfl⟩
    have q0 : w1.cell? ⟨w.heap.size, 0, none⟩ = some (.slice xa na ca) := HX.out.cell 0
    have q1 : w1.cell? ⟨w.heap.size, 1, none⟩ = some (.slice xb nb cb) := HX.out.cell 1
    have q2 : w1.cell? ⟨w.heap.size, 2, none⟩ = some (.slice xc nc cc) := HX.out.cell 2
    have q3 : w1.cell? ⟨w.heap.size, 3, none⟩ = some (.int .i64 f) := HX.out.cell 3
    have q4 : w1.cell? ⟨w.heap.size, 4, none⟩ = some (.int .i64 s) := HX.out.cell 4
    have p0 : w1.cell? ⟨w.heap.size + 1, 0, none⟩ = some (.slice ua va oa) := HY.out.cell 0
    have p1 : w1.cell? ⟨w.heap.size + 1, 1, none⟩ = some (.slice ub vb ob) := HY.out.cell 1
    have p2 : w1.cell? ⟨w.heap.size + 1, 2, none⟩ = some (.slice uc vc oc) := HY.out.cell 2
    have p3 : w1.cell? ⟨w.heap.size + 1, 3, none⟩ = some (.int .i64 f2) := HY.out.cell 3
    have p4 : w1.cell? ⟨w.heap.size + 1, 4, none⟩ = some (.int .i64 s2) := HY.out.cell 4
    by_cases e2 : m = m2
    · rw [Sl.eqB_true e2]
      go_wp2_with fail
      clear q0 q1 q2 q3 q4 p0 p1 p2 p3 p4
      refine (implEqualNames _ _ k k2 _ (H0.out.on HB.out).2.2 (G0.out.on HB.out).2.2 (by omega) (by omega)).mono ?_
      rintro e w3 ⟨rfl, hb⟩
      replace HX := Lib.hid (HX.out.on hb); replace HY := Lib.hid (HY.out.on hb)
      replace HB := Lib.hid (HB.out.trans (hb.mono HB.out.size)); clear hb
      have q0 : w3.cell? ⟨w.heap.size, 0, none⟩ = some (.slice xa na ca) := HX.out.cell 0
      have q1 : w3.cell? ⟨w.heap.size, 1, none⟩ = some (.slice xb nb cb) := HX.out.cell 1
      have q2 : w3.cell? ⟨w.heap.size, 2, none⟩ = some (.slice xc nc cc) := HX.out.cell 2
      have q3 : w3.cell? ⟨w.heap.size, 3, none⟩ = some (.int .i64 f) := HX.out.cell 3
      have q4 : w3.cell? ⟨w.heap.size, 4, none⟩ = some (.int .i64 s) := HX.out.cell 4
      have p0 : w3.cell? ⟨w.heap.size + 1, 0, none⟩ = some (.slice ua va oa) := HY.out.cell 0
      have p1 : w3.cell? ⟨w.heap.size + 1, 1, none⟩ = some (.slice ub vb ob) := HY.out.cell 1
      have p2 : w3.cell? ⟨w.heap.size + 1, 2, none⟩ = some (.slice uc vc oc) := HY.out.cell 2
      have p3 : w3.cell? ⟨w.heap.size + 1, 3, none⟩ = some (.int .i64 f2) := HY.out.cell 3
      have p4 : w3.cell? ⟨w.heap.size + 1, 4, none⟩ = some (.int .i64 s2) := HY.out.cell 4
      by_cases e3 : k = k2
      · rw [eqB_true e3]
        go_wp2_with fail
        clear q0 q1 q2 q3 q4 p0 p1 p2 p3 p4
        refine (numbersD w.heap.size _ _ _ f s _ HX.out).mono ?_
        rintro e w4 ⟨b4, rfl, ho, hb⟩
        have O4 := Lib.hid ho.holds
        replace HX := Lib.hid (HX.out.on hb); replace HY := Lib.hid (HY.out.on hb)
        replace HB := Lib.hid (HB.out.trans (hb.mono HB.out.size)); clear ho hb
        go_wp2_with fail
        refine (numbersD (w.heap.size + 1) _ _ _ f2 s2 _ HY.out).mono ?_
        rintro e w5 ⟨b5, rfl, ho, hb⟩
        have O5 := Lib.hid ho.holds
        replace O4 := Lib.hid (O4.out.on hb)
        replace HB := Lib.hid (HB.out.trans (hb.mono HB.out.size)); clear ho hb
        obtain ⟨z, hz⟩ : ∃ z, Sl.eqB [f, s] [f2, s2] = z := ⟨_, rfl⟩
        have HE : Hid (q = z) := Lib.hid (by rw [← HQ.out, ← hz]; simp [e1, e2, e3, Sl.eqB])
        have HZ := Lib.hid hz
        clear e1 e2 e3 hz
        go_wp2_with fail
        refine (Sl.implEqualInts _ _ [f, s] [f2, s2] _ O4.out O5.out (by simp) (by simp)).mono ?_
        rintro e w6 ⟨rfl, hb⟩
        rw [HZ.out]
        replace HB := Lib.hid (HB.out.trans (hb.mono HB.out.size)); clear hb
        go_wp2_with fail
        go_ret
        exact ⟨ret_bool HE.out.symm, HB.out⟩
      · rw [eqB_false e3]
        have HE : Hid (q = false) := Lib.hid (by rw [← HQ.out]; simp [e3])
        clear e3
        go_wp2
        go_ret
        exact ⟨ret_bool HE.out.symm, HB.out⟩
    · rw [Sl.eqB_false e2]
      have HE : Hid (q = false) := Lib.hid (by rw [← HQ.out]; simp [e2])
      clear e2
      go_wp2
      go_ret
      exact ⟨ret_bool HE.out.symm, HB.out⟩
  · rw [eqB_false e1]
    have HE : Hid (q = false) := Lib.hid (by rw [← HQ.out]; simp [e1])
    clear e1
    go_wp2
    go_ret
    exact ⟨ret_bool HE.out.symm, HB.out⟩
end Go.Proofs.YtfglcmanmfenpaaGreat.Row
/- Names in the kinds of kstruct.py: ValidName, EqualNames, the copies, model and program. No conditions but that lengths fit. -/
namespace Go.Proofs.YtfglcmanmfenpaaGreat.Row
open Go.ChangeShapes Go.WideShapes Go.ChangeAt Go.RowKit Go.Instr
set_option linter.unusedVariables false
set_option maxRecDepth 100000
section
variable {w : World} {V U : Value} {l m : List ByteArray} {B E : Nat}
theorem sEqK (z : Bool) (hz : decide (l = m) = z) (h : kN.At w V l) (g : kN.At w U m) (hl : bulk l ≤ 9000000) (hm : bulk m ≤ 9000000) :
    Calls Tryz.prog 44 #[V, U] w fun e w' => e = .returned (.bool z) ∧ Below w.heap.size w w' := by
  obtain ⟨v, rfl, h9⟩ := kN_at h
  obtain ⟨u, rfl, g9⟩ := kN_at g
  exact hz ▸ specEqualNames v u l m w h9 g9 (by have := bulk_len l; omega) (by have := bulk_len m; omega)
theorem iEqK (z : Bool) (hz : decide (l = m) = z) (h : kN.At w V l) (g : kN.At w U m) (hl : bulk l ≤ 9000000) (hm : bulk m ≤ 9000000) :
    Calls Tryz.prog 43 #[V, U] w fun e w' => e = .returned (.bool z) ∧ Below w.heap.size w w' := by
  obtain ⟨v, rfl, h9⟩ := kN_at h
  obtain ⟨u, rfl, g9⟩ := kN_at g
  exact hz ▸ implEqualNames v u l m w h9 g9 (by have := bulk_len l; omega) (by have := bulk_len m; omega)
theorem sCpyN (h : kN.At w V l) (hl : bulk l ≤ 9000000) : Calls Tryz.prog 61 #[V] w fun e w' => ∃ U, e = .returned U ∧ kN.In w.heap.size w'.heap.size w' U l ∧ Below w.heap.size w w' := by
  obtain ⟨v, rfl, h9⟩ := kN_at h
  exact (l4Copy v l w h9 (by have := bulk_len l; omega)).mono fun e w' ⟨v', a, b, c⟩ => ⟨_, a, kN_own b, c⟩
theorem iCpyN (h : kN.At w V l) (hl : bulk l ≤ 9000000) : Calls Tryz.prog 60 #[V] w fun e w' => ∃ U, e = .returned U ∧ kN.In w.heap.size w'.heap.size w' U l ∧ Below w.heap.size w w' := by
  obtain ⟨v, rfl, h9⟩ := kN_at h
  exact (cloneName v l w h9 (by have := bulk_len l; omega)).mono fun e w' ⟨v', a, b, c⟩ => ⟨_, a, kN_own b, c⟩
end
end Go.Proofs.YtfglcmanmfenpaaGreat.Row
/- Names and packets in the kinds of kstruct.py: what chapters 4 and 8 do with them, model and program; a packet's clone at any address. No conditions but that lengths fit. -/
namespace Go.Proofs.YtfglcmanmfenpaaGreat.Row
open Go.ChangeShapes Go.WideShapes Go.ChangeAt Go.RowKit Go.Instr
set_option linter.unusedVariables false
set_option maxRecDepth 100000
section
variable {w : World} {V U : Value} {x y : Dzt} {l m : List ByteArray} {B E : Nat}
theorem kDz_ofD (h : kD.In B E w V x) : kDz.In B E w V x := h
theorem kD_ofZ (h : kDz.At w V x) : kD.At w V x := h
theorem sValZ (z : Bool) (hz : validD x = z) (h : kDz.At w V x) (hl : wtDz x ≤ 9000000) :
    Calls Tryz.prog 50 #[V] w fun e w' => e = .returned (.bool z) ∧ Below w.heap.size w w' := hz ▸ specValidDataK V x w (kD_ofZ h) hl
theorem iValZ (z : Bool) (hz : validD x = z) (h : kDz.At w V x) (hl : wtDz x ≤ 9000000) :
    Calls Tryz.prog 28 #[V] w fun e w' => e = .returned (.bool z) ∧ Below w.heap.size w w' := hz ▸ implValidDataK V x w (kD_ofZ h) hl
theorem sFrZ (n : Int) (z : Bool) (hz : decide (n ≤ x.2.2.2.1) = z) (h : kDz.At w V x) :
    Calls Tryz.prog 45 #[V, .int .i64 n] w fun e w' => e = .returned (.bool z) ∧ Below w.heap.size w w' := hz ▸ specFreshAtK V x n w (kD_ofZ h)
theorem iFrZ (n : Int) (z : Bool) (hz : decide (n ≤ x.2.2.2.1) = z) (h : kDz.At w V x) :
    Calls Tryz.prog 29 #[V, .int .i64 n] w fun e w' => e = .returned (.bool z) ∧ Below w.heap.size w w' := hz ▸ implFreshAtK V x n w (kD_ofZ h)
theorem giveZ {P : Program} {f : FuncId} {args : Array Value} (h : Calls P f args w (GivesD w x)) : Calls P f args w fun e w' => ∃ U, e = .returned U ∧ kDz.In w.heap.size w'.heap.size w' U x ∧ Below w.heap.size w w' := h.mono fun e w' ⟨a, b, c, p, q, r⟩ => ⟨_, p, kDz_ofD (kD_own q), r⟩
theorem wtDz_lens (x : Dzt) {n : Nat} (h : wtDz x ≤ n) : bulk x.1 ≤ n ∧ x.1.length ≤ n ∧ x.2.1.length ≤ n ∧ bulk x.2.2.1 ≤ n ∧ x.2.2.1.length ≤ n := by
  have h1 := bulk_len x.1
  have h2 := bulk_len x.2.2.1
  unfold wtDz at h
  omega
theorem sCpyZ (h : kDz.At w V x) (hl : wtDz x ≤ 9000000) : Calls Tryz.prog 46 #[V] w fun e w' => ∃ U, e = .returned U ∧ kDz.In w.heap.size w'.heap.size w' U x ∧ Below w.heap.size w w' := by
  obtain ⟨a, b, c, rfl, h9⟩ := kD_at (kD_ofZ h)
  obtain ⟨-, l1, l2, -, l3⟩ := wtDz_lens x hl
  exact giveZ (l8Copy a b c x w h9 l1 l2 l3)
theorem inDz.byt (h : inDz x) : Sl.Byt x.2.1 := Sl.byt_of_wf h.2.1.2
theorem iEqZ (q : Bool) (hq : decide (x = y) = q) (h : kDz.At w V x) (g : kDz.At w U y) (hn : inDz x) (gn : inDz y) (hl : wtDz x ≤ 9000000) (hm : wtDz y ≤ 9000000) :
    Calls Tryz.prog 82 #[V, U] w fun e w' => e = .returned (.bool q) ∧ Below w.heap.size w w' := by
  obtain ⟨a, b, c, rfl, h9⟩ := kD_at (kD_ofZ h)
  obtain ⟨a2, b2, c2, rfl, g9⟩ := kD_at (kD_ofZ g)
  obtain ⟨-, l1, l2, -, l3⟩ := wtDz_lens x hl
  obtain ⟨-, m1, m2, -, m3⟩ := wtDz_lens y hm
  exact implEqualData a b c a2 b2 c2 x y w q hq h9 g9 hn.byt gn.byt l1 l2 l3 m1 m2 m3
end
def Five (w : World) (g o : Nat) (a b c : Value) (f s : Int) : Prop := w.cell? ⟨g, o, none⟩ = some a ∧ w.cell? ⟨g, o + 1, none⟩ = some b ∧ w.cell? ⟨g, o + 2, none⟩ = some c ∧ w.cell? ⟨g, o + 3, none⟩ = some (.int .i64 f) ∧ w.cell? ⟨g, o + 4, none⟩ = some (.int .i64 s)
section
variable {w w' : World} {g o : Nat} {a b c : Value} {f s : Int}
theorem Five.lt (h : Five w g o a b c f s) : g < w.heap.size := Ret.cell_lt h.1
theorem Five.on (h : Five w g o a b c f s) (hb : Below w.heap.size w w') : Five w' g o a b c f s := ⟨kc h.1 hb, kc h.2.1 hb, kc h.2.2.1 hb, kc h.2.2.2.1 hb, kc h.2.2.2.2 hb⟩
theorem Five.grown (h : Five w g o a b c f s) {row : Option Nat} (hg : w.grownBy w' row) (hne : some g ≠ row) : Five w' g o a b c f s := ⟨hg.cell h.1 hne, hg.cell h.2.1 hne, hg.cell h.2.2.1 hne, hg.cell h.2.2.2.1 hne, hg.cell h.2.2.2.2 hne⟩
theorem Five.other (h : Five w g o a b c f s) {ad : Addr} (hne : ad.block ≠ g) (v : Value) : Five (w.setCell ad v) g o a b c f s := h.grown (Ret.grownBy_set w ad v) (fun e => hne (by cases e; rfl))
end
set_option maxHeartbeats 4000000 in
theorem cloneAt (g o : Nat) (a b c : Value) (x : Dt) (w : World) (hx : Five w g o a b c x.2.2.2.1 x.2.2.2.2) (h : DHold w a b c x) (h1 : x.1.length ≤ 9000000) (h2 : x.2.1.length ≤ 9000000) (h3 : x.2.2.1.length ≤ 9000000) :
    Calls Tryz.prog 38 #[.pointer (some ⟨g, o, none⟩)] w (GivesD w x) := by
  obtain ⟨l, m, k, f, s⟩ := x
  unfold GivesD
  simp only at h1 h2 h3 hx ⊢
  obtain ⟨xa, na, ca, xb, nb, cb, xc, nc, cc, rfl, rfl, rfl⟩ := h.shape
  have hg0 := hx.lt
  have hb1 := (Below.refl w.heap.size w).alloc (Nat.le_refl _) (.cells (dc nil nil nil 0 0) 31)
  have hb2 := hb1.alloc (by simp) (.cells (dc (.slice xa na ca) (.slice xb nb cb) (.slice xc nc cc) f s) 31)
  have HB := Lib.hid hb2
  have H0 := Lib.hid h
  have HX := Lib.hid (hx.on hb2)
  have HR := Lib.hid ((Ret.Blk.new w (dc nil nil nil 0 0) 31).on ((Below.refl _ _).alloc (Nat.le_refl _) (.cells (dc (.slice xa na ca) (.slice xb nb cb) (.slice xc nc cc) f s) 31)))
  have HL := Lib.hid (Ret.Blk.new' (w := w.alloc (.cells (dc nil nil nil 0 0) 31)) (n := w.heap.size + 1) (dc (.slice xa na ca) (.slice xb nb cb) (.slice xc nc cc) f s) 31 (by simp))
  have hz0 : ((w.alloc (.cells (dc nil nil nil 0 0) 31)).alloc (.cells (dc (.slice xa na ca) (.slice xb nb cb) (.slice xc nc cc) f s) 31)).heap.size = w.heap.size + 2 := by simp
  have q0 : w.cell? ⟨g, o, none⟩ = some (.slice xa na ca) := hx.1
  have q1 : w.cell? ⟨g, o + 1, none⟩ = some (.slice xb nb cb) := hx.2.1
  have q2 : w.cell? ⟨g, o + 2, none⟩ = some (.slice xc nc cc) := hx.2.2.1
  have q3 : w.cell? ⟨g, o + 3, none⟩ = some (.int .i64 f) := hx.2.2.2.1
  have q4 : w.cell? ⟨g, o + 4, none⟩ = some (.int .i64 s) := hx.2.2.2.2
  clear h hx hb1 hb2
  go_enter Tryz.func38, Tryz.ntmps38
  go_wp2_with fail
  clear q0 q1 q2 q3 q4
  refine (cloneName _ l _ (H0.out.on HB.out).1 (by omega)).mono ?_
  rintro e w1 ⟨a1, rfl, ho1, hb1⟩
  obtain ⟨ya, ma, da, rfl, -, -, ho1⟩ := ho1.shapeN
  have hs1 := hb1.size
  rw [hz0] at ho1 hs1
  replace HX := Lib.hid (HX.out.on hb1); replace HR := Lib.hid (HR.out.on hb1); replace HL := Lib.hid (HL.out.on hb1)
  replace HB := Lib.hid (HB.out.trans (hb1.mono HB.out.size))
  have HO1 := Lib.hid ho1
  have HLA := Lib.hid (fun g hg => (ho1.lt g hg).2)
  clear ho1 hb1 hz0
  have q0 : w1.cell? ⟨g, o, none⟩ = some (.slice xa na ca) := HX.out.1
  have q1 : w1.cell? ⟨g, o + 1, none⟩ = some (.slice xb nb cb) := HX.out.2.1
  have q2 : w1.cell? ⟨g, o + 2, none⟩ = some (.slice xc nc cc) := HX.out.2.2.1
  have q3 : w1.cell? ⟨g, o + 3, none⟩ = some (.int .i64 f) := HX.out.2.2.2.1
  have q4 : w1.cell? ⟨g, o + 4, none⟩ = some (.int .i64 s) := HX.out.2.2.2.2
  have p0 : w1.cell? ⟨w.heap.size + 1, 0, none⟩ = some (.slice xa na ca) := HL.out.cell 0
  have p1 : w1.cell? ⟨w.heap.size + 1, 1, none⟩ = some (.slice xb nb cb) := HL.out.cell 1
  have p2 : w1.cell? ⟨w.heap.size + 1, 2, none⟩ = some (.slice xc nc cc) := HL.out.cell 2
  have p3 : w1.cell? ⟨w.heap.size + 1, 3, none⟩ = some (.int .i64 f) := HL.out.cell 3
  have p4 : w1.cell? ⟨w.heap.size + 1, 4, none⟩ = some (.int .i64 s) := HL.out.cell 4
  have t0 := HL.out.frozen 0; have t1 := HL.out.frozen 1; have t2 := HL.out.frozen 2; have t3 := HL.out.frozen 3; have t4 := HL.out.frozen 4
  go_wp2_with fail
  clear q0 q1 q2 q3 q4 p0 p1 p2 p3 p4 t0 t1 t2 t3 t4
  replace HX := Lib.hid (HX.out.other (ad := ⟨w.heap.size + 1, 0, none⟩) (by show w.heap.size + 1 ≠ g; omega) (.slice ya ma da))
  replace HR := Lib.hid (HR.out.other (a := ⟨w.heap.size + 1, 0, none⟩) (by show w.heap.size + 1 ≠ w.heap.size; omega) (.slice ya ma da))
  replace HL := Lib.hid (HL.out.set 0 (.slice ya ma da))
  replace HB := Lib.hid (HB.out.setCell (p := ⟨w.heap.size + 1, 0, none⟩) (by show w.heap.size ≤ w.heap.size + 1; omega) (.slice ya ma da))
  replace HO1 := Lib.hid (own_set (g := w.heap.size + 1) (i := 0) (u := .slice ya ma da) HO1.out (by omega))
  refine (cloneBs _ m _ (H0.out.on HB.out).2.1 (by omega)).mono ?_
  rintro e w2 ⟨b1, rfl, ho2, hb2⟩
  obtain ⟨yb, mb, db, rfl, -, -, ho2⟩ := Own.shapeN (enc := Value.int .u8) ho2
  replace ho2 : Sl.Own 5 .u8 _ w2 (.slice yb mb db) m := ho2
  have hs2 := hb2.size
  simp only [World.size_setCell] at hs2 ho2
  replace HX := Lib.hid (HX.out.on hb2); replace HR := Lib.hid (HR.out.on hb2); replace HL := Lib.hid (HL.out.on hb2)
  replace HO1 := Lib.hid (HO1.out.on hb2)
  replace HB := Lib.hid (HB.out.trans (hb2.mono HB.out.size))
  have HO2 := Lib.hid ho2
  have HLB := Lib.hid (fun g hg => (ho2.lt g hg).2)
  clear ho2 hb2
  have q0 : w2.cell? ⟨g, o, none⟩ = some (.slice xa na ca) := HX.out.1
  have q1 : w2.cell? ⟨g, o + 1, none⟩ = some (.slice xb nb cb) := HX.out.2.1
  have q2 : w2.cell? ⟨g, o + 2, none⟩ = some (.slice xc nc cc) := HX.out.2.2.1
  have q3 : w2.cell? ⟨g, o + 3, none⟩ = some (.int .i64 f) := HX.out.2.2.2.1
  have q4 : w2.cell? ⟨g, o + 4, none⟩ = some (.int .i64 s) := HX.out.2.2.2.2
  have p0 : w2.cell? ⟨w.heap.size + 1, 0, none⟩ = some (.slice ya ma da) := HL.out.cell 0
  have p1 : w2.cell? ⟨w.heap.size + 1, 1, none⟩ = some (.slice xb nb cb) := HL.out.cell 1
  have p2 : w2.cell? ⟨w.heap.size + 1, 2, none⟩ = some (.slice xc nc cc) := HL.out.cell 2
  have p3 : w2.cell? ⟨w.heap.size + 1, 3, none⟩ = some (.int .i64 f) := HL.out.cell 3
  have p4 : w2.cell? ⟨w.heap.size + 1, 4, none⟩ = some (.int .i64 s) := HL.out.cell 4
  have t0 := HL.out.frozen 0; have t1 := HL.out.frozen 1; have t2 := HL.out.frozen 2; have t3 := HL.out.frozen 3; have t4 := HL.out.frozen 4
  go_wp2_with fail
  clear q0 q1 q2 q3 q4 p0 p1 p2 p3 p4 t0 t1 t2 t3 t4
  replace HX := Lib.hid (HX.out.other (ad := ⟨w.heap.size + 1, 1, none⟩) (by show w.heap.size + 1 ≠ g; omega) (.slice yb mb db))
  replace HR := Lib.hid (HR.out.other (a := ⟨w.heap.size + 1, 1, none⟩) (by show w.heap.size + 1 ≠ w.heap.size; omega) (.slice yb mb db))
  replace HL := Lib.hid (HL.out.set 1 (.slice yb mb db))
  replace HB := Lib.hid (HB.out.setCell (p := ⟨w.heap.size + 1, 1, none⟩) (by show w.heap.size ≤ w.heap.size + 1; omega) (.slice yb mb db))
  replace HO1 := Lib.hid (own_set (g := w.heap.size + 1) (i := 1) (u := .slice yb mb db) HO1.out (by omega))
  replace HO2 := Lib.hid (sl_own_set (g := w.heap.size + 1) (i := 1) (u := .slice yb mb db) HO2.out (by omega))
  refine (cloneName _ k _ (H0.out.on HB.out).2.2 (by omega)).mono ?_
  rintro e w3 ⟨c1, rfl, ho3, hb3⟩
  obtain ⟨yc, mc, dc_, rfl, -, -, ho3⟩ := ho3.shapeN
  have hs3 := hb3.size
  simp only [World.size_setCell] at hs3 ho3
  replace HX := Lib.hid (HX.out.on hb3); replace HR := Lib.hid (HR.out.on hb3); replace HL := Lib.hid (HL.out.on hb3)
  replace HO1 := Lib.hid (HO1.out.on hb3); replace HO2 := Lib.hid (HO2.out.on hb3)
  replace HB := Lib.hid (HB.out.trans (hb3.mono HB.out.size))
  have HO3 := Lib.hid ho3
  clear ho3 hb3
  have q0 : w3.cell? ⟨g, o, none⟩ = some (.slice xa na ca) := HX.out.1
  have q1 : w3.cell? ⟨g, o + 1, none⟩ = some (.slice xb nb cb) := HX.out.2.1
  have q2 : w3.cell? ⟨g, o + 2, none⟩ = some (.slice xc nc cc) := HX.out.2.2.1
  have q3 : w3.cell? ⟨g, o + 3, none⟩ = some (.int .i64 f) := HX.out.2.2.2.1
  have q4 : w3.cell? ⟨g, o + 4, none⟩ = some (.int .i64 s) := HX.out.2.2.2.2
  have p0 : w3.cell? ⟨w.heap.size + 1, 0, none⟩ = some (.slice ya ma da) := HL.out.cell 0
  have p1 : w3.cell? ⟨w.heap.size + 1, 1, none⟩ = some (.slice yb mb db) := HL.out.cell 1
  have p2 : w3.cell? ⟨w.heap.size + 1, 2, none⟩ = some (.slice xc nc cc) := HL.out.cell 2
  have p3 : w3.cell? ⟨w.heap.size + 1, 3, none⟩ = some (.int .i64 f) := HL.out.cell 3
  have p4 : w3.cell? ⟨w.heap.size + 1, 4, none⟩ = some (.int .i64 s) := HL.out.cell 4
  have t0 := HL.out.frozen 0; have t1 := HL.out.frozen 1; have t2 := HL.out.frozen 2; have t3 := HL.out.frozen 3; have t4 := HL.out.frozen 4
  have r0 : w3.cell? ⟨w.heap.size, 0, none⟩ = some (.slice none 0 0) := HR.out.cell 0
  have r1 : w3.cell? ⟨w.heap.size, 1, none⟩ = some (.slice none 0 0) := HR.out.cell 1
  have r2 : w3.cell? ⟨w.heap.size, 2, none⟩ = some (.slice none 0 0) := HR.out.cell 2
  have r3 : w3.cell? ⟨w.heap.size, 3, none⟩ = some (.int .i64 0) := HR.out.cell 3
  have r4 : w3.cell? ⟨w.heap.size, 4, none⟩ = some (.int .i64 0) := HR.out.cell 4
  have z0 := HR.out.frozen 0; have z1 := HR.out.frozen 1; have z2 := HR.out.frozen 2; have z3 := HR.out.frozen 3; have z4 := HR.out.frozen 4
  have Z1 := Lib.hid ((((((HR.out.other (a := ⟨w.heap.size + 1, 2, none⟩) (by show w.heap.size + 1 ≠ w.heap.size; omega) (.slice yc mc dc_)).set 0 (.slice ya ma da)).set 1 (.slice yb mb db)).set 2 (.slice yc mc dc_)).set 3 (.int .i64 f)).set 4 (.int .i64 s))
  have Z2 := Lib.hid (own_set (g := w.heap.size) (i := 4) (u := .int .i64 s) (own_set (g := w.heap.size) (i := 3) (u := .int .i64 f) (own_set (g := w.heap.size) (i := 2) (u := .slice yc mc dc_) (own_set (g := w.heap.size) (i := 1) (u := .slice yb mb db) (own_set (g := w.heap.size) (i := 0) (u := .slice ya ma da) (own_set (g := w.heap.size + 1) (i := 2) (u := .slice yc mc dc_) HO1.out (by omega)) (by omega)) (by omega)) (by omega)) (by omega)) (by omega))
  have Z3 := Lib.hid (sl_own_set (g := w.heap.size) (i := 4) (u := .int .i64 s) (sl_own_set (g := w.heap.size) (i := 3) (u := .int .i64 f) (sl_own_set (g := w.heap.size) (i := 2) (u := .slice yc mc dc_) (sl_own_set (g := w.heap.size) (i := 1) (u := .slice yb mb db) (sl_own_set (g := w.heap.size) (i := 0) (u := .slice ya ma da) (sl_own_set (g := w.heap.size + 1) (i := 2) (u := .slice yc mc dc_) HO2.out (by omega)) (by omega)) (by omega)) (by omega)) (by omega)) (by omega))
  have Z4 := Lib.hid (own_set (g := w.heap.size) (i := 4) (u := .int .i64 s) (own_set (g := w.heap.size) (i := 3) (u := .int .i64 f) (own_set (g := w.heap.size) (i := 2) (u := .slice yc mc dc_) (own_set (g := w.heap.size) (i := 1) (u := .slice yb mb db) (own_set (g := w.heap.size) (i := 0) (u := .slice ya ma da) (own_set (g := w.heap.size + 1) (i := 2) (u := .slice yc mc dc_) HO3.out (by omega)) (by omega)) (by omega)) (by omega)) (by omega)) (by omega))
  have Z5 := Lib.hid ((((((HB.out.setCell (p := ⟨w.heap.size + 1, 2, none⟩) (by show w.heap.size ≤ w.heap.size + 1; omega) (.slice yc mc dc_)).setCell (p := ⟨w.heap.size, 0, none⟩) (by show w.heap.size ≤ w.heap.size; omega) (.slice ya ma da)).setCell (p := ⟨w.heap.size, 1, none⟩) (by show w.heap.size ≤ w.heap.size; omega) (.slice yb mb db)).setCell (p := ⟨w.heap.size, 2, none⟩) (by show w.heap.size ≤ w.heap.size; omega) (.slice yc mc dc_)).setCell (p := ⟨w.heap.size, 3, none⟩) (by show w.heap.size ≤ w.heap.size; omega) (.int .i64 f)).setCell (p := ⟨w.heap.size, 4, none⟩) (by show w.heap.size ≤ w.heap.size; omega) (.int .i64 s))
  go_wp2_with fail
  refine bodyPost_ret (Ret.results_c rfl _ _ w.heap.size (dc (.slice ya ma da) (.slice yb mb db) (.slice yc mc dc_) f s).toList rfl aggD Z1.out.cells) rfl ?_
  have hlb := fun g hg => (Sl.Own.lt Z3.out g hg).1
  have hlc := fun g hg => (Own.lt Z4.out g hg).1
  exact ⟨_, _, _, rfl, ⟨Z2.out.mono (by omega), Sl.Own.mono Z3.out (by omega), Z4.out.mono (by omega), fun g e1 e2 => by have h5 := HLA.out g e1; have h6 := hlb g e2; omega, fun g e1 e2 => by have h5 := HLA.out g e1; have h6 := hlc g e2; omega, fun g e1 e2 => by have h5 := HLB.out g e1; have h6 := hlc g e2; omega⟩, Z5.out⟩
theorem iClnZ (g o : Nat) (a b c : Value) (x : Dzt) (w : World) (hx : Five w g o a b c x.2.2.2.1 x.2.2.2.2) (h : kDz.At w (.agg (dc a b c x.2.2.2.1 x.2.2.2.2)) x) (hl : wtDz x ≤ 9000000) :
    Calls Tryz.prog 38 #[.pointer (some ⟨g, o, none⟩)] w fun e w' => ∃ U, e = .returned U ∧ kDz.In w.heap.size w'.heap.size w' U x ∧ Below w.heap.size w w' := by
  obtain ⟨a', b', c', e, h9⟩ := kD_at (kD_ofZ h)
  obtain ⟨-, l1, l2, -, l3⟩ := wtDz_lens x hl
  injection e with e
  have e0 := congrArg Array.toList e
  simp only [List.cons.injEq] at e0
  obtain ⟨rfl, rfl, rfl, -⟩ := e0
  exact giveZ (cloneAt g o _ _ _ x w hx h9 l1 l2 l3)
end Go.Proofs.YtfglcmanmfenpaaGreat.Row
/- Searching a list for the first element of which something holds; what is asked of a closure that is handed to the library. For any kind. No conditions. -/
namespace Go.Proofs.YtfglcmanmfenpaaGreat.Row
open Go.ChangeShapes Go.WideShapes Go.ChangeAt Go.RowKit Go.Instr
set_option linter.unusedVariables false
set_option maxRecDepth 100000
section
variable {α : Type} [Inhabited α] {p : α → Bool} {l : List α} {k : Nat}
def ixL (p : α → Bool) (l : List α) : Int := if l.findIdx p < l.length then (l.findIdx p : Int) else -1
def noL (p : α → Bool) (l : List α) (k : Nat) : Prop := ∀ j, j < k → p (nth l j) = false
theorem noL_zero (p : α → Bool) (l : List α) : noL p l 0 := fun j h => absurd h (by omega)
theorem noL_succ (h : noL p l k) (hc : p (nth l k) = false) : noL p l (k + 1) := fun j h1 => by
  by_cases e : j = k
  · subst e; exact hc
  · exact h j (by omega)
theorem ixL_at (hk : k < l.length) (h : noL p l k) (hc : p (nth l k) = true) : ixL p l = k := by
  have e : l.findIdx p = k := by
    rw [List.findIdx_eq hk]
    exact ⟨by rw [← nth_eq hk]; exact hc, fun j hj => by rw [← nth_eq (Nat.lt_trans hj hk)]; exact h j hj⟩
  unfold ixL; rw [e, if_pos hk]
theorem ixL_none (h : noL p l l.length) : ixL p l = -1 := by
  have e : l.findIdx p = l.length := by
    rw [List.findIdx_eq_length]
    intro x hx
    obtain ⟨j, hj, rfl⟩ := List.getElem_of_mem hx
    rw [← nth_eq hj]; exact h j hj
  unfold ixL; rw [e, if_neg (by omega)]
theorem ixL_cases (p : α → Bool) (l : List α) : (ixL p l = -1 ∧ noL p l l.length) ∨ ∃ k, k < l.length ∧ ixL p l = (k : Int) ∧ p (nth l k) = true ∧ noL p l k := by
  by_cases h : l.findIdx p < l.length
  · refine Or.inr ⟨l.findIdx p, h, by unfold ixL; rw [if_pos h], ?_, ?_⟩
    · rw [nth_eq h]; exact List.findIdx_getElem
    · intro j hj
      rw [nth_eq (Nat.lt_trans hj h)]
      have := List.not_of_lt_findIdx hj
      simpa using this
  · have e : l.findIdx p = l.length := Nat.le_antisymm List.findIdx_le_length (by omega)
    refine Or.inl ⟨by unfold ixL; rw [if_neg h], fun j hj => ?_⟩
    rw [nth_eq hj]
    have := List.not_of_lt_findIdx (p := p) (xs := l) (i := j) (by omega)
    simpa using this
theorem any_of_noL (h : noL p l l.length) : l.any p = false := by
  rw [List.any_eq_false]
  intro x hx
  obtain ⟨j, hj, rfl⟩ := List.getElem_of_mem hx
  rw [← nth_eq hj, h j hj]
  simp
theorem any_of_at (hk : k < l.length) (hc : p (nth l k) = true) : l.any p = true := List.any_eq_true.2 ⟨_, nth_mem hk, hc⟩
theorem any_ixL (p : α → Bool) (l : List α) : l.any p = decide (0 ≤ ixL p l) := by
  rcases ixL_cases p l with ⟨e, h⟩ | ⟨k, hk, e, hc, -⟩
  · rw [e, any_of_noL h]; rfl
  · rw [e, any_of_at hk hc]; simp
end
def ClosK {α M : Type} (P : Program) (k : Kd α M) (fid : FuncId) (cap : Array Value) (p : α → Bool) (ok : α → Prop) (w : World) : Prop :=
  ∀ (x : α) (V : Value) (W : World), Below w.heap.size w W → k.At W V x → ok x → Calls P fid (#[V] ++ cap) W fun e w' => e = .returned (.bool (p x)) ∧ Below W.heap.size W w'
theorem ClosK.on {α M : Type} {P : Program} {k : Kd α M} {fid : FuncId} {cap : Array Value} {p : α → Bool} {ok : α → Prop} {w w' : World} (h : ClosK P k fid cap p ok w) (hb : Below w.heap.size w w') : ClosK P k fid cap p ok w' := fun x V W hW => h x V W (hb.trans (hW.mono hb.size))
end Go.Proofs.YtfglcmanmfenpaaGreat.Row
/- A list of elements of a kind, all of the call's own, grows by an append: the row apart from what is beneath its elements by its type. For any kind. No conditions. -/
namespace Go.Proofs.YtfglcmanmfenpaaGreat.Row
open Go.ChangeShapes Go.WideShapes Go.ChangeAt Go.RowKit Go.Instr
set_option linter.unusedVariables false
set_option maxRecDepth 100000
section
variable {α M β N : Type} {k : Kd α M} {l : Kd β N} {e e' : TypeId} {B C E : Nat} {w w' : World} {r : Rw M} {x : M}
def Kd.NoRow (k : Kd α M) (e : TypeId) : Prop := ∀ (B : Nat) (w : World) (m : M), k.own B w m → ∀ g ∈ k.blocks m, ∀ cs, w.heap[g]? ≠ some (.cells cs e)
theorem Kd.noRow_scalar {enc : α → Value} {h1 : ∀ x, (enc x).oneCell' = true} : (Kd.scalar enc h1).NoRow e := fun B w m _ g hg => by cases hg
theorem Kd.NoRow.wrap (h : k.NoRow e) : k.wrap.NoRow e := fun B w m hm g hg => h B w m hm g hg
theorem Kd.NoRow.pair (h : k.NoRow e) (g : l.NoRow e) : (k.pair l).NoRow e := fun B w m hm q hq => by
  rcases List.mem_append.1 (show q ∈ k.blocks m.1 ++ l.blocks m.2 from hq) with hq | hq
  · exact h B w m.1 hm.1 q hq
  · exact g B w m.2 hm.2 q hq
theorem OwnK.row {enc : α → List Value} {sz : Nat} {v : Value} {L : List α} (h : OwnK e enc sz B w v L) {g : Nat} (hg : v.ownBlock = some g) : ∃ cs, w.heap[g]? = some (.cells cs e) := by
  rcases h.2 with ⟨rfl, -⟩ | ⟨g2, cap, cur, rfl, -, hh, -⟩
  · cases hg
  · have e2 : g2 = g := by simpa [Value.ownBlock] using hg
    exact ⟨cur, e2 ▸ hh⟩
theorem Kd.NoRow.slice (h : k.NoRow e) (hne : e' ≠ e) : (k.slice e').NoRow e := fun B w m hm q hq => by
  rcases List.mem_append.1 (show q ∈ m.v.ownBlock.toList ++ m.els.flatMap k.blocks from hq) with hq | hq
  · intro cs hc
    obtain ⟨cs2, h2⟩ := hm.1.row (g := q) (by simpa using hq)
    rw [h2] at hc
    injection hc with hc
    injection hc with h3 h4
    exact hne h4
  · obtain ⟨y, hy, hyq⟩ := List.mem_flatMap.1 hq
    exact h B w y (hm.2 y hy) q hyq
theorem Kd.push (hN : k.NoRow e) (h : (k.slice e).Own B C w r) (hx : k.Own B E w x) (hd : ∀ g ∈ k.blocks x, g ∉ (k.slice e).blocks r) {ad : Option Addr} {n cap : Nat}
    (ho : OwnK e k.cells k.size B w' (.slice ad n cap) (r.els ++ [x])) (hg : w.grownBy w' r.v.ownBlock) : (k.slice e).Own B w'.heap.size w' ⟨ad, n, cap, r.els ++ [x]⟩ := by
  have hnd : (r.v.ownBlock.toList ++ r.els.flatMap k.blocks).Nodup := h.2.1
  have hnd2 := List.nodup_append.1 hnd
  have hold : ∀ y ∈ r.els, k.own B w' y := fun y hy => k.own_keep (h.1.2 y hy) (fun g hgy => hg.block g (k.own_lt (h.1.2 y hy) g hgy).2 (fun er => hnd2.2.2 g (by rw [← er]; simp) g (List.mem_flatMap.2 ⟨y, hy, hgy⟩) rfl))
  have hnew : k.own B w' x := k.own_keep hx.1 (fun g hgx => hg.block g (k.own_lt hx.1 g hgx).2 (fun er => hd g hgx (List.mem_append_left _ (by rw [← er]; simp))))
  have hel : ∀ y ∈ r.els ++ [x], k.own B w' y := fun y hy => by
    rcases List.mem_append.1 hy with hy | hy
    · exact hold y hy
    · rw [List.mem_singleton.1 hy]; exact hnew
  refine ⟨⟨ho, hel⟩, ?_, fun g hgm => ?_⟩
  · show ((Rw.v ⟨ad, n, cap, r.els ++ [x]⟩).ownBlock.toList ++ (r.els ++ [x]).flatMap k.blocks).Nodup
    rw [List.nodup_append]
    refine ⟨by cases (Rw.v ⟨ad, n, cap, r.els ++ [x]⟩).ownBlock <;> simp, ?_, fun a ha b hb eab => ?_⟩
    · rw [List.flatMap_append, List.nodup_append]
      refine ⟨hnd2.2.1, by simpa using hx.2.1, fun a ha b hb eab => ?_⟩
      exact hd b (by simpa using hb) (List.mem_append_right _ (eab ▸ ha))
    · obtain ⟨y, hy, hyb⟩ := List.mem_flatMap.1 hb
      obtain ⟨cs, hc⟩ := ho.row (g := a) (show (Value.slice ad n cap).ownBlock = some a from Option.mem_toList.1 ha)
      rw [eab] at hc
      exact hN B w' y (hel y hy) b hyb cs hc
  · rcases List.mem_append.1 (show g ∈ (Rw.v ⟨ad, n, cap, r.els ++ [x]⟩).ownBlock.toList ++ (r.els ++ [x]).flatMap k.blocks from hgm) with hgm | hgm
    · exact (ho.lt g (show (Value.slice ad n cap).ownBlock = some g from Option.mem_toList.1 hgm)).2
    · obtain ⟨y, hy, hyb⟩ := List.mem_flatMap.1 hgm
      exact (k.own_lt (hel y hy) g hyb).2
theorem Kd.push_later (hN : k.NoRow e) (h : (k.slice e).Own B C w r) (hx : k.Own C E w x) (hBC : B ≤ C) {ad : Option Addr} {n cap : Nat}
    (ho : OwnK e k.cells k.size B w' (.slice ad n cap) (r.els ++ [x])) (hg : w.grownBy w' r.v.ownBlock) : (k.slice e).Own B w'.heap.size w' ⟨ad, n, cap, r.els ++ [x]⟩ :=
  Kd.push hN h (hx.mono hBC (Nat.le_refl _)) (fun g hgx hgr => by have h1 := (hx.lt g hgx).1; have h2 := (h.lt g hgr).2.1; omega) ho hg
theorem Kd.own_row (h : OwnK e k.cells k.size B w r.v []) (he : r.els = []) : (k.slice e).Own B w.heap.size w r := by
  refine ⟨⟨by rw [he]; exact h, fun y hy => (by rw [he] at hy; cases hy)⟩, ?_, fun g hg => ?_⟩
  · show (r.v.ownBlock.toList ++ r.els.flatMap k.blocks).Nodup
    rw [he]
    cases r.v.ownBlock <;> simp
  · have hg2 : g ∈ r.v.ownBlock.toList ++ r.els.flatMap k.blocks := hg
    rw [he] at hg2
    exact (h.lt g (by simpa using hg2)).2
end
theorem noRow_kN : kN.NoRow 29 := (Kd.NoRow.slice (e' := 9) (Kd.noRow_scalar) (by decide)).wrap
end Go.Proofs.YtfglcmanmfenpaaGreat.Row
/- Lists that lie as rows of the call's own: a part of a row, an element more, an append within the room, a clearing behind the end; closures while a row is written. For any kind and any program. No conditions but that lengths fit. -/
namespace Go.Proofs.YtfglcmanmfenpaaGreat.Row
open Go.ChangeShapes Go.WideShapes Go.ChangeAt Go.RowKit Go.Instr
set_option linter.unusedVariables false
set_option linter.unusedSectionVars false
set_option maxRecDepth 100000
theorem erase_parts {α : Type} (l : List α) (k : Nat) : l.eraseIdx k = l.take k ++ l.drop (k + 1) := List.eraseIdx_eq_take_drop_succ l k
theorem take_nx {α : Type} [Inhabited α] {l : List α} {k : Nat} (h : k < l.length) : l.take (k + 1) = l.take k ++ [nth l k] := by rw [List.take_succ_eq_append_getElem h, nth_eq h]
theorem filter_nx {α : Type} [Inhabited α] {p : α → Bool} {l : List α} {k : Nat} (h : k < l.length) (hp : p (nth l k) = true) : (l.take (k + 1)).filter p = (l.take k).filter p ++ [nth l k] := by
  rw [take_nx h, List.filter_append]; simp [hp]
theorem filter_sk {α : Type} [Inhabited α] {p : α → Bool} {l : List α} {k : Nat} (h : k < l.length) (hp : p (nth l k) = false) : (l.take (k + 1)).filter p = (l.take k).filter p := by
  rw [take_nx h, List.filter_append]; simp [hp]
section
variable {α M : Type} {k : Kd α M} {B C E E' : Nat} {e : TypeId} {w w' : World} {m : M}
theorem Kd.Own.upto (h : k.Own B w.heap.size w m) (hb : Below w.heap.size w w') : k.Own B w'.heap.size w' m := (h.on hb).mono (Nat.le_refl _) hb.size
theorem sub_flat {γ δ : Type} (f : γ → List δ) {l l' : List γ} (h : l'.Sublist l) : (l'.flatMap f).Sublist (l.flatMap f) := by
  induction h with
  | slnil => exact List.Sublist.refl _
  | cons a _ ih => rw [List.flatMap_cons]; exact ih.trans (List.sublist_append_right _ _)
  | cons_cons a _ ih => rw [List.flatMap_cons, List.flatMap_cons]; exact (List.Sublist.refl _).append ih
theorem Kd.sub (hN : k.NoRow e) {r : Rw M} (h : (k.slice e).Own B C w r) {L' : List M} (hs : L'.Sublist r.els) {row : Option Nat} (hg : w.grownBy w' row) (hr : ∀ g, row = some g → r.v.ownBlock = some g)
    {ad : Option Addr} {n cap : Nat} (ho : OwnK e k.cells k.size B w' (.slice ad n cap) L') : (k.slice e).Own B w'.heap.size w' ⟨ad, n, cap, L'⟩ := by
  have hnd : (r.v.ownBlock.toList ++ r.els.flatMap k.blocks).Nodup := h.2.1
  have hnd2 := List.nodup_append.1 hnd
  have hel : ∀ y ∈ L', k.own B w' y := fun y hy => k.own_keep (h.1.2 y (hs.subset hy)) (fun g hgy => hg.block g (k.own_lt (h.1.2 y (hs.subset hy)) g hgy).2 (fun er => hnd2.2.2 g (by rw [hr g er.symm]; simp) g (List.mem_flatMap.2 ⟨y, hs.subset hy, hgy⟩) rfl))
  refine ⟨⟨ho, hel⟩, ?_, fun g hgm => ?_⟩
  · show ((Rw.v ⟨ad, n, cap, L'⟩).ownBlock.toList ++ L'.flatMap k.blocks).Nodup
    rw [List.nodup_append]
    refine ⟨by cases (Rw.v ⟨ad, n, cap, L'⟩).ownBlock <;> simp, hnd2.2.1.sublist (sub_flat k.blocks hs), fun a ha b hb eab => ?_⟩
    obtain ⟨y, hy, hyb⟩ := List.mem_flatMap.1 hb
    obtain ⟨cs, hc⟩ := ho.row (g := a) (show (Value.slice ad n cap).ownBlock = some a from Option.mem_toList.1 ha)
    rw [eab] at hc
    exact hN B w' y (hel y hy) b hyb cs hc
  · rcases List.mem_append.1 (show g ∈ (Rw.v ⟨ad, n, cap, L'⟩).ownBlock.toList ++ L'.flatMap k.blocks from hgm) with hgm | hgm
    · exact (ho.lt g (show (Value.slice ad n cap).ownBlock = some g from Option.mem_toList.1 hgm)).2
    · obtain ⟨y, hy, hyb⟩ := List.mem_flatMap.1 hgm
      exact (k.own_lt (hel y hy) g hyb).2
theorem Kd.Own.elOf {r : Rw M} (h : (k.slice e).Own B C w r) {y : M} (hy : y ∈ r.els) : k.holds w y := k.own_holds (h.1.2 y hy)
end
section
variable {P : Program} {α : Type} {enc : α → List Value} {sz : Nat} {e t : TypeId} {bytes : Nat} {z : Value}
theorem step_appFits (K : Kind P e enc z sz bytes) {ops : Array Oper} {o : Oper} {a : Act} {w : World} {K' : Act → World → Prop} {Q : Exit → Act → World → Prop} {E : Prop} (hg : o.guard = none) (s x : Operand)
    (hop : o.op = .call { callee := .builtin .append, args := #[s, x], argTypes := #[t, t] }) (ht : P.underlying t = some (.slice e)) {B g n cap : Nat} {vx : Value} {l m : List α} (hs : a.eval s = .slice (some ⟨g, 0, none⟩) n cap) (hx : a.eval x = vx) (hown : OwnK e enc sz B w (.slice (some ⟨g, 0, none⟩) n cap) l) (hsrc : HoldsK enc sz w vx m) (hroom : l.length + m.length ≤ cap)
    (hK : ∀ w' N, N = l.length + m.length → OwnK e enc sz B w' (.slice (some ⟨g, 0, none⟩) N cap) (l ++ m) → w.grownBy w' (some g) → K' (a.put o.dst (.slice (some ⟨g, 0, none⟩) N cap)) w') :
    if Region.wanted o (yielded ops a.tmps) = true then Oper.wp P o a w K' Q else E := by
  have hw : Region.wanted o (yielded ops a.tmps) = true := by simp [Region.wanted, hg]
  rw [if_pos hw]
  obtain ⟨i, h1, h2, h3, h4⟩ := info_parts K.elem
  obtain rfl : n = l.length := hown.holds.lenEq
  obtain ⟨ao, c, rfl, hcap, hc⟩ := hsrc
  have hsrc : HoldsK enc sz w (.slice ao m.length c) m := ⟨ao, c, rfl, hcap, hc⟩
  cases ao with
  | some ad =>
    obtain ⟨w', hrun, r1, r2⟩ := run_append_fits (P := P) w B t o.type e i sz ht h1 h3 g l.length cap (flat enc l) hown ad m.length c (flat enc m) (flat_length K.size m) (hsrc.cells K.size) (flat_one' K.one m) hroom
    unfold Oper.wp
    simp [execOp, hop, resolve, invoke, builtin, hs, hx, hrun, Result.andThen]
    refine hK _ _ rfl ?_ r2
    unfold OwnK
    rw [List.length_append, flat_append]; exact r1
  | none =>
    rcases hc with rfl | ⟨b, off, hc, _⟩
    · have hrun : (Builtin.append_ #[t, t] o.type #[.slice (some ⟨g, 0, none⟩) l.length cap, .slice none 0 c]).run P w = .ok (.slice (some ⟨g, 0, none⟩) l.length cap) w := by
        rcases hown.2 with ⟨hv, hn⟩ | ⟨g', cap', cur, hv, _, _, hnc, _⟩
        · cases hv
        · cases hv
          simp [Builtin.append_, run_underlying ht, sizeOf, typeInfo, h1, Builtin.lenOf, Builtin.firstCells, hnc, storeCells]
      have hx' : a.eval x = .slice none 0 c := by simpa using hx
      unfold Oper.wp
      simp [execOp, hop, resolve, invoke, builtin, hs, hx', hrun, Result.andThen]
      exact hK w l.length (by simp) (by simpa using hown) (World.grownBy.refl _ _)
    · cases hc
theorem wpList_clearPast [Inhabited α] (K : Kind P e enc z sz bytes) (hz : z.cells.toList = enc default) (hzv : ∀ w, (zeroValue e).run P w = .ok z w) {w : World} {ops : Array Oper} {rest : List Oper} {o : Oper} {a : Act} {Q : Exit → Act → World → Prop} (hgd : o.guard = none) (s : Operand)
    (ho : o.op = .call { callee := .builtin .clear, args := #[s], argTypes := #[t] }) (ht : P.underlying t = some (.slice e)) {B g n cap i k c : Nat} {l : List α} (hs : a.eval s = .slice (some ⟨g, i * sz, none⟩) k c) (hown : OwnK e enc sz B w (.slice (some ⟨g, 0, none⟩) n cap) l) (hi : i = l.length) (hk : i + k ≤ cap) (hk0 : 0 < k)
    (h : ∀ w', OwnK e enc sz B w' (.slice (some ⟨g, 0, none⟩) n cap) l → w.grownBy w' (some g) → wpList P ops Q rest (a.put o.dst (.tuple #[])) w') : wpList P ops Q (o :: rest) a w := by
  subst hi
  obtain rfl := hown.holds.lenEq
  have hown0 := hown
  rcases hown.2 with ⟨hv, _⟩ | ⟨g', cap', cur, hv, hB, hc, hnc, hmx, hks, h4⟩
  · cases hv
  cases hv
  have hzc : (Builtin.zeroCells z.cells k).toList = flat enc (List.replicate k default) := by
    rw [← madeK K.size K.pos hz k]
    unfold Builtin.zeroCells madeCells
    rw [K.zs]
  have hfl : (flat enc (List.replicate k (default : α))).length = k * sz := by rw [flat_length K.size, List.length_replicate]
  have hle : (l.length + k) * sz ≤ cap * sz := Nat.mul_le_mul_right _ hk
  rw [Nat.add_mul] at hle
  have hst := run_storeCells_at P g (l.length * sz) e (flat enc (List.replicate k default)) 0 cur w hc (by rw [hfl, hks]; omega) (flat_one' K.one _)
  rw [← hzc] at hst
  refine wpList_plain hgd fun K' hK' => ?_
  have hrun : (Builtin.clear_ #[t] o.type #[.slice (some ⟨g, l.length * sz, none⟩) k c]).run P w = .ok (.tuple #[]) (w.setRow g (cur.toList.take (l.length * sz) ++ flat enc (List.replicate k default) ++ cur.toList.drop (l.length * sz + (flat enc (List.replicate k (default : α))).length)).toArray) := by
    obtain ⟨k', rfl⟩ : ∃ k', k = k' + 1 := ⟨k - 1, by omega⟩
    rw [hzc] at hst
    simp only [Nat.add_zero] at hst
    simp [Builtin.clear_, run_underlying ht, hzv, hzc, hst]
  unfold Oper.wp
  simp [execOp, ho, resolve, invoke, builtin, hs, hrun, Result.andThen]
  refine hK' _ _ (h _ ?_ (grownBy_setRow _ _ _))
  refine ⟨hown0.1, Or.inr ⟨g, cap, _, rfl, hB, setRow_heap w g cur _ e _ hc, hnc, hmx, ?_, ?_⟩⟩
  · simp only [List.size_toArray, List.length_append, List.length_take, List.length_drop, Array.length_toList, hfl, hks]
    omega
  · show (cur.toList.take (l.length * sz) ++ (flat enc (List.replicate k default) ++ _)).take (l.length * sz) = _
    have hcl : cur.toList.length = cap * sz := by rw [Array.length_toList]; exact hks
    rw [List.take_append_of_le_length (by rw [List.length_take, hcl]; omega), List.take_take, Nat.min_self]
    exact h4
theorem holds_dropIf (hs : Sz enc sz) {w : World} {b off n cap i : Nat} {l : List α} (h : HoldsK enc sz w (.slice (some ⟨b, off, none⟩) n cap) l) (hi : i ≤ l.length) {ao : Addr} (hao : ao = ⟨b, off + i * sz, none⟩ ∨ i = l.length) : HoldsK enc sz w (.slice (some ao) (n - i) (cap - i)) (l.drop i) := by
  rcases hao with rfl | rfl
  · exact h.drop hs hi
  · obtain rfl := h.lenEq
    exact ⟨some ao, cap - l.length, by simp, by simp, Or.inl (by simp)⟩
end
def ClosR {α M : Type} (P : Program) (k : Kd α M) (fid : FuncId) (cap : Array Value) (p : α → Bool) (ok : α → Prop) (w : World) (row : Option Nat) : Prop :=
  ∀ (x : α) (V : Value) (W : World), w.grownBy W row → k.At W V x → ok x → Calls P fid (#[V] ++ cap) W fun e w' => e = .returned (.bool (p x)) ∧ Below W.heap.size W w'
theorem ClosR.plain {α M : Type} {P : Program} {k : Kd α M} {fid : FuncId} {cap : Array Value} {p : α → Bool} {ok : α → Prop} {w : World} {row : Option Nat} (h : ClosR P k fid cap p ok w row) : ClosK P k fid cap p ok w := fun x V W hW => h x V W (Sl.grown_of_below hW row)
structure MidK {M : Type} [Inhabited M] (q : M → Bool) (L L' : List M) (i j : Nat) : Prop where
  len : L'.length = L.length
  head : L'.take i = (L.take j).filter q
  rest : ∀ r, j ≤ r → r < L.length → nth L' r = nth L r
  lt : i < j
theorem MidK.keep {M : Type} [Inhabited M] {q : M → Bool} {L L' : List M} {i j : Nat} (h : MidK q L L' i j) (hj : j < L.length) (hq : q (nth L j) = true) : MidK q L (L'.set i (nth L j)) (i + 1) (j + 1) := by
  have h1 := h.len
  have h2 := h.lt
  refine ⟨by simp [h1], ?_, fun r hr hr2 => ?_, by omega⟩
  · rw [List.take_succ_eq_append_getElem (by simp; omega), List.getElem_set_self, List.take_set_of_le (Nat.le_refl _), h.head, filter_nx hj hq]
  · rw [← h.rest r (by omega) hr2]
    simp only [nth, List.getD]
    rw [List.getElem?_set_ne (by omega)]
theorem MidK.skip {M : Type} [Inhabited M] {q : M → Bool} {L L' : List M} {i j : Nat} (h : MidK q L L' i j) (hj : j < L.length) (hq : q (nth L j) = false) : MidK q L L' i (j + 1) := by
  refine ⟨h.len, ?_, fun r hr hr2 => h.rest r (by omega) hr2, by have := h.lt; omega⟩
  rw [h.head, filter_sk hj hq]
theorem MidK.start {M : Type} [Inhabited M] {q : M → Bool} {L : List M} {i : Nat} (hi : i < L.length) (hn : ∀ j, j < i → q (nth L j) = true) (hp : q (nth L i) = false) : MidK q L L i (i + 1) := by
  refine ⟨rfl, ?_, fun r _ _ => rfl, by omega⟩
  rw [filter_sk hi hp]
  symm
  rw [List.filter_eq_self]
  intro x hx
  obtain ⟨j, hj, rfl⟩ := List.getElem_of_mem hx
  have hji : j < i := by simp at hj; omega
  have := hn j hji
  rw [nth_eq (by omega)] at this
  rw [List.getElem_take, this]
theorem step_appKx {P : Program} {ops : Array Oper} {o : Oper} {a : Act} {w : World} {K : Act → World → Prop} {Q : Exit → Act → World → Prop} {E : Prop} {α : Type} {enc : α → List Value} {sz : Nat} {e t : TypeId} {bytes : Nat} {z : Value}
    (KD : Kind P e enc z sz bytes) (hg : o.guard = none) (s x : Operand) (hop : o.op = Op.call { callee := Callee.builtin Builtin.append, args := #[s, x], argTypes := #[t, t] }) (ht : P.underlying t = some (.slice e))
    {B : Nat} {v : Value} {xo : Option Addr} {n c : Nat} {l m : List α} (hs : a.eval s = v) (hx : a.eval x = .slice xo n c) (hxo : xo ≠ none) (hown : OwnK e enc sz B w v l) (hsrc : HoldsK enc sz w (.slice xo n c) m) (hlen : (l.length + m.length) * bytes ≤ 140737488355328) (hmx : l.length + m.length ≤ maxLen) (hB : B ≤ w.heap.size)
    (hK : ∀ v' w', OwnK e enc sz B w' v' (l ++ m) → w.grownBy w' v.ownBlock → K (a.put o.dst v') w') :
    if Region.wanted o (yielded ops a.tmps) = true then Oper.wp P o a w K Q else E := by
  cases xo with
  | none => exact absurd rfl hxo
  | some ad => exact step_appK KD hg s x hop ht hs hx hown hsrc hlen hmx hB hK
end Go.Proofs.YtfglcmanmfenpaaGreat.Row
/- Names in the words that kslice.py wants. No conditions but that lengths fit. -/
namespace Go.Proofs.YtfglcmanmfenpaaGreat.Row
open Go.ChangeShapes Go.WideShapes Go.ChangeAt Go.RowKit Go.Instr
set_option linter.unusedVariables false
set_option maxRecDepth 100000
abbrev Nnt := List ByteArray
abbrev Nnm := Rw ByteArray
abbrev kNn : Kd Nnt Nnm := kN
abbrev wtNn (x : Nnt) : Nat := bulk x
abbrev adNn (x : Nnt) : Nat := x.length
abbrev okNn (x : Nnt) : Prop := okN x
abbrev inNn (x : Nnt) : Prop := okN x
theorem okN.ok {x : List ByteArray} (h : okN x) : okNn x := h
theorem kNn_shapeA {w : World} {V : Value} {x : Nnt} (h : kNn.At w V x) : ∃ (y : Option Addr) (n c : Nat), V = .agg #[.slice y n c] ∧ kNn.At w (.agg #[.slice y n c]) x := kN_shapeA h
end Go.Proofs.YtfglcmanmfenpaaGreat.Row
