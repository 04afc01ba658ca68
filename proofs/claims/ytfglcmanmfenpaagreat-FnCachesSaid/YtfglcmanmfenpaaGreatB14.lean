/- Contracts and mathematics, joined: CacheY, CacheQ, SameT. No conditions but those that each states. -/
import Derived.WalkKit
import Derived.Deep.RegionHeld3
import Derived.Deep.RegionLaw
import Derived.Test.YtfglcmanmfenpaaGreatB13
import Derived.Test.YtfglcmanmfenpaaGreatB5
import Derived.Test.YtfglcmanmfenpaaGreatB4
/- The program's EvictStale, Touch and CacheData. No conditions but that lengths fit. -/
namespace Go.Proofs.YtfglcmanmfenpaaGreat.Row
open Go.ChangeShapes Go.WideShapes Go.ChangeAt Go.RowKit Go.Instr
set_option linter.unusedVariables false
set_option maxRecDepth 100000
theorem blk_lowC {w w' : World} {g C : Nat} {cs : Array Value} {ty : TypeId} (h : Ret.Blk w g cs ty) (hb : Below C w w') (hg : g < C) : Ret.Blk w' g cs ty := (hb.block g hg).trans h
set_option maxHeartbeats 8000000 in
theorem implEvictStale (V : Value) (x : Cnt) (now : Int) (w : World) (h : kCn.At w V x) (hp : FitC x) :
    Calls Tryz.prog 18 #[V, .int .i64 now] w fun e w' => ∃ U, e = .returned U ∧ kCn.In w.heap.size w'.heap.size w' U (evictC x now) ∧ Below w.heap.size w w' := by
  obtain ⟨x1_0, n1_0, c1_0, rfl, g1⟩ := kCn_at h
  clear h
  obtain ⟨cc, l⟩ := x
  have hfit := hp
  obtain ⟨hl, hp7⟩ := hp.fields
  clear hp
  have hp := hp7
  clear hp7
  dsimp only at g1 hl hp ⊢
  have b0 := (Below.refl w.heap.size w).alloc (Nat.le_refl _) (.cells #[.int .i64 cc, .slice x1_0 n1_0 c1_0] 26)
  have b1 := (Below.refl (w.alloc (.cells #[.int .i64 cc, .slice x1_0 n1_0 c1_0] 26)).heap.size (w.alloc (.cells #[.int .i64 cc, .slice x1_0 n1_0 c1_0] 26))).alloc (Nat.le_refl _) (.cells #[.int .i64 now] 3)
  have b2 := (Below.refl ((w.alloc (.cells #[.int .i64 cc, .slice x1_0 n1_0 c1_0] 26)).alloc (.cells #[.int .i64 now] 3)).heap.size ((w.alloc (.cells #[.int .i64 cc, .slice x1_0 n1_0 c1_0] 26)).alloc (.cells #[.int .i64 now] 3))).alloc (Nat.le_refl _) (.cells #[.int .i64 0, .slice none 0 0] 26)
  have b012 := (b0.trans (b1.mono b0.size)).trans (b2.mono (Nat.le_trans b0.size b1.size))
  have hX0 := ((Ret.Blk.new w #[.int .i64 cc, .slice x1_0 n1_0 c1_0] 26).on b1).on b2
  have hX1 := (Ret.Blk.new' (w := (w.alloc (.cells #[.int .i64 cc, .slice x1_0 n1_0 c1_0] 26))) (n := w.heap.size + 1) #[.int .i64 now] 3 (by simp)).on b2
  have hX2 := Ret.Blk.new' (w := ((w.alloc (.cells #[.int .i64 cc, .slice x1_0 n1_0 c1_0] 26)).alloc (.cells #[.int .i64 now] 3))) (n := w.heap.size + 1 + 1) #[.int .i64 0, .slice none 0 0] 26 (by simp)
  have hS3 : (((w.alloc (.cells #[.int .i64 cc, .slice x1_0 n1_0 c1_0] 26)).alloc (.cells #[.int .i64 now] 3)).alloc (.cells #[.int .i64 0, .slice none 0 0] 26)).heap.size = w.heap.size + 3 := by simp
  have HA := Lib.hid (cn_of (cc := cc) (g1.on b012))
  have q0 : (((w.alloc (.cells #[.int .i64 cc, .slice x1_0 n1_0 c1_0] 26)).alloc (.cells #[.int .i64 now] 3)).alloc (.cells #[.int .i64 0, .slice none 0 0] 26)).cell? ⟨w.heap.size, 0, none⟩ = some (.int .i64 cc) := hX0.cell 0
  have q1 : (((w.alloc (.cells #[.int .i64 cc, .slice x1_0 n1_0 c1_0] 26)).alloc (.cells #[.int .i64 now] 3)).alloc (.cells #[.int .i64 0, .slice none 0 0] 26)).cell? ⟨w.heap.size, 1, none⟩ = some (.slice x1_0 n1_0 c1_0) := hX0.cell 1
  have hmf : ∀ (fn : Fn) (first cap : Array Value) (w : World), (Instr.makeFunc fn first cap).run Tryz.prog w = .ok (.func fn first cap) w := fun _ _ _ _ => rfl
  go_enter Tryz.func18, Tryz.ntmps18
  go_wp2_with fail
  refine (implCloneStore _ (cc, l) _ HA.out hfit).mono ?_
  rintro e w1 ⟨U, rfl, hi, hb1⟩
  obtain ⟨m, rfl, hs, hi⟩ := hi.split
  obtain ⟨ce, r⟩ := m
  obtain ⟨xu, nu, cu, Lu⟩ := r
  obtain ⟨rfl, hsl⟩ : ce = cc ∧ Lu.map kCe.strip = l := by
    have e1 : (ce, Lu.map kCe.strip) = (cc, l) := hs
    injection e1 with e1 e2
    exact ⟨e1, e2⟩
  obtain ⟨-, hi2, -⟩ := Kd.Own.parts hi
  rw [hS3] at hi2
  rw [show kCn.val ((ce, (⟨xu, nu, cu, Lu⟩ : Rw Cem)) : Cnm) = .agg #[.int .i64 ce, .slice xu nu cu] from rfl]
  have hal := (Below.refl w1.heap.size w1).alloc (Nat.le_refl _) (.cells #[.int .i64 ce, .slice xu nu cu] 60)
  have HG1 := Lib.hid (show w.heap.size + 3 ≤ w1.heap.size by rw [← hS3]; exact hb1.size)
  have HX0 := Lib.hid ((hX0.on hb1).on hal); have HX1 := Lib.hid ((hX1.on hb1).on hal); have HX2 := Lib.hid ((hX2.on hb1).on hal)
  have HXD := Lib.hid (Ret.Blk.new w1 #[.int .i64 ce, .slice xu nu cu] 60)
  have HO := Lib.hid (hi2.upto hal); have HSL := Lib.hid hsl
  have HB := Lib.hid (b012.trans ((hb1.trans (hal.mono hb1.size)).mono b012.size))
  have HLU := Lib.hid (show Lu.length ≤ 1100000 by have h9 := hl; rw [← hsl, List.length_map] at h9; exact h9)
  have HPU := Lib.hid (show ∀ x ∈ Lu.map kCe.strip, wtCe x ≤ 1200000 by rw [hsl]; exact hp)
  clear hi hi2 hs hsl hb1 hal hX0 hX1 hX2 b0 b1 b2 b012 g1 HA hfit hl hp hS3 q0 q1
  have hcl : ClosR Tryz.prog kCe 55 #[.pointer (some ⟨w.heap.size + 1, 0, none⟩)] (fun x => !frE now x) (fun _ => True) (w1.alloc (.cells #[.int .i64 ce, .slice xu nu cu] 60)) (Value.slice xu nu cu).ownBlock := closEv (w.heap.size + 1) now _ _ (fun er => by have := (HO.out.1.1.lt _ er.symm).1; omega) HX1.out
  have HC := Lib.hid hcl; clear hcl
  go_wp2_with fail
  have hsz3 : w.heap.size + 3 ≤ (w1.alloc (.cells #[.int .i64 ce, .slice xu nu cu] 60)).heap.size := by have := HG1.out; simp; omega
  refine (removeEv ⟨w.heap.size + 1, 0, none⟩ (fun x => !frE now x) (fun _ => True) (w.heap.size + 3) (w.heap.size + 3) w1.heap.size ce xu nu cu Lu _ HXD.out HO.out HLU.out (fun _ _ => trivial) HC.out (Nat.le_refl _) HG1.out hsz3).mono ?_
  rintro e w2 ⟨rfl, ad', n', cap', L', hx2, ho2, hs2, -, hb2⟩
  have HXD2 := Lib.hid hx2; have HO2 := Lib.hid ho2; have HS2 := Lib.hid hs2
  have HX22 := Lib.hid (blk_lowC HX2.out hb2 (by omega))
  have HB2 := Lib.hid (HB.out.trans (hb2.mono (Nat.le_add_right _ _)))
  have HRES : Hid (L'.map kCe.strip = l.filter (frE now)) := Lib.hid (by rw [hs2, HSL.out]; congr 1; funext x; simp)
  clear hx2 ho2 hs2 hb2 HX0 HX1 HX2 HXD HO HB HC hsz3
  have p0 : w2.cell? ⟨w1.heap.size, 0, none⟩ = some (.int .i64 ce) := HXD2.out.cell 0
  have p1 : w2.cell? ⟨w1.heap.size, 1, none⟩ = some (.slice ad' n' cap') := HXD2.out.cell 1
  have r0 := HX22.out.frozen 0; have r1 := HX22.out.frozen 1; have r2 := HX22.out.cell 0; have r3 := HX22.out.cell 1
  have Z := Lib.hid ((HX22.out.set 0 (.int .i64 ce)).set 1 (.slice ad' n' cap'))
  have ZO := Lib.hid (own_setS (i := 1) (u := .slice ad' n' cap') (own_setS (i := 0) (u := .int .i64 ce) HO2.out (g := w.heap.size + 1 + 1) (by omega)) (g := w.heap.size + 1 + 1) (by omega))
  have ZB := Lib.hid ((HB2.out.setCell (p := ⟨w.heap.size + 1 + 1, 0, none⟩) (by show w.heap.size ≤ w.heap.size + 1 + 1; omega) (.int .i64 ce)).setCell (p := ⟨w.heap.size + 1 + 1, 1, none⟩) (by show w.heap.size ≤ w.heap.size + 1 + 1; omega) (.slice ad' n' cap'))
  go_wp2_with fail
  refine bodyPost_ret (Ret.results_c rfl _ _ (w.heap.size + 1 + 1) [.int .i64 ce, .slice ad' n' cap'] rfl aggCn Z.out.cells) rfl ?_
  exact ⟨_, rfl, cn_in ZO.out (by omega) HRES.out ZB.out.size, ZB.out⟩
set_option maxRecDepth 100000 in
set_option maxHeartbeats 4000000 in
theorem rto {Q : Exit → Act → World → Prop} {v0 v1 v2 v3 v5 v6 v8 v9 v10 v11 v12 v13 v14 v15 v16 v17 v18 v19 v20 v21 v22 v23 : Value} {w : World} {gD p n c : Nat} {q cy : Nat} {xq xu : Option Addr} {cc r : Int} {l : List Cet} {m : List ByteArray} (HR : Hid (ixL (isE m) l = r)) (H_l : Hid (kLCe.At w (.slice xu n c) l)) (H_m : Hid (kN.At w (.agg #[.slice xq q cy]) m)) (HLL : Hid (l.length ≤ 9000000)) (HLP : Hid (∀ x ∈ l, wtCe x ≤ 1200000)) (HMB : Hid (bulk m ≤ 1200000)) (K0 : Hid (w.cell? ⟨gD, 0, none⟩ = some (.int .i64 cc))) (K1 : Hid (w.cell? ⟨gD, 1, none⟩ = some (.slice xu n c))) (K2 : Hid (w.cell? ⟨p, 0, none⟩ = some (.slice xq q cy)))
  (hQ : ∀ (u11 u12 u13 : Value)  (wx : World), Below w.heap.size w wx → Q .normal ⟨#[v0, v1, v2, v3, .pointer (some ⟨p, 0, none⟩), v5, v6, .pointer (some ⟨gD, 0, none⟩), .int .i64 r, v9, v10, u11, u12, u13, .int .i64 r, v15, v16, v17, v18, v19, v20, v21, v22, v23], []⟩ wx) :
  (Code.region 2 #[⟨some 11, .load 60 (.tmp 7), 60, "l12_cache.go:126", #[], none⟩,
   ⟨some 12, .load 29 (.tmp 4), 29, "l12_cache.go:126", #[], none⟩,
   ⟨some 13, .call ⟨.value (.func 36), #[.tmp 12], #[29]⟩, 65, "l12_cache.go:126", #[⟨1, .data⟩], none⟩,
   ⟨some 14, .call ⟨.value (.func 41), #[.tmp 11, .tmp 13], #[60, 65]⟩, 3, "l12_cache.go:126", #[⟨0, .data⟩, ⟨2, .data⟩, ⟨2, .chain⟩], none⟩,
   ⟨some 8, .assign (.tmp 14), 3, "l12_cache.go:126", #[⟨3, .data⟩, ⟨3, .chain⟩, ⟨0, .phase⟩, ⟨1, .phase⟩, ⟨2, .phase⟩, ⟨3, .phase⟩], none⟩] true).wp Tryz.prog Q ⟨#[v0, v1, v2, v3, .pointer (some ⟨p, 0, none⟩), v5, v6, .pointer (some ⟨gD, 0, none⟩), v8, v9, v10, v11, v12, v13, v14, v15, v16, v17, v18, v19, v20, v21, v22, v23], []⟩ w := by
 have HQ := Lib.hid hQ; clear hQ
 have hdr : Below w.heap.size w w.drew := (Below.refl _ _).drew
 have BB := Lib.hid hdr
 refine wp_region_noPanic ?_
 refine wp_region_held_drew (S := (fun w' => w'.cell? ⟨gD, 0, none⟩ = some (.int .i64 cc) ∧ w'.cell? ⟨gD, 1, none⟩ = some (.slice xu n c) ∧ w'.cell? ⟨p, 0, none⟩ = some (.slice xq q cy))) (by kernel_rfl) ?_ (fun hHeld => ?_)
 ·
  exact ⟨kc K0.out BB.out, kc K1.out BB.out, kc K2.out BB.out⟩
 clear hdr
 generalize w.drew = wd at *
 refine wpAnyH_take (i := 0) (oi := ⟨some 11, .load 60 (.tmp 7), 60, "l12_cache.go:126", #[], none⟩) (v := ?_) rfl (by kernel_rfl) (by kernel_rfl) (by kernel_rfl) (fun _ _ _ h => h) (Or.inl ⟨by rfl, ?_⟩) (by assumption) ?_
 rotate_left
 ·
  intro w' hSw; (try dsimp only at hSw); first | (go_simp; done) | (go_simp; with_reducible rfl)
 (try simp only [Act.put, Row.pB0, Row.pB1, Row.pB2])
 refine wpAnyH_take (i := 1) (oi := ⟨some 12, .load 29 (.tmp 4), 29, "l12_cache.go:126", #[], none⟩) (v := ?_) rfl (by kernel_rfl) (by kernel_rfl) (by kernel_rfl) (fun _ _ _ h => h) (Or.inl ⟨by rfl, ?_⟩) (by assumption) ?_
 rotate_left
 ·
  intro w' hSw; (try dsimp only at hSw); first | (go_simp; done) | (go_simp; with_reducible rfl)
 (try simp only [Act.put, Row.pB0, Row.pB1, Row.pB2])
 refine wpAnyH_ready (rs := [2]) (by kernel_rfl) (by simp) ?_
 refine AllReadyH.cons (o := ⟨some 13, .call ⟨.value (.func 36), #[.tmp 12], #[29]⟩, 65, "l12_cache.go:126", #[⟨1, .data⟩], none⟩) rfl (fun K hK => ?_) AllReadyH.nil
 go_simp
 refine (iNamed _ _ _ _).mono ?_
 rintro e wn1 ⟨gN, rfl, hgN, hXN, hb⟩
 have HXN := Lib.hid hXN; clear hXN hgN
 replace BB := Lib.hid (BB.out.trans (hb.mono BB.out.size))
 clear hb
 (try go_wp2_with fail)
 clear hHeld
 refine hK.out _ _ ?_ (fun hHeld => ?_)
 ·
  (try dsimp only); exact ⟨kc K0.out BB.out, kc K1.out BB.out, kc K2.out BB.out⟩
 clear hK K
 (try simp only [Act.put, Row.pB0, Row.pB1, Row.pB2])
 refine wpAnyH_ready (rs := [3]) (by kernel_rfl) (by simp) ?_
 refine AllReadyH.cons (o := ⟨some 14, .call ⟨.value (.func 41), #[.tmp 11, .tmp 13], #[60, 65]⟩, 3, "l12_cache.go:126", #[⟨0, .data⟩, ⟨2, .data⟩, ⟨2, .chain⟩], none⟩) rfl (fun K hK => ?_) AllReadyH.nil
 go_simp
 refine (iFindNd gN _ _ _ m _ _ _ cc l _ r HR.out (H_l.out.on BB.out) HXN.out (H_m.out.on BB.out) HLL.out HLP.out HMB.out).mono ?_
 rintro e wn2 ⟨rfl, hb⟩
 replace HXN := Lib.hid (HXN.out.on hb)
 replace BB := Lib.hid (BB.out.trans (hb.mono BB.out.size))
 clear hb
 (try go_wp2_with fail)
 clear hHeld
 refine hK.out _ _ ?_ (fun hHeld => ?_)
 ·
  (try dsimp only); exact ⟨kc K0.out BB.out, kc K1.out BB.out, kc K2.out BB.out⟩
 clear hK K
 (try simp only [Act.put, Row.pB0, Row.pB1, Row.pB2])
 refine wpAnyH_take (i := 4) (oi := ⟨some 8, .assign (.tmp 14), 3, "l12_cache.go:126", #[⟨3, .data⟩, ⟨3, .chain⟩, ⟨0, .phase⟩, ⟨1, .phase⟩, ⟨2, .phase⟩, ⟨3, .phase⟩], none⟩) (v := ?_) rfl (by kernel_rfl) (by kernel_rfl) (by kernel_rfl) (fun _ _ _ h => h) (Or.inl ⟨by rfl, ?_⟩) (by assumption) ?_
 rotate_left
 ·
  intro w' hSw; (try dsimp only at hSw); first | (go_simp; done) | (go_simp; with_reducible rfl)
 (try simp only [Act.put, Row.pB0, Row.pB1, Row.pB2])
 refine wpAnyH_done (by kernel_rfl) ?_ _
 exact NoPanic.normal (HQ.out _ _ _  _  BB.out)
theorem put_used {B : Nat} {w : World} {g n cap j : Nat} {L : List Cem} {now : Int} (h : kLCe.Own B w.heap.size w ⟨some ⟨g, 0, none⟩, n, cap, L⟩) (hn : n = L.length) (hj : j < L.length) :
    kLCe.Own B (w.setCell ⟨g, j * 6 + 5, none⟩ (.int .i64 now)).heap.size (w.setCell ⟨g, j * 6 + 5, none⟩ (.int .i64 now)) ⟨some ⟨g, 0, none⟩, n, cap, L.set j ((nth L j).1, now)⟩ := by
  rw [World.size_setCell]
  exact (Kd.Own.put h hn hj (i := 5) (by decide) (u := .int .i64 now) (x' := (((nth L j).1, now) : Cem)) rfl rfl (fun h => h)).1
theorem touch_strip {L : List Cem} {j : Nat} {now : Int} (hj : j < L.length) : (L.set j (((nth L j).1, now) : Cem)).map kCe.strip = touchE (L.map kCe.strip) (j : Int) now := by
  unfold touchE
  rw [if_pos (by omega), List.map_set, Int.toNat_natCast, nth_map _ hj]
  rfl
set_option maxHeartbeats 8000000 in
theorem implTouch (V U : Value) (x : Cnt) (m : List ByteArray) (now : Int) (w : World) (h : kCn.At w V x) (g : kN.At w U m) (hp : FitC x) (hm : bulk m ≤ 1200000) :
    Calls Tryz.prog 16 #[V, U, .int .i64 now] w fun e w' => ∃ U, e = .returned U ∧ kCn.In w.heap.size w'.heap.size w' U (touchC x m now) ∧ Below w.heap.size w w' := by
  obtain ⟨xq, q, cy, rfl, g⟩ := kN_shapeA g
  obtain ⟨x1_0, n1_0, c1_0, rfl, g1⟩ := kCn_at h
  clear h
  obtain ⟨cc, l⟩ := x
  have hfit := hp
  obtain ⟨hl, hp7⟩ := hp.fields
  clear hp
  have hp := hp7
  clear hp7
  dsimp only at g1 hl hp ⊢
  have b0 := (Below.refl w.heap.size w).alloc (Nat.le_refl _) (.cells #[.int .i64 cc, .slice x1_0 n1_0 c1_0] 26)
  have b1 := (Below.refl (w.alloc (.cells #[.int .i64 cc, .slice x1_0 n1_0 c1_0] 26)).heap.size (w.alloc (.cells #[.int .i64 cc, .slice x1_0 n1_0 c1_0] 26))).alloc (Nat.le_refl _) (.cells #[.slice xq q cy] 29)
  have b2 := (Below.refl ((w.alloc (.cells #[.int .i64 cc, .slice x1_0 n1_0 c1_0] 26)).alloc (.cells #[.slice xq q cy] 29)).heap.size ((w.alloc (.cells #[.int .i64 cc, .slice x1_0 n1_0 c1_0] 26)).alloc (.cells #[.slice xq q cy] 29))).alloc (Nat.le_refl _) (.cells #[.int .i64 0, .slice none 0 0] 26)
  have b012 := (b0.trans (b1.mono b0.size)).trans (b2.mono (Nat.le_trans b0.size b1.size))
  have hX0 := ((Ret.Blk.new w #[.int .i64 cc, .slice x1_0 n1_0 c1_0] 26).on b1).on b2
  have hX1 := (Ret.Blk.new' (w := (w.alloc (.cells #[.int .i64 cc, .slice x1_0 n1_0 c1_0] 26))) (n := w.heap.size + 1) #[.slice xq q cy] 29 (by simp)).on b2
  have hX2 := Ret.Blk.new' (w := ((w.alloc (.cells #[.int .i64 cc, .slice x1_0 n1_0 c1_0] 26)).alloc (.cells #[.slice xq q cy] 29))) (n := w.heap.size + 1 + 1) #[.int .i64 0, .slice none 0 0] 26 (by simp)
  have hS3 : (((w.alloc (.cells #[.int .i64 cc, .slice x1_0 n1_0 c1_0] 26)).alloc (.cells #[.slice xq q cy] 29)).alloc (.cells #[.int .i64 0, .slice none 0 0] 26)).heap.size = w.heap.size + 3 := by simp
  have HA := Lib.hid (cn_of (cc := cc) (g1.on b012)); have HG := Lib.hid g; have HMB := Lib.hid hm
  have q0 : (((w.alloc (.cells #[.int .i64 cc, .slice x1_0 n1_0 c1_0] 26)).alloc (.cells #[.slice xq q cy] 29)).alloc (.cells #[.int .i64 0, .slice none 0 0] 26)).cell? ⟨w.heap.size, 0, none⟩ = some (.int .i64 cc) := hX0.cell 0
  have q1 : (((w.alloc (.cells #[.int .i64 cc, .slice x1_0 n1_0 c1_0] 26)).alloc (.cells #[.slice xq q cy] 29)).alloc (.cells #[.int .i64 0, .slice none 0 0] 26)).cell? ⟨w.heap.size, 1, none⟩ = some (.slice x1_0 n1_0 c1_0) := hX0.cell 1
  go_enter Tryz.func16, Tryz.ntmps16
  go_wp2_with fail
  refine (implCloneStore _ (cc, l) _ HA.out hfit).mono ?_
  rintro e w1 ⟨U, rfl, hi, hb1⟩
  obtain ⟨m, rfl, hs, hi⟩ := hi.split
  obtain ⟨ce, r⟩ := m
  obtain ⟨xu, nu, cu, Lu⟩ := r
  obtain ⟨rfl, hsl⟩ : ce = cc ∧ Lu.map kCe.strip = l := by
    have e1 : (ce, Lu.map kCe.strip) = (cc, l) := hs
    injection e1 with e1 e2
    exact ⟨e1, e2⟩
  obtain ⟨-, hi2, -⟩ := Kd.Own.parts hi
  rw [hS3] at hi2
  rw [show kCn.val ((ce, (⟨xu, nu, cu, Lu⟩ : Rw Cem)) : Cnm) = .agg #[.int .i64 ce, .slice xu nu cu] from rfl]
  have hal := (Below.refl w1.heap.size w1).alloc (Nat.le_refl _) (.cells #[.int .i64 ce, .slice xu nu cu] 60)
  have HG1 := Lib.hid (show w.heap.size + 3 ≤ w1.heap.size by rw [← hS3]; exact hb1.size)
  have HX0 := Lib.hid ((hX0.on hb1).on hal); have HX1 := Lib.hid ((hX1.on hb1).on hal); have HX2 := Lib.hid ((hX2.on hb1).on hal)
  have HXD := Lib.hid (Ret.Blk.new w1 #[.int .i64 ce, .slice xu nu cu] 60)
  have HO := Lib.hid (hi2.upto hal); have HSL := Lib.hid hsl
  have HB := Lib.hid (b012.trans ((hb1.trans (hal.mono hb1.size)).mono b012.size))
  have HLU := Lib.hid (show Lu.length ≤ 1100000 by have h9 := hl; rw [← hsl, List.length_map] at h9; exact h9)
  have HPU := Lib.hid (show ∀ x ∈ Lu.map kCe.strip, wtCe x ≤ 1200000 by rw [hsl]; exact hp)
  clear hi hi2 hs hsl hb1 hal hX0 hX1 hX2 b0 b1 b2 b012 g1 g hm HA hfit hl hp hS3 q0 q1
  go_wp2_with fail
  obtain ⟨z, hz⟩ : ∃ z, ixL (isE m) l = z := ⟨_, rfl⟩
  have HZ := Lib.hid hz; clear hz
  have HLA : Hid (kLCe.At (w1.alloc (.cells #[.int .i64 ce, .slice xu nu cu] 60)) (.slice xu nu cu) l) := Lib.hid ⟨⟨xu, nu, cu, Lu⟩, rfl, HSL.out, HO.out.holds⟩
  refine rto (l := l) (m := m) HZ HLA (Lib.hid (HG.out.on HB.out)) (Lib.hid (by rw [← HSL.out, List.length_map]; have := HLU.out; omega)) (Lib.hid (by rw [← HSL.out]; exact HPU.out)) HMB (Lib.hid (HXD.out.cell 0)) (Lib.hid (HXD.out.cell 1)) (Lib.hid (HX1.out.cell 0)) ?_
  intro u11 u12 u13 wx hbx
  replace HX2 := Lib.hid (HX2.out.on hbx); replace HXD := Lib.hid (HXD.out.on hbx); replace HO := Lib.hid (HO.out.upto hbx); replace HB := Lib.hid (HB.out.trans (hbx.mono HB.out.size))
  clear hbx HX0 HX1 HLA
  rcases ixL_cases (isE m) l with ⟨e1, -⟩ | ⟨k, hk, e1, -, -⟩
  · obtain rfl : z = -1 := by rw [← HZ.out]; exact e1
    have HRES : Hid (Lu.map kCe.strip = touchE l (ixL (isE m) l) now) := Lib.hid (by rw [HSL.out, e1]; rfl)
    clear e1
    have p0 : wx.cell? ⟨w1.heap.size, 0, none⟩ = some (.int .i64 ce) := HXD.out.cell 0
    have p1 : wx.cell? ⟨w1.heap.size, 1, none⟩ = some (.slice xu nu cu) := HXD.out.cell 1
    have r0 := HX2.out.frozen 0; have r1 := HX2.out.frozen 1; have r2 := HX2.out.cell 0; have r3 := HX2.out.cell 1
    have Z := Lib.hid ((HX2.out.set 0 (.int .i64 ce)).set 1 (.slice xu nu cu))
    have ZO := Lib.hid (own_setS (i := 1) (u := .slice xu nu cu) (own_setS (i := 0) (u := .int .i64 ce) HO.out (g := w.heap.size + 1 + 1) (by omega)) (g := w.heap.size + 1 + 1) (by omega))
    have ZB := Lib.hid ((HB.out.setCell (p := ⟨w.heap.size + 1 + 1, 0, none⟩) (by show w.heap.size ≤ w.heap.size + 1 + 1; omega) (.int .i64 ce)).setCell (p := ⟨w.heap.size + 1 + 1, 1, none⟩) (by show w.heap.size ≤ w.heap.size + 1 + 1; omega) (.slice xu nu cu))
    go_wp2_with fail
    refine bodyPost_ret (Ret.results_c rfl _ _ (w.heap.size + 1 + 1) [.int .i64 ce, .slice xu nu cu] rfl aggCn Z.out.cells) rfl ?_
    exact ⟨_, rfl, cn_in ZO.out (by omega) HRES.out ZB.out.size, ZB.out⟩
  · obtain rfl : z = (k : Int) := by rw [← HZ.out]; exact e1
    have hkL : k < Lu.length := by rw [← HSL.out, List.length_map] at hk; exact hk
    have hnl : nu = Lu.length := HO.out.1.1.holds.lenEq
    have hnc : nu ≤ cu := by obtain ⟨x', n', cap', hv, hn', hc', -⟩ := HO.out.1.1.holds.shapeN; cases hv; exact hc'
    rcases HO.out.1.1.form with ⟨hv, hL⟩ | ⟨gR, cap', hv, h1, h2, h3, h4⟩
    · rw [show Lu = [] from hL] at hkL
      exact absurd hkL (by simp)
    · replace hv : Value.slice xu nu cu = .slice (some ⟨gR, 0, none⟩) Lu.length cap' := hv
      injection hv with e5 e6 e7
      subst e5
      have HRES : Hid ((Lu.set k (((nth Lu k).1, now) : Cem)).map kCe.strip = touchE l (ixL (isE m) l) now) := Lib.hid (by rw [touch_strip hkL, HSL.out, e1])
      have hkn : k < nu := by omega
      have hkc : k ≤ cu := by omega
      have HNL := Lib.hid hnl; have HKL := Lib.hid hkL
      have c5 : wx.cell? ⟨gR, k * 6 + 5, none⟩ = (kCe.cells (nth Lu k))[5]? := (ownK_cell szCe_cells HO.out.1.1 hnl hkL (i := 5) (by decide)).1
      have f5 : wx.frozen? ⟨gR, k * 6 + 5, none⟩ = false := (ownK_cell szCe_cells HO.out.1.1 hnl hkL (i := 5) (by decide)).2
      obtain ⟨z5, hz5⟩ : ∃ z, wx.cell? ⟨gR, k * 6 + 5, none⟩ = some z := ⟨_, c5.trans (List.getElem?_eq_getElem (by rw [kCe.len]; decide))⟩
      have k1 : wx.cell? ⟨w1.heap.size, 1, none⟩ = some (.slice (some ⟨gR, 0, none⟩) nu cu) := HXD.out.cell 1
      have HNE : Hid (gR ≠ w1.heap.size) := Lib.hid (fun e => row_ne_blk HO.out.1.1 HXD.out (by decide) (by rw [← e]; rfl))
      have HR3 := Lib.hid (show w.heap.size + 3 ≤ gR from h1)
      clear e1 e6 e7 h1 h2 h3 h4 c5 hnl hkL
      have HO5 := Lib.hid (put_used (now := now) HO.out HNL.out HKL.out)
      have HXD5 := Lib.hid (HXD.out.other (a := ⟨gR, k * 6 + 5, none⟩) HNE.out (.int .i64 now))
      have HX25 := Lib.hid (HX2.out.other (a := ⟨gR, k * 6 + 5, none⟩) (by show gR ≠ w.heap.size + 1 + 1; have := HR3.out; omega) (.int .i64 now))
      have HB5 := Lib.hid (HB.out.setCell (p := ⟨gR, k * 6 + 5, none⟩) (by show w.heap.size ≤ gR; have := HR3.out; omega) (.int .i64 now))
      clear HO HXD HX2 HB
      have p0 : (wx.setCell ⟨gR, k * 6 + 5, none⟩ (.int .i64 now)).cell? ⟨w1.heap.size, 0, none⟩ = some (.int .i64 ce) := HXD5.out.cell 0
      have p1 : (wx.setCell ⟨gR, k * 6 + 5, none⟩ (.int .i64 now)).cell? ⟨w1.heap.size, 1, none⟩ = some (.slice (some ⟨gR, 0, none⟩) nu cu) := HXD5.out.cell 1
      have r0 := HX25.out.frozen 0; have r1 := HX25.out.frozen 1; have r2 := HX25.out.cell 0; have r3 := HX25.out.cell 1
      have Z := Lib.hid ((HX25.out.set 0 (.int .i64 ce)).set 1 (.slice (some ⟨gR, 0, none⟩) nu cu))
      have ZO := Lib.hid (own_setS (i := 1) (u := .slice (some ⟨gR, 0, none⟩) nu cu) (own_setS (i := 0) (u := .int .i64 ce) HO5.out (g := w.heap.size + 1 + 1) (by omega)) (g := w.heap.size + 1 + 1) (by omega))
      have ZB := Lib.hid ((HB5.out.setCell (p := ⟨w.heap.size + 1 + 1, 0, none⟩) (by show w.heap.size ≤ w.heap.size + 1 + 1; omega) (.int .i64 ce)).setCell (p := ⟨w.heap.size + 1 + 1, 1, none⟩) (by show w.heap.size ≤ w.heap.size + 1 + 1; omega) (.slice (some ⟨gR, 0, none⟩) nu cu))
      go_wp2_with fail
      refine bodyPost_ret (Ret.results_c rfl _ _ (w.heap.size + 1 + 1) [.int .i64 ce, .slice (some ⟨gR, 0, none⟩) nu cu] rfl aggCn Z.out.cells) rfl ?_
      exact ⟨_, rfl, cn_in ZO.out (by omega) HRES.out ZB.out.size, ZB.out⟩
end Go.Proofs.YtfglcmanmfenpaaGreat.Row
/- EqualContentStores, model and program. No conditions but that lengths fit. -/
namespace Go.Proofs.YtfglcmanmfenpaaGreat.Row
open Go.ChangeShapes Go.WideShapes Go.ChangeAt Go.RowKit Go.Instr
set_option linter.unusedVariables false
set_option maxRecDepth 100000
theorem eq_step {l m : List Cet} {k : Nat} (h : l.take k = m.take k) (hl : k < l.length) (hm : k < m.length) (he : nth l k = nth m k) : l.take (k + 1) = m.take (k + 1) := by rw [take_nx hl, take_nx hm, h, he]
theorem ne_step {l m : List Cet} {k : Nat} (he : nth l k ≠ nth m k) : l ≠ m := fun e => he (by rw [e])
set_option maxHeartbeats 4000000 in
theorem iEqEnt (V U : Value) (x y : Cet) (w : World) (q : Bool) (hq : decide (x = y) = q) (h : kCe.At w V x) (g : kCe.At w U y) (hi : inDz x.1) (hj : inDz y.1) (hp : wtCe x ≤ 1200000) (hp' : wtCe y ≤ 1200000) :
    Calls Tryz.prog 57 #[V, U] w fun e w' => e = .returned (.bool q) ∧ Below w.heap.size w w' := by
  obtain ⟨y0, m0, d0, y1, m1, d1, y2, m2, d2, rfl, h⟩ := kCe_shapeA h
  obtain ⟨z0, m3, d3, z1, m4, d4, z2, m5, d5, rfl, g⟩ := kCe_shapeA g
  have b0 := (Below.refl w.heap.size w).alloc (Nat.le_refl _) (.cells #[.slice y0 m0 d0, .slice y1 m1 d1, .slice y2 m2 d2, .int .i64 x.1.2.2.2.1, .int .i64 x.1.2.2.2.2, .int .i64 x.2] 64)
  have b1 := (Below.refl (w.alloc (.cells #[.slice y0 m0 d0, .slice y1 m1 d1, .slice y2 m2 d2, .int .i64 x.1.2.2.2.1, .int .i64 x.1.2.2.2.2, .int .i64 x.2] 64)).heap.size (w.alloc (.cells #[.slice y0 m0 d0, .slice y1 m1 d1, .slice y2 m2 d2, .int .i64 x.1.2.2.2.1, .int .i64 x.1.2.2.2.2, .int .i64 x.2] 64))).alloc (Nat.le_refl _) (.cells #[.slice z0 m3 d3, .slice z1 m4 d4, .slice z2 m5 d5, .int .i64 y.1.2.2.2.1, .int .i64 y.1.2.2.2.2, .int .i64 y.2] 64)
  have b01 := b0.trans (b1.mono b0.size)
  have HX := Lib.hid ((Ret.Blk.new w #[.slice y0 m0 d0, .slice y1 m1 d1, .slice y2 m2 d2, .int .i64 x.1.2.2.2.1, .int .i64 x.1.2.2.2.2, .int .i64 x.2] 64).on b1)
  have HY := Lib.hid (Ret.Blk.new' (w := (w.alloc (.cells #[.slice y0 m0 d0, .slice y1 m1 d1, .slice y2 m2 d2, .int .i64 x.1.2.2.2.1, .int .i64 x.1.2.2.2.2, .int .i64 x.2] 64))) (n := w.heap.size + 1) #[.slice z0 m3 d3, .slice z1 m4 d4, .slice z2 m5 d5, .int .i64 y.1.2.2.2.1, .int .i64 y.1.2.2.2.2, .int .i64 y.2] 64 (by simp))
  have HD := Lib.hid ((kCe_parts h).1.on b01); have HD2 := Lib.hid ((kCe_parts g).1.on b01); have HB := Lib.hid b01
  obtain ⟨a, ha⟩ : ∃ a, decide (x.1 = y.1) = a := ⟨_, rfl⟩
  have HA := Lib.hid ha
  have HQ : Hid (q = (a && decide (x.2 = y.2))) := Lib.hid (by rw [← hq, ← ha]; simp [Prod.ext_iff])
  have HI := Lib.hid hi; have HJ := Lib.hid hj; have HP := Lib.hid (show wtDz x.1 ≤ 9000000 from Nat.le_trans hp (by decide)); have HP' := Lib.hid (show wtDz y.1 ≤ 9000000 from Nat.le_trans hp' (by decide))
  clear b0 b1 b01 h g ha hq hi hj hp hp'
  go_enter Tryz.func57, Tryz.ntmps57
  go_wp2_with fail
  refine (iEqZ a HA.out HD.out HD2.out HI.out HJ.out HP.out HP'.out).mono ?_
  rintro e w1 ⟨rfl, hb⟩
  have f5 : w1.cell? ⟨w.heap.size, 5, none⟩ = some (.int .i64 x.2) := (HX.out.on hb).cell 5
  have g5 : w1.cell? ⟨w.heap.size + 1, 5, none⟩ = some (.int .i64 y.2) := (HY.out.on hb).cell 5
  have HB2 := Lib.hid (HB.out.trans (hb.mono HB.out.size)); clear hb
  cases a with
  | false =>
    have HE : Hid (q = false) := Lib.hid (by rw [HQ.out]; rfl)
    go_wp2
    go_ret
    exact ⟨ret_bool HE.out.symm, HB2.out⟩
  | true =>
    by_cases hu : x.2 = y.2
    · have HE : Hid (q = true) := Lib.hid (by rw [HQ.out]; simp [hu])
      have t0 : (x.2 == y.2) = true := by simp [hu]
      have HU := Lib.hid hu; clear hu
      go_wp2
      go_ret
      exact ⟨ret_bool HE.out.symm, HB2.out⟩
    · have HE : Hid (q = false) := Lib.hid (by rw [HQ.out]; simp [hu])
      have t0 : (x.2 == y.2) = false := by simpa using hu
      clear hu
      go_wp2
      go_ret
      exact ⟨ret_bool HE.out.symm, HB2.out⟩
set_option maxHeartbeats 8000000 in
theorem iEqFunc (x1 x2 : Option Addr) (n1 c1 n2 c2 : Nat) (l m : List Cet) (w : World) (z : Bool) (hz : decide (l = m) = z) (h : kLCe.At w (.slice x1 n1 c1) l) (g : kLCe.At w (.slice x2 n2 c2) m) (hin : ∀ x ∈ l, inDz x.1) (hin' : ∀ x ∈ m, inDz x.1) (hl : l.length ≤ 1100000) (hl' : m.length ≤ 1100000) (hp : ∀ x ∈ l, wtCe x ≤ 1200000) (hp' : ∀ x ∈ m, wtCe x ≤ 1200000) :
    Calls Tryz.prog 81 #[.slice x1 n1 c1, .slice x2 n2 c2, .func (.func 57) #[] #[]] w fun e w' => e = .returned (.bool z) ∧ Below w.heap.size w w' := by
  obtain ⟨x, n, cx, L, e9, hn, ht, hh, hel⟩ := kLCe_at h
  cases e9
  obtain ⟨x, n, cx, M, e9, hn2, ht2, hh2, hel2⟩ := kLCe_at g
  cases e9
  have hlen : l.length = n1 := by rw [← ht, List.length_map]; exact hn.symm
  have hlen2 : m.length = n2 := by rw [← ht2, List.length_map]; exact hn2.symm
  rw [hlen] at hl
  rw [hlen2] at hl'
  have hcap : n1 ≤ c1 := by obtain ⟨x', n', cap', hv, hn', hc', -⟩ := hh.shapeN; cases hv; exact hc'
  have hcap2 : n2 ≤ c2 := by obtain ⟨x', n', cap', hv, hn', hc', -⟩ := hh2.shapeN; cases hv; exact hc'
  have HZ := Lib.hid hz
  have HN := Lib.hid hn; have HT := Lib.hid ht; have HH := Lib.hid hh; have HEL := Lib.hid hel; have HLEN := Lib.hid hlen; have HP := Lib.hid hp; have HIN := Lib.hid hin
  have HN2 := Lib.hid hn2; have HT2 := Lib.hid ht2; have HH2 := Lib.hid hh2; have HEL2 := Lib.hid hel2; have HLEN2 := Lib.hid hlen2; have HP2 := Lib.hid hp'; have HIN2 := Lib.hid hin'
  clear hz h g hn ht hh hel hlen hp hin hn2 ht2 hh2 hel2 hlen2 hp' hin'
  by_cases hnn : n1 = n2
  · have tn : (((n1 : Nat) : Int) != ((n2 : Nat) : Int)) = false := by rw [hnn]; simp
    have HNN := Lib.hid hnn
    clear hnn
    go_enter Tryz.func81, Tryz.ntmps81
    go_wp2
    go_loopw [17] (fun iv wr => ∃ i : Nat, i ≤ n1 ∧ iv = .int .i64 i ∧ Hid (l.take i = m.take i) ∧ Hid (Below w.heap.size w wr)) (fun iv _ => n1 - (intOf iv).toNat)
    case atStart => exact ⟨0, Nat.zero_le _, rfl, Lib.hid rfl, Lib.hid (Below.refl _ _)⟩
    case round =>
      obtain ⟨k, hk, rfl, ha, hb⟩ := hrel
      by_cases hlt : k < n1
      · have hlt2 : k < n2 := by have := HNN.out; omega
        have hlen := HN.out
        obtain ⟨b, off, y0, m0, d0, y1, m1, d1, y2, m2, d2, rfl, -, hc0, hc1, hc2, hc3, hc4, hc5, hA⟩ := kLCe_elem (HH.out.on hb.out) (fun y hy => kCe.holds_on (HEL.out y hy) hb.out) (j := k) (by omega)
        have hpt : nth l k = kCe.strip (nth L k) := by rw [← HT.out, nth_map _ (by omega)]
        have hps := HP.out (nth l k) (nth_mem (by have := HLEN.out; omega))
        rw [← hpt] at hA hc3 hc4 hc5
        obtain ⟨hD, hNM⟩ := kCe_parts hA
        have HA := Lib.hid hA; have HD := Lib.hid hD; have HNM := Lib.hid hNM; have HPS := Lib.hid hps; have HPD := Lib.hid (show wtDz (nth l k).1 ≤ 1200000 from hps); have HPN := Lib.hid (show bulk (nth l k).1.1 ≤ 1200000 from (wtDz_lens _ hps).1)
        have H0 := Lib.hid hc0; have H1 := Lib.hid hc1; have H2 := Lib.hid hc2; have H3 := Lib.hid hc3; have H4 := Lib.hid hc4; have H5 := Lib.hid hc5
        clear hlen hpt hps hA hD hNM
        have hlen2 := HN2.out
        obtain ⟨b', off', z0, m3, d3, z1, m4, d4, z2, m5, d5, rfl, -, gc0, gc1, gc2, gc3, gc4, gc5, hA2⟩ := kLCe_elem (HH2.out.on hb.out) (fun y hy => kCe.holds_on (HEL2.out y hy) hb.out) (j := k) (by omega)
        have hpt2 : nth m k = kCe.strip (nth M k) := by rw [← HT2.out, nth_map _ (by omega)]
        have hps2 := HP2.out (nth m k) (nth_mem (by have := HLEN2.out; omega))
        have hin2 := HIN2.out (nth m k) (nth_mem (by have := HLEN2.out; omega))
        have hin1 := HIN.out (nth l k) (nth_mem (by have := HLEN.out; omega))
        rw [← hpt2] at hA2 gc3 gc4 gc5
        obtain ⟨hD2, -⟩ := kCe_parts hA2
        have HA2 := Lib.hid hA2; have HD2 := Lib.hid hD2; have HI1 := Lib.hid hin1; have HI2 := Lib.hid hin2; have HPS2 := Lib.hid hps2; have HPD2 := Lib.hid (show wtDz (nth m k).1 ≤ 1200000 from hps2)
        have G0 := Lib.hid gc0; have G1 := Lib.hid gc1; have G2 := Lib.hid gc2; have G3 := Lib.hid gc3; have G4 := Lib.hid gc4; have G5 := Lib.hid gc5
        clear hlen2 hpt2 hps2 hA2 hD2 hin1 hin2
        have hal := (Below.refl wr.heap.size wr).alloc (Nat.le_refl _) (.cells #[.slice y0 m0 d0, .slice y1 m1 d1, .slice y2 m2 d2, .int .i64 (nth l k).1.2.2.2.1, .int .i64 (nth l k).1.2.2.2.2, .int .i64 (nth l k).2] 64)
        have hal2 := hal.alloc hal.size (.cells #[.slice z0 m3 d3, .slice z1 m4 d4, .slice z2 m5 d5, .int .i64 (nth m k).1.2.2.2.1, .int .i64 (nth m k).1.2.2.2.2, .int .i64 (nth m k).2] 64)
        have hx := (Ret.Blk.new wr #[.slice y0 m0 d0, .slice y1 m1 d1, .slice y2 m2 d2, .int .i64 (nth l k).1.2.2.2.1, .int .i64 (nth l k).1.2.2.2.2, .int .i64 (nth l k).2] 64)
        have k0 := kc gc0 hal; have k1 := kc gc1 hal; have k2 := kc gc2 hal; have k3 := kc gc3 hal; have k4 := kc gc4 hal; have k5 := kc gc5 hal
        have HA3 := Lib.hid (HA.out.on hal2); have HA4 := Lib.hid (HA2.out.on hal2); have HB2 := Lib.hid (hb.out.trans (hal2.mono hb.out.size))
        obtain ⟨q, hq⟩ : ∃ q, decide (nth l k = nth m k) = q := ⟨_, rfl⟩
        have HQ := Lib.hid hq
        clear hal hal2 hx hq
        go_wp2_with fail
        refine (iEqEnt _ _ (nth l k) (nth m k) _ q HQ.out HA3.out HA4.out HI1.out HI2.out HPS.out HPS2.out).mono ?_
        rintro e w5 ⟨rfl, hb5⟩
        have HB3 := Lib.hid (HB2.out.trans (hb5.mono HB2.out.size))
        clear hb5 hc0 hc1 hc2 hc3 hc4 hc5 gc0 gc1 gc2 gc3 gc4 gc5 k0 k1 k2 k3 k4 k5
        cases q with
        | true =>
          have HA5 := Lib.hid (eq_step ha.out (by have := HLEN.out; omega) (by have := HLEN2.out; omega) (of_decide_eq_true HQ.out))
          go_wp2
          go_roundw
          case rel => exact ⟨k + 1, by omega, by go_num, HA5, HB3⟩
          case measure => simp [intOf]; omega
        | false =>
          have HE : Hid (z = false) := Lib.hid (by rw [← HZ.out]; exact decide_eq_false (ne_step (k := k) (of_decide_eq_false HQ.out)))
          go_wp2
          go_ret
          exact ⟨ret_bool HE.out.symm, HB3.out⟩
      · obtain rfl : k = n1 := by omega
        have HE : Hid (z = true) := Lib.hid (by
          rw [← HZ.out]
          have h1 := ha.out
          rw [List.take_of_length_le (by rw [HLEN.out]; exact Nat.le_refl _), List.take_of_length_le (by rw [HLEN2.out, HNN.out]; exact Nat.le_refl _)] at h1
          exact decide_eq_true h1)
        clear hlt
        go_wp2
        go_ret
        exact ⟨ret_bool HE.out.symm, hb.out⟩
  · have tn : (((n1 : Nat) : Int) != ((n2 : Nat) : Int)) = true := by rw [bne_iff_ne]; omega
    have HE : Hid (z = false) := Lib.hid (by rw [← HZ.out]; exact decide_eq_false (fun e => hnn (by rw [← HLEN.out, ← HLEN2.out, e])))
    go_enter Tryz.func81, Tryz.ntmps81
    go_wp2
    go_ret
    exact ⟨ret_bool HE.out.symm, Below.refl _ _⟩
set_option maxHeartbeats 4000000 in
theorem iEquals (x1 x2 : Option Addr) (n1 c1 n2 c2 : Nat) (ca_ cb_ : Int) (l m : List Cet) (w : World) (z : Bool) (hz : eqC (ca_, l) (cb_, m) = z) (h : kLCe.At w (.slice x1 n1 c1) l) (g : kLCe.At w (.slice x2 n2 c2) m) (hin : ∀ x ∈ l, inDz x.1) (hin' : ∀ x ∈ m, inDz x.1) (hl : l.length ≤ 1100000) (hl' : m.length ≤ 1100000) (hp : ∀ x ∈ l, wtCe x ≤ 1200000) (hp' : ∀ x ∈ m, wtCe x ≤ 1200000) :
    Calls Tryz.prog 56 #[.agg #[.int .i64 ca_, .slice x1 n1 c1], .agg #[.int .i64 cb_, .slice x2 n2 c2], .func (.func 57) #[] #[]] w fun e w' => e = .returned (.bool z) ∧ Below w.heap.size w w' := by
  have b0 := (Below.refl w.heap.size w).alloc (Nat.le_refl _) (.cells #[.int .i64 ca_, .slice x1 n1 c1] 60)
  have b1 := (Below.refl (w.alloc (.cells #[.int .i64 ca_, .slice x1 n1 c1] 60)).heap.size (w.alloc (.cells #[.int .i64 ca_, .slice x1 n1 c1] 60))).alloc (Nat.le_refl _) (.cells #[.int .i64 cb_, .slice x2 n2 c2] 60)
  have b01 := b0.trans (b1.mono b0.size)
  obtain ⟨a, ha⟩ : ∃ a, decide (l = m) = a := ⟨_, rfl⟩
  have HC := Lib.hid (iEqFunc x1 x2 n1 c1 n2 c2 l m _ a ha (h.on b01) (g.on b01) hin hin' hl hl' hp hp')
  have HB := Lib.hid b01
  by_cases hc : ca_ = cb_
  · have tc : (ca_ == cb_) = true := by simp [hc]
    have HE : Hid (z = a) := Lib.hid (by rw [← hz, ← ha]; unfold eqC; simp [hc])
    have HCC := Lib.hid hc
    clear b0 b1 b01 ha h g hin hin' hp hp' hz hc
    go_enter Tryz.func56, Tryz.ntmps56
    go_wp2_with fail
    refine HC.out.mono ?_
    rintro e w1 ⟨rfl, hb⟩
    have HB2 := Lib.hid (HB.out.trans (hb.mono HB.out.size)); clear hb
    go_wp2
    go_ret
    exact ⟨ret_bool HE.out.symm, HB2.out⟩
  · have tc : (ca_ == cb_) = false := by simpa using hc
    have HE : Hid (z = false) := Lib.hid (by rw [← hz]; unfold eqC; exact decide_eq_false (fun e => hc (congrArg Prod.fst e)))
    clear b0 b1 b01 ha h g hin hin' hp hp' hz hc
    go_enter Tryz.func56, Tryz.ntmps56
    go_wp2
    go_ret
    exact ⟨ret_bool HE.out.symm, HB.out⟩
set_option maxHeartbeats 4000000 in
theorem implEqualCn (V U : Value) (x y : Cnt) (w : World) (z : Bool) (hz : eqC x y = z) (h : kCn.At w V x) (g : kCn.At w U y) (hix : inCn x) (hiy : inCn y) (hpx : FitC x) (hpy : FitC y) :
    Calls Tryz.prog 20 #[V, U] w fun e w' => e = .returned (.bool z) ∧ Below w.heap.size w w' := by
  obtain ⟨x1, n1, c1, rfl, g1⟩ := kCn_at h
  obtain ⟨x2, n2, c2, rfl, g2⟩ := kCn_at g
  clear h g
  obtain ⟨ca_, l⟩ := x
  obtain ⟨cb_, m⟩ := y
  obtain ⟨hl, hp⟩ := hpx.fields
  obtain ⟨hl', hp'⟩ := hpy.fields
  dsimp only at g1 g2 hl hp hl' hp' ⊢
  have b0 := (Below.refl w.heap.size w).alloc (Nat.le_refl _) (.cells #[.int .i64 ca_, .slice x1 n1 c1] 26)
  have b1 := (Below.refl (w.alloc (.cells #[.int .i64 ca_, .slice x1 n1 c1] 26)).heap.size (w.alloc (.cells #[.int .i64 ca_, .slice x1 n1 c1] 26))).alloc (Nat.le_refl _) (.cells #[.int .i64 cb_, .slice x2 n2 c2] 26)
  have b01 := b0.trans (b1.mono b0.size)
  have HC := Lib.hid (iEquals x1 x2 n1 c1 n2 c2 ca_ cb_ l m _ z hz (g1.on b01) (g2.on b01) (fun x hx => (hix.2.2 x hx).1) (fun x hx => (hiy.2.2 x hx).1) hl hl' hp hp')
  have HB := Lib.hid b01
  clear b0 b1 b01 g1 g2 hl hp hl' hp' hz hix hiy hpx hpy
  go_enter Tryz.func20, Tryz.ntmps20
  go_wp2_with fail
  refine HC.out.mono ?_
  rintro e w1 ⟨rfl, hb⟩
  have HB2 := Lib.hid (HB.out.trans (hb.mono HB.out.size)); clear hb
  go_wp2
  go_ret
  exact ⟨rfl, HB2.out⟩
end Go.Proofs.YtfglcmanmfenpaaGreat.Row
/- laws.sameThing: packets compared. No conditions but that lengths fit. -/
namespace Go.Proofs.YtfglcmanmfenpaaGreat.Row
open Go.ChangeShapes Go.WideShapes Go.ChangeAt Go.RowKit Go.Instr
set_option linter.unusedVariables false
set_option maxRecDepth 100000
set_option maxHeartbeats 4000000 in
theorem sameThing (a b c a2 b2 c2 : Value) (x y : Dt) (w : World) (q : Bool) (hq : decide (x = y) = q) (h : DHold w a b c x) (g : DHold w a2 b2 c2 y) (hB : Sl.Byt x.2.1) (gB : Sl.Byt y.2.1) (h1 : x.1.length ≤ 9000000) (h2 : x.2.1.length ≤ 9000000) (h3 : x.2.2.1.length ≤ 9000000) (g1 : y.1.length ≤ 9000000) (g2 : y.2.1.length ≤ 9000000) (g3 : y.2.2.1.length ≤ 9000000) :
    Calls Tryz.prog 15 #[.agg (dc a b c x.2.2.2.1 x.2.2.2.2), .agg (dc a2 b2 c2 y.2.2.2.1 y.2.2.2.2)] w fun e w' => e = .returned (.bool q) ∧ Below w.heap.size w w' := by
  obtain ⟨l, m, k, f, s⟩ := x
  obtain ⟨l2, m2, k2, f2, s2⟩ := y
  simp only at h1 h2 h3 g1 g2 g3 hB gB ⊢
  obtain ⟨xa, na, ca, xb, nb, cb, xc, nc, cc, rfl, rfl, rfl⟩ := h.shape
  obtain ⟨ua, va, oa, ub, vb, ob, uc, vc, oc, rfl, rfl, rfl⟩ := g.shape
  have hb0 := (Below.refl w.heap.size w).alloc (Nat.le_refl _) (.cells (dc (.slice xa na ca) (.slice xb nb cb) (.slice xc nc cc) f s) 31)
  have HB := Lib.hid (hb0.alloc (by simp) (.cells (dc (.slice ua va oa) (.slice ub vb ob) (.slice uc vc oc) f2 s2) 31))
  have H0 := Lib.hid h; have G0 := Lib.hid g; have HY1 := Lib.hid hB; have HY2 := Lib.hid gB
  have HX := Lib.hid ((Ret.Blk.new w (dc (.slice xa na ca) (.slice xb nb cb) (.slice xc nc cc) f s) 31).on ((Below.refl _ _).alloc (Nat.le_refl _) (.cells (dc (.slice ua va oa) (.slice ub vb ob) (.slice uc vc oc) f2 s2) 31)))
  have HY := Lib.hid (Ret.Blk.new' (w := w.alloc (.cells (dc (.slice xa na ca) (.slice xb nb cb) (.slice xc nc cc) f s) 31)) (n := w.heap.size + 1) (dc (.slice ua va oa) (.slice ub vb ob) (.slice uc vc oc) f2 s2) 31 (by simp))
  have HQ := Lib.hid hq
  clear h g hq hb0 hB gB
  go_enter Tryz.func15, Tryz.ntmps15
  go_wp2_with fail
  refine (sameName _ _ l l2 _ (H0.out.on HB.out).1 (G0.out.on HB.out).1 (by omega) (by omega)).mono ?_
  rintro e w1 ⟨rfl, hb⟩
  replace HX := Lib.hid (HX.out.on hb); replace HY := Lib.hid (HY.out.on hb)
  replace HB := Lib.hid (HB.out.trans (hb.mono HB.out.size)); clear hb
  have q0 : w1.cell? ⟨w.heap.size, 0, none⟩ = some (.slice xa na ca) := HX.out.cell 0
  have q1 : w1.cell? ⟨w.heap.size, 1, none⟩ = some (.slice xb nb cb) := HX.out.cell 1
  have q2 : w1.cell? ⟨w.heap.size, 2, none⟩ = some (.slice xc nc cc) := HX.out.cell 2
  have q3 : w1.cell? ⟨w.heap.size, 3, none⟩ = some (.int .i64 f) := HX.out.cell 3
  have q4 : w1.cell? ⟨w.heap.size, 4, none⟩ = some (.int .i64 s) := HX.out.cell 4
  have p0 : w1.cell? ⟨w.heap.size + 1, 0, none⟩ = some (.slice ua va oa) := HY.out.cell 0
  have p1 : w1.cell? ⟨w.heap.size + 1, 1, none⟩ = some (.slice ub vb ob) := HY.out.cell 1
  have p2 : w1.cell? ⟨w.heap.size + 1, 2, none⟩ = some (.slice uc vc oc) := HY.out.cell 2
  have p3 : w1.cell? ⟨w.heap.size + 1, 3, none⟩ = some (.int .i64 f2) := HY.out.cell 3
  have p4 : w1.cell? ⟨w.heap.size + 1, 4, none⟩ = some (.int .i64 s2) := HY.out.cell 4
  by_cases e1 : l = l2
  · rw [eqB_true e1]
    go_wp2_with fail
    clear q0 q1 q2 q3 q4 p0 p1 p2 p3 p4
    refine (Sl.sameB _ _ m m2 _ (H0.out.on HB.out).2.1 (G0.out.on HB.out).2.1 (by omega) (by omega)).mono ?_
    rintro e w2 ⟨rfl, hb⟩
    replace HX := Lib.hid (HX.out.on hb); replace HY := Lib.hid (HY.out.on hb)
    replace HB := Lib.hid (HB.out.trans (hb.mono HB.out.size)); clear hb
    have q0 : w2.cell? ⟨w.heap.size, 0, none⟩ = some (.slice xa na ca) := HX.out.cell 0
    have q1 : w2.cell? ⟨w.heap.size, 1, none⟩ = some (.slice xb nb cb) := HX.out.cell 1
    have q2 : w2.cell? ⟨w.heap.size, 2, none⟩ = some (.slice xc nc cc) := HX.out.cell 2
    have q3 : w2.cell? ⟨w.heap.size, 3, none⟩ = some (.int .i64 f) := HX.out.cell 3
    have q4 : w2.cell? ⟨w.heap.size, 4, none⟩ = some (.int .i64 s) := HX.out.cell 4
    have p0 : w2.cell? ⟨w.heap.size + 1, 0, none⟩ = some (.slice ua va oa) := HY.out.cell 0
    have p1 : w2.cell? ⟨w.heap.size + 1, 1, none⟩ = some (.slice ub vb ob) := HY.out.cell 1
    have p2 : w2.cell? ⟨w.heap.size + 1, 2, none⟩ = some (.slice uc vc oc) := HY.out.cell 2
    have p3 : w2.cell? ⟨w.heap.size + 1, 3, none⟩ = some (.int .i64 f2) := HY.out.cell 3
    have p4 : w2.cell? ⟨w.heap.size + 1, 4, none⟩ = some (.int .i64 s2) := HY.out.cell 4
    by_cases e2 : m = m2
    · rw [Sl.eqB_true e2]
      go_wp2_with fail
      clear q0 q1 q2 q3 q4 p0 p1 p2 p3 p4
      refine (sameName _ _ k k2 _ (H0.out.on HB.out).2.2 (G0.out.on HB.out).2.2 (by omega) (by omega)).mono ?_
      rintro e w3 ⟨rfl, hb⟩
      replace HX := Lib.hid (HX.out.on hb); replace HY := Lib.hid (HY.out.on hb)
      replace HB := Lib.hid (HB.out.trans (hb.mono HB.out.size)); clear hb
      have q0 : w3.cell? ⟨w.heap.size, 0, none⟩ = some (.slice xa na ca) := HX.out.cell 0
      have q1 : w3.cell? ⟨w.heap.size, 1, none⟩ = some (.slice xb nb cb) := HX.out.cell 1
      have q2 : w3.cell? ⟨w.heap.size, 2, none⟩ = some (.slice xc nc cc) := HX.out.cell 2
      have q3 : w3.cell? ⟨w.heap.size, 3, none⟩ = some (.int .i64 f) := HX.out.cell 3
      have q4 : w3.cell? ⟨w.heap.size, 4, none⟩ = some (.int .i64 s) := HX.out.cell 4
      have p0 : w3.cell? ⟨w.heap.size + 1, 0, none⟩ = some (.slice ua va oa) := HY.out.cell 0
      have p1 : w3.cell? ⟨w.heap.size + 1, 1, none⟩ = some (.slice ub vb ob) := HY.out.cell 1
      have p2 : w3.cell? ⟨w.heap.size + 1, 2, none⟩ = some (.slice uc vc oc) := HY.out.cell 2
      have p3 : w3.cell? ⟨w.heap.size + 1, 3, none⟩ = some (.int .i64 f2) := HY.out.cell 3
      have p4 : w3.cell? ⟨w.heap.size + 1, 4, none⟩ = some (.int .i64 s2) := HY.out.cell 4
      by_cases e3 : k = k2
      · rw [eqB_true e3]
        by_cases e4 : f = f2
        · have t1 : (f == f2) = true := by simp [e4]
          obtain ⟨z, hz⟩ : ∃ z, (s == s2) = z := ⟨_, rfl⟩
          have HE : Hid (q = z) := Lib.hid (by rw [← HQ.out, ← hz]; simp [e1, e2, e3, e4]; rfl)
          clear e1 e2 e3 e4
          go_wp2
          go_ret
          exact ⟨ret_bool HE.out.symm, HB.out⟩
        · have t1 : (f == f2) = false := by simpa using e4
          have HE : Hid (q = false) := Lib.hid (by rw [← HQ.out]; simp [e4])
          clear e4
          go_wp2
          go_ret
          exact ⟨ret_bool HE.out.symm, HB.out⟩
      · rw [eqB_false e3]
        have HE : Hid (q = false) := Lib.hid (by rw [← HQ.out]; simp [e3])
        clear e3
        go_wp2
        go_ret
        exact ⟨ret_bool HE.out.symm, HB.out⟩
    · rw [Sl.eqB_false e2]
      have HE : Hid (q = false) := Lib.hid (by rw [← HQ.out]; simp [e2])
      clear e2
      go_wp2
      go_ret
      exact ⟨ret_bool HE.out.symm, HB.out⟩
  · rw [eqB_false e1]
    have HE : Hid (q = false) := Lib.hid (by rw [← HQ.out]; simp [e1])
    clear e1
    go_wp2
    go_ret
    exact ⟨ret_bool HE.out.symm, HB.out⟩
end Go.Proofs.YtfglcmanmfenpaaGreat.Row
