/- Contracts and mathematics, joined: TrustI. No conditions but those that each states. -/
import Derived.WalkKit
import Derived.Deep.RegionHeld3
import Derived.Test.YtcidfmmeonhkhaaB22
/- IssueCertificate, the model's and the program's. No conditions but that lengths fit. -/
namespace Go.Proofs.Ytcidfmmeonhkhaa.Row
open Go.ChangeShapes Go.WideShapes Go.ChangeAt Go.RowKit Go.Instr
set_option linter.unusedVariables false
set_option maxRecDepth 100000

theorem size_five11 {g : Nat} {w : World} {a b c f s : Value} : ((((((w).setCell ⟨g, 0, none⟩ (a)).setCell ⟨g, 1, none⟩ (b)).setCell ⟨g, 2, none⟩ (c)).setCell ⟨g, 3, none⟩ (f)).setCell ⟨g, 4, none⟩ (s)).heap.size = w.heap.size := by simp [World.setCell]
/-- A result laid in a variable: all that was there is kept. -/
theorem five_facts11 {B B' : Nat} {w wx : World} {gD ma da mb db mc dc_ : Nat} {ya yb yc : Option Addr} {x : Dt} (hgd : B ≤ gD) (hB : B ≤ B') (hxd : Ret.Blk wx gD (dc (.slice none 0 0) (.slice none 0 0) (.slice none 0 0) 0 0) 61)
    (hin : kD.In B' wx.heap.size wx (.agg #[.slice ya ma da, .slice yb mb db, .slice yc mc dc_, .int .i64 x.2.2.2.1, .int .i64 x.2.2.2.2]) x) (hb : Below B w wx) :
    Below B w ((((((wx).setCell ⟨gD, 0, none⟩ (.slice ya ma da)).setCell ⟨gD, 1, none⟩ (.slice yb mb db)).setCell ⟨gD, 2, none⟩ (.slice yc mc dc_)).setCell ⟨gD, 3, none⟩ (.int .i64 x.2.2.2.1)).setCell ⟨gD, 4, none⟩ (.int .i64 x.2.2.2.2)) ∧ kD.In B ((((((wx).setCell ⟨gD, 0, none⟩ (.slice ya ma da)).setCell ⟨gD, 1, none⟩ (.slice yb mb db)).setCell ⟨gD, 2, none⟩ (.slice yc mc dc_)).setCell ⟨gD, 3, none⟩ (.int .i64 x.2.2.2.1)).setCell ⟨gD, 4, none⟩ (.int .i64 x.2.2.2.2)).heap.size ((((((wx).setCell ⟨gD, 0, none⟩ (.slice ya ma da)).setCell ⟨gD, 1, none⟩ (.slice yb mb db)).setCell ⟨gD, 2, none⟩ (.slice yc mc dc_)).setCell ⟨gD, 3, none⟩ (.int .i64 x.2.2.2.1)).setCell ⟨gD, 4, none⟩ (.int .i64 x.2.2.2.2)) (.agg #[.slice ya ma da, .slice yb mb db, .slice yc mc dc_, .int .i64 x.2.2.2.1, .int .i64 x.2.2.2.2]) x ∧ Ret.Blk ((((((wx).setCell ⟨gD, 0, none⟩ (.slice ya ma da)).setCell ⟨gD, 1, none⟩ (.slice yb mb db)).setCell ⟨gD, 2, none⟩ (.slice yc mc dc_)).setCell ⟨gD, 3, none⟩ (.int .i64 x.2.2.2.1)).setCell ⟨gD, 4, none⟩ (.int .i64 x.2.2.2.2)) gD #[.slice ya ma da, .slice yb mb db, .slice yc mc dc_, .int .i64 x.2.2.2.1, .int .i64 x.2.2.2.2] 61 := by
  refine ⟨Ring.below_five hb hgd, ?_, Ring.blk_five hxd⟩
  obtain ⟨a, b, c, e, ho, h1, h2, h3⟩ := kD_in hin
  have e2 := congrArg (fun v => match v with | Value.agg cs => cs.toList | _ => []) e
  simp only [List.cons.injEq, and_true] at e2
  obtain ⟨rfl, rfl, rfl⟩ := e2
  refine kD_mk ((ho.five hxd).mono hB) ?_
  rw [size_five11]
  exact ⟨h1, h2, h3⟩
theorem cells5_11 {w : World} {g : Nat} {c0 c1 c2 c3 c4 : Value} {t : TypeId} (h : Ret.Blk w g #[c0, c1, c2, c3, c4] t) : w.cell? ⟨g, 0, none⟩ = some c0 ∧ w.cell? ⟨g, 1, none⟩ = some c1 ∧ w.cell? ⟨g, 2, none⟩ = some c2 ∧ w.cell? ⟨g, 3, none⟩ = some c3 ∧ w.cell? ⟨g, 4, none⟩ = some c4 := ⟨h.cell 0, h.cell 1, h.cell 2, h.cell 3, h.cell 4⟩
theorem froz5_11 {w : World} {g : Nat} {cs : Array Value} {t : TypeId} (h : Ret.Blk w g cs t) : w.frozen? ⟨g, 0, none⟩ = false ∧ w.frozen? ⟨g, 1, none⟩ = false ∧ w.frozen? ⟨g, 2, none⟩ = false ∧ w.frozen? ⟨g, 3, none⟩ = false ∧ w.frozen? ⟨g, 4, none⟩ = false := ⟨h.frozen 0, h.frozen 1, h.frozen 2, h.frozen 3, h.frozen 4⟩
theorem cell_five11 {w : World} {p g i : Nat} {u a b c f s : Value} (h : w.cell? ⟨p, i, none⟩ = some u) (hn : p ≠ g) : ((((((w).setCell ⟨g, 0, none⟩ (a)).setCell ⟨g, 1, none⟩ (b)).setCell ⟨g, 2, none⟩ (c)).setCell ⟨g, 3, none⟩ (f)).setCell ⟨g, 4, none⟩ (s)).cell? ⟨p, i, none⟩ = some u := by
  have st : ∀ {w1 : World} (j : Nat) (v : Value), w1.cell? ⟨p, i, none⟩ = some u → (w1.setCell ⟨g, j, none⟩ v).cell? ⟨p, i, none⟩ = some u := fun {w1} j v h1 => (World.cell?_of_block (w := w1) (Go.RowKit.Below.heap_setCell _ _ _ _ hn)).trans h1
  exact st 4 _ (st 3 _ (st 2 _ (st 1 _ (st 0 _ h))))
set_option maxRecDepth 100000 in
set_option maxHeartbeats 4000000 in
theorem specIss {Q : Exit → Act → World → Prop} {v1 v2 v4 v7 v9 v10 v11 v12 v13 v14 v15 v16 v17 v18 v19 : Value} {w : World} {p q gD nl cl nk ck nn cn : Nat} {xl xk xn : Option Addr} {T : Ring.Kt} {lk ln : List ByteArray} {a : Int} (H_t : Hid (Ring.kK.At w (.slice xl nl cl) T)) (H_k : Hid (kN.At w (.agg #[.slice xk nk ck]) lk)) (H_n : Hid (kN.At w (.agg #[.slice xn nn cn]) ln)) (XD : Hid (Ret.Blk w gD #[.slice none 0 0, .slice none 0 0, .slice none 0 0, .int .i64 0, .int .i64 0] 61)) (HPD : Hid (p ≠ gD)) (HQD : Hid (q ≠ gD)) (HT : Hid (Ring.bulkT T ≤ 1200000)) (HLK : Hid (bulk lk ≤ 1200000)) (HLN : Hid (bulk ln ≤ 1200000)) (KN : Hid (w.cell? ⟨p, 0, none⟩ = some (.slice xn nn cn))) (KK : Hid (w.cell? ⟨q, 0, none⟩ = some (.slice xk nk ck)))
    (hQ : ∀ (u10 u11 u12 u13 u14 u15 u16 u17 u18 u19 : Value) (ma da mb db mc dc_ : Nat) (ya yb yc : Option Addr)  (wx : World), kD.In w.heap.size wx.heap.size wx (.agg #[.slice ya ma da, .slice yb mb db, .slice yc mc dc_, .int .i64 (Ring.sgK T lk ln (digK T ln) a).2.2.2.1, .int .i64 (Ring.sgK T lk ln (digK T ln) a).2.2.2.2]) (Ring.sgK T lk ln (digK T ln) a) → Below w.heap.size w wx → Q .normal ⟨#[.slice xl nl cl, v1, v2, .int .i64 a, v4, .pointer (some ⟨p, 0, none⟩), .pointer (some ⟨q, 0, none⟩), v7, .pointer (some ⟨gD, 0, none⟩), .bool (Ring.sgOk T lk ln (digK T ln) a), u10, u11, u12, u13, u14, u15, u16, u17, u18, u19], []⟩ ((((((wx).setCell ⟨gD, 0, none⟩ (.slice ya ma da)).setCell ⟨gD, 1, none⟩ (.slice yb mb db)).setCell ⟨gD, 2, none⟩ (.slice yc mc dc_)).setCell ⟨gD, 3, none⟩ (.int .i64 (Ring.sgK T lk ln (digK T ln) a).2.2.2.1)).setCell ⟨gD, 4, none⟩ (.int .i64 (Ring.sgK T lk ln (digK T ln) a).2.2.2.2))) :
    (Code.region 1 #[{ dst := some 10, op := Op.move (Operand.tmp 0), type := 30, pos := "l11_trust.go:101", after := #[], guard := none },
      { dst := some 11, op := Op.load 47 (Operand.tmp 6), type := 47, pos := "l11_trust.go:101", after := #[], guard := none },
      { dst := some 12, op := Op.load 47 (Operand.tmp 5), type := 47, pos := "l11_trust.go:101", after := #[], guard := none },
      { dst := some 13, op := Op.move (Operand.tmp 0), type := 30, pos := "l11_trust.go:101", after := #[], guard := none },
      { dst := some 14, op := Op.load 47 (Operand.tmp 5), type := 47, pos := "l11_trust.go:101", after := #[], guard := none },
      { dst := some 15, op := Op.call { callee := Callee.value (Operand.func 15), args := #[Operand.tmp 13, Operand.tmp 14], argTypes := #[30, 47] }, type := 44, pos := "l11_trust.go:101", after := #[{ on := 3, ground := Ground.data }, { on := 4, ground := Ground.data }], guard := none },
      { dst := some 16, op := Op.move (Operand.tmp 3), type := 3, pos := "l11_trust.go:101", after := #[], guard := none },
      { dst := some 17, op := Op.call { callee := Callee.value (Operand.func 77), args := #[Operand.tmp 10, Operand.tmp 11, Operand.tmp 12, Operand.tmp 15, Operand.tmp 16], argTypes := #[30, 47, 47, 44, 3] }, type := 62, pos := "l11_trust.go:101", after := #[{ on := 0, ground := Ground.data }, { on := 1, ground := Ground.data }, { on := 2, ground := Ground.data }, { on := 5, ground := Ground.data }, { on := 6, ground := Ground.data }, { on := 5, ground := Ground.chain }], guard := none },
      { dst := some 18, op := Op.extract (Operand.tmp 17) 0, type := 61, pos := "l11_trust.go:101", after := #[{ on := 7, ground := Ground.data }], guard := none },
      { dst := some 19, op := Op.extract (Operand.tmp 17) 1, type := 4, pos := "l11_trust.go:101", after := #[{ on := 7, ground := Ground.data }], guard := none },
      { dst := none, op := Op.store 61 (Operand.tmp 8) (Operand.tmp 18), type := 0, pos := "l11_trust.go:101", after := #[{ on := 8, ground := Ground.data }, { on := 7, ground := Ground.chain }, { on := 0, ground := Ground.phase }, { on := 1, ground := Ground.phase }, { on := 2, ground := Ground.phase }, { on := 3, ground := Ground.phase }, { on := 4, ground := Ground.phase }, { on := 5, ground := Ground.phase }, { on := 6, ground := Ground.phase }, { on := 7, ground := Ground.phase }, { on := 8, ground := Ground.phase }, { on := 9, ground := Ground.phase }], guard := none },
      { dst := some 9, op := Op.assign (Operand.tmp 19), type := 4, pos := "l11_trust.go:101", after := #[{ on := 9, ground := Ground.data }, { on := 10, ground := Ground.chain }, { on := 0, ground := Ground.phase }, { on := 1, ground := Ground.phase }, { on := 2, ground := Ground.phase }, { on := 3, ground := Ground.phase }, { on := 4, ground := Ground.phase }, { on := 5, ground := Ground.phase }, { on := 6, ground := Ground.phase }, { on := 7, ground := Ground.phase }, { on := 8, ground := Ground.phase }, { on := 9, ground := Ground.phase }, { on := 10, ground := Ground.phase }], guard := none }] true).wp Try.prog Q ⟨#[.slice xl nl cl, v1, v2, .int .i64 a, v4, .pointer (some ⟨p, 0, none⟩), .pointer (some ⟨q, 0, none⟩), v7, .pointer (some ⟨gD, 0, none⟩), v9, v10, v11, v12, v13, v14, v15, v16, v17, v18, v19], []⟩ w := by
  have HQ := Lib.hid hQ; clear hQ
  have hdr : Below w.heap.size w w.drew := (Below.refl _ _).drew
  have BB := Lib.hid hdr
  refine wp_region_noPanic ?_
  refine wp_region_held_drew (S := (fun w' => w'.cell? ⟨p, 0, none⟩ = some (.slice xn nn cn) ∧ w'.cell? ⟨q, 0, none⟩ = some (.slice xk nk ck))) (by kernel_rfl) ?_ (fun hHeld => ?_)
  · exact ⟨kc KN.out BB.out, kc KK.out BB.out⟩
  clear hdr
  generalize w.drew = wd at *
  refine wpAnyH_take (i := 0) (oi := { dst := some 10, op := Op.move (Operand.tmp 0), type := 30, pos := "l11_trust.go:101", after := #[], guard := none }) (v := ?_) rfl (by kernel_rfl) (by kernel_rfl) (by kernel_rfl) (fun _ _ _ h => h) (Or.inl ⟨by rfl, ?_⟩) (by assumption) ?_
  rotate_left
  · intro w' hSw; (try dsimp only at hSw); first | (go_simp; done) | (go_simp; with_reducible rfl)
  (try simp only [Act.put, List.setIfInBounds_toArray, List.set_cons_zero, List.set_cons_succ])
  refine wpAnyH_take (i := 1) (oi := { dst := some 11, op := Op.load 47 (Operand.tmp 6), type := 47, pos := "l11_trust.go:101", after := #[], guard := none }) (v := ?_) rfl (by kernel_rfl) (by kernel_rfl) (by kernel_rfl) (fun _ _ _ h => h) (Or.inl ⟨by rfl, ?_⟩) (by assumption) ?_
  rotate_left
  · intro w' hSw; (try dsimp only at hSw); first | (go_simp; done) | (go_simp; with_reducible rfl)
  (try simp only [Act.put, List.setIfInBounds_toArray, List.set_cons_zero, List.set_cons_succ])
  refine wpAnyH_take (i := 2) (oi := { dst := some 12, op := Op.load 47 (Operand.tmp 5), type := 47, pos := "l11_trust.go:101", after := #[], guard := none }) (v := ?_) rfl (by kernel_rfl) (by kernel_rfl) (by kernel_rfl) (fun _ _ _ h => h) (Or.inl ⟨by rfl, ?_⟩) (by assumption) ?_
  rotate_left
  · intro w' hSw; (try dsimp only at hSw); first | (go_simp; done) | (go_simp; with_reducible rfl)
  (try simp only [Act.put, List.setIfInBounds_toArray, List.set_cons_zero, List.set_cons_succ])
  refine wpAnyH_take (i := 3) (oi := { dst := some 13, op := Op.move (Operand.tmp 0), type := 30, pos := "l11_trust.go:101", after := #[], guard := none }) (v := ?_) rfl (by kernel_rfl) (by kernel_rfl) (by kernel_rfl) (fun _ _ _ h => h) (Or.inl ⟨by rfl, ?_⟩) (by assumption) ?_
  rotate_left
  · intro w' hSw; (try dsimp only at hSw); first | (go_simp; done) | (go_simp; with_reducible rfl)
  (try simp only [Act.put, List.setIfInBounds_toArray, List.set_cons_zero, List.set_cons_succ])
  refine wpAnyH_take (i := 4) (oi := { dst := some 14, op := Op.load 47 (Operand.tmp 5), type := 47, pos := "l11_trust.go:101", after := #[], guard := none }) (v := ?_) rfl (by kernel_rfl) (by kernel_rfl) (by kernel_rfl) (fun _ _ _ h => h) (Or.inl ⟨by rfl, ?_⟩) (by assumption) ?_
  rotate_left
  · intro w' hSw; (try dsimp only at hSw); first | (go_simp; done) | (go_simp; with_reducible rfl)
  (try simp only [Act.put, List.setIfInBounds_toArray, List.set_cons_zero, List.set_cons_succ])
  refine wpAnyH_take (i := 6) (oi := { dst := some 16, op := Op.move (Operand.tmp 3), type := 3, pos := "l11_trust.go:101", after := #[], guard := none }) (v := ?_) rfl (by kernel_rfl) (by kernel_rfl) (by kernel_rfl) (fun _ _ _ h => h) (Or.inl ⟨by rfl, ?_⟩) (by assumption) ?_
  rotate_left
  · intro w' hSw; (try dsimp only at hSw); first | (go_simp; done) | (go_simp; with_reducible rfl)
  (try simp only [Act.put, List.setIfInBounds_toArray, List.set_cons_zero, List.set_cons_succ])
  refine wpAnyH_ready (rs := [5]) (by kernel_rfl) (by simp) ?_
  refine AllReadyH.cons (o := { dst := some 15, op := Op.call { callee := Callee.value (Operand.func 15), args := #[Operand.tmp 13, Operand.tmp 14], argTypes := #[30, 47] }, type := 44, pos := "l11_trust.go:101", after := #[{ on := 3, ground := Ground.data }, { on := 4, ground := Ground.data }], guard := none }) rfl (fun K hK => ?_) AllReadyH.nil
  go_simp
  refine (specKeyDigest _ _ T ln _ _ rfl (H_t.out.on BB.out) (H_n.out.on BB.out) HT.out HLN.out).mono ?_
  rintro e wn1 ⟨v15, rfl, ho, hb⟩
  obtain ⟨x15, n15, rfl, -, h15⟩ := ho.holds.shape
  have H15 := Lib.hid (kB_of h15); clear ho h15
  replace BB := Lib.hid (BB.out.trans (hb.mono BB.out.size))
  clear hb
  (try go_wp2_with fail)
  clear hHeld
  refine hK.out _ _ ?_ (fun hHeld => ?_)
  · (try dsimp only); exact ⟨kc KN.out BB.out, kc KK.out BB.out⟩
  clear hK K
  (try simp only [Act.put, List.setIfInBounds_toArray, List.set_cons_zero, List.set_cons_succ])
  refine wpAnyH_ready (rs := [7]) (by kernel_rfl) (by simp) ?_
  refine AllReadyH.cons (o := { dst := some 17, op := Op.call { callee := Callee.value (Operand.func 77), args := #[Operand.tmp 10, Operand.tmp 11, Operand.tmp 12, Operand.tmp 15, Operand.tmp 16], argTypes := #[30, 47, 47, 44, 3] }, type := 62, pos := "l11_trust.go:101", after := #[{ on := 0, ground := Ground.data }, { on := 1, ground := Ground.data }, { on := 2, ground := Ground.data }, { on := 5, ground := Ground.data }, { on := 6, ground := Ground.data }, { on := 5, ground := Ground.chain }], guard := none }) rfl (fun K hK => ?_) AllReadyH.nil
  go_simp
  refine (Ring.specSignWithKeyK _ _ _ _ T lk ln (digK T ln) a _ (H_t.out.on BB.out) (H_k.out.on BB.out) (H_n.out.on BB.out) H15.out (digK_byt _ _) HT.out HLK.out HLN.out (Nat.le_trans (digK_len T ln) (by decide))).mono ?_
  rintro e wn2 ⟨v, rfl, ho, hb⟩
  obtain ⟨ya, ma, da, yb, mb, db, yc, mc, dc_, rfl, ho⟩ := kD_shape ho
  have HXX := Lib.hid (show kD.In w.heap.size wn2.heap.size wn2 (.agg #[.slice ya ma da, .slice yb mb db, .slice yc mc dc_, .int .i64 (Ring.sgK T lk ln (digK T ln) a).2.2.2.1, .int .i64 (Ring.sgK T lk ln (digK T ln) a).2.2.2.2]) (Ring.sgK T lk ln (digK T ln) a) from Kd.In.mono ho BB.out.size (Nat.le_refl _)); clear ho
  replace H15 := Lib.hid (H15.out.on hb)
  replace BB := Lib.hid (BB.out.trans (hb.mono BB.out.size))
  clear hb
  (try go_wp2_with fail)
  clear hHeld
  refine hK.out _ _ ?_ (fun hHeld => ?_)
  · (try dsimp only); exact ⟨kc KN.out BB.out, kc KK.out BB.out⟩
  clear hK K
  (try simp only [Act.put, List.setIfInBounds_toArray, List.set_cons_zero, List.set_cons_succ])
  refine wpAnyH_take (i := 8) (oi := { dst := some 18, op := Op.extract (Operand.tmp 17) 0, type := 61, pos := "l11_trust.go:101", after := #[{ on := 7, ground := Ground.data }], guard := none }) (v := ?_) rfl (by kernel_rfl) (by kernel_rfl) (by kernel_rfl) (fun _ _ _ h => h) (Or.inl ⟨by rfl, ?_⟩) (by assumption) ?_
  rotate_left
  · intro w' hSw; (try dsimp only at hSw); first | (go_simp; done) | (go_simp; with_reducible rfl)
  (try simp only [Act.put, List.setIfInBounds_toArray, List.set_cons_zero, List.set_cons_succ])
  refine wpAnyH_take (i := 9) (oi := { dst := some 19, op := Op.extract (Operand.tmp 17) 1, type := 4, pos := "l11_trust.go:101", after := #[{ on := 7, ground := Ground.data }], guard := none }) (v := ?_) rfl (by kernel_rfl) (by kernel_rfl) (by kernel_rfl) (fun _ _ _ h => h) (Or.inl ⟨by rfl, ?_⟩) (by assumption) ?_
  rotate_left
  · intro w' hSw; (try dsimp only at hSw); first | (go_simp; done) | (go_simp; with_reducible rfl)
  (try simp only [Act.put, List.setIfInBounds_toArray, List.set_cons_zero, List.set_cons_succ])
  refine wpAnyH_ready (rs := [10]) (by kernel_rfl) (by simp) ?_
  refine AllReadyH.cons (o := { dst := none, op := Op.store 61 (Operand.tmp 8) (Operand.tmp 18), type := 0, pos := "l11_trust.go:101", after := #[{ on := 8, ground := Ground.data }, { on := 7, ground := Ground.chain }, { on := 0, ground := Ground.phase }, { on := 1, ground := Ground.phase }, { on := 2, ground := Ground.phase }, { on := 3, ground := Ground.phase }, { on := 4, ground := Ground.phase }, { on := 5, ground := Ground.phase }, { on := 6, ground := Ground.phase }, { on := 7, ground := Ground.phase }, { on := 8, ground := Ground.phase }, { on := 9, ground := Ground.phase }], guard := none }) rfl (fun K hK => ?_) AllReadyH.nil
  obtain ⟨r0, r1, r2, r3, r4⟩ := cells5_11 (XD.out.on BB.out)
  obtain ⟨t0, t1, t2, t3, t4⟩ := froz5_11 (XD.out.on BB.out)
  go_simp
  clear hHeld
  refine hK.out _ _ ?_ (fun hHeld => ?_)
  · (try dsimp only); exact ⟨cell_five11 (kc KN.out BB.out) HPD.out, cell_five11 (kc KK.out BB.out) HQD.out⟩
  clear hK K
  (try simp only [Act.put, List.setIfInBounds_toArray, List.set_cons_zero, List.set_cons_succ])
  refine wpAnyH_take (i := 11) (oi := { dst := some 9, op := Op.assign (Operand.tmp 19), type := 4, pos := "l11_trust.go:101", after := #[{ on := 9, ground := Ground.data }, { on := 10, ground := Ground.chain }, { on := 0, ground := Ground.phase }, { on := 1, ground := Ground.phase }, { on := 2, ground := Ground.phase }, { on := 3, ground := Ground.phase }, { on := 4, ground := Ground.phase }, { on := 5, ground := Ground.phase }, { on := 6, ground := Ground.phase }, { on := 7, ground := Ground.phase }, { on := 8, ground := Ground.phase }, { on := 9, ground := Ground.phase }, { on := 10, ground := Ground.phase }], guard := none }) (v := ?_) rfl (by kernel_rfl) (by kernel_rfl) (by kernel_rfl) (fun _ _ _ h => h) (Or.inl ⟨by rfl, ?_⟩) (by assumption) ?_
  rotate_left
  · intro w' hSw; (try dsimp only at hSw); first | (go_simp; done) | (go_simp; with_reducible rfl)
  (try simp only [Act.put, List.setIfInBounds_toArray, List.set_cons_zero, List.set_cons_succ])
  refine wpAnyH_done (by kernel_rfl) ?_ _
  exact NoPanic.normal (HQ.out _ _ _ _ _ _ _ _ _ _ ma da mb db mc dc_ ya yb yc _ HXX.out BB.out)

set_option maxHeartbeats 8000000 in
theorem specIssueCertificate (V U1 U2 : Value) (T : Ring.Kt) (ln lk : List ByteArray) (a : Int) (w : World) (h : Ring.kK.At w V T) (g1 : kN.At w U1 ln) (g2 : kN.At w U2 lk) (hl : Ring.bulkT T ≤ 1200000) (h1 : bulk ln ≤ 1200000) (h2 : bulk lk ≤ 1200000) :
    Calls Try.prog 30 #[V, U1, U2, .int .i64 a] w fun e w' => ∃ X, e = .returned (.tuple #[X, .bool (Ring.sgOk T lk ln (digK T ln) a)]) ∧ kD.In w.heap.size w'.heap.size w' X (Ring.sgK T lk ln (digK T ln) a) ∧ Below w.heap.size w w' := by
  obtain ⟨xl, nl, cl, rfl, h⟩ := Ring.kK_shapeA h
  obtain ⟨xn, nn, cn, rfl, g1⟩ := kN_shapeA g1
  obtain ⟨xk, nk, ck, rfl, g2⟩ := kN_shapeA g2
  have b1 := (Below.refl w.heap.size w).alloc (Nat.le_refl _) (.cells #[.slice xn nn cn] 47)
  have b2 := (Below.refl (w.alloc (.cells #[.slice xn nn cn] 47)).heap.size (w.alloc (.cells #[.slice xn nn cn] 47))).alloc (Nat.le_refl _) (.cells #[.slice xk nk ck] 47)
  have b3 := (Below.refl ((w.alloc (.cells #[.slice xn nn cn] 47)).alloc (.cells #[.slice xk nk ck] 47)).heap.size ((w.alloc (.cells #[.slice xn nn cn] 47)).alloc (.cells #[.slice xk nk ck] 47))).alloc (Nat.le_refl _) (.cells #[.slice none 0 0, .slice none 0 0, .slice none 0 0, .int .i64 0, .int .i64 0] 61)
  have b23 := b2.trans (b3.mono b2.size)
  have hb0 := b1.trans (b23.mono b1.size)
  have HB := Lib.hid hb0
  have HX := Lib.hid ((Ret.Blk.new w #[.slice xn nn cn] 47).on b23)
  have HY := Lib.hid ((Ret.Blk.new' (w := (w.alloc (.cells #[.slice xn nn cn] 47))) (n := w.heap.size + 1) #[.slice xk nk ck] 47 (by simp)).on b3)
  have HD := Lib.hid (Ret.Blk.new' (w := ((w.alloc (.cells #[.slice xn nn cn] 47)).alloc (.cells #[.slice xk nk ck] 47))) (n := w.heap.size + 1 + 1) #[.slice none 0 0, .slice none 0 0, .slice none 0 0, .int .i64 0, .int .i64 0] 61 (by simp))
  have H0 := Lib.hid (h.on hb0); have H1 := Lib.hid (g1.on hb0); have H2 := Lib.hid (g2.on hb0)
  obtain ⟨W, hW⟩ : ∃ W, (((w.alloc (.cells #[.slice xn nn cn] 47)).alloc (.cells #[.slice xk nk ck] 47)).alloc (.cells #[.slice none 0 0, .slice none 0 0, .slice none 0 0, .int .i64 0, .int .i64 0] 61)) = W := ⟨_, rfl⟩
  rw [hW] at HB HX HY HD H0 H1 H2
  have HW := Lib.hid hW
  clear b1 b2 b3 b23 hb0 h g1 g2 hW
  go_enter Try.func30, Try.ntmps30
  go_upto_region 1 with fail
  rw [HW.out]
  clear HW
  refine specIss H0 H2 H1 HD (Lib.hid (by omega)) (Lib.hid (by omega)) (Lib.hid hl) (Lib.hid h2) (Lib.hid h1) (Lib.hid (HX.out.cell 0)) (Lib.hid (HY.out.cell 0)) ?_
  intro u10 u11 u12 u13 u14 u15 u16 u17 u18 u19 ma da mb db mc dc_ ya yb yc wx hin hb
  have HD2 := HD.out.on hb
  obtain ⟨k1, k2, k3⟩ := five_facts11 (B := w.heap.size) (w := w) (by omega) HB.out.size HD2 hin (HB.out.trans (hb.mono HB.out.size))
  generalize ((((((wx).setCell ⟨(w.heap.size + 1 + 1), 0, none⟩ (.slice ya ma da)).setCell ⟨(w.heap.size + 1 + 1), 1, none⟩ (.slice yb mb db)).setCell ⟨(w.heap.size + 1 + 1), 2, none⟩ (.slice yc mc dc_)).setCell ⟨(w.heap.size + 1 + 1), 3, none⟩ (.int .i64 (Ring.sgK T lk ln (digK T ln) a).2.2.2.1)).setCell ⟨(w.heap.size + 1 + 1), 4, none⟩ (.int .i64 (Ring.sgK T lk ln (digK T ln) a).2.2.2.2)) = w5 at *
  have K1 := Lib.hid k1; have K2 := Lib.hid k2; have K3 := Lib.hid k3
  clear k1 k2 k3 HD2 hin hb HD HX HY
  go_wp2_with fail
  refine bodyPost_ret (Ret.results_ct rfl _ _ (w.heap.size + 1 + 1) (#[.slice ya ma da, .slice yb mb db, .slice yc mc dc_, .int .i64 (Ring.sgK T lk ln (digK T ln) a).2.2.2.1, .int .i64 (Ring.sgK T lk ln (digK T ln) a).2.2.2.2] : Array Value).toList rfl aggD K3.out.cells) rfl ?_
  exact ⟨_, rfl, K2.out, K1.out⟩

set_option maxRecDepth 100000 in
set_option maxHeartbeats 4000000 in
theorem implIss {Q : Exit → Act → World → Prop} {v1 v2 v4 v7 v9 v10 v11 v12 v13 v14 v15 v16 v17 v18 v19 : Value} {w : World} {p q gD nl cl nk ck nn cn : Nat} {xl xk xn : Option Addr} {T : Ring.Kt} {lk ln : List ByteArray} {a : Int} (H_t : Hid (Ring.kK.At w (.slice xl nl cl) T)) (H_k : Hid (kN.At w (.agg #[.slice xk nk ck]) lk)) (H_n : Hid (kN.At w (.agg #[.slice xn nn cn]) ln)) (XD : Hid (Ret.Blk w gD #[.slice none 0 0, .slice none 0 0, .slice none 0 0, .int .i64 0, .int .i64 0] 61)) (HPD : Hid (p ≠ gD)) (HQD : Hid (q ≠ gD)) (HT : Hid (Ring.bulkT T ≤ 1200000)) (HLK : Hid (bulk lk ≤ 1200000)) (HLN : Hid (bulk ln ≤ 1200000)) (KN : Hid (w.cell? ⟨p, 0, none⟩ = some (.slice xn nn cn))) (KK : Hid (w.cell? ⟨q, 0, none⟩ = some (.slice xk nk ck)))
    (hQ : ∀ (u10 u11 u12 u13 u14 u15 u16 u17 u18 u19 : Value) (ma da mb db mc dc_ : Nat) (ya yb yc : Option Addr)  (wx : World), kD.In w.heap.size wx.heap.size wx (.agg #[.slice ya ma da, .slice yb mb db, .slice yc mc dc_, .int .i64 (Ring.sgK T lk ln (digK T ln) a).2.2.2.1, .int .i64 (Ring.sgK T lk ln (digK T ln) a).2.2.2.2]) (Ring.sgK T lk ln (digK T ln) a) → Below w.heap.size w wx → Q .normal ⟨#[.slice xl nl cl, v1, v2, .int .i64 a, v4, .pointer (some ⟨p, 0, none⟩), .pointer (some ⟨q, 0, none⟩), v7, .pointer (some ⟨gD, 0, none⟩), .bool (Ring.sgOk T lk ln (digK T ln) a), u10, u11, u12, u13, u14, u15, u16, u17, u18, u19], []⟩ ((((((wx).setCell ⟨gD, 0, none⟩ (.slice ya ma da)).setCell ⟨gD, 1, none⟩ (.slice yb mb db)).setCell ⟨gD, 2, none⟩ (.slice yc mc dc_)).setCell ⟨gD, 3, none⟩ (.int .i64 (Ring.sgK T lk ln (digK T ln) a).2.2.2.1)).setCell ⟨gD, 4, none⟩ (.int .i64 (Ring.sgK T lk ln (digK T ln) a).2.2.2.2))) :
    (Code.region 1 #[{ dst := some 10, op := Op.move (Operand.tmp 0), type := 30, pos := "l11_trust.go:113", after := #[], guard := none },
      { dst := some 11, op := Op.load 47 (Operand.tmp 6), type := 47, pos := "l11_trust.go:113", after := #[], guard := none },
      { dst := some 12, op := Op.load 47 (Operand.tmp 5), type := 47, pos := "l11_trust.go:113", after := #[], guard := none },
      { dst := some 13, op := Op.move (Operand.tmp 0), type := 30, pos := "l11_trust.go:113", after := #[], guard := none },
      { dst := some 14, op := Op.load 47 (Operand.tmp 5), type := 47, pos := "l11_trust.go:113", after := #[], guard := none },
      { dst := some 15, op := Op.call { callee := Callee.value (Operand.func 18), args := #[Operand.tmp 13, Operand.tmp 14], argTypes := #[30, 47] }, type := 44, pos := "l11_trust.go:113", after := #[{ on := 3, ground := Ground.data }, { on := 4, ground := Ground.data }], guard := none },
      { dst := some 16, op := Op.move (Operand.tmp 3), type := 3, pos := "l11_trust.go:113", after := #[], guard := none },
      { dst := some 17, op := Op.call { callee := Callee.value (Operand.func 78), args := #[Operand.tmp 10, Operand.tmp 11, Operand.tmp 12, Operand.tmp 15, Operand.tmp 16], argTypes := #[30, 47, 47, 44, 3] }, type := 62, pos := "l11_trust.go:113", after := #[{ on := 0, ground := Ground.data }, { on := 1, ground := Ground.data }, { on := 2, ground := Ground.data }, { on := 5, ground := Ground.data }, { on := 6, ground := Ground.data }, { on := 5, ground := Ground.chain }], guard := none },
      { dst := some 18, op := Op.extract (Operand.tmp 17) 0, type := 61, pos := "l11_trust.go:113", after := #[{ on := 7, ground := Ground.data }], guard := none },
      { dst := some 19, op := Op.extract (Operand.tmp 17) 1, type := 4, pos := "l11_trust.go:113", after := #[{ on := 7, ground := Ground.data }], guard := none },
      { dst := none, op := Op.store 61 (Operand.tmp 8) (Operand.tmp 18), type := 0, pos := "l11_trust.go:113", after := #[{ on := 8, ground := Ground.data }, { on := 7, ground := Ground.chain }, { on := 0, ground := Ground.phase }, { on := 1, ground := Ground.phase }, { on := 2, ground := Ground.phase }, { on := 3, ground := Ground.phase }, { on := 4, ground := Ground.phase }, { on := 5, ground := Ground.phase }, { on := 6, ground := Ground.phase }, { on := 7, ground := Ground.phase }, { on := 8, ground := Ground.phase }, { on := 9, ground := Ground.phase }], guard := none },
      { dst := some 9, op := Op.assign (Operand.tmp 19), type := 4, pos := "l11_trust.go:113", after := #[{ on := 9, ground := Ground.data }, { on := 10, ground := Ground.chain }, { on := 0, ground := Ground.phase }, { on := 1, ground := Ground.phase }, { on := 2, ground := Ground.phase }, { on := 3, ground := Ground.phase }, { on := 4, ground := Ground.phase }, { on := 5, ground := Ground.phase }, { on := 6, ground := Ground.phase }, { on := 7, ground := Ground.phase }, { on := 8, ground := Ground.phase }, { on := 9, ground := Ground.phase }, { on := 10, ground := Ground.phase }], guard := none }] true).wp Try.prog Q ⟨#[.slice xl nl cl, v1, v2, .int .i64 a, v4, .pointer (some ⟨p, 0, none⟩), .pointer (some ⟨q, 0, none⟩), v7, .pointer (some ⟨gD, 0, none⟩), v9, v10, v11, v12, v13, v14, v15, v16, v17, v18, v19], []⟩ w := by
  have HQ := Lib.hid hQ; clear hQ
  have hdr : Below w.heap.size w w.drew := (Below.refl _ _).drew
  have BB := Lib.hid hdr
  refine wp_region_noPanic ?_
  refine wp_region_held_drew (S := (fun w' => w'.cell? ⟨p, 0, none⟩ = some (.slice xn nn cn) ∧ w'.cell? ⟨q, 0, none⟩ = some (.slice xk nk ck))) (by kernel_rfl) ?_ (fun hHeld => ?_)
  · exact ⟨kc KN.out BB.out, kc KK.out BB.out⟩
  clear hdr
  generalize w.drew = wd at *
  refine wpAnyH_take (i := 0) (oi := { dst := some 10, op := Op.move (Operand.tmp 0), type := 30, pos := "l11_trust.go:113", after := #[], guard := none }) (v := ?_) rfl (by kernel_rfl) (by kernel_rfl) (by kernel_rfl) (fun _ _ _ h => h) (Or.inl ⟨by rfl, ?_⟩) (by assumption) ?_
  rotate_left
  · intro w' hSw; (try dsimp only at hSw); first | (go_simp; done) | (go_simp; with_reducible rfl)
  (try simp only [Act.put, List.setIfInBounds_toArray, List.set_cons_zero, List.set_cons_succ])
  refine wpAnyH_take (i := 1) (oi := { dst := some 11, op := Op.load 47 (Operand.tmp 6), type := 47, pos := "l11_trust.go:113", after := #[], guard := none }) (v := ?_) rfl (by kernel_rfl) (by kernel_rfl) (by kernel_rfl) (fun _ _ _ h => h) (Or.inl ⟨by rfl, ?_⟩) (by assumption) ?_
  rotate_left
  · intro w' hSw; (try dsimp only at hSw); first | (go_simp; done) | (go_simp; with_reducible rfl)
  (try simp only [Act.put, List.setIfInBounds_toArray, List.set_cons_zero, List.set_cons_succ])
  refine wpAnyH_take (i := 2) (oi := { dst := some 12, op := Op.load 47 (Operand.tmp 5), type := 47, pos := "l11_trust.go:113", after := #[], guard := none }) (v := ?_) rfl (by kernel_rfl) (by kernel_rfl) (by kernel_rfl) (fun _ _ _ h => h) (Or.inl ⟨by rfl, ?_⟩) (by assumption) ?_
  rotate_left
  · intro w' hSw; (try dsimp only at hSw); first | (go_simp; done) | (go_simp; with_reducible rfl)
  (try simp only [Act.put, List.setIfInBounds_toArray, List.set_cons_zero, List.set_cons_succ])
  refine wpAnyH_take (i := 3) (oi := { dst := some 13, op := Op.move (Operand.tmp 0), type := 30, pos := "l11_trust.go:113", after := #[], guard := none }) (v := ?_) rfl (by kernel_rfl) (by kernel_rfl) (by kernel_rfl) (fun _ _ _ h => h) (Or.inl ⟨by rfl, ?_⟩) (by assumption) ?_
  rotate_left
  · intro w' hSw; (try dsimp only at hSw); first | (go_simp; done) | (go_simp; with_reducible rfl)
  (try simp only [Act.put, List.setIfInBounds_toArray, List.set_cons_zero, List.set_cons_succ])
  refine wpAnyH_take (i := 4) (oi := { dst := some 14, op := Op.load 47 (Operand.tmp 5), type := 47, pos := "l11_trust.go:113", after := #[], guard := none }) (v := ?_) rfl (by kernel_rfl) (by kernel_rfl) (by kernel_rfl) (fun _ _ _ h => h) (Or.inl ⟨by rfl, ?_⟩) (by assumption) ?_
  rotate_left
  · intro w' hSw; (try dsimp only at hSw); first | (go_simp; done) | (go_simp; with_reducible rfl)
  (try simp only [Act.put, List.setIfInBounds_toArray, List.set_cons_zero, List.set_cons_succ])
  refine wpAnyH_take (i := 6) (oi := { dst := some 16, op := Op.move (Operand.tmp 3), type := 3, pos := "l11_trust.go:113", after := #[], guard := none }) (v := ?_) rfl (by kernel_rfl) (by kernel_rfl) (by kernel_rfl) (fun _ _ _ h => h) (Or.inl ⟨by rfl, ?_⟩) (by assumption) ?_
  rotate_left
  · intro w' hSw; (try dsimp only at hSw); first | (go_simp; done) | (go_simp; with_reducible rfl)
  (try simp only [Act.put, List.setIfInBounds_toArray, List.set_cons_zero, List.set_cons_succ])
  refine wpAnyH_ready (rs := [5]) (by kernel_rfl) (by simp) ?_
  refine AllReadyH.cons (o := { dst := some 15, op := Op.call { callee := Callee.value (Operand.func 18), args := #[Operand.tmp 13, Operand.tmp 14], argTypes := #[30, 47] }, type := 44, pos := "l11_trust.go:113", after := #[{ on := 3, ground := Ground.data }, { on := 4, ground := Ground.data }], guard := none }) rfl (fun K hK => ?_) AllReadyH.nil
  go_simp
  refine (implKeyDigest _ _ T ln _ _ rfl (H_t.out.on BB.out) (H_n.out.on BB.out) HT.out HLN.out).mono ?_
  rintro e wn1 ⟨v15, rfl, ho, hb⟩
  obtain ⟨x15, n15, rfl, -, h15⟩ := ho.holds.shape
  have H15 := Lib.hid (kB_of h15); clear ho h15
  replace BB := Lib.hid (BB.out.trans (hb.mono BB.out.size))
  clear hb
  (try go_wp2_with fail)
  clear hHeld
  refine hK.out _ _ ?_ (fun hHeld => ?_)
  · (try dsimp only); exact ⟨kc KN.out BB.out, kc KK.out BB.out⟩
  clear hK K
  (try simp only [Act.put, List.setIfInBounds_toArray, List.set_cons_zero, List.set_cons_succ])
  refine wpAnyH_ready (rs := [7]) (by kernel_rfl) (by simp) ?_
  refine AllReadyH.cons (o := { dst := some 17, op := Op.call { callee := Callee.value (Operand.func 78), args := #[Operand.tmp 10, Operand.tmp 11, Operand.tmp 12, Operand.tmp 15, Operand.tmp 16], argTypes := #[30, 47, 47, 44, 3] }, type := 62, pos := "l11_trust.go:113", after := #[{ on := 0, ground := Ground.data }, { on := 1, ground := Ground.data }, { on := 2, ground := Ground.data }, { on := 5, ground := Ground.data }, { on := 6, ground := Ground.data }, { on := 5, ground := Ground.chain }], guard := none }) rfl (fun K hK => ?_) AllReadyH.nil
  go_simp
  refine (Ring.implSignWithKeyK _ _ _ _ T lk ln (digK T ln) a _ (H_t.out.on BB.out) (H_k.out.on BB.out) (H_n.out.on BB.out) H15.out (digK_byt _ _) HT.out HLK.out HLN.out (Nat.le_trans (digK_len T ln) (by decide))).mono ?_
  rintro e wn2 ⟨v, rfl, ho, hb⟩
  obtain ⟨ya, ma, da, yb, mb, db, yc, mc, dc_, rfl, ho⟩ := kD_shape ho
  have HXX := Lib.hid (show kD.In w.heap.size wn2.heap.size wn2 (.agg #[.slice ya ma da, .slice yb mb db, .slice yc mc dc_, .int .i64 (Ring.sgK T lk ln (digK T ln) a).2.2.2.1, .int .i64 (Ring.sgK T lk ln (digK T ln) a).2.2.2.2]) (Ring.sgK T lk ln (digK T ln) a) from Kd.In.mono ho BB.out.size (Nat.le_refl _)); clear ho
  replace H15 := Lib.hid (H15.out.on hb)
  replace BB := Lib.hid (BB.out.trans (hb.mono BB.out.size))
  clear hb
  (try go_wp2_with fail)
  clear hHeld
  refine hK.out _ _ ?_ (fun hHeld => ?_)
  · (try dsimp only); exact ⟨kc KN.out BB.out, kc KK.out BB.out⟩
  clear hK K
  (try simp only [Act.put, List.setIfInBounds_toArray, List.set_cons_zero, List.set_cons_succ])
  refine wpAnyH_take (i := 8) (oi := { dst := some 18, op := Op.extract (Operand.tmp 17) 0, type := 61, pos := "l11_trust.go:113", after := #[{ on := 7, ground := Ground.data }], guard := none }) (v := ?_) rfl (by kernel_rfl) (by kernel_rfl) (by kernel_rfl) (fun _ _ _ h => h) (Or.inl ⟨by rfl, ?_⟩) (by assumption) ?_
  rotate_left
  · intro w' hSw; (try dsimp only at hSw); first | (go_simp; done) | (go_simp; with_reducible rfl)
  (try simp only [Act.put, List.setIfInBounds_toArray, List.set_cons_zero, List.set_cons_succ])
  refine wpAnyH_take (i := 9) (oi := { dst := some 19, op := Op.extract (Operand.tmp 17) 1, type := 4, pos := "l11_trust.go:113", after := #[{ on := 7, ground := Ground.data }], guard := none }) (v := ?_) rfl (by kernel_rfl) (by kernel_rfl) (by kernel_rfl) (fun _ _ _ h => h) (Or.inl ⟨by rfl, ?_⟩) (by assumption) ?_
  rotate_left
  · intro w' hSw; (try dsimp only at hSw); first | (go_simp; done) | (go_simp; with_reducible rfl)
  (try simp only [Act.put, List.setIfInBounds_toArray, List.set_cons_zero, List.set_cons_succ])
  refine wpAnyH_ready (rs := [10]) (by kernel_rfl) (by simp) ?_
  refine AllReadyH.cons (o := { dst := none, op := Op.store 61 (Operand.tmp 8) (Operand.tmp 18), type := 0, pos := "l11_trust.go:113", after := #[{ on := 8, ground := Ground.data }, { on := 7, ground := Ground.chain }, { on := 0, ground := Ground.phase }, { on := 1, ground := Ground.phase }, { on := 2, ground := Ground.phase }, { on := 3, ground := Ground.phase }, { on := 4, ground := Ground.phase }, { on := 5, ground := Ground.phase }, { on := 6, ground := Ground.phase }, { on := 7, ground := Ground.phase }, { on := 8, ground := Ground.phase }, { on := 9, ground := Ground.phase }], guard := none }) rfl (fun K hK => ?_) AllReadyH.nil
  obtain ⟨r0, r1, r2, r3, r4⟩ := cells5_11 (XD.out.on BB.out)
  obtain ⟨t0, t1, t2, t3, t4⟩ := froz5_11 (XD.out.on BB.out)
  go_simp
  clear hHeld
  refine hK.out _ _ ?_ (fun hHeld => ?_)
  · (try dsimp only); exact ⟨cell_five11 (kc KN.out BB.out) HPD.out, cell_five11 (kc KK.out BB.out) HQD.out⟩
  clear hK K
  (try simp only [Act.put, List.setIfInBounds_toArray, List.set_cons_zero, List.set_cons_succ])
  refine wpAnyH_take (i := 11) (oi := { dst := some 9, op := Op.assign (Operand.tmp 19), type := 4, pos := "l11_trust.go:113", after := #[{ on := 9, ground := Ground.data }, { on := 10, ground := Ground.chain }, { on := 0, ground := Ground.phase }, { on := 1, ground := Ground.phase }, { on := 2, ground := Ground.phase }, { on := 3, ground := Ground.phase }, { on := 4, ground := Ground.phase }, { on := 5, ground := Ground.phase }, { on := 6, ground := Ground.phase }, { on := 7, ground := Ground.phase }, { on := 8, ground := Ground.phase }, { on := 9, ground := Ground.phase }, { on := 10, ground := Ground.phase }], guard := none }) (v := ?_) rfl (by kernel_rfl) (by kernel_rfl) (by kernel_rfl) (fun _ _ _ h => h) (Or.inl ⟨by rfl, ?_⟩) (by assumption) ?_
  rotate_left
  · intro w' hSw; (try dsimp only at hSw); first | (go_simp; done) | (go_simp; with_reducible rfl)
  (try simp only [Act.put, List.setIfInBounds_toArray, List.set_cons_zero, List.set_cons_succ])
  refine wpAnyH_done (by kernel_rfl) ?_ _
  exact NoPanic.normal (HQ.out _ _ _ _ _ _ _ _ _ _ ma da mb db mc dc_ ya yb yc _ HXX.out BB.out)

set_option maxHeartbeats 8000000 in
theorem implIssueCertificate (V U1 U2 : Value) (T : Ring.Kt) (ln lk : List ByteArray) (a : Int) (w : World) (h : Ring.kK.At w V T) (g1 : kN.At w U1 ln) (g2 : kN.At w U2 lk) (hl : Ring.bulkT T ≤ 1200000) (h1 : bulk ln ≤ 1200000) (h2 : bulk lk ≤ 1200000) :
    Calls Try.prog 31 #[V, U1, U2, .int .i64 a] w fun e w' => ∃ X, e = .returned (.tuple #[X, .bool (Ring.sgOk T lk ln (digK T ln) a)]) ∧ kD.In w.heap.size w'.heap.size w' X (Ring.sgK T lk ln (digK T ln) a) ∧ Below w.heap.size w w' := by
  obtain ⟨xl, nl, cl, rfl, h⟩ := Ring.kK_shapeA h
  obtain ⟨xn, nn, cn, rfl, g1⟩ := kN_shapeA g1
  obtain ⟨xk, nk, ck, rfl, g2⟩ := kN_shapeA g2
  have b1 := (Below.refl w.heap.size w).alloc (Nat.le_refl _) (.cells #[.slice xn nn cn] 47)
  have b2 := (Below.refl (w.alloc (.cells #[.slice xn nn cn] 47)).heap.size (w.alloc (.cells #[.slice xn nn cn] 47))).alloc (Nat.le_refl _) (.cells #[.slice xk nk ck] 47)
  have b3 := (Below.refl ((w.alloc (.cells #[.slice xn nn cn] 47)).alloc (.cells #[.slice xk nk ck] 47)).heap.size ((w.alloc (.cells #[.slice xn nn cn] 47)).alloc (.cells #[.slice xk nk ck] 47))).alloc (Nat.le_refl _) (.cells #[.slice none 0 0, .slice none 0 0, .slice none 0 0, .int .i64 0, .int .i64 0] 61)
  have b23 := b2.trans (b3.mono b2.size)
  have hb0 := b1.trans (b23.mono b1.size)
  have HB := Lib.hid hb0
  have HX := Lib.hid ((Ret.Blk.new w #[.slice xn nn cn] 47).on b23)
  have HY := Lib.hid ((Ret.Blk.new' (w := (w.alloc (.cells #[.slice xn nn cn] 47))) (n := w.heap.size + 1) #[.slice xk nk ck] 47 (by simp)).on b3)
  have HD := Lib.hid (Ret.Blk.new' (w := ((w.alloc (.cells #[.slice xn nn cn] 47)).alloc (.cells #[.slice xk nk ck] 47))) (n := w.heap.size + 1 + 1) #[.slice none 0 0, .slice none 0 0, .slice none 0 0, .int .i64 0, .int .i64 0] 61 (by simp))
  have H0 := Lib.hid (h.on hb0); have H1 := Lib.hid (g1.on hb0); have H2 := Lib.hid (g2.on hb0)
  obtain ⟨W, hW⟩ : ∃ W, (((w.alloc (.cells #[.slice xn nn cn] 47)).alloc (.cells #[.slice xk nk ck] 47)).alloc (.cells #[.slice none 0 0, .slice none 0 0, .slice none 0 0, .int .i64 0, .int .i64 0] 61)) = W := ⟨_, rfl⟩
  rw [hW] at HB HX HY HD H0 H1 H2
  have HW := Lib.hid hW
  clear b1 b2 b3 b23 hb0 h g1 g2 hW
  go_enter Try.func31, Try.ntmps31
  go_upto_region 1 with fail
  rw [HW.out]
  clear HW
  refine implIss H0 H2 H1 HD (Lib.hid (by omega)) (Lib.hid (by omega)) (Lib.hid hl) (Lib.hid h2) (Lib.hid h1) (Lib.hid (HX.out.cell 0)) (Lib.hid (HY.out.cell 0)) ?_
  intro u10 u11 u12 u13 u14 u15 u16 u17 u18 u19 ma da mb db mc dc_ ya yb yc wx hin hb
  have HD2 := HD.out.on hb
  obtain ⟨k1, k2, k3⟩ := five_facts11 (B := w.heap.size) (w := w) (by omega) HB.out.size HD2 hin (HB.out.trans (hb.mono HB.out.size))
  generalize ((((((wx).setCell ⟨(w.heap.size + 1 + 1), 0, none⟩ (.slice ya ma da)).setCell ⟨(w.heap.size + 1 + 1), 1, none⟩ (.slice yb mb db)).setCell ⟨(w.heap.size + 1 + 1), 2, none⟩ (.slice yc mc dc_)).setCell ⟨(w.heap.size + 1 + 1), 3, none⟩ (.int .i64 (Ring.sgK T lk ln (digK T ln) a).2.2.2.1)).setCell ⟨(w.heap.size + 1 + 1), 4, none⟩ (.int .i64 (Ring.sgK T lk ln (digK T ln) a).2.2.2.2)) = w5 at *
  have K1 := Lib.hid k1; have K2 := Lib.hid k2; have K3 := Lib.hid k3
  clear k1 k2 k3 HD2 hin hb HD HX HY
  go_wp2_with fail
  refine bodyPost_ret (Ret.results_ct rfl _ _ (w.heap.size + 1 + 1) (#[.slice ya ma da, .slice yb mb db, .slice yc mc dc_, .int .i64 (Ring.sgK T lk ln (digK T ln) a).2.2.2.1, .int .i64 (Ring.sgK T lk ln (digK T ln) a).2.2.2.2] : Array Value).toList rfl aggD K3.out.cells) rfl ?_
  exact ⟨_, rfl, K2.out, K1.out⟩

end Go.Proofs.Ytcidfmmeonhkhaa.Row
