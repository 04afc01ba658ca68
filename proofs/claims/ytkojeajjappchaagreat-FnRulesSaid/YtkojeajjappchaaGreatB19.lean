/- Contracts and mathematics, joined: DrawU5. No conditions but those that each states. -/
import Derived.WalkKit
import Derived.Deep.RegionHeld3
import Derived.Test.YtkojeajjappchaaGreatB16
/- The model's draw of two rules to compare. What was in memory stays as it was. -/
namespace Go.Proofs.YtkojeajjappchaaGreat.Draw
open Go.ChangeShapes Go.WideShapes Go.ChangeAt Go.RowKit Go.Instr
open Go.Proofs.YtkojeajjappchaaGreat.Row (bulk bulk_append bulk_one bulk_nil bulk_cons HB Rlt Rlm kRl kLRl kN OwnK HoldsK wtRl Holds Elem)
open Go.Proofs.YtkojeajjappchaaGreat.Ret (NC Blk Box)
set_option linter.unusedVariables false
set_option maxRecDepth 100000

set_option maxRecDepth 100000 in
set_option maxHeartbeats 4000000 in
theorem deq4 {Q : Exit → Act → World → Prop} {v0 v1 v4 v6 v7 v8 v9 v10 v11 v12 v13 v14 v15 v16 v17 : Value} {w : World} {w0 : World} {p : Nat} {v : Value} {l : List UInt8} (C0 : Hid (Cur w0 p v l w)) {B q r2 r3 n0 c0 n1 c1 : Nat} {x0 x1 : Option Addr} {x : Rlt} (HX : Hid (RH B w x0 n0 c0 x1 n1 c1 x)) (HPB : Hid (p < B)) (X5 : Hid (Blk w q #[.slice x0 n0 c0, .slice x1 n1 c1] 28)) (R2 : Hid (Blk w r2 #[.slice none 0 0, .slice none 0 0] 28)) (R3 : Hid (Blk w r3 #[.slice none 0 0, .slice none 0 0] 28)) (HQP : Hid (q ≠ p)) (H2P : Hid (r2 ≠ p)) (H3P : Hid (r3 ≠ p)) (DQ2 : Hid (q ≠ r2)) (DQ3 : Hid (q ≠ r3)) (D23 : Hid (r2 ≠ r3)) (q1 : bulk x.1 ≤ 1000) (q2 : bulk x.2 ≤ 1000)
    (hQ : ∀ (u12 u13 u14 : Value) (y0 y1 : Option Addr) (m0 d0 m1 d1 : Nat) (z : Rlt) (wx : World), RH B wx x0 n0 c0 x1 n1 c1 x → Blk wx r2 #[.slice none 0 0, .slice none 0 0] 28 → Blk wx r3 #[.slice none 0 0, .slice none 0 0] 28 → Holds Value.string wx (.slice y0 m0 d0) z.1 → Holds Value.string wx (.slice y1 m1 d1) z.2 → bulk z.1 ≤ 1000 → bulk z.2 ≤ 1000 → Cur w0 p v l wx → Keep p w wx → Q .normal ⟨#[v0, v1, .pointer (some ⟨r2, 0, none⟩), .pointer (some ⟨r3, 0, none⟩), v4, .pointer (some ⟨q, 0, none⟩), v6, v7, v8, v9, v10, v11, u12, u13, u14, v15, v16, v17], []⟩ ((((wx.setCell ⟨r2, 0, none⟩ (.slice x0 n0 c0)).setCell ⟨r2, 1, none⟩ (.slice x1 n1 c1)).setCell ⟨r3, 0, none⟩ (.slice y0 m0 d0)).setCell ⟨r3, 1, none⟩ (.slice y1 m1 d1))) :
    (Code.region 4 #[{ dst := some 12, op := Op.load 28 (Operand.tmp 5), type := 28, pos := "l10_rule.go:170", after := #[], guard := none },
      { dst := some 13, op := Op.load 28 (Operand.tmp 5), type := 28, pos := "l10_rule.go:170", after := #[], guard := none },
      { dst := some 14, op := Op.call { callee := Callee.value (Operand.func 36), args := #[Operand.tmp 13], argTypes := #[28] }, type := 28, pos := "l10_rule.go:170", after := #[{ on := 1, ground := Ground.data }], guard := none },
      { dst := none, op := Op.store 28 (Operand.tmp 2) (Operand.tmp 12), type := 0, pos := "l10_rule.go:170", after := #[{ on := 0, ground := Ground.data }, { on := 2, ground := Ground.chain }, { on := 0, ground := Ground.phase }, { on := 1, ground := Ground.textOnly Departure.lateStores }, { on := 2, ground := Ground.textOnly Departure.lateStoresUnsure }], guard := none },
      { dst := none, op := Op.store 28 (Operand.tmp 3) (Operand.tmp 14), type := 0, pos := "l10_rule.go:170", after := #[{ on := 2, ground := Ground.data }, { on := 3, ground := Ground.chain }, { on := 0, ground := Ground.phase }, { on := 1, ground := Ground.phase }, { on := 2, ground := Ground.phase }, { on := 3, ground := Ground.phase }], guard := none }] true).wp Tryz.prog Q ⟨#[v0, v1, .pointer (some ⟨r2, 0, none⟩), .pointer (some ⟨r3, 0, none⟩), v4, .pointer (some ⟨q, 0, none⟩), v6, v7, v8, v9, v10, v11, v12, v13, v14, v15, v16, v17], []⟩ w := by
  have HQ := Lib.hid hQ; clear hQ
  have hb : Below w.heap.size w w.drew := (Below.refl _ _).drew
  replace HX := Lib.hid (HX.out.on hb)
  replace X5 := Lib.hid (X5.out.on hb)
  replace R2 := Lib.hid (R2.out.on hb)
  replace R3 := Lib.hid (R3.out.on hb)
  have C := Lib.hid (C0.out.on hb)
  have BK := Lib.hid (Keep.of_below (p := p) hb)
  have BS := Lib.hid (show w.heap.size ≤ w.drew.heap.size from hb.size)
  have CP := Lib.hid C0.out.lt
  clear hb
  refine wp_region_noPanic ?_
  refine wp_region_held_drew (S := (fun w' => w'.cell? ⟨q, 0, none⟩ = some (.slice x0 n0 c0) ∧ w'.cell? ⟨q, 1, none⟩ = some (.slice x1 n1 c1))) (by kernel_rfl) ?_ (fun hHeld => ?_)
  · exact ⟨X5.out.cell 0, X5.out.cell 1⟩
  generalize w.drew = wd at *
  refine wpAnyH_take (i := 0) (oi := { dst := some 12, op := Op.load 28 (Operand.tmp 5), type := 28, pos := "l10_rule.go:170", after := #[], guard := none }) (v := ?_) rfl (by kernel_rfl) (by kernel_rfl) (by kernel_rfl) (fun _ _ _ h => h) (Or.inl ⟨by rfl, ?_⟩) (by assumption) ?_
  rotate_left
  · intro w' hSw; (try dsimp only at hSw); first | (go_simp; done) | (go_simp; with_reducible rfl)
  (try simp only [Act.put, List.setIfInBounds_toArray, List.set_cons_zero, List.set_cons_succ])
  refine wpAnyH_take (i := 1) (oi := { dst := some 13, op := Op.load 28 (Operand.tmp 5), type := 28, pos := "l10_rule.go:170", after := #[], guard := none }) (v := ?_) rfl (by kernel_rfl) (by kernel_rfl) (by kernel_rfl) (fun _ _ _ h => h) (Or.inl ⟨by rfl, ?_⟩) (by assumption) ?_
  rotate_left
  · intro w' hSw; (try dsimp only at hSw); first | (go_simp; done) | (go_simp; with_reducible rfl)
  (try simp only [Act.put, List.setIfInBounds_toArray, List.set_cons_zero, List.set_cons_succ])
  refine wpAnyH_ready (rs := [2]) (by kernel_rfl) (by simp) ?_
  refine AllReadyH.cons (o := { dst := some 14, op := Op.call { callee := Callee.value (Operand.func 36), args := #[Operand.tmp 13], argTypes := #[28] }, type := 28, pos := "l10_rule.go:170", after := #[{ on := 1, ground := Ground.data }], guard := none }) rfl (fun K hK => ?_) AllReadyH.nil
  go_simp
  refine (l10Copy x0 n0 c0 x1 n1 c1 x _ HX.out.fst.holds HX.out.snd.holds (by omega) (by omega)).mono ?_
  rintro e wn1 ⟨y0, y1, m0, d0, m1, d1, rfl, k0, k1, hb⟩
  have HY0 := Lib.hid k0; have HY1 := Lib.hid k1; clear k0 k1
  replace HX := Lib.hid (HX.out.on hb)
  replace X5 := Lib.hid (X5.out.on hb)
  replace R2 := Lib.hid (R2.out.on hb)
  replace R3 := Lib.hid (R3.out.on hb)
  replace C := Lib.hid (C.out.on hb); replace BK := Lib.hid (BK.out.trans (Keep.of_below hb)); replace BS := Lib.hid (Nat.le_trans BS.out hb.size); clear hb
  (try go_wp2_with fail)
  clear hHeld
  refine hK.out _ _ ?_ (fun hHeld => ?_)
  · (try dsimp only); exact ⟨X5.out.cell 0, X5.out.cell 1⟩
  clear hK K
  (try simp only [Act.put, List.setIfInBounds_toArray, List.set_cons_zero, List.set_cons_succ])
  refine wpAnyH_ready (rs := [3]) (by kernel_rfl) (by simp) ?_
  refine AllReadyH.cons (o := { dst := none, op := Op.store 28 (Operand.tmp 2) (Operand.tmp 12), type := 0, pos := "l10_rule.go:170", after := #[{ on := 0, ground := Ground.data }, { on := 2, ground := Ground.chain }, { on := 0, ground := Ground.phase }, { on := 1, ground := Ground.textOnly Departure.lateStores }, { on := 2, ground := Ground.textOnly Departure.lateStoresUnsure }], guard := none }) rfl (fun K hK => ?_) AllReadyH.nil
  have r0 := R2.out.cell 0; have r1 := R2.out.cell 1; have t0 := R2.out.frozen 0; have t1 := R2.out.frozen 1
  dsimp at r0 r1
  go_simp
  clear hHeld
  refine hK.out _ _ ?_ (fun hHeld => ?_)
  · (try dsimp only); exact ⟨(blk_two2 X5.out DQ2.out.symm).cell 0, (blk_two2 X5.out DQ2.out.symm).cell 1⟩
  clear hK K
  (try simp only [Act.put, List.setIfInBounds_toArray, List.set_cons_zero, List.set_cons_succ])
  refine wpAnyH_ready (rs := [4]) (by kernel_rfl) (by simp) ?_
  refine AllReadyH.cons (o := { dst := none, op := Op.store 28 (Operand.tmp 3) (Operand.tmp 14), type := 0, pos := "l10_rule.go:170", after := #[{ on := 2, ground := Ground.data }, { on := 3, ground := Ground.chain }, { on := 0, ground := Ground.phase }, { on := 1, ground := Ground.phase }, { on := 2, ground := Ground.phase }, { on := 3, ground := Ground.phase }], guard := none }) rfl (fun K hK => ?_) AllReadyH.nil
  have hr3 := blk_two2 (u1 := .slice x0 n0 c0) (u2 := .slice x1 n1 c1) R3.out D23.out
  have r0 := hr3.cell 0; have r1 := hr3.cell 1; have t0 := hr3.frozen 0; have t1 := hr3.frozen 1
  dsimp at r0 r1
  clear hr3
  go_simp
  clear hHeld
  refine hK.out _ _ ?_ (fun hHeld => ?_)
  · (try dsimp only); exact ⟨(blk_two2 (blk_two2 X5.out DQ2.out.symm) DQ3.out.symm).cell 0, (blk_two2 (blk_two2 X5.out DQ2.out.symm) DQ3.out.symm).cell 1⟩
  clear hK K
  (try simp only [Act.put, List.setIfInBounds_toArray, List.set_cons_zero, List.set_cons_succ])
  refine wpAnyH_done (by kernel_rfl) ?_ _
  exact NoPanic.normal (HQ.out _ _ _ _ _ _ _ _ _ x _ HX.out R2.out R3.out HY0.out HY1.out q1 q2 C.out BK.out)

set_option maxRecDepth 100000 in
set_option maxHeartbeats 4000000 in
theorem deq5 {Q : Exit → Act → World → Prop} {v0 v1 v6 v7 v8 v9 v10 v11 v12 v13 v14 v15 v16 v17 : Value} {w : World} {w0 : World} {p : Nat} {v : Value} {l : List UInt8} (C0 : Hid (Cur w0 p v l w)) {B q r2 r3 n0 c0 n1 c1 : Nat} {x0 x1 : Option Addr} {x : Rlt} (HX : Hid (RH B w x0 n0 c0 x1 n1 c1 x)) (HPB : Hid (p < B)) (X5 : Hid (Blk w q #[.slice x0 n0 c0, .slice x1 n1 c1] 28)) (R2 : Hid (Blk w r2 #[.slice none 0 0, .slice none 0 0] 28)) (R3 : Hid (Blk w r3 #[.slice none 0 0, .slice none 0 0] 28)) (HQP : Hid (q ≠ p)) (H2P : Hid (r2 ≠ p)) (H3P : Hid (r3 ≠ p)) (DQ2 : Hid (q ≠ r2)) (DQ3 : Hid (q ≠ r3)) (D23 : Hid (r2 ≠ r3)) (q1 : bulk x.1 ≤ 1000) (q2 : bulk x.2 ≤ 1000)
    (hQ : ∀ (u15 u16 u17 : Value) (y0 y1 : Option Addr) (m0 d0 m1 d1 : Nat) (z : Rlt) (wx : World), RH B wx x0 n0 c0 x1 n1 c1 x → Blk wx r2 #[.slice none 0 0, .slice none 0 0] 28 → Blk wx r3 #[.slice none 0 0, .slice none 0 0] 28 → Holds Value.string wx (.slice y0 m0 d0) z.1 → Holds Value.string wx (.slice y1 m1 d1) z.2 → bulk z.1 ≤ 1000 → bulk z.2 ≤ 1000 → Cur w0 p v l wx → Keep p w wx → Q .normal ⟨#[v0, v1, .pointer (some ⟨r2, 0, none⟩), .pointer (some ⟨r3, 0, none⟩), .pointer (some ⟨p, 0, none⟩), .pointer (some ⟨q, 0, none⟩), v6, v7, v8, v9, v10, v11, v12, v13, v14, u15, u16, u17], []⟩ ((((wx.setCell ⟨r2, 0, none⟩ (.slice x0 n0 c0)).setCell ⟨r2, 1, none⟩ (.slice x1 n1 c1)).setCell ⟨r3, 0, none⟩ (.slice y0 m0 d0)).setCell ⟨r3, 1, none⟩ (.slice y1 m1 d1))) :
    (Code.region 5 #[{ dst := some 15, op := Op.load 28 (Operand.tmp 5), type := 28, pos := "l10_rule.go:172", after := #[], guard := none },
      { dst := some 16, op := Op.move (Operand.tmp 4), type := 48, pos := "l10_rule.go:172", after := #[], guard := none },
      { dst := some 17, op := Op.call { callee := Callee.value (Operand.func 27), args := #[Operand.tmp 16], argTypes := #[48] }, type := 28, pos := "l10_rule.go:172", after := #[{ on := 1, ground := Ground.data }], guard := none },
      { dst := none, op := Op.store 28 (Operand.tmp 2) (Operand.tmp 15), type := 0, pos := "l10_rule.go:172", after := #[{ on := 0, ground := Ground.data }, { on := 2, ground := Ground.chain }, { on := 0, ground := Ground.phase }, { on := 1, ground := Ground.textOnly Departure.lateStores }, { on := 2, ground := Ground.textOnly Departure.lateStoresUnsure }], guard := none },
      { dst := none, op := Op.store 28 (Operand.tmp 3) (Operand.tmp 17), type := 0, pos := "l10_rule.go:172", after := #[{ on := 2, ground := Ground.data }, { on := 3, ground := Ground.chain }, { on := 0, ground := Ground.phase }, { on := 1, ground := Ground.phase }, { on := 2, ground := Ground.phase }, { on := 3, ground := Ground.phase }], guard := none }] true).wp Tryz.prog Q ⟨#[v0, v1, .pointer (some ⟨r2, 0, none⟩), .pointer (some ⟨r3, 0, none⟩), .pointer (some ⟨p, 0, none⟩), .pointer (some ⟨q, 0, none⟩), v6, v7, v8, v9, v10, v11, v12, v13, v14, v15, v16, v17], []⟩ w := by
  have HQ := Lib.hid hQ; clear hQ
  have hb : Below w.heap.size w w.drew := (Below.refl _ _).drew
  replace HX := Lib.hid (HX.out.on hb)
  replace X5 := Lib.hid (X5.out.on hb)
  replace R2 := Lib.hid (R2.out.on hb)
  replace R3 := Lib.hid (R3.out.on hb)
  have C := Lib.hid (C0.out.on hb)
  have BK := Lib.hid (Keep.of_below (p := p) hb)
  have BS := Lib.hid (show w.heap.size ≤ w.drew.heap.size from hb.size)
  have CP := Lib.hid C0.out.lt
  clear hb
  refine wp_region_noPanic ?_
  refine wp_region_held_drew (S := (fun w' => w'.cell? ⟨q, 0, none⟩ = some (.slice x0 n0 c0) ∧ w'.cell? ⟨q, 1, none⟩ = some (.slice x1 n1 c1))) (by kernel_rfl) ?_ (fun hHeld => ?_)
  · exact ⟨X5.out.cell 0, X5.out.cell 1⟩
  generalize w.drew = wd at *
  refine wpAnyH_take (i := 0) (oi := { dst := some 15, op := Op.load 28 (Operand.tmp 5), type := 28, pos := "l10_rule.go:172", after := #[], guard := none }) (v := ?_) rfl (by kernel_rfl) (by kernel_rfl) (by kernel_rfl) (fun _ _ _ h => h) (Or.inl ⟨by rfl, ?_⟩) (by assumption) ?_
  rotate_left
  · intro w' hSw; (try dsimp only at hSw); first | (go_simp; done) | (go_simp; with_reducible rfl)
  (try simp only [Act.put, List.setIfInBounds_toArray, List.set_cons_zero, List.set_cons_succ])
  refine wpAnyH_take (i := 1) (oi := { dst := some 16, op := Op.move (Operand.tmp 4), type := 48, pos := "l10_rule.go:172", after := #[], guard := none }) (v := ?_) rfl (by kernel_rfl) (by kernel_rfl) (by kernel_rfl) (fun _ _ _ h => h) (Or.inl ⟨by rfl, ?_⟩) (by assumption) ?_
  rotate_left
  · intro w' hSw; (try dsimp only at hSw); first | (go_simp; done) | (go_simp; with_reducible rfl)
  (try simp only [Act.put, List.setIfInBounds_toArray, List.set_cons_zero, List.set_cons_succ])
  refine wpAnyH_ready (rs := [2]) (by kernel_rfl) (by simp) ?_
  refine AllReadyH.cons (o := { dst := some 17, op := Op.call { callee := Callee.value (Operand.func 27), args := #[Operand.tmp 16], argTypes := #[48] }, type := 28, pos := "l10_rule.go:172", after := #[{ on := 1, ground := Ground.data }], guard := none }) rfl (fun K hK => ?_) AllReadyH.nil
  go_simp
  refine (l10One w0 p v l _ C.out).mono ?_
  rintro e wn1 ⟨V, rfl, ⟨y0, y1, m0, d0, m1, d1, z, rfl, hz, g1, g2⟩, hc, hk⟩
  have HY0 := Lib.hid hz.fst.holds; have HY1 := Lib.hid hz.snd.holds; clear hz
  replace HX := Lib.hid (HX.out.keep hk HPB.out)
  replace X5 := Lib.hid (blk_keep X5.out hk HQP.out)
  replace R2 := Lib.hid (blk_keep R2.out hk H2P.out)
  replace R3 := Lib.hid (blk_keep R3.out hk H3P.out)
  replace C := Lib.hid hc; replace BK := Lib.hid (BK.out.trans hk); replace BS := Lib.hid (Nat.le_trans BS.out hk.size); clear hc hk
  (try go_wp2_with fail)
  clear hHeld
  refine hK.out _ _ ?_ (fun hHeld => ?_)
  · (try dsimp only); exact ⟨X5.out.cell 0, X5.out.cell 1⟩
  clear hK K
  (try simp only [Act.put, List.setIfInBounds_toArray, List.set_cons_zero, List.set_cons_succ])
  refine wpAnyH_ready (rs := [3]) (by kernel_rfl) (by simp) ?_
  refine AllReadyH.cons (o := { dst := none, op := Op.store 28 (Operand.tmp 2) (Operand.tmp 15), type := 0, pos := "l10_rule.go:172", after := #[{ on := 0, ground := Ground.data }, { on := 2, ground := Ground.chain }, { on := 0, ground := Ground.phase }, { on := 1, ground := Ground.textOnly Departure.lateStores }, { on := 2, ground := Ground.textOnly Departure.lateStoresUnsure }], guard := none }) rfl (fun K hK => ?_) AllReadyH.nil
  have r0 := R2.out.cell 0; have r1 := R2.out.cell 1; have t0 := R2.out.frozen 0; have t1 := R2.out.frozen 1
  dsimp at r0 r1
  go_simp
  clear hHeld
  refine hK.out _ _ ?_ (fun hHeld => ?_)
  · (try dsimp only); exact ⟨(blk_two2 X5.out DQ2.out.symm).cell 0, (blk_two2 X5.out DQ2.out.symm).cell 1⟩
  clear hK K
  (try simp only [Act.put, List.setIfInBounds_toArray, List.set_cons_zero, List.set_cons_succ])
  refine wpAnyH_ready (rs := [4]) (by kernel_rfl) (by simp) ?_
  refine AllReadyH.cons (o := { dst := none, op := Op.store 28 (Operand.tmp 3) (Operand.tmp 17), type := 0, pos := "l10_rule.go:172", after := #[{ on := 2, ground := Ground.data }, { on := 3, ground := Ground.chain }, { on := 0, ground := Ground.phase }, { on := 1, ground := Ground.phase }, { on := 2, ground := Ground.phase }, { on := 3, ground := Ground.phase }], guard := none }) rfl (fun K hK => ?_) AllReadyH.nil
  have hr3 := blk_two2 (u1 := .slice x0 n0 c0) (u2 := .slice x1 n1 c1) R3.out D23.out
  have r0 := hr3.cell 0; have r1 := hr3.cell 1; have t0 := hr3.frozen 0; have t1 := hr3.frozen 1
  dsimp at r0 r1
  clear hr3
  go_simp
  clear hHeld
  refine hK.out _ _ ?_ (fun hHeld => ?_)
  · (try dsimp only); exact ⟨(blk_two2 (blk_two2 X5.out DQ2.out.symm) DQ3.out.symm).cell 0, (blk_two2 (blk_two2 X5.out DQ2.out.symm) DQ3.out.symm).cell 1⟩
  clear hK K
  (try simp only [Act.put, List.setIfInBounds_toArray, List.set_cons_zero, List.set_cons_succ])
  refine wpAnyH_done (by kernel_rfl) ?_ _
  exact NoPanic.normal (HQ.out _ _ _ _ _ _ _ _ _ z _ HX.out R2.out R3.out HY0.out HY1.out g1 g2 C.out BK.out)

theorem eqEnd {w wx : World} {B p n0 c0 n1 c1 m0 d0 m1 d1 : Nat} {v : Value} {l : List UInt8} {x0 x1 y0 y1 : Option Addr} {x z : Rlt} (hal : Below w.heap.size w ((w.alloc (.cells #[.slice none 0 0, .slice none 0 0] 28)).alloc (.cells #[.slice none 0 0, .slice none 0 0] 28))) (hx : RH B wx x0 n0 c0 x1 n1 c1 x) (h2 : Blk wx w.heap.size #[.slice none 0 0, .slice none 0 0] 28) (h3 : Blk wx (w.heap.size + 1) #[.slice none 0 0, .slice none 0 0] 28) (k0 : Holds Value.string wx (.slice y0 m0 d0) z.1) (k1 : Holds Value.string wx (.slice y1 m1 d1) z.2) (hc : Cur ((w.alloc (.cells #[.slice none 0 0, .slice none 0 0] 28)).alloc (.cells #[.slice none 0 0, .slice none 0 0] 28)) p v l wx) :
    Blk ((((wx.setCell ⟨w.heap.size, 0, none⟩ (.slice x0 n0 c0)).setCell ⟨w.heap.size, 1, none⟩ (.slice x1 n1 c1)).setCell ⟨w.heap.size + 1, 0, none⟩ (.slice y0 m0 d0)).setCell ⟨w.heap.size + 1, 1, none⟩ (.slice y1 m1 d1)) w.heap.size #[.slice x0 n0 c0, .slice x1 n1 c1] 28 ∧ Blk ((((wx.setCell ⟨w.heap.size, 0, none⟩ (.slice x0 n0 c0)).setCell ⟨w.heap.size, 1, none⟩ (.slice x1 n1 c1)).setCell ⟨w.heap.size + 1, 0, none⟩ (.slice y0 m0 d0)).setCell ⟨w.heap.size + 1, 1, none⟩ (.slice y1 m1 d1)) (w.heap.size + 1) #[.slice y0 m0 d0, .slice y1 m1 d1] 28 ∧ kRl.At ((((wx.setCell ⟨w.heap.size, 0, none⟩ (.slice x0 n0 c0)).setCell ⟨w.heap.size, 1, none⟩ (.slice x1 n1 c1)).setCell ⟨w.heap.size + 1, 0, none⟩ (.slice y0 m0 d0)).setCell ⟨w.heap.size + 1, 1, none⟩ (.slice y1 m1 d1)) (.agg #[.slice x0 n0 c0, .slice x1 n1 c1]) x ∧ kRl.At ((((wx.setCell ⟨w.heap.size, 0, none⟩ (.slice x0 n0 c0)).setCell ⟨w.heap.size, 1, none⟩ (.slice x1 n1 c1)).setCell ⟨w.heap.size + 1, 0, none⟩ (.slice y0 m0 d0)).setCell ⟨w.heap.size + 1, 1, none⟩ (.slice y1 m1 d1)) (.agg #[.slice y0 m0 d0, .slice y1 m1 d1]) z ∧ Below w.heap.size w ((((wx.setCell ⟨w.heap.size, 0, none⟩ (.slice x0 n0 c0)).setCell ⟨w.heap.size, 1, none⟩ (.slice x1 n1 c1)).setCell ⟨w.heap.size + 1, 0, none⟩ (.slice y0 m0 d0)).setCell ⟨w.heap.size + 1, 1, none⟩ (.slice y1 m1 d1)) := by
  have a1 := h2.set 0 (.slice x0 n0 c0)
  have a2 := a1.set 1 (.slice x1 n1 c1)
  have b2 := blk_two2 (u1 := .slice x0 n0 c0) (u2 := .slice x1 n1 c1) h3 (show w.heap.size ≠ w.heap.size + 1 by omega)
  have b3 := b2.set 0 (.slice y0 m0 d0)
  have hs : ∀ {u : Value} {L : List ByteArray}, Holds Value.string wx u L → Holds Value.string ((((wx.setCell ⟨w.heap.size, 0, none⟩ (.slice x0 n0 c0)).setCell ⟨w.heap.size, 1, none⟩ (.slice x1 n1 c1)).setCell ⟨w.heap.size + 1, 0, none⟩ (.slice y0 m0 d0)).setCell ⟨w.heap.size + 1, 1, none⟩ (.slice y1 m1 d1)) u L := fun h =>
    Row.holds_setBlk (i := 1) (Row.holds_setBlk (i := 0) (Row.holds_setBlk (i := 1) (Row.holds_setBlk (i := 0) h h2 Row.two_noStr (.slice x0 n0 c0)) a1 Row.two_noStr2 (.slice x1 n1 c1)) b2 Row.two_noStr (.slice y0 m0 d0)) b3 Row.two_noStr2 (.slice y1 m1 d1)
  refine ⟨blk_two2 a2 (show w.heap.size + 1 ≠ w.heap.size by omega), b3.set 1 (.slice y1 m1 d1), Row.kRl_of (Row.kN_of (hs hx.fst.holds)) (Row.kN_of (hs hx.snd.holds)), Row.kRl_of (Row.kN_of (hs k0)) (Row.kN_of (hs k1)), ?_⟩
  have hb := hal.trans (hc.below.mono hal.size)
  exact (((hb.setCell (p := ⟨w.heap.size, 0, none⟩) (Nat.le_refl _) (.slice x0 n0 c0)).setCell (p := ⟨w.heap.size, 1, none⟩) (Nat.le_refl _) (.slice x1 n1 c1)).setCell (p := ⟨w.heap.size + 1, 0, none⟩) (by dsimp only; omega) (.slice y0 m0 d0)).setCell (p := ⟨w.heap.size + 1, 1, none⟩) (by dsimp only; omega) (.slice y1 m1 d1)

set_option maxHeartbeats 8000000 in
theorem dDrawEqualRules (w : World) (v : Value) (l : List UInt8) (hb : Frame.Bytes w v l) :
    Calls Tryz.prog 11 #[v] w (QRR w) := by
  have ha0 : Below w.heap.size w (w.alloc (.cells #[.slice none 0 0, .slice none 0 0] 28)) := (Below.refl _ _).alloc (Nat.le_refl _) _
  have R0 := Lib.hid ((Blk.new w #[.slice none 0 0, .slice none 0 0] 28).on ((Below.refl (w.alloc (.cells #[.slice none 0 0, .slice none 0 0] 28)).heap.size _).alloc (Nat.le_refl _) (.cells #[.slice none 0 0, .slice none 0 0] 28)))
  have R1 := Lib.hid (Blk.new' (w := w.alloc (.cells #[.slice none 0 0, .slice none 0 0] 28)) (n := w.heap.size + 1) #[.slice none 0 0, .slice none 0 0] 28 (by simp))
  have ha1 : Below w.heap.size w ((w.alloc (.cells #[.slice none 0 0, .slice none 0 0] 28)).alloc (.cells #[.slice none 0 0, .slice none 0 0] 28)) := ha0.alloc (by simp only [World.size_alloc]; omega) _
  have HAL := Lib.hid ha1
  have HN := Lib.hid (new ((w.alloc (.cells #[.slice none 0 0, .slice none 0 0] 28)).alloc (.cells #[.slice none 0 0, .slice none 0 0] 28)) v l (hb.on ha1)); clear hb ha0 ha1
  go_enter Tryz.func11, Tryz.ntmps11
  go_wp2_with fail
  refine HN.out.mono ?_
  rintro e w1 ⟨rfl, hc⟩
  have hpz := hc.lt
  simp only [World.size_alloc] at hc hpz
  replace R0 := Lib.hid (R0.out.on hc.below); replace R1 := Lib.hid (R1.out.on hc.below)
  have HD := Lib.hid (l10One _ _ v l w1 hc); clear hc
  go_wp2_with fail
  refine HD.out.mono ?_
  rintro e w2 ⟨U, rfl, ⟨x0, x1, n0, c0, n1, c1, x, rfl, hx, q1, q2⟩, hc2, hk2⟩
  have hz2 := hk2.size
  have hal := (Below.refl w2.heap.size w2).alloc (Nat.le_refl _) (.cells #[.slice x0 n0 c0, .slice x1 n1 c1] 28)
  replace R0 := Lib.hid ((blk_keep R0.out hk2 (by omega)).on hal); replace R1 := Lib.hid ((blk_keep R1.out hk2 (by omega)).on hal)
  have HX := Lib.hid ((hx.mono (B' := w.heap.size + 1 + 1 + 1) (by omega)).on hal)
  have X5 := Lib.hid (Blk.new w2 #[.slice x0 n0 c0, .slice x1 n1 c1] 28)
  have HO := Lib.hid (once _ _ v l _ 2 (hc2.on hal))
  clear hx hal hc2 hk2 HD
  go_wp2_with fail
  refine HO.out.mono ?_
  rintro e w3 ⟨y, rfl, ⟨o, rfl⟩, hc, hk⟩
  replace R0 := Lib.hid (blk_keep R0.out hk (by omega)); replace R1 := Lib.hid (blk_keep R1.out hk (by omega)); replace X5 := Lib.hid (blk_keep X5.out hk (by omega))
  have HPB : Hid (w.heap.size + 1 + 1 < w.heap.size + 1 + 1 + 1) := Lib.hid (by omega)
  replace HX := Lib.hid (HX.out.keep hk HPB.out)
  have HC := Lib.hid hc
  have HQP : Hid (w2.heap.size ≠ w.heap.size + 1 + 1) := Lib.hid (by omega)
  have H2P : Hid (w.heap.size ≠ w.heap.size + 1 + 1) := Lib.hid (by omega)
  have H3P : Hid (w.heap.size + 1 ≠ w.heap.size + 1 + 1) := Lib.hid (by omega)
  have DQ2 : Hid (w2.heap.size ≠ w.heap.size) := Lib.hid (by omega)
  have DQ3 : Hid (w2.heap.size ≠ w.heap.size + 1) := Lib.hid (by omega)
  have D23 : Hid (w.heap.size ≠ w.heap.size + 1) := Lib.hid (by omega)
  clear hc hk HO
  generalize w2.heap.size = g5 at *
  cases o
  · go_upto_region 5 with fail
    refine deq5 HC HX HPB X5 R0 R1 HQP H2P H3P DQ2 DQ3 D23 q1 q2 ?_
    intro u15 u16 u17 y0 y1 m0 d0 m1 d1 z wx kx k2 k3 ky0 ky1 g1 g2 kc kk
    have HZ := Lib.hid (eqEnd HAL.out kx k2 k3 ky0 ky1 kc)
    clear kx k2 k3 ky0 ky1 kc kk
    go_wp2_with fail
    refine bodyPost_ret (Ret.results_cc rfl _ _ w.heap.size (w.heap.size + 1) [.slice x0 n0 c0, .slice x1 n1 c1] [.slice y0 m0 d0, .slice y1 m1 d1] rfl rfl Row.aggRl Row.aggRl HZ.out.1.cells HZ.out.2.1.cells) rfl ?_
    exact ⟨x, z, _, _, rfl, HZ.out.2.2.1, wt_two q1 q2, HZ.out.2.2.2.1, wt_two g1 g2, HZ.out.2.2.2.2⟩
  · go_upto_region 4 with fail
    refine deq4 HC HX HPB X5 R0 R1 HQP H2P H3P DQ2 DQ3 D23 q1 q2 ?_
    intro u12 u13 u14 y0 y1 m0 d0 m1 d1 z wx kx k2 k3 ky0 ky1 g1 g2 kc kk
    have HZ := Lib.hid (eqEnd HAL.out kx k2 k3 ky0 ky1 kc)
    clear kx k2 k3 ky0 ky1 kc kk
    go_wp2_with fail
    refine bodyPost_ret (Ret.results_cc rfl _ _ w.heap.size (w.heap.size + 1) [.slice x0 n0 c0, .slice x1 n1 c1] [.slice y0 m0 d0, .slice y1 m1 d1] rfl rfl Row.aggRl Row.aggRl HZ.out.1.cells HZ.out.2.1.cells) rfl ?_
    exact ⟨x, z, _, _, rfl, HZ.out.2.2.1, wt_two q1 q2, HZ.out.2.2.2.1, wt_two g1 g2, HZ.out.2.2.2.2⟩
end Go.Proofs.YtkojeajjappchaaGreat.Draw
