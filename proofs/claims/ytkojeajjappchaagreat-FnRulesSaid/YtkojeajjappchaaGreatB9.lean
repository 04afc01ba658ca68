/- Contracts and mathematics, joined: RuleQ, RuleA, RuleC, RuleG, RuleH. No conditions but those that each states. -/
import Derived.WalkKit
import Derived.Deep.RegionHeld3
import Derived.Test.YtkojeajjappchaaGreatB8
import Derived.Laws.EntriesVeiled
import Derived.RangeFuncNested
import Derived.RangeFuncBound
import Derived.RangeFuncCalls
import Derived.RangeFuncLeaves
import Derived.Shelf.Abstract
import Derived.Shelf.RegionOpen
import Derived.OwnWalkIn
import Derived.TacticsInMore
import Derived.LoopNIn
import Derived.LoopIn
/- The program's chapter 10: the rules as functions (allowances), RuleAllows. No conditions but that lengths fit. -/
namespace Go.Proofs.YtkojeajjappchaaGreat.Row
open Go.ChangeShapes Go.WideShapes Go.ChangeAt Go.RowKit Go.Instr
set_option linter.unusedVariables false
set_option maxRecDepth 100000

/-- What two patterns and two names come to, the rule being valid. -/
def okR2 (x : Rlt) (n b : List ByteArray) : Bool := mOk x.1 n [] && mOk x.2 b (mOut x.1 n [])
theorem allowsR_no {x : Rlt} (h : validR x = false) (n b : List ByteArray) : allowsR x n b = false := by unfold allowsR; rw [h]; rfl
theorem allowsR_yes {x : Rlt} (h : validR x = true) (n b : List ByteArray) : allowsR x n b = okR2 x n b := by unfold allowsR okR2; rw [h]; cases mOk x.1 n [] <;> rfl
/-- The block g holds the rule x (a variable that a function value has captured). -/
structure RuleAt (w : World) (g : Nat) (x : Rlt) (x0 x1 : Option Addr) (n0 c0 n1 c1 : Nat) : Prop where
  blk : Ret.Blk w g #[.slice x0 n0 c0, .slice x1 n1 c1] 28
  is : kRl.At w (.agg #[.slice x0 n0 c0, .slice x1 n1 c1]) x
theorem RuleAt.on {w w' : World} {g : Nat} {x : Rlt} {x0 x1 : Option Addr} {n0 c0 n1 c1 : Nat} (h : RuleAt w g x x0 x1 n0 c0 n1 c1) (hb : Below w.heap.size w w') : RuleAt w' g x x0 x1 n0 c0 n1 c1 := ⟨h.blk.on hb, h.is.on hb⟩
/-- The function value u is, in w, the allowance of the rule x. -/
def Alw (w : World) (u : Value) (x : Rlt) : Prop :=
  (validR x = false ∧ u = .func (.func 59) #[] #[]) ∨ (validR x = true ∧ ∃ (g : Nat) (x0 x1 : Option Addr) (n0 c0 n1 c1 : Nat), u = .func (.func 60) #[] #[.pointer (some ⟨g, 0, none⟩)] ∧ RuleAt w g x x0 x1 n0 c0 n1 c1)
theorem Alw.on {w w' : World} {u : Value} {x : Rlt} (h : Alw w u x) (hb : Below w.heap.size w w') : Alw w' u x := by
  rcases h with h | ⟨h, g, x0, x1, n0, c0, n1, c1, e, r⟩
  · exact Or.inl h
  · exact Or.inr ⟨h, g, x0, x1, n0, c0, n1, c1, e, r.on hb⟩
set_option maxHeartbeats 1000000 in
theorem allowNo (xn xb : Option Addr) (nn cn nb cb : Nat) (w : World) :
    Calls Tryz.prog 59 #[.agg #[.slice xn nn cn], .agg #[.slice xb nb cb]] w fun e w' => e = .returned (.bool false) ∧ Below w.heap.size w w' := by
  have HB := Lib.hid (((Below.refl w.heap.size w).alloc (Nat.le_refl _) (.cells #[.slice xn nn cn] 29)).alloc (by simp) (.cells #[.slice xb nb cb] 29))
  go_enter Tryz.func59, Tryz.ntmps59
  go_wp2
  go_ret
  exact ⟨rfl, HB.out⟩
set_option maxHeartbeats 4000000 in
theorem allowYes (g : Nat) (x : Rlt) (x0 x1 : Option Addr) (n0 c0 n1 c1 : Nat) (xn xb : Option Addr) (nn cn nb cb : Nat) (n b : List ByteArray) (w : World) (z : Bool) (hz : okR2 x n b = z) (h : RuleAt w g x x0 x1 n0 c0 n1 c1) (gn : kN.At w (.agg #[.slice xn nn cn]) n) (gb : kN.At w (.agg #[.slice xb nb cb]) b) (hp : wtRl x ≤ 9000000) (hn : bulk n ≤ 9000000) (hb : bulk b ≤ 9000000) :
    Calls Tryz.prog 60 #[.agg #[.slice xn nn cn], .agg #[.slice xb nb cb], .pointer (some ⟨g, 0, none⟩)] w fun e w' => e = .returned (.bool z) ∧ Below w.heap.size w w' := by
  obtain ⟨hx, ha⟩ := h
  obtain ⟨y0, m0, d0, y1, m1, d1, e, g0, g1⟩ := kRl_at ha
  obtain ⟨rfl, rfl, rfl, rfl, rfl, rfl⟩ : y0 = x0 ∧ m0 = n0 ∧ d0 = c0 ∧ y1 = x1 ∧ m1 = n1 ∧ d1 = c1 := by
    injection e with e
    have e0 := congrArg (fun z : Array Value => z[0]?) e
    have e1 := congrArg (fun z : Array Value => z[1]?) e
    simp at e0 e1
    exact ⟨e0.1.symm, e0.2.1.symm, e0.2.2.symm, e1.1.symm, e1.2.1.symm, e1.2.2.symm⟩
  obtain ⟨p, q⟩ := x
  obtain ⟨p0, p1⟩ := fitR hp
  dsimp only at g0 g1 p0 p1
  obtain ⟨v0, e0, g0⟩ := kN_at g0
  obtain ⟨v1, e1, g1⟩ := kN_at g1
  obtain rfl : v0 = .slice y0 m0 d0 := by injection e0 with e; have := congrArg (fun z : Array Value => z[0]?) e; simpa using this.symm
  obtain rfl : v1 = .slice y1 m1 d1 := by injection e1 with e; have := congrArg (fun z : Array Value => z[0]?) e; simpa using this.symm
  obtain ⟨vn, en, gn⟩ := kN_at gn
  obtain ⟨vb, eb, gb⟩ := kN_at gb
  obtain rfl : vn = .slice xn nn cn := by injection en with e; have := congrArg (fun z : Array Value => z[0]?) e; simpa using this.symm
  obtain rfl : vb = .slice xb nb cb := by injection eb with e; have := congrArg (fun z : Array Value => z[0]?) e; simpa using this.symm
  have HB := Lib.hid (((Below.refl w.heap.size w).alloc (Nat.le_refl _) (.cells #[.slice xn nn cn] 29)).alloc (by simp) (.cells #[.slice xb nb cb] 29))
  have HX := Lib.hid (hx.on HB.out)
  have HN := Lib.hid ((Ret.Blk.new w #[.slice xn nn cn] 29).on ((Below.refl _ _).alloc (Nat.le_refl _) (.cells #[.slice xb nb cb] 29)))
  have HY := Lib.hid (Ret.Blk.new' (w := w.alloc (.cells #[.slice xn nn cn] 29)) (n := w.heap.size + 1) #[.slice xb nb cb] 29 (by simp))
  have G0 := Lib.hid g0; have G1 := Lib.hid g1; have GN := Lib.hid gn; have GB := Lib.hid gb
  obtain ⟨a, ha2⟩ : ∃ a, mOk p n [] = a := ⟨_, rfl⟩
  obtain ⟨m, hm⟩ : ∃ m, mOut p n [] = m := ⟨_, rfl⟩
  obtain ⟨c, hc⟩ : ∃ a, mOk q b m = a := ⟨_, rfl⟩
  have hml := mOut_len p n []
  rw [hm] at hml
  have HA := Lib.hid ha2; have HM := Lib.hid hm; have HC := Lib.hid hc
  have HE : Hid (z = (a && c)) := Lib.hid (by rw [← hz]; show (mOk p n [] && mOk q b (mOut p n [])) = _; rw [hm, ha2, hc])
  have q0 : ((w.alloc (.cells #[.slice xn nn cn] 29)).alloc (.cells #[.slice xb nb cb] 29)).cell? ⟨g, 0, none⟩ = some (.slice y0 m0 d0) := HX.out.cell 0
  clear hx ha g0 g1 e0 e1 gn gb en eb hz ha2 hm hc e hp
  go_enter Tryz.func60, Tryz.ntmps60
  go_wp2_with fail
  clear q0
  refine (implMatchX _ _ _ p n [] _ (G0.out.on HB.out) (GN.out.on HB.out) (HoldsK.nil _ _ _) (by omega) (by omega) (by simp)).mono ?_
  rintro e w1 ⟨v1, rfl, ho, hb1⟩
  rw [HA.out, HM.out] at *
  obtain ⟨xm, nm, cm, rfl, -, -, ho⟩ := ho.shapeN
  have HO := Lib.hid ho.holds
  replace HX := Lib.hid (HX.out.on hb1); replace HN := Lib.hid (HN.out.on hb1); replace HY := Lib.hid (HY.out.on hb1); replace HB := Lib.hid (HB.out.trans (hb1.mono HB.out.size)); clear hb1 ho
  have q1 : w1.cell? ⟨g, 1, none⟩ = some (.slice y1 m1 d1) := HX.out.cell 1
  have q2 : w1.cell? ⟨w.heap.size + 1, 0, none⟩ = some (.slice xb nb cb) := HY.out.cell 0
  cases a with
  | false =>
    have HF : Hid (z = false) := Lib.hid HE.out
    go_wp2_with fail
    go_ret
    exact ⟨ret_bool HF.out.symm, HB.out⟩
  | true =>
    have HF : Hid (z = c) := Lib.hid HE.out
    go_wp2_with fail
    clear q1 q2
    refine (implMatchX _ _ _ q b m _ (G1.out.on HB.out) (GB.out.on HB.out) HO.out (by omega) (by omega) (by simp at hml; omega)).mono ?_
    rintro e w2 ⟨v2, rfl, -, hb2⟩
    rw [HC.out]
    replace HB := Lib.hid (HB.out.trans (hb2.mono HB.out.size)); clear hb2
    go_wp2_with fail
    go_ret
    exact ⟨ret_bool HF.out.symm, HB.out⟩

set_option maxHeartbeats 2000000 in
theorem allowanceNo (V : Value) (x : Rlt) (w : World) (hv : validR x = false) (h : kRl.At w V x) (hp : wtRl x ≤ 9000000) :
    Calls Tryz.prog 39 #[V] w fun e w' => e = .returned (.func (.func 59) #[] #[]) ∧ Below w.heap.size w w' := by
  obtain ⟨x0, n0, c0, x1, n1, c1, rfl, g0⟩ := kRl_shapeA h
  have HB := Lib.hid ((Below.refl w.heap.size w).alloc (Nat.le_refl _) (.cells #[.slice x0 n0 c0, .slice x1 n1 c1] 28))
  have G0 := Lib.hid g0; have HV := Lib.hid hv; have HP := Lib.hid hp
  clear h g0 hv hp
  go_enter Tryz.func39, Tryz.ntmps39
  go_wp2_with fail
  refine (implValidRule _ x _ false HV.out (G0.out.on HB.out) HP.out).mono ?_
  rintro e w1 ⟨rfl, hb⟩
  replace HB := Lib.hid (HB.out.trans (hb.mono HB.out.size)); clear hb
  go_wp2_with fail
  go_ret
  exact ⟨rfl, HB.out⟩
set_option maxHeartbeats 2000000 in
theorem allowanceYesV (x0 : Option Addr) (n0 c0 : Nat) (x1 : Option Addr) (n1 c1 : Nat) (x : Rlt) (w : World) (hv : validR x = true) (g0 : kRl.At w (.agg #[.slice x0 n0 c0, .slice x1 n1 c1]) x) (hp : wtRl x ≤ 9000000) :
    Calls Tryz.prog 39 #[.agg #[.slice x0 n0 c0, .slice x1 n1 c1]] w fun e w' => ∃ g : Nat, e = .returned (.func (.func 60) #[] #[.pointer (some ⟨g, 0, none⟩)]) ∧ Ret.Blk w' g #[.slice x0 n0 c0, .slice x1 n1 c1] 28 ∧ Below w.heap.size w w' := by
  have HB := Lib.hid ((Below.refl w.heap.size w).alloc (Nat.le_refl _) (.cells #[.slice x0 n0 c0, .slice x1 n1 c1] 28))
  have HX := Lib.hid (Ret.Blk.new w #[.slice x0 n0 c0, .slice x1 n1 c1] 28)
  have G0 := Lib.hid g0; have HV := Lib.hid hv; have HP := Lib.hid hp
  have hmf : ∀ (fn : Fn) (first cap : Array Value) (w : World), (Instr.makeFunc fn first cap).run Tryz.prog w = .ok (.func fn first cap) w := fun _ _ _ _ => rfl
  clear g0 hv hp
  go_enter Tryz.func39, Tryz.ntmps39
  go_wp2_with fail
  refine (implValidRule _ x _ true HV.out (G0.out.on HB.out) HP.out).mono ?_
  rintro e w1 ⟨rfl, hb⟩
  replace HX := Lib.hid (HX.out.on hb); replace HB := Lib.hid (HB.out.trans (hb.mono HB.out.size)); clear hb
  go_wp2_with fail
  go_ret
  exact ⟨_, rfl, HX.out, HB.out⟩
theorem allowanceYes (V : Value) (x : Rlt) (w : World) (hv : validR x = true) (h : kRl.At w V x) (hp : wtRl x ≤ 9000000) :
    Calls Tryz.prog 39 #[V] w fun e w' => ∃ (g : Nat) (x0 x1 : Option Addr) (n0 c0 n1 c1 : Nat), e = .returned (.func (.func 60) #[] #[.pointer (some ⟨g, 0, none⟩)]) ∧ RuleAt w' g x x0 x1 n0 c0 n1 c1 ∧ Below w.heap.size w w' := by
  obtain ⟨x0, n0, c0, x1, n1, c1, rfl, g0⟩ := kRl_shapeA h
  exact (allowanceYesV x0 n0 c0 x1 n1 c1 x w hv g0 hp).mono fun e w' ⟨g, a, b, c⟩ => ⟨g, _, _, _, _, _, _, a, ⟨b, g0.on c⟩, c⟩
/-- The function value u is, in w, the allowance of the rule x, which lies as V. -/
def AlwV (w : World) (u : Value) (x0 : Option Addr) (n0 c0 : Nat) (x1 : Option Addr) (n1 c1 : Nat) (x : Rlt) : Prop :=
  (validR x = false ∧ u = .func (.func 59) #[] #[]) ∨ (validR x = true ∧ ∃ g : Nat, u = .func (.func 60) #[] #[.pointer (some ⟨g, 0, none⟩)] ∧ Ret.Blk w g #[.slice x0 n0 c0, .slice x1 n1 c1] 28)
theorem AlwV.on {w w' : World} {u : Value} {x0 x1 : Option Addr} {n0 c0 n1 c1 : Nat} {x : Rlt} (h : AlwV w u x0 n0 c0 x1 n1 c1 x) (hb : Below w.heap.size w w') : AlwV w' u x0 n0 c0 x1 n1 c1 x := by
  rcases h with h | ⟨h, g, e, r⟩
  · exact Or.inl h
  · exact Or.inr ⟨h, g, e, r.on hb⟩
theorem AlwV.set {w : World} {u : Value} {x0 x1 : Option Addr} {n0 c0 n1 c1 : Nat} {x : Rlt} {g i : Nat} {cs : Array Value} {t : TypeId} (h : AlwV w u x0 n0 c0 x1 n1 c1 x) (hg : Ret.Blk w g cs t) (ht : t ≠ 28) (v : Value) : AlwV (w.setCell ⟨g, i, none⟩ v) u x0 n0 c0 x1 n1 c1 x := by
  rcases h with h | ⟨h, q, e, r⟩
  · exact Or.inl h
  · refine Or.inr ⟨h, q, e, r.other (fun e2 => ?_) v⟩
    dsimp only at e2
    subst e2
    have h1 : w.heap[g]? = some (.cells cs t) := hg
    have h2 : w.heap[g]? = some (.cells #[.slice x0 n0 c0, .slice x1 n1 c1] 28) := r
    rw [h1] at h2
    injection h2 with h2
    injection h2 with _ h3
    exact ht h3
theorem AlwV.alw {w : World} {u : Value} {x0 x1 : Option Addr} {n0 c0 n1 c1 : Nat} {x : Rlt} (h : AlwV w u x0 n0 c0 x1 n1 c1 x) (ha : kRl.At w (.agg #[.slice x0 n0 c0, .slice x1 n1 c1]) x) : Alw w u x := by
  rcases h with h | ⟨h, q, e, r⟩
  · exact Or.inl h
  · exact Or.inr ⟨h, q, _, _, _, _, _, _, e, r, ha⟩
theorem allowanceOfV (x0 : Option Addr) (n0 c0 : Nat) (x1 : Option Addr) (n1 c1 : Nat) (x : Rlt) (w : World) (h : kRl.At w (.agg #[.slice x0 n0 c0, .slice x1 n1 c1]) x) (hp : wtRl x ≤ 9000000) :
    Calls Tryz.prog 39 #[.agg #[.slice x0 n0 c0, .slice x1 n1 c1]] w fun e w' => ∃ (fn : Fn) (cap : Array Value), e = .returned (.func fn #[] cap) ∧ AlwV w' (.func fn #[] cap) x0 n0 c0 x1 n1 c1 x ∧ Below w.heap.size w w' := by
  cases hv : validR x with
  | false => exact (allowanceNo _ x w hv h hp).mono fun e w' ⟨a, b⟩ => ⟨_, _, a, Or.inl ⟨hv, rfl⟩, b⟩
  | true => exact (allowanceYesV x0 n0 c0 x1 n1 c1 x w hv h hp).mono fun e w' ⟨g, a, r, b⟩ => ⟨_, _, a, Or.inr ⟨hv, g, rfl, r⟩, b⟩

set_option maxRecDepth 100000 in
set_option maxHeartbeats 4000000 in
theorem ral1 {Q : Exit → Act → World → Prop} {v0 v1 v2 v6 v7 v8 v9 v10 v11 : Value} {w : World} {r1 r2 r3 : Nat} {n0 c0 n1 c1 nn cn nb cb : Nat} {x0 x1 xn xb : Option Addr} {x : Rlt}  (HV : Hid (validR x = false)) (H_x : Hid (kRl.At w (.agg #[.slice x0 n0 c0, .slice x1 n1 c1]) x)) (HP : Hid (wtRl x ≤ 9000000))  (K0 : Hid (w.cell? ⟨r1, 0, none⟩ = some (.slice x0 n0 c0))) (K1 : Hid (w.cell? ⟨r1, 1, none⟩ = some (.slice x1 n1 c1))) (K2 : Hid (w.cell? ⟨r2, 0, none⟩ = some (.slice xn nn cn))) (K3 : Hid (w.cell? ⟨r3, 0, none⟩ = some (.slice xb nb cb)))
    (hQ : ∀ (u7 u8 u9 u10 u11 : Value)  (wx : World), Below w.heap.size w wx → Q .normal ⟨#[v0, v1, v2, .pointer (some ⟨r1, 0, none⟩), .pointer (some ⟨r2, 0, none⟩), .pointer (some ⟨r3, 0, none⟩), .bool false, u7, u8, u9, u10, u11], []⟩ wx) :
    (Code.region 1 #[{ dst := some 7, op := Op.load 28 (Operand.tmp 3), type := 28, pos := "l10_rule.go:41", after := #[], guard := none },
      { dst := some 8, op := Op.call { callee := Callee.value (Operand.func 39), args := #[Operand.tmp 7], argTypes := #[28] }, type := 65, pos := "l10_rule.go:41", after := #[{ on := 0, ground := Ground.data }], guard := none },
      { dst := some 9, op := Op.load 29 (Operand.tmp 4), type := 29, pos := "l10_rule.go:41", after := #[], guard := none },
      { dst := some 10, op := Op.load 29 (Operand.tmp 5), type := 29, pos := "l10_rule.go:41", after := #[], guard := none },
      { dst := some 11, op := Op.call { callee := Callee.value (Operand.tmp 8), args := #[Operand.tmp 9, Operand.tmp 10], argTypes := #[29, 29] }, type := 4, pos := "l10_rule.go:41", after := #[{ on := 1, ground := Ground.data }, { on := 2, ground := Ground.data }, { on := 3, ground := Ground.data }, { on := 1, ground := Ground.chain }], guard := none },
      { dst := some 6, op := Op.assign (Operand.tmp 11), type := 4, pos := "l10_rule.go:41", after := #[{ on := 4, ground := Ground.data }, { on := 4, ground := Ground.chain }, { on := 0, ground := Ground.phase }, { on := 1, ground := Ground.phase }, { on := 2, ground := Ground.phase }, { on := 3, ground := Ground.phase }, { on := 4, ground := Ground.phase }], guard := none }] true).wp Tryz.prog Q ⟨#[v0, v1, v2, .pointer (some ⟨r1, 0, none⟩), .pointer (some ⟨r2, 0, none⟩), .pointer (some ⟨r3, 0, none⟩), v6, v7, v8, v9, v10, v11], []⟩ w := by
  have HQ := Lib.hid hQ; clear hQ
  have hdr : Below w.heap.size w w.drew := (Below.refl _ _).drew
  have BB := Lib.hid hdr
  refine wp_region_noPanic ?_
  refine wp_region_held_drew (S := (fun w' => w'.cell? ⟨r1, 0, none⟩ = some (.slice x0 n0 c0) ∧ w'.cell? ⟨r1, 1, none⟩ = some (.slice x1 n1 c1) ∧ w'.cell? ⟨r2, 0, none⟩ = some (.slice xn nn cn) ∧ w'.cell? ⟨r3, 0, none⟩ = some (.slice xb nb cb))) (by kernel_rfl) ?_ (fun hHeld => ?_)
  · exact ⟨kc K0.out BB.out, kc K1.out BB.out, kc K2.out BB.out, kc K3.out BB.out⟩
  clear hdr
  generalize w.drew = wd at *
  refine wpAnyH_take (i := 0) (oi := { dst := some 7, op := Op.load 28 (Operand.tmp 3), type := 28, pos := "l10_rule.go:41", after := #[], guard := none }) (v := ?_) rfl (by kernel_rfl) (by kernel_rfl) (by kernel_rfl) (fun _ _ _ h => h) (Or.inl ⟨by rfl, ?_⟩) (by assumption) ?_
  rotate_left
  · intro w' hSw; (try dsimp only at hSw); first | (go_simp; done) | (go_simp; with_reducible rfl)
  (try simp only [Act.put, List.setIfInBounds_toArray, List.set_cons_zero, List.set_cons_succ])
  refine wpAnyH_take (i := 2) (oi := { dst := some 9, op := Op.load 29 (Operand.tmp 4), type := 29, pos := "l10_rule.go:41", after := #[], guard := none }) (v := ?_) rfl (by kernel_rfl) (by kernel_rfl) (by kernel_rfl) (fun _ _ _ h => h) (Or.inl ⟨by rfl, ?_⟩) (by assumption) ?_
  rotate_left
  · intro w' hSw; (try dsimp only at hSw); first | (go_simp; done) | (go_simp; with_reducible rfl)
  (try simp only [Act.put, List.setIfInBounds_toArray, List.set_cons_zero, List.set_cons_succ])
  refine wpAnyH_take (i := 3) (oi := { dst := some 10, op := Op.load 29 (Operand.tmp 5), type := 29, pos := "l10_rule.go:41", after := #[], guard := none }) (v := ?_) rfl (by kernel_rfl) (by kernel_rfl) (by kernel_rfl) (fun _ _ _ h => h) (Or.inl ⟨by rfl, ?_⟩) (by assumption) ?_
  rotate_left
  · intro w' hSw; (try dsimp only at hSw); first | (go_simp; done) | (go_simp; with_reducible rfl)
  (try simp only [Act.put, List.setIfInBounds_toArray, List.set_cons_zero, List.set_cons_succ])
  refine wpAnyH_ready (rs := [1]) (by kernel_rfl) (by simp) ?_
  refine AllReadyH.cons (o := { dst := some 8, op := Op.call { callee := Callee.value (Operand.func 39), args := #[Operand.tmp 7], argTypes := #[28] }, type := 65, pos := "l10_rule.go:41", after := #[{ on := 0, ground := Ground.data }], guard := none }) rfl (fun K hK => ?_) AllReadyH.nil
  go_simp
  refine (allowanceNo _ x _ HV.out (H_x.out.on BB.out) HP.out).mono ?_
  rintro e wn1 ⟨rfl, hb⟩
  replace BB := Lib.hid (BB.out.trans (hb.mono BB.out.size))
  clear hb
  (try go_wp2_with fail)
  clear hHeld
  refine hK.out _ _ ?_ (fun hHeld => ?_)
  · (try dsimp only); exact ⟨kc K0.out BB.out, kc K1.out BB.out, kc K2.out BB.out, kc K3.out BB.out⟩
  clear hK K
  (try simp only [Act.put, List.setIfInBounds_toArray, List.set_cons_zero, List.set_cons_succ])
  refine wpAnyH_ready (rs := [4]) (by kernel_rfl) (by simp) ?_
  refine AllReadyH.cons (o := { dst := some 11, op := Op.call { callee := Callee.value (Operand.tmp 8), args := #[Operand.tmp 9, Operand.tmp 10], argTypes := #[29, 29] }, type := 4, pos := "l10_rule.go:41", after := #[{ on := 1, ground := Ground.data }, { on := 2, ground := Ground.data }, { on := 3, ground := Ground.data }, { on := 1, ground := Ground.chain }], guard := none }) rfl (fun K hK => ?_) AllReadyH.nil
  go_simp
  refine (allowNo _ _ _ _ _ _ _).mono ?_
  rintro e wn2 ⟨rfl, hb⟩
  replace BB := Lib.hid (BB.out.trans (hb.mono BB.out.size))
  clear hb
  (try go_wp2_with fail)
  clear hHeld
  refine hK.out _ _ ?_ (fun hHeld => ?_)
  · (try dsimp only); exact ⟨kc K0.out BB.out, kc K1.out BB.out, kc K2.out BB.out, kc K3.out BB.out⟩
  clear hK K
  (try simp only [Act.put, List.setIfInBounds_toArray, List.set_cons_zero, List.set_cons_succ])
  refine wpAnyH_take (i := 5) (oi := { dst := some 6, op := Op.assign (Operand.tmp 11), type := 4, pos := "l10_rule.go:41", after := #[{ on := 4, ground := Ground.data }, { on := 4, ground := Ground.chain }, { on := 0, ground := Ground.phase }, { on := 1, ground := Ground.phase }, { on := 2, ground := Ground.phase }, { on := 3, ground := Ground.phase }, { on := 4, ground := Ground.phase }], guard := none }) (v := ?_) rfl (by kernel_rfl) (by kernel_rfl) (by kernel_rfl) (fun _ _ _ h => h) (Or.inl ⟨by rfl, ?_⟩) (by assumption) ?_
  rotate_left
  · intro w' hSw; (try dsimp only at hSw); first | (go_simp; done) | (go_simp; with_reducible rfl)
  (try simp only [Act.put, List.setIfInBounds_toArray, List.set_cons_zero, List.set_cons_succ])
  refine wpAnyH_done (by kernel_rfl) ?_ _
  exact NoPanic.normal (HQ.out _ _ _ _ _  _  BB.out)

set_option maxRecDepth 100000 in
set_option maxHeartbeats 4000000 in
theorem ral2 {Q : Exit → Act → World → Prop} {v0 v1 v2 v6 v7 v8 v9 v10 v11 : Value} {w : World} {r1 r2 r3 : Nat} {n0 c0 n1 c1 nn cn nb cb : Nat} {x0 x1 xn xb : Option Addr} {x : Rlt} {ln lb : List ByteArray} {z : Bool} (HV : Hid (validR x = true)) (HZ : Hid (okR2 x ln lb = z)) (H_n : Hid (kN.At w (.agg #[.slice xn nn cn]) ln)) (H_b : Hid (kN.At w (.agg #[.slice xb nb cb]) lb)) (HPN : Hid (bulk ln ≤ 9000000)) (HPB : Hid (bulk lb ≤ 9000000)) (H_x : Hid (kRl.At w (.agg #[.slice x0 n0 c0, .slice x1 n1 c1]) x)) (HP : Hid (wtRl x ≤ 9000000))  (K0 : Hid (w.cell? ⟨r1, 0, none⟩ = some (.slice x0 n0 c0))) (K1 : Hid (w.cell? ⟨r1, 1, none⟩ = some (.slice x1 n1 c1))) (K2 : Hid (w.cell? ⟨r2, 0, none⟩ = some (.slice xn nn cn))) (K3 : Hid (w.cell? ⟨r3, 0, none⟩ = some (.slice xb nb cb)))
    (hQ : ∀ (u7 u8 u9 u10 u11 : Value)  (wx : World), Below w.heap.size w wx → Q .normal ⟨#[v0, v1, v2, .pointer (some ⟨r1, 0, none⟩), .pointer (some ⟨r2, 0, none⟩), .pointer (some ⟨r3, 0, none⟩), .bool z, u7, u8, u9, u10, u11], []⟩ wx) :
    (Code.region 1 #[{ dst := some 7, op := Op.load 28 (Operand.tmp 3), type := 28, pos := "l10_rule.go:41", after := #[], guard := none },
      { dst := some 8, op := Op.call { callee := Callee.value (Operand.func 39), args := #[Operand.tmp 7], argTypes := #[28] }, type := 65, pos := "l10_rule.go:41", after := #[{ on := 0, ground := Ground.data }], guard := none },
      { dst := some 9, op := Op.load 29 (Operand.tmp 4), type := 29, pos := "l10_rule.go:41", after := #[], guard := none },
      { dst := some 10, op := Op.load 29 (Operand.tmp 5), type := 29, pos := "l10_rule.go:41", after := #[], guard := none },
      { dst := some 11, op := Op.call { callee := Callee.value (Operand.tmp 8), args := #[Operand.tmp 9, Operand.tmp 10], argTypes := #[29, 29] }, type := 4, pos := "l10_rule.go:41", after := #[{ on := 1, ground := Ground.data }, { on := 2, ground := Ground.data }, { on := 3, ground := Ground.data }, { on := 1, ground := Ground.chain }], guard := none },
      { dst := some 6, op := Op.assign (Operand.tmp 11), type := 4, pos := "l10_rule.go:41", after := #[{ on := 4, ground := Ground.data }, { on := 4, ground := Ground.chain }, { on := 0, ground := Ground.phase }, { on := 1, ground := Ground.phase }, { on := 2, ground := Ground.phase }, { on := 3, ground := Ground.phase }, { on := 4, ground := Ground.phase }], guard := none }] true).wp Tryz.prog Q ⟨#[v0, v1, v2, .pointer (some ⟨r1, 0, none⟩), .pointer (some ⟨r2, 0, none⟩), .pointer (some ⟨r3, 0, none⟩), v6, v7, v8, v9, v10, v11], []⟩ w := by
  have HQ := Lib.hid hQ; clear hQ
  have hdr : Below w.heap.size w w.drew := (Below.refl _ _).drew
  have BB := Lib.hid hdr
  refine wp_region_noPanic ?_
  refine wp_region_held_drew (S := (fun w' => w'.cell? ⟨r1, 0, none⟩ = some (.slice x0 n0 c0) ∧ w'.cell? ⟨r1, 1, none⟩ = some (.slice x1 n1 c1) ∧ w'.cell? ⟨r2, 0, none⟩ = some (.slice xn nn cn) ∧ w'.cell? ⟨r3, 0, none⟩ = some (.slice xb nb cb))) (by kernel_rfl) ?_ (fun hHeld => ?_)
  · exact ⟨kc K0.out BB.out, kc K1.out BB.out, kc K2.out BB.out, kc K3.out BB.out⟩
  clear hdr
  generalize w.drew = wd at *
  refine wpAnyH_take (i := 0) (oi := { dst := some 7, op := Op.load 28 (Operand.tmp 3), type := 28, pos := "l10_rule.go:41", after := #[], guard := none }) (v := ?_) rfl (by kernel_rfl) (by kernel_rfl) (by kernel_rfl) (fun _ _ _ h => h) (Or.inl ⟨by rfl, ?_⟩) (by assumption) ?_
  rotate_left
  · intro w' hSw; (try dsimp only at hSw); first | (go_simp; done) | (go_simp; with_reducible rfl)
  (try simp only [Act.put, List.setIfInBounds_toArray, List.set_cons_zero, List.set_cons_succ])
  refine wpAnyH_take (i := 2) (oi := { dst := some 9, op := Op.load 29 (Operand.tmp 4), type := 29, pos := "l10_rule.go:41", after := #[], guard := none }) (v := ?_) rfl (by kernel_rfl) (by kernel_rfl) (by kernel_rfl) (fun _ _ _ h => h) (Or.inl ⟨by rfl, ?_⟩) (by assumption) ?_
  rotate_left
  · intro w' hSw; (try dsimp only at hSw); first | (go_simp; done) | (go_simp; with_reducible rfl)
  (try simp only [Act.put, List.setIfInBounds_toArray, List.set_cons_zero, List.set_cons_succ])
  refine wpAnyH_take (i := 3) (oi := { dst := some 10, op := Op.load 29 (Operand.tmp 5), type := 29, pos := "l10_rule.go:41", after := #[], guard := none }) (v := ?_) rfl (by kernel_rfl) (by kernel_rfl) (by kernel_rfl) (fun _ _ _ h => h) (Or.inl ⟨by rfl, ?_⟩) (by assumption) ?_
  rotate_left
  · intro w' hSw; (try dsimp only at hSw); first | (go_simp; done) | (go_simp; with_reducible rfl)
  (try simp only [Act.put, List.setIfInBounds_toArray, List.set_cons_zero, List.set_cons_succ])
  refine wpAnyH_ready (rs := [1]) (by kernel_rfl) (by simp) ?_
  refine AllReadyH.cons (o := { dst := some 8, op := Op.call { callee := Callee.value (Operand.func 39), args := #[Operand.tmp 7], argTypes := #[28] }, type := 65, pos := "l10_rule.go:41", after := #[{ on := 0, ground := Ground.data }], guard := none }) rfl (fun K hK => ?_) AllReadyH.nil
  go_simp
  refine (allowanceYes _ x _ HV.out (H_x.out.on BB.out) HP.out).mono ?_
  rintro e wn1 ⟨g, y0, y1, m0, d0, m1, d1, rfl, hr, hb⟩
  have RR := Lib.hid hr; clear hr
  replace BB := Lib.hid (BB.out.trans (hb.mono BB.out.size))
  clear hb
  (try go_wp2_with fail)
  clear hHeld
  refine hK.out _ _ ?_ (fun hHeld => ?_)
  · (try dsimp only); exact ⟨kc K0.out BB.out, kc K1.out BB.out, kc K2.out BB.out, kc K3.out BB.out⟩
  clear hK K
  (try simp only [Act.put, List.setIfInBounds_toArray, List.set_cons_zero, List.set_cons_succ])
  refine wpAnyH_ready (rs := [4]) (by kernel_rfl) (by simp) ?_
  refine AllReadyH.cons (o := { dst := some 11, op := Op.call { callee := Callee.value (Operand.tmp 8), args := #[Operand.tmp 9, Operand.tmp 10], argTypes := #[29, 29] }, type := 4, pos := "l10_rule.go:41", after := #[{ on := 1, ground := Ground.data }, { on := 2, ground := Ground.data }, { on := 3, ground := Ground.data }, { on := 1, ground := Ground.chain }], guard := none }) rfl (fun K hK => ?_) AllReadyH.nil
  go_simp
  refine (allowYes _ x _ _ _ _ _ _ _ _ _ _ _ _ ln lb _ z HZ.out RR.out (H_n.out.on BB.out) (H_b.out.on BB.out) HP.out HPN.out HPB.out).mono ?_
  rintro e wn2 ⟨rfl, hb⟩
  replace RR := Lib.hid (RR.out.on hb)
  replace BB := Lib.hid (BB.out.trans (hb.mono BB.out.size))
  clear hb
  (try go_wp2_with fail)
  clear hHeld
  refine hK.out _ _ ?_ (fun hHeld => ?_)
  · (try dsimp only); exact ⟨kc K0.out BB.out, kc K1.out BB.out, kc K2.out BB.out, kc K3.out BB.out⟩
  clear hK K
  (try simp only [Act.put, List.setIfInBounds_toArray, List.set_cons_zero, List.set_cons_succ])
  refine wpAnyH_take (i := 5) (oi := { dst := some 6, op := Op.assign (Operand.tmp 11), type := 4, pos := "l10_rule.go:41", after := #[{ on := 4, ground := Ground.data }, { on := 4, ground := Ground.chain }, { on := 0, ground := Ground.phase }, { on := 1, ground := Ground.phase }, { on := 2, ground := Ground.phase }, { on := 3, ground := Ground.phase }, { on := 4, ground := Ground.phase }], guard := none }) (v := ?_) rfl (by kernel_rfl) (by kernel_rfl) (by kernel_rfl) (fun _ _ _ h => h) (Or.inl ⟨by rfl, ?_⟩) (by assumption) ?_
  rotate_left
  · intro w' hSw; (try dsimp only at hSw); first | (go_simp; done) | (go_simp; with_reducible rfl)
  (try simp only [Act.put, List.setIfInBounds_toArray, List.set_cons_zero, List.set_cons_succ])
  refine wpAnyH_done (by kernel_rfl) ?_ _
  exact NoPanic.normal (HQ.out _ _ _ _ _  _  BB.out)

set_option maxHeartbeats 4000000 in
theorem implRuleAllows (V U1 U2 : Value) (x : Rlt) (n b : List ByteArray) (w : World) (z : Bool) (hz : allowsR x n b = z) (h : kRl.At w V x) (gn9 : kN.At w U1 n) (gb9 : kN.At w U2 b) (hp : wtRl x ≤ 9000000) (hn : bulk n ≤ 9000000) (hb : bulk b ≤ 9000000) :
    Calls Tryz.prog 13 #[V, U1, U2] w fun e w' => e = .returned (.bool z) ∧ Below w.heap.size w w' := by
  obtain ⟨x0, n0, c0, x1, n1, c1, rfl, g0⟩ := kRl_shapeA h
  obtain ⟨xn, nn, cn, rfl, gn⟩ := kN_shapeA gn9
  obtain ⟨xb, nb, cb, rfl, gb⟩ := kN_shapeA gb9
  have HB := Lib.hid ((((Below.refl w.heap.size w).alloc (Nat.le_refl _) (.cells #[.slice x0 n0 c0, .slice x1 n1 c1] 28)).alloc (by simp) (.cells #[.slice xn nn cn] 29)).alloc (by simp; omega) (.cells #[.slice xb nb cb] 29))
  have HX := Lib.hid (((Ret.Blk.new w #[.slice x0 n0 c0, .slice x1 n1 c1] 28).on ((Below.refl _ _).alloc (Nat.le_refl _) (.cells #[.slice xn nn cn] 29))).on ((Below.refl _ _).alloc (Nat.le_refl _) (.cells #[.slice xb nb cb] 29)))
  have HN := Lib.hid ((Ret.Blk.new' (w := w.alloc (.cells #[.slice x0 n0 c0, .slice x1 n1 c1] 28)) (n := w.heap.size + 1) #[.slice xn nn cn] 29 (by simp)).on ((Below.refl _ _).alloc (Nat.le_refl _) (.cells #[.slice xb nb cb] 29)))
  have HY := Lib.hid (Ret.Blk.new' (w := ((w.alloc (.cells #[.slice x0 n0 c0, .slice x1 n1 c1] 28)).alloc (.cells #[.slice xn nn cn] 29))) (n := w.heap.size + 1 + 1) #[.slice xb nb cb] 29 (by simp))
  have G0 := Lib.hid g0; have GN := Lib.hid gn; have GB := Lib.hid gb; have HZ := Lib.hid hz; have HP := Lib.hid hp; have HPN := Lib.hid hn; have HPB := Lib.hid hb
  clear h g0 gn gb gn9 gb9 hz hp hn hb
  go_enter Tryz.func13, Tryz.ntmps13
  go_wp2_with fail
  cases hv : validR x with
  | false =>
    have HV := Lib.hid hv
    have HE : Hid (z = false) := Lib.hid (by rw [← HZ.out]; exact allowsR_no hv n b)
    clear hv
    refine ral1 HV (Lib.hid (G0.out.on HB.out)) HP (Lib.hid (HX.out.cell 0)) (Lib.hid (HX.out.cell 1)) (Lib.hid (HN.out.cell 0)) (Lib.hid (HY.out.cell 0)) ?_
    intro u7 u8 u9 u10 u11 wx hb
    replace HB := Lib.hid (HB.out.trans (hb.mono HB.out.size)); clear hb
    go_wp2_with fail
    go_ret
    exact ⟨ret_bool HE.out.symm, HB.out⟩
  | true =>
    have HV := Lib.hid hv
    have HE : Hid (okR2 x n b = z) := Lib.hid (by rw [← HZ.out]; exact (allowsR_yes hv n b).symm)
    clear hv
    refine ral2 HV HE (Lib.hid (GN.out.on HB.out)) (Lib.hid (GB.out.on HB.out)) HPN HPB (Lib.hid (G0.out.on HB.out)) HP (Lib.hid (HX.out.cell 0)) (Lib.hid (HX.out.cell 1)) (Lib.hid (HN.out.cell 0)) (Lib.hid (HY.out.cell 0)) ?_
    intro u7 u8 u9 u10 u11 wx hb
    replace HB := Lib.hid (HB.out.trans (hb.mono HB.out.size)); clear hb
    go_wp2_with fail
    go_ret
    exact ⟨rfl, HB.out⟩
end Go.Proofs.YtkojeajjappchaaGreat.Row
/- The program's chapter 10: allowancesOf, an array of function values. No conditions but that lengths fit. -/
namespace Go.Proofs.YtkojeajjappchaaGreat.Row
open Go.ChangeShapes Go.WideShapes Go.ChangeAt Go.RowKit Go.Instr
set_option linter.unusedVariables false
set_option maxRecDepth 100000

/-- An array of eight values. -/
def arr8 (f : Nat → Value) : Array Value := #[f 0, f 1, f 2, f 3, f 4, f 5, f 6, f 7]
theorem arr8_set (f : Nat → Value) {k : Nat} (hk : k < 8) (u : Value) : (arr8 f).setIfInBounds k u = arr8 (fun j => if j = k then u else f j) := by
  match k, hk with
  | 0, _ => simp [arr8]
  | 1, _ => simp [arr8]
  | 2, _ => simp [arr8]
  | 3, _ => simp [arr8]
  | 4, _ => simp [arr8]
  | 5, _ => simp [arr8]
  | 6, _ => simp [arr8]
  | 7, _ => simp [arr8]
theorem arr8_at (f : Nat → Value) {k : Nat} (hk : k < 8) : (arr8 f)[k]? = some (f k) := by
  match k, hk with
  | 0, _ => rfl
  | 1, _ => rfl
  | 2, _ => rfl
  | 3, _ => rfl
  | 4, _ => rfl
  | 5, _ => rfl
  | 6, _ => rfl
  | 7, _ => rfl
/-- The function value u is, in w', the allowance of the rule x, which lies in w. -/
def AlwL (w w' : World) (u : Value) (x : Rlt) : Prop := ∃ (x0 : Option Addr) (n0 c0 : Nat) (x1 : Option Addr) (n1 c1 : Nat), AlwV w' u x0 n0 c0 x1 n1 c1 x ∧ kRl.At w (.agg #[.slice x0 n0 c0, .slice x1 n1 c1]) x
theorem AlwL.on {w w1 w2 : World} {u : Value} {x : Rlt} (h : AlwL w w1 u x) (hb : Below w1.heap.size w1 w2) : AlwL w w2 u x := by
  obtain ⟨x0, n0, c0, x1, n1, c1, a, b⟩ := h
  exact ⟨x0, n0, c0, x1, n1, c1, a.on hb, b⟩
theorem AlwL.set {w w1 : World} {u : Value} {x : Rlt} {g i : Nat} {cs : Array Value} {t : TypeId} (h : AlwL w w1 u x) (hg : Ret.Blk w1 g cs t) (ht : t ≠ 28) (v : Value) : AlwL w (w1.setCell ⟨g, i, none⟩ v) u x := by
  obtain ⟨x0, n0, c0, x1, n1, c1, a, b⟩ := h
  exact ⟨x0, n0, c0, x1, n1, c1, a.set hg ht v, b⟩
theorem AlwL.alw {w w1 : World} {u : Value} {x : Rlt} (h : AlwL w w1 u x) (hb : Below w.heap.size w w1) : Alw w1 u x := by
  obtain ⟨x0, n0, c0, x1, n1, c1, a, b⟩ := h
  exact a.alw (b.on hb)
theorem aggA8 : Ret.AggOf Tryz.prog 66 8 := ⟨by kernel_rfl, by kernel_rfl⟩
set_option maxHeartbeats 4000000 in
theorem allowancesOf (V : Value) (l : List Rlt) (w : World) (h : kLRl.At w V l) (hl : l.length ≤ 8) (hp : ∀ x ∈ l, wtRl x ≤ 9000000) :
    Calls Tryz.prog 38 #[V] w fun e w' => ∃ f : Nat → Value, e = .returned (.agg #[f 0, f 1, f 2, f 3, f 4, f 5, f 6, f 7]) ∧ (∀ j, (f j).oneCell' = true) ∧ (∀ j, j < l.length → Alw w' (f j) (nth l j)) ∧ Below w.heap.size w w' := by
  obtain ⟨ad, n, cap, L, rfl, hn, ht, hh, hel⟩ := kLRl_at h
  have hlen : l.length = n := by rw [← ht, List.length_map]; exact hn.symm
  rw [hlen] at hl
  have HN := Lib.hid hn; have HT := Lib.hid ht; have HH := Lib.hid hh; have HEL := Lib.hid hel; have HP := Lib.hid hp; have HLEN := Lib.hid hlen
  have hb0 := (Below.refl w.heap.size w).alloc (Nat.le_refl _) (.cells (arr8 fun _ => .nilFunc) 66)
  have hb1 := (Below.refl _ (w.alloc (.cells (arr8 fun _ => .nilFunc) 66))).alloc (Nat.le_refl _) (.cells (arr8 fun _ => .nilFunc) 66)
  have HB0 := Lib.hid (hb0.alloc (by simp) (.cells (arr8 fun _ => .nilFunc) 66))
  have HX0 := Lib.hid ((Ret.Blk.new w (arr8 fun _ => .nilFunc) 66).on hb1)
  have HY0 := Lib.hid (Ret.Blk.new' (w := w.alloc (.cells (arr8 fun _ => .nilFunc) 66)) (n := w.heap.size + 1) (arr8 fun _ => .nilFunc) 66 (by simp))
  clear hn h hh hp ht hel hlen hb0 hb1
  go_enter Tryz.func38, Tryz.ntmps38
  go_wp2
  go_loopw [9] (fun i wr => ∃ (k : Nat) (f : Nat → Value), k ≤ n ∧ i = .int .i64 k ∧ Hid (∀ j, (f j).oneCell' = true) ∧ Hid (∀ j, j < k → AlwL w wr (f j) (nth l j)) ∧ Hid (Ret.Blk wr w.heap.size (arr8 fun _ => .nilFunc) 66) ∧ Hid (Ret.Blk wr (w.heap.size + 1) (arr8 f) 66) ∧ Hid (Below w.heap.size w wr)) (fun i _ => n - (intOf i).toNat)
  case atStart => exact ⟨0, fun _ => .nilFunc, Nat.zero_le _, rfl, Lib.hid (fun _ => rfl), Lib.hid (fun j hj => absurd hj (by omega)), HX0, HY0, HB0⟩
  case round =>
    obtain ⟨k, f, hk, rfl, h1c, ha, hx, hy, hb⟩ := hrel
    by_cases hlt : k < n
    · have hlen := HN.out
      obtain ⟨b, off, x0, n0, c0, x1, n1, c1, rfl, -, hc0, hc1, hA⟩ := kLRl_elem HH.out HEL.out (j := k) (by omega)
      have hc0 := (hb.out.cell (Ret.cell_lt hc0)).trans hc0
      have hc1 := (hb.out.cell (Ret.cell_lt hc1)).trans hc1
      have hpt : nth l k = kRl.strip (nth L k) := by rw [← HT.out, nth_map _ (by omega)]
      have hps := HP.out (nth l k) (nth_mem (by have := HLEN.out; omega))
      rw [← hpt] at hA
      have hal := (Below.refl wr.heap.size wr).alloc (Nat.le_refl _) (.cells #[.slice x0 n0 c0, .slice x1 n1 c1] 28)
      have HA0 := Lib.hid hA; have HPS := Lib.hid hps
      have HBA := Lib.hid (hb.out.trans (hal.mono hb.out.size))
      have HA := Lib.hid (hA.on HBA.out)
      replace hx := Lib.hid (hx.out.on hal); replace hy := Lib.hid (hy.out.on hal)
      replace ha := Lib.hid (show ∀ j, j < k → AlwL w (wr.alloc (.cells #[.slice x0 n0 c0, .slice x1 n1 c1] 28)) (f j) (nth l j) from fun j hj => (ha.out j hj).on hal)
      clear hlen hpt hps hA hal
      go_wp2_with fail
      refine (allowanceOfV x0 n0 c0 x1 n1 c1 (nth l k) _ HA.out HPS.out).mono ?_
      rintro e w1 ⟨fn, cp, rfl, hu, hb1⟩
      have HU := Lib.hid hu
      have H1C := Lib.hid (show ∀ j, (if j = k then Value.func fn #[] cp else f j).oneCell' = true from fun j => by by_cases hj : j = k; rw [if_pos hj]; rfl; rw [if_neg hj]; exact h1c.out j)
      have HB1 := Lib.hid (HBA.out.trans (hb1.mono HBA.out.size))
      replace hx := Lib.hid (hx.out.on hb1); replace hy := Lib.hid (hy.out.on hb1)
      replace ha := Lib.hid (show ∀ j, j < k → AlwL w w1 (f j) (nth l j) from fun j hj => (ha.out j hj).on hb1)
      clear hb1 hc0 hc1 hu
      have hk8 : k < 8 := by omega
      have q1 : w1.cell? ⟨w.heap.size + 1, k, none⟩ = some (f k) := (hy.out.cell k).trans (arr8_at f hk8)
      have q2 : w1.frozen? ⟨w.heap.size + 1, k, none⟩ = false := hy.out.frozen k
      have HY := Lib.hid (show Ret.Blk (w1.setCell ⟨w.heap.size + 1, k, none⟩ (.func fn #[] cp)) (w.heap.size + 1) (arr8 fun j => if j = k then (.func fn #[] cp) else f j) 66 by have := hy.out.set k (.func fn #[] cp); rwa [arr8_set f hk8] at this)
      have HX := Lib.hid (show Ret.Blk (w1.setCell ⟨w.heap.size + 1, k, none⟩ (.func fn #[] cp)) w.heap.size (arr8 fun _ => .nilFunc) 66 from hx.out.other (by simp) (.func fn #[] cp))
      have HB2 := Lib.hid (show Below w.heap.size w (w1.setCell ⟨w.heap.size + 1, k, none⟩ (.func fn #[] cp)) from HB1.out.setCell (p := ⟨w.heap.size + 1, k, none⟩) (by simp) (.func fn #[] cp))
      have HM := Lib.hid (show ∀ j, j < k + 1 → AlwL w (w1.setCell ⟨w.heap.size + 1, k, none⟩ (.func fn #[] cp)) (if j = k then (.func fn #[] cp) else f j) (nth l j) from fun j hj => by
        by_cases hjk : j = k
        · rw [if_pos hjk, hjk]; exact ⟨_, _, _, _, _, _, HU.out.set hy.out (by decide) (.func fn #[] cp), HA0.out⟩
        · rw [if_neg hjk]; exact (ha.out j (by omega)).set hy.out (by decide) (.func fn #[] cp))
      go_wp2_with fail
      go_roundw
      case rel => exact ⟨k + 1, _, by omega, by go_num, H1C, HM, HX, HY, HB2⟩
      case measure => simp [intOf]; omega
    · obtain rfl : k = n := by omega
      clear hlt
      have hs : ∀ (j : Nat) (a : Addr) (m : Mode) (w : World), (store a (f j) m).run Tryz.prog w = stored Tryz.prog w a (f j) m := fun j a m w => run_store Tryz.prog w a (f j) m (h1c.out j)
      obtain ⟨q0, q1, q2, q3, q4, q5, q6, q7⟩ : wr.cell? ⟨w.heap.size + 1, 0, none⟩ = some (f 0) ∧ wr.cell? ⟨w.heap.size + 1, 1, none⟩ = some (f 1) ∧ wr.cell? ⟨w.heap.size + 1, 2, none⟩ = some (f 2) ∧ wr.cell? ⟨w.heap.size + 1, 3, none⟩ = some (f 3) ∧ wr.cell? ⟨w.heap.size + 1, 4, none⟩ = some (f 4) ∧ wr.cell? ⟨w.heap.size + 1, 5, none⟩ = some (f 5) ∧ wr.cell? ⟨w.heap.size + 1, 6, none⟩ = some (f 6) ∧ wr.cell? ⟨w.heap.size + 1, 7, none⟩ = some (f 7) := ⟨hy.out.cell 0, hy.out.cell 1, hy.out.cell 2, hy.out.cell 3, hy.out.cell 4, hy.out.cell 5, hy.out.cell 6, hy.out.cell 7⟩
      have HX8 := Lib.hid (show ∀ v : Nat → Value, Ret.Blk ((((((((wr.setCell ⟨w.heap.size, 0, none⟩ (v 0)).setCell ⟨w.heap.size, 1, none⟩ (v 1)).setCell ⟨w.heap.size, 2, none⟩ (v 2)).setCell ⟨w.heap.size, 3, none⟩ (v 3)).setCell ⟨w.heap.size, 4, none⟩ (v 4)).setCell ⟨w.heap.size, 5, none⟩ (v 5)).setCell ⟨w.heap.size, 6, none⟩ (v 6)).setCell ⟨w.heap.size, 7, none⟩ (v 7)) w.heap.size (arr8 v) 66 from fun v => by
        have := (((((((hx.out.set 0 (v 0)).set 1 (v 1)).set 2 (v 2)).set 3 (v 3)).set 4 (v 4)).set 5 (v 5)).set 6 (v 6)).set 7 (v 7)
        simpa [arr8] using this)
      have p0 : wr.cell? ⟨w.heap.size, 0, none⟩ = some .nilFunc := hx.out.cell 0
      have p1 : wr.cell? ⟨w.heap.size, 1, none⟩ = some .nilFunc := hx.out.cell 1
      have p2 : wr.cell? ⟨w.heap.size, 2, none⟩ = some .nilFunc := hx.out.cell 2
      have p3 : wr.cell? ⟨w.heap.size, 3, none⟩ = some .nilFunc := hx.out.cell 3
      have p4 : wr.cell? ⟨w.heap.size, 4, none⟩ = some .nilFunc := hx.out.cell 4
      have p5 : wr.cell? ⟨w.heap.size, 5, none⟩ = some .nilFunc := hx.out.cell 5
      have p6 : wr.cell? ⟨w.heap.size, 6, none⟩ = some .nilFunc := hx.out.cell 6
      have p7 : wr.cell? ⟨w.heap.size, 7, none⟩ = some .nilFunc := hx.out.cell 7
      have z0 := hx.out.frozen 0; have z1 := hx.out.frozen 1; have z2 := hx.out.frozen 2; have z3 := hx.out.frozen 3; have z4 := hx.out.frozen 4; have z5 := hx.out.frozen 5; have z6 := hx.out.frozen 6; have z7 := hx.out.frozen 7
      go_wp2_with fail
      have b0 := hx.out; have b1 := b0.set 0 (f 0); have b2 := b1.set 1 (f 1); have b3 := b2.set 2 (f 2); have b4 := b3.set 3 (f 3); have b5 := b4.set 4 (f 4); have b6 := b5.set 5 (f 5); have b7 := b6.set 6 (f 6)
      have le : w.heap.size ≤ w.heap.size := Nat.le_refl _
      have hz := (((((((hb.out.setCell (p := ⟨w.heap.size, 0, none⟩) le (f 0)).setCell (p := ⟨w.heap.size, 1, none⟩) le (f 1)).setCell (p := ⟨w.heap.size, 2, none⟩) le (f 2)).setCell (p := ⟨w.heap.size, 3, none⟩) le (f 3)).setCell (p := ⟨w.heap.size, 4, none⟩) le (f 4)).setCell (p := ⟨w.heap.size, 5, none⟩) le (f 5)).setCell (p := ⟨w.heap.size, 6, none⟩) le (f 6)).setCell (p := ⟨w.heap.size, 7, none⟩) le (f 7)
      refine bodyPost_ret (Ret.results_c rfl _ _ w.heap.size [f 0, f 1, f 2, f 3, f 4, f 5, f 6, f 7] rfl aggA8 (HX8.out f).cells) rfl ?_
      exact ⟨f, rfl, h1c.out, fun j hj => AlwL.alw (((((((((ha.out j (by have := HLEN.out; omega)).set b0 (by decide) _).set b1 (by decide) _).set b2 (by decide) _).set b3 (by decide) _).set b4 (by decide) _).set b5 (by decide) _).set b6 (by decide) _).set b7 (by decide) _) hz, hz⟩
end Go.Proofs.YtkojeajjappchaaGreat.Row
/- slices.Chunk over a list of rules, by chunks of eight: what its iterator hands to a loop. No conditions but that lengths fit. -/
namespace Go.Proofs.YtkojeajjappchaaGreat.Row
open Go.ChangeShapes Go.WideShapes Go.ChangeAt Go.RowKit Go.Instr
open Go.Shelf
set_option linter.unusedVariables false
attribute [local go_sem] Oper.semAt_some
set_option maxRecDepth 100000

/-- Chunk number k of n rules that lie at off in block b. -/
def chunkV (b off n k : Nat) : Value := .slice (some ⟨b, off + 8 * k * 2, none⟩) (min 8 (n - 8 * k)) (min 8 (n - 8 * k))
/-- What a round keeps for the iterator: what lay below n₀, and its two variables. -/
def KpC (n₀ Bs Bn : Nat) (W W' : World) : Prop := Below n₀ W W' ∧ W'.heap[Bs]? = W.heap[Bs]? ∧ W'.heap[Bn]? = W.heap[Bn]?
theorem kpC_t {n₀ Bs Bn : Nat} {X Y Z : World} (h : KpC n₀ Bs Bn X Y) (k : KpC n₀ Bs Bn Y Z) : KpC n₀ Bs Bn X Z := ⟨h.1.trans k.1, k.2.1.trans h.2.1, k.2.2.trans h.2.2⟩
theorem kpC_b {n₀ Bs Bn : Nat} {w : World} (hn : n₀ ≤ w.heap.size) (hs : Bs < w.heap.size) (hn2 : Bn < w.heap.size) (W : World) (l : Nat) (o o' : Obj) (hl : w.heap.size ≤ l) (h : W.heap[l]? = some o) (h1 : o.isCells = false) (h2 : o.isWalk = false) : KpC n₀ Bs Bn W (W.putObj l o') :=
  ⟨belowK_b hn W l o o' hl h h1 h2, World.putObj_heap_other (by omega), World.putObj_heap_other (by omega)⟩
theorem cell_heap {W W' : World} {b i : Nat} (h : W'.heap[b]? = W.heap[b]?) : W'.cell? ⟨b, i, none⟩ = W.cell? ⟨b, i, none⟩ := by simp [World.cell?, h]
theorem KpC.of {n₀ Bs Bn : Nat} {W W' : World} (h : Below W.heap.size W W') (hn : n₀ ≤ W.heap.size) (hs : Bs < W.heap.size) (hb : Bn < W.heap.size) : KpC n₀ Bs Bn W W' := ⟨h.mono hn, h.block _ hs, h.block _ hb⟩
theorem KpC.set {n₀ Bs Bn : Nat} {W W' : World} (h : KpC n₀ Bs Bn W W') {g i : Nat} (hn : n₀ ≤ g) (hs : Bs ≠ g) (hb : Bn ≠ g) (v : Value) : KpC n₀ Bs Bn W (W'.setCell ⟨g, i, none⟩ v) :=
  ⟨h.1.setCell (p := ⟨g, i, none⟩) hn v, (Go.RowKit.Below.heap_setCell W' ⟨g, i, none⟩ v Bs hs).trans h.2.1, (Go.RowKit.Below.heap_setCell W' ⟨g, i, none⟩ v Bn hb).trans h.2.2⟩
set_option maxHeartbeats 4000000 in
theorem chunk1_in (n : Nat) (hn : 1 ≤ n) (l Bs Bn b off len cap : Nat) (hlc : len ≤ cap) (hl9 : len ≤ 9000000) (J Jx : List Nat → World → Prop) (hJd : ∀ s W, J s W → J s W.drew) (n₀ : Nat)
    (hY : ∀ pre x W, J pre W → pre.length < len → YieldAt Fence.wide (n - 1) Tryz.prog l #[chunkV b off len x] W fun e W' =>
      (e = .returned (.bool true) ∧ J (pre ++ [x]) W' ∧ KpC n₀ Bs Bn W W') ∨ (e = .returned (.bool false) ∧ Jx (pre ++ [x]) W'))
    (W : World) (hBs : W.cell? ⟨Bs, 0, none⟩ = some (.slice (some ⟨b, off, none⟩) len cap)) (hBn : W.cell? ⟨Bn, 0, none⟩ = some (.int .i64 8)) (h0 : J [] W) :
    CallsIn Fence.wide n Tryz.prog 58 #[.func (.yield l) #[] #[], .pointer (some ⟨Bs, 0, none⟩), .pointer (some ⟨Bn, 0, none⟩)] W fun e W' => (∃ v, e = .returned v) ∧
      ((∃ m, len ≤ 8 * m ∧ J (List.range m) W') ∨ (∃ m, 8 * m < len ∧ Jx (List.range (m + 1)) W')) := by
  refine callsIn_of_wp Tryz.func58 rfl trivial ?_ rfl
  simp only [Tryz.ntmps58, List.size_toArray, List.length_cons, List.length_nil, Nat.reduceAdd, Nat.reduceSub, Array.replicate_succ, Array.replicate_zero, List.push_toArray, List.append_toArray, List.nil_append, List.cons_append]
  gi_wp2
  gi_loopw [4] (fun iv wr => ∃ i k : Nat, Hid (i = 8 * k) ∧ i < len + 8 ∧ iv = .int .i64 i ∧ J (List.range k) wr ∧ wr.cell? ⟨Bs, 0, none⟩ = some (.slice (some ⟨b, off, none⟩) len cap) ∧ wr.cell? ⟨Bn, 0, none⟩ = some (.int .i64 8)) (fun iv _ => len + 8 - (intOf iv).toNat)
  case atStart => exact ⟨0, 0, Lib.hid rfl, by omega, rfl, h0, hBs, hBn⟩
  case round =>
    obtain ⟨i, k, hi, hi8, rfl, hJs, q0, q1⟩ := hrel
    by_cases hlt : i < len
    · have hkl : k < len := by have := hi.out; omega
      have hmx : Tryz.prog.follows .mixedOrders = true := by kernel_rfl
      gi_wp2
      gi_region
      have hJd := hJd _ _ hJs
      obtain ⟨e, he⟩ : ∃ e, min 8 (len - i) = e := ⟨_, rfl⟩
      have hme : (min 8 ((len - i : Nat) : Int)) = (e : Int) := by omega
      rw [hme]
      have he1 : i + e ≤ len := by omega
      have he2 : 1 ≤ e := by omega
      have he3 : e ≤ 8 := by omega
      have HE : Hid (min 8 (len - i) = e) := Lib.hid he
      obtain ⟨fn, tmps, assign, body, hy, hR⟩ := hY _ k wr.drew hJd (by rw [List.length_range]; exact hkl)
      have hcv : chunkV b off len k = .slice (some ⟨b, off + i * 2, none⟩) e e := by unfold chunkV; rw [← hi.out, he]
      rw [hcv] at hy
      clear hcv hkl hme he
      have q0 : wr.drew.cell? ⟨Bs, 0, none⟩ = _ := q0
      have q1 : wr.drew.cell? ⟨Bn, 0, none⟩ = _ := q1
      gi_wp2
      refine hR.mono ?_
      rintro e' W3 (⟨rfl, hJ3, hk3⟩ | ⟨rfl, hJx3⟩)
      · have q0 := (cell_heap hk3.2.1).trans q0
        have q1 := (cell_heap hk3.2.2).trans q1
        gi_wp2
        go_roundw
        case rel => exact ⟨i + 8, k + 1, Lib.hid (by have := hi.out; omega), by omega, by go_num, by rw [List.range_succ]; exact hJ3, q0, q1⟩
        case measure => simp [intOf]; omega
      · gi_wp2
        refine bodyPost_ret (results_none rfl _ _ _) rfl ?_
        exact ⟨⟨_, rfl⟩, .inr ⟨k, by have := hi.out; omega, by rw [List.range_succ]; exact hJx3⟩⟩
    · gi_wp2
      go_end0
      exact ⟨⟨_, rfl⟩, .inl ⟨k, by have := hi.out; omega, hJs⟩⟩
set_option maxHeartbeats 4000000 in
theorem chunk1_nil (n : Nat) (l Bs Bn cap : Nat) (ad : Option Addr) (J : List Nat → World → Prop) (W : World) (hBs : W.cell? ⟨Bs, 0, none⟩ = some (.slice ad 0 cap)) (h0 : J [] W) :
    CallsIn Fence.wide n Tryz.prog 58 #[.func (.yield l) #[] #[], .pointer (some ⟨Bs, 0, none⟩), .pointer (some ⟨Bn, 0, none⟩)] W fun e W' => (∃ v, e = .returned v) ∧ J [] W' := by
  refine callsIn_of_wp Tryz.func58 rfl trivial ?_ rfl
  simp only [Tryz.ntmps58, List.size_toArray, List.length_cons, List.length_nil, Nat.reduceAdd, Nat.reduceSub, Array.replicate_succ, Array.replicate_zero, List.push_toArray, List.append_toArray, List.nil_append, List.cons_append]
  gi_wp2
  gi_loopw [4] (fun iv wr => iv = .int .i64 0 ∧ wr.cell? ⟨Bs, 0, none⟩ = some (.slice ad 0 cap) ∧ J [] wr) (fun _ _ => 0)
  case atStart => exact ⟨rfl, hBs, h0⟩
  case round =>
    obtain ⟨rfl, hBs, hJs⟩ := hrel
    gi_wp2
    go_end0
    exact ⟨⟨_, rfl⟩, hJs⟩
/-- What slices.Chunk hands back over a list of n rules: a loop over it is handed the chunks number 0, 1, .. in this order. -/
theorem chunk_stops (n : Nat) (hn : 1 ≤ n) (Bs Bn n₀ b off len cap : Nat) (ad : Option Addr) (hlc : len ≤ cap) (hl9 : len ≤ 9000000) (had : len = 0 ∨ ad = some ⟨b, off, none⟩) (w : World) (hBs0 : Bs < w.heap.size) (hBn0 : Bn < w.heap.size)
    (hBs : w.cell? ⟨Bs, 0, none⟩ = some (.slice ad len cap)) (hBn : w.cell? ⟨Bn, 0, none⟩ = some (.int .i64 8)) :
    SeqStopsK Fence.wide n Tryz.prog 58 #[.pointer (some ⟨Bs, 0, none⟩), .pointer (some ⟨Bn, 0, none⟩)] (fun x : Nat => #[chunkV b off len x]) (KpC n₀ Bs Bn) (fun ys => ∃ m, len ≤ 8 * m ∧ ys = List.range m) (fun pre => ∃ m, 8 * m < len ∧ pre = List.range (m + 1)) len w := fun l J Jx W hW hJ _ hY h0 => by
  have q0 := (hW.cell (p := ⟨Bs, 0, none⟩) hBs0).trans hBs
  have q1 := (hW.cell (p := ⟨Bn, 0, none⟩) hBn0).trans hBn
  by_cases hz : len = 0
  · subst hz
    exact (chunk1_nil n l Bs Bn cap ad J W q0 h0).mono fun e W' ⟨he, hj⟩ => ⟨he, .inl ⟨[], ⟨0, by omega, rfl⟩, hj⟩⟩
  · obtain rfl : ad = some ⟨b, off, none⟩ := had.resolve_left hz
    refine (chunk1_in n hn l Bs Bn b off len cap hlc hl9 J Jx (fun s W hs => hJ s W _ none hs ⟨rfl, rfl, rfl, Nat.le_refl _, fun _ _ _ => rfl⟩ (fun r e => by cases e)) n₀ hY W q0 q1 h0).mono ?_
    rintro e W' ⟨he, ⟨m, hm, hj⟩ | ⟨m, hm, hj⟩⟩
    · exact ⟨he, .inl ⟨_, ⟨m, hm, rfl⟩, hj⟩⟩
    · exact ⟨he, .inr ⟨_, ⟨m, hm, rfl⟩, hj⟩⟩
set_option maxHeartbeats 1000000 in
theorem chunkOf (x : Option Addr) (len cap : Nat) (w : World) :
    Calls Tryz.prog 37 #[.slice x len cap, .int .i64 8] w fun e w' => e = .returned (.func (.func 58) #[] #[.pointer (some ⟨w.heap.size, 0, none⟩), .pointer (some ⟨w.heap.size + 1, 0, none⟩)]) ∧ w' = (w.alloc (.cells #[.slice x len cap] 32)).alloc (.cells #[.int .i64 8] 3) := by
  have hmf : ∀ (fn : Fn) (first cap : Array Value) (w : World), (Instr.makeFunc fn first cap).run Tryz.prog w = .ok (.func fn first cap) w := fun _ _ _ _ => rfl
  go_enter Tryz.func37, Tryz.ntmps37
  go_wp2
  go_ret
  exact ⟨rfl, rfl⟩
end Go.Proofs.YtkojeajjappchaaGreat.Row
/- The program's chapter 10: FirstAllowingRule's call of a function value, in whatever order its loads are drawn. No conditions. -/
namespace Go.Proofs.YtkojeajjappchaaGreat.Row
open Go.ChangeShapes Go.WideShapes Go.ChangeAt Go.RowKit Go.Instr
open Go.Shelf
set_option linter.unusedVariables false
attribute [local go_sem] Oper.semAt_some
set_option maxRecDepth 100000

set_option maxHeartbeats 8000000 in
theorem far8n {Q : Exit → Act → World → Prop} {v0 v1 v2 v3 v6 v7 v8 v11 v12 v13 v14 v15 v16 v17 v18 v19 v20 v21 v22 v23 v24 v25 v26 v27 v28 v29 v30 v31 v32 v33 v34 : Value} {q s0 s1 g k nn cn nb cb : Nat} {xn xb : Option Addr} {w : World}  (hk : k < 8) (C0 : Hid (w.cell? ⟨s0, 0, none⟩ = some (.slice xn nn cn))) (C1 : Hid (w.cell? ⟨s1, 0, none⟩ = some (.slice xb nb cb))) (C2 : Hid (w.cell? ⟨g, k, none⟩ = some (.func (.func 59) #[] #[])))
    (hQ : ∀ (u21 u22 u23 u24 u25 : Value) (wx : World), Below w.heap.size w wx → Q .normal ⟨#[v0, v1, v2, v3, .pointer (some ⟨s0, 0, none⟩), .pointer (some ⟨s1, 0, none⟩), v6, v7, v8, .pointer (some ⟨g, 0, none⟩), .int .i64 k, v11, v12, v13, v14, v15, v16, v17, v18, v19, v20, u21, u22, u23, u24, u25, .bool false, v27, v28, v29, v30, v31, v32, v33, v34], []⟩ wx) :
    (Code.region 8 #[{ dst := some 21, op := Op.move (Operand.tmp 10), type := 3, pos := "l10_rule.go:72", after := #[], guard := none },
      { dst := some 22, op := Op.indexAddr 66 (Operand.tmp 9) (Operand.tmp 21), type := 0, pos := "l10_rule.go:72", after := #[{ on := 0, ground := Ground.data }], guard := none },
      { dst := some 23, op := Op.load 65 (Operand.tmp 22), type := 65, pos := "l10_rule.go:72", after := #[{ on := 1, ground := Ground.data }], guard := none },
      { dst := some 24, op := Op.load 29 (Operand.tmp 4), type := 29, pos := "l10_rule.go:72", after := #[], guard := none },
      { dst := some 25, op := Op.load 29 (Operand.tmp 5), type := 29, pos := "l10_rule.go:72", after := #[], guard := none },
      { dst := some 26, op := Op.call { callee := Callee.value (Operand.tmp 23), args := #[Operand.tmp 24, Operand.tmp 25], argTypes := #[29, 29] }, type := 4, pos := "l10_rule.go:72", after := #[{ on := 2, ground := Ground.data }, { on := 3, ground := Ground.data }, { on := 4, ground := Ground.data }], guard := none }] true).wpIn (Fence.wide.inRound q) (3 - 1 - 1) Tryz.prog Q ⟨#[v0, v1, v2, v3, .pointer (some ⟨s0, 0, none⟩), .pointer (some ⟨s1, 0, none⟩), v6, v7, v8, .pointer (some ⟨g, 0, none⟩), .int .i64 k, v11, v12, v13, v14, v15, v16, v17, v18, v19, v20, v21, v22, v23, v24, v25, v26, v27, v28, v29, v30, v31, v32, v33, v34], []⟩ w := by
  have HQ := Lib.hid hQ; clear hQ
  have hmx : Tryz.prog.follows .mixedOrders = true := by kernel_rfl
  have HDR := Lib.hid (show Below w.heap.size w w.drew from (Below.refl _ _).drew)
  have c0 := C0.out; have c1 := C1.out; have c2 := C2.out
  gi_region_with_o (refine ⟨trivial, ?_⟩; gi_at_call 59; refine (CallsIn.inRound q (callsIn_wide.2 (allowNo _ _ _ _ _ _ _))).mono ?_; rintro e v3 ⟨rfl, hb3⟩)
  all_goals exact HQ.out _ _ _ _ _ _ (HDR.out.trans (hb3.mono HDR.out.size))
end Go.Proofs.YtkojeajjappchaaGreat.Row
/- The program's chapter 10: FirstAllowingRule's call of a function value, in whatever order its loads are drawn. No conditions. -/
namespace Go.Proofs.YtkojeajjappchaaGreat.Row
open Go.ChangeShapes Go.WideShapes Go.ChangeAt Go.RowKit Go.Instr
open Go.Shelf
set_option linter.unusedVariables false
attribute [local go_sem] Oper.semAt_some
set_option maxRecDepth 100000

set_option maxHeartbeats 8000000 in
theorem far8y {Q : Exit → Act → World → Prop} {v0 v1 v2 v3 v6 v7 v8 v11 v12 v13 v14 v15 v16 v17 v18 v19 v20 v21 v22 v23 v24 v25 v26 v27 v28 v29 v30 v31 v32 v33 v34 : Value} {q s0 s1 g k nn cn nb cb : Nat} {xn xb : Option Addr} {w : World} {g9 : Nat} {y : Rlt} {x0 x1 : Option Addr} {n0 c0 n1 c1 : Nat} {ln lb : List ByteArray} {z : Bool} (HR : Hid (RuleAt w g9 y x0 x1 n0 c0 n1 c1)) (HZ : Hid (okR2 y ln lb = z)) (H_n : Hid (kN.At w (.agg #[.slice xn nn cn]) ln)) (H_b : Hid (kN.At w (.agg #[.slice xb nb cb]) lb)) (HP : Hid (wtRl y ≤ 9000000)) (HPN : Hid (bulk ln ≤ 9000000)) (HPB : Hid (bulk lb ≤ 9000000)) (hk : k < 8) (C0 : Hid (w.cell? ⟨s0, 0, none⟩ = some (.slice xn nn cn))) (C1 : Hid (w.cell? ⟨s1, 0, none⟩ = some (.slice xb nb cb))) (C2 : Hid (w.cell? ⟨g, k, none⟩ = some (.func (.func 60) #[] #[.pointer (some ⟨g9, 0, none⟩)])))
    (hQ : ∀ (u21 u22 u23 u24 u25 : Value) (wx : World), Below w.heap.size w wx → Q .normal ⟨#[v0, v1, v2, v3, .pointer (some ⟨s0, 0, none⟩), .pointer (some ⟨s1, 0, none⟩), v6, v7, v8, .pointer (some ⟨g, 0, none⟩), .int .i64 k, v11, v12, v13, v14, v15, v16, v17, v18, v19, v20, u21, u22, u23, u24, u25, .bool z, v27, v28, v29, v30, v31, v32, v33, v34], []⟩ wx) :
    (Code.region 8 #[{ dst := some 21, op := Op.move (Operand.tmp 10), type := 3, pos := "l10_rule.go:72", after := #[], guard := none },
      { dst := some 22, op := Op.indexAddr 66 (Operand.tmp 9) (Operand.tmp 21), type := 0, pos := "l10_rule.go:72", after := #[{ on := 0, ground := Ground.data }], guard := none },
      { dst := some 23, op := Op.load 65 (Operand.tmp 22), type := 65, pos := "l10_rule.go:72", after := #[{ on := 1, ground := Ground.data }], guard := none },
      { dst := some 24, op := Op.load 29 (Operand.tmp 4), type := 29, pos := "l10_rule.go:72", after := #[], guard := none },
      { dst := some 25, op := Op.load 29 (Operand.tmp 5), type := 29, pos := "l10_rule.go:72", after := #[], guard := none },
      { dst := some 26, op := Op.call { callee := Callee.value (Operand.tmp 23), args := #[Operand.tmp 24, Operand.tmp 25], argTypes := #[29, 29] }, type := 4, pos := "l10_rule.go:72", after := #[{ on := 2, ground := Ground.data }, { on := 3, ground := Ground.data }, { on := 4, ground := Ground.data }], guard := none }] true).wpIn (Fence.wide.inRound q) (3 - 1 - 1) Tryz.prog Q ⟨#[v0, v1, v2, v3, .pointer (some ⟨s0, 0, none⟩), .pointer (some ⟨s1, 0, none⟩), v6, v7, v8, .pointer (some ⟨g, 0, none⟩), .int .i64 k, v11, v12, v13, v14, v15, v16, v17, v18, v19, v20, v21, v22, v23, v24, v25, v26, v27, v28, v29, v30, v31, v32, v33, v34], []⟩ w := by
  have HQ := Lib.hid hQ; clear hQ
  have hmx : Tryz.prog.follows .mixedOrders = true := by kernel_rfl
  have HDR := Lib.hid (show Below w.heap.size w w.drew from (Below.refl _ _).drew)
  have c0 := C0.out; have c1 := C1.out; have c2 := C2.out
  gi_region_with_o (refine ⟨trivial, ?_⟩; gi_at_call 60; refine (CallsIn.inRound q (callsIn_wide.2 (allowYes _ y _ _ _ _ _ _ _ _ _ _ _ _ ln lb _ z HZ.out (HR.out.on HDR.out) (H_n.out.on HDR.out) (H_b.out.on HDR.out) HP.out HPN.out HPB.out))).mono ?_; rintro e v3 ⟨rfl, hb3⟩)
  all_goals exact HQ.out _ _ _ _ _ _ (HDR.out.trans (hb3.mono HDR.out.size))
end Go.Proofs.YtkojeajjappchaaGreat.Row
