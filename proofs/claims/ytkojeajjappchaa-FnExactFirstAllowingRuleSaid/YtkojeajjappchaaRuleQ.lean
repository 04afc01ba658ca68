/- The program's chapter 10: the rules as functions (allowances), RuleAllows. No conditions but that lengths fit. -/
import Derived.WalkKit
import Derived.Deep.RegionHeld3
import Derived.Test.YtkojeajjappchaaRuleP
namespace Go.Proofs.Ytkojeajjappchaa.Row
open Go.ChangeShapes Go.WideShapes Go.ChangeAt Go.RowKit Go.Instr
set_option linter.unusedVariables false
set_option maxRecDepth 100000

/-- What two patterns and two names come to, the rule being valid. -/
def okR2 (x : Rlt) (n b : List ByteArray) : Bool := mOk x.1 n [] && mOk x.2 b (mOut x.1 n [])
theorem allowsR_no {x : Rlt} (h : validR x = false) (n b : List ByteArray) : allowsR x n b = false := by unfold allowsR; rw [h]; rfl
theorem allowsR_yes {x : Rlt} (h : validR x = true) (n b : List ByteArray) : allowsR x n b = okR2 x n b := by unfold allowsR okR2; rw [h]; cases mOk x.1 n [] <;> rfl
/-- The block g holds the rule x (a variable that a function value has captured). -/
structure RuleAt (w : World) (g : Nat) (x : Rlt) (x0 x1 : Option Addr) (n0 c0 n1 c1 : Nat) : Prop where
  blk : Ret.Blk w g #[.slice x0 n0 c0, .slice x1 n1 c1] 31
  is : kRl.At w (.agg #[.slice x0 n0 c0, .slice x1 n1 c1]) x
theorem RuleAt.on {w w' : World} {g : Nat} {x : Rlt} {x0 x1 : Option Addr} {n0 c0 n1 c1 : Nat} (h : RuleAt w g x x0 x1 n0 c0 n1 c1) (hb : Below w.heap.size w w') : RuleAt w' g x x0 x1 n0 c0 n1 c1 := ⟨h.blk.on hb, h.is.on hb⟩
/-- The function value u is, in w, the allowance of the rule x. -/
def Alw (w : World) (u : Value) (x : Rlt) : Prop :=
  (validR x = false ∧ u = .func (.func 72) #[] #[]) ∨ (validR x = true ∧ ∃ (g : Nat) (x0 x1 : Option Addr) (n0 c0 n1 c1 : Nat), u = .func (.func 73) #[] #[.pointer (some ⟨g, 0, none⟩)] ∧ RuleAt w g x x0 x1 n0 c0 n1 c1)
theorem Alw.on {w w' : World} {u : Value} {x : Rlt} (h : Alw w u x) (hb : Below w.heap.size w w') : Alw w' u x := by
  rcases h with h | ⟨h, g, x0, x1, n0, c0, n1, c1, e, r⟩
  · exact Or.inl h
  · exact Or.inr ⟨h, g, x0, x1, n0, c0, n1, c1, e, r.on hb⟩
set_option maxHeartbeats 1000000 in
theorem allowNo (xn xb : Option Addr) (nn cn nb cb : Nat) (w : World) :
    Calls Try.prog 72 #[.agg #[.slice xn nn cn], .agg #[.slice xb nb cb]] w fun e w' => e = .returned (.bool false) ∧ Below w.heap.size w w' := by
  have HB := Lib.hid (((Below.refl w.heap.size w).alloc (Nat.le_refl _) (.cells #[.slice xn nn cn] 45)).alloc (by simp) (.cells #[.slice xb nb cb] 45))
  go_enter Try.func72, Try.ntmps72
  go_wp2
  go_ret
  exact ⟨rfl, HB.out⟩
set_option maxHeartbeats 4000000 in
theorem allowYes (g : Nat) (x : Rlt) (x0 x1 : Option Addr) (n0 c0 n1 c1 : Nat) (xn xb : Option Addr) (nn cn nb cb : Nat) (n b : List ByteArray) (w : World) (z : Bool) (hz : okR2 x n b = z) (h : RuleAt w g x x0 x1 n0 c0 n1 c1) (gn : kN.At w (.agg #[.slice xn nn cn]) n) (gb : kN.At w (.agg #[.slice xb nb cb]) b) (hp : wtRl x ≤ 9000000) (hn : bulk n ≤ 9000000) (hb : bulk b ≤ 9000000) :
    Calls Try.prog 73 #[.agg #[.slice xn nn cn], .agg #[.slice xb nb cb], .pointer (some ⟨g, 0, none⟩)] w fun e w' => e = .returned (.bool z) ∧ Below w.heap.size w w' := by
  obtain ⟨hx, ha⟩ := h
  obtain ⟨y0, m0, d0, y1, m1, d1, e, g0, g1⟩ := kRl_at ha
  obtain ⟨rfl, rfl, rfl, rfl, rfl, rfl⟩ : y0 = x0 ∧ m0 = n0 ∧ d0 = c0 ∧ y1 = x1 ∧ m1 = n1 ∧ d1 = c1 := by
    injection e with e
    have e0 := congrArg (fun z : Array Value => z[0]?) e
    have e1 := congrArg (fun z : Array Value => z[1]?) e
    simp at e0 e1
    exact ⟨e0.1.symm, e0.2.1.symm, e0.2.2.symm, e1.1.symm, e1.2.1.symm, e1.2.2.symm⟩
  obtain ⟨p, q⟩ := x
  obtain ⟨p0, p1⟩ := fitR hp
  dsimp only at g0 g1 p0 p1
  obtain ⟨v0, e0, g0⟩ := kN_at g0
  obtain ⟨v1, e1, g1⟩ := kN_at g1
  obtain rfl : v0 = .slice y0 m0 d0 := by injection e0 with e; have := congrArg (fun z : Array Value => z[0]?) e; simpa using this.symm
  obtain rfl : v1 = .slice y1 m1 d1 := by injection e1 with e; have := congrArg (fun z : Array Value => z[0]?) e; simpa using this.symm
  obtain ⟨vn, en, gn⟩ := kN_at gn
  obtain ⟨vb, eb, gb⟩ := kN_at gb
  obtain rfl : vn = .slice xn nn cn := by injection en with e; have := congrArg (fun z : Array Value => z[0]?) e; simpa using this.symm
  obtain rfl : vb = .slice xb nb cb := by injection eb with e; have := congrArg (fun z : Array Value => z[0]?) e; simpa using this.symm
  have HB := Lib.hid (((Below.refl w.heap.size w).alloc (Nat.le_refl _) (.cells #[.slice xn nn cn] 45)).alloc (by simp) (.cells #[.slice xb nb cb] 45))
  have HX := Lib.hid (hx.on HB.out)
  have HN := Lib.hid ((Ret.Blk.new w #[.slice xn nn cn] 45).on ((Below.refl _ _).alloc (Nat.le_refl _) (.cells #[.slice xb nb cb] 45)))
  have HY := Lib.hid (Ret.Blk.new' (w := w.alloc (.cells #[.slice xn nn cn] 45)) (n := w.heap.size + 1) #[.slice xb nb cb] 45 (by simp))
  have G0 := Lib.hid g0; have G1 := Lib.hid g1; have GN := Lib.hid gn; have GB := Lib.hid gb
  obtain ⟨a, ha2⟩ : ∃ a, mOk p n [] = a := ⟨_, rfl⟩
  obtain ⟨m, hm⟩ : ∃ m, mOut p n [] = m := ⟨_, rfl⟩
  obtain ⟨c, hc⟩ : ∃ a, mOk q b m = a := ⟨_, rfl⟩
  have hml := mOut_len p n []
  rw [hm] at hml
  have HA := Lib.hid ha2; have HM := Lib.hid hm; have HC := Lib.hid hc
  have HE : Hid (z = (a && c)) := Lib.hid (by rw [← hz]; show (mOk p n [] && mOk q b (mOut p n [])) = _; rw [hm, ha2, hc])
  have q0 : ((w.alloc (.cells #[.slice xn nn cn] 45)).alloc (.cells #[.slice xb nb cb] 45)).cell? ⟨g, 0, none⟩ = some (.slice y0 m0 d0) := HX.out.cell 0
  clear hx ha g0 g1 e0 e1 gn gb en eb hz ha2 hm hc e hp
  go_enter Try.func73, Try.ntmps73
  go_wp2_with fail
  clear q0
  refine (implMatchX _ _ _ p n [] _ (G0.out.on HB.out) (GN.out.on HB.out) (HoldsK.nil _ _ _) (by omega) (by omega) (by simp)).mono ?_
  rintro e w1 ⟨v1, rfl, ho, hb1⟩
  rw [HA.out, HM.out] at *
  obtain ⟨xm, nm, cm, rfl, -, -, ho⟩ := ho.shapeN
  have HO := Lib.hid ho.holds
  replace HX := Lib.hid (HX.out.on hb1); replace HN := Lib.hid (HN.out.on hb1); replace HY := Lib.hid (HY.out.on hb1); replace HB := Lib.hid (HB.out.trans (hb1.mono HB.out.size)); clear hb1 ho
  have q1 : w1.cell? ⟨g, 1, none⟩ = some (.slice y1 m1 d1) := HX.out.cell 1
  have q2 : w1.cell? ⟨w.heap.size + 1, 0, none⟩ = some (.slice xb nb cb) := HY.out.cell 0
  cases a with
  | false =>
    have HF : Hid (z = false) := Lib.hid HE.out
    go_wp2_with fail
    go_ret
    exact ⟨ret_bool HF.out.symm, HB.out⟩
  | true =>
    have HF : Hid (z = c) := Lib.hid HE.out
    go_wp2_with fail
    clear q1 q2
    refine (implMatchX _ _ _ q b m _ (G1.out.on HB.out) (GB.out.on HB.out) HO.out (by omega) (by omega) (by simp at hml; omega)).mono ?_
    rintro e w2 ⟨v2, rfl, -, hb2⟩
    rw [HC.out]
    replace HB := Lib.hid (HB.out.trans (hb2.mono HB.out.size)); clear hb2
    go_wp2_with fail
    go_ret
    exact ⟨ret_bool HF.out.symm, HB.out⟩

set_option maxHeartbeats 2000000 in
theorem allowanceNo (V : Value) (x : Rlt) (w : World) (hv : validR x = false) (h : kRl.At w V x) (hp : wtRl x ≤ 9000000) :
    Calls Try.prog 49 #[V] w fun e w' => e = .returned (.func (.func 72) #[] #[]) ∧ Below w.heap.size w w' := by
  obtain ⟨x0, n0, c0, x1, n1, c1, rfl, g0⟩ := kRl_shapeA h
  have HB := Lib.hid ((Below.refl w.heap.size w).alloc (Nat.le_refl _) (.cells #[.slice x0 n0 c0, .slice x1 n1 c1] 31))
  have G0 := Lib.hid g0; have HV := Lib.hid hv; have HP := Lib.hid hp
  clear h g0 hv hp
  go_enter Try.func49, Try.ntmps49
  go_wp2_with fail
  refine (implValidRule _ x _ false HV.out (G0.out.on HB.out) HP.out).mono ?_
  rintro e w1 ⟨rfl, hb⟩
  replace HB := Lib.hid (HB.out.trans (hb.mono HB.out.size)); clear hb
  go_wp2_with fail
  go_ret
  exact ⟨rfl, HB.out⟩
set_option maxHeartbeats 2000000 in
theorem allowanceYesV (x0 : Option Addr) (n0 c0 : Nat) (x1 : Option Addr) (n1 c1 : Nat) (x : Rlt) (w : World) (hv : validR x = true) (g0 : kRl.At w (.agg #[.slice x0 n0 c0, .slice x1 n1 c1]) x) (hp : wtRl x ≤ 9000000) :
    Calls Try.prog 49 #[.agg #[.slice x0 n0 c0, .slice x1 n1 c1]] w fun e w' => ∃ g : Nat, e = .returned (.func (.func 73) #[] #[.pointer (some ⟨g, 0, none⟩)]) ∧ Ret.Blk w' g #[.slice x0 n0 c0, .slice x1 n1 c1] 31 ∧ Below w.heap.size w w' := by
  have HB := Lib.hid ((Below.refl w.heap.size w).alloc (Nat.le_refl _) (.cells #[.slice x0 n0 c0, .slice x1 n1 c1] 31))
  have HX := Lib.hid (Ret.Blk.new w #[.slice x0 n0 c0, .slice x1 n1 c1] 31)
  have G0 := Lib.hid g0; have HV := Lib.hid hv; have HP := Lib.hid hp
  have hmf : ∀ (fn : Fn) (first cap : Array Value) (w : World), (Instr.makeFunc fn first cap).run Try.prog w = .ok (.func fn first cap) w := fun _ _ _ _ => rfl
  clear g0 hv hp
  go_enter Try.func49, Try.ntmps49
  go_wp2_with fail
  refine (implValidRule _ x _ true HV.out (G0.out.on HB.out) HP.out).mono ?_
  rintro e w1 ⟨rfl, hb⟩
  replace HX := Lib.hid (HX.out.on hb); replace HB := Lib.hid (HB.out.trans (hb.mono HB.out.size)); clear hb
  go_wp2_with fail
  go_ret
  exact ⟨_, rfl, HX.out, HB.out⟩
theorem allowanceYes (V : Value) (x : Rlt) (w : World) (hv : validR x = true) (h : kRl.At w V x) (hp : wtRl x ≤ 9000000) :
    Calls Try.prog 49 #[V] w fun e w' => ∃ (g : Nat) (x0 x1 : Option Addr) (n0 c0 n1 c1 : Nat), e = .returned (.func (.func 73) #[] #[.pointer (some ⟨g, 0, none⟩)]) ∧ RuleAt w' g x x0 x1 n0 c0 n1 c1 ∧ Below w.heap.size w w' := by
  obtain ⟨x0, n0, c0, x1, n1, c1, rfl, g0⟩ := kRl_shapeA h
  exact (allowanceYesV x0 n0 c0 x1 n1 c1 x w hv g0 hp).mono fun e w' ⟨g, a, b, c⟩ => ⟨g, _, _, _, _, _, _, a, ⟨b, g0.on c⟩, c⟩
/-- The function value u is, in w, the allowance of the rule x, which lies as V. -/
def AlwV (w : World) (u : Value) (x0 : Option Addr) (n0 c0 : Nat) (x1 : Option Addr) (n1 c1 : Nat) (x : Rlt) : Prop :=
  (validR x = false ∧ u = .func (.func 72) #[] #[]) ∨ (validR x = true ∧ ∃ g : Nat, u = .func (.func 73) #[] #[.pointer (some ⟨g, 0, none⟩)] ∧ Ret.Blk w g #[.slice x0 n0 c0, .slice x1 n1 c1] 31)
theorem AlwV.on {w w' : World} {u : Value} {x0 x1 : Option Addr} {n0 c0 n1 c1 : Nat} {x : Rlt} (h : AlwV w u x0 n0 c0 x1 n1 c1 x) (hb : Below w.heap.size w w') : AlwV w' u x0 n0 c0 x1 n1 c1 x := by
  rcases h with h | ⟨h, g, e, r⟩
  · exact Or.inl h
  · exact Or.inr ⟨h, g, e, r.on hb⟩
theorem AlwV.set {w : World} {u : Value} {x0 x1 : Option Addr} {n0 c0 n1 c1 : Nat} {x : Rlt} {g i : Nat} {cs : Array Value} {t : TypeId} (h : AlwV w u x0 n0 c0 x1 n1 c1 x) (hg : Ret.Blk w g cs t) (ht : t ≠ 31) (v : Value) : AlwV (w.setCell ⟨g, i, none⟩ v) u x0 n0 c0 x1 n1 c1 x := by
  rcases h with h | ⟨h, q, e, r⟩
  · exact Or.inl h
  · refine Or.inr ⟨h, q, e, r.other (fun e2 => ?_) v⟩
    dsimp only at e2
    subst e2
    have h1 : w.heap[g]? = some (.cells cs t) := hg
    have h2 : w.heap[g]? = some (.cells #[.slice x0 n0 c0, .slice x1 n1 c1] 31) := r
    rw [h1] at h2
    injection h2 with h2
    injection h2 with _ h3
    exact ht h3
theorem AlwV.alw {w : World} {u : Value} {x0 x1 : Option Addr} {n0 c0 n1 c1 : Nat} {x : Rlt} (h : AlwV w u x0 n0 c0 x1 n1 c1 x) (ha : kRl.At w (.agg #[.slice x0 n0 c0, .slice x1 n1 c1]) x) : Alw w u x := by
  rcases h with h | ⟨h, q, e, r⟩
  · exact Or.inl h
  · exact Or.inr ⟨h, q, _, _, _, _, _, _, e, r, ha⟩
theorem allowanceOfV (x0 : Option Addr) (n0 c0 : Nat) (x1 : Option Addr) (n1 c1 : Nat) (x : Rlt) (w : World) (h : kRl.At w (.agg #[.slice x0 n0 c0, .slice x1 n1 c1]) x) (hp : wtRl x ≤ 9000000) :
    Calls Try.prog 49 #[.agg #[.slice x0 n0 c0, .slice x1 n1 c1]] w fun e w' => ∃ (fn : Fn) (cap : Array Value), e = .returned (.func fn #[] cap) ∧ AlwV w' (.func fn #[] cap) x0 n0 c0 x1 n1 c1 x ∧ Below w.heap.size w w' := by
  cases hv : validR x with
  | false => exact (allowanceNo _ x w hv h hp).mono fun e w' ⟨a, b⟩ => ⟨_, _, a, Or.inl ⟨hv, rfl⟩, b⟩
  | true => exact (allowanceYesV x0 n0 c0 x1 n1 c1 x w hv h hp).mono fun e w' ⟨g, a, r, b⟩ => ⟨_, _, a, Or.inr ⟨hv, g, rfl, r⟩, b⟩

set_option maxRecDepth 100000 in
set_option maxHeartbeats 4000000 in
theorem ral1 {Q : Exit → Act → World → Prop} {v0 v1 v2 v6 v7 v8 v9 v10 v11 : Value} {w : World} {r1 r2 r3 : Nat} {n0 c0 n1 c1 nn cn nb cb : Nat} {x0 x1 xn xb : Option Addr} {x : Rlt}  (HV : Hid (validR x = false)) (H_x : Hid (kRl.At w (.agg #[.slice x0 n0 c0, .slice x1 n1 c1]) x)) (HP : Hid (wtRl x ≤ 9000000))  (K0 : Hid (w.cell? ⟨r1, 0, none⟩ = some (.slice x0 n0 c0))) (K1 : Hid (w.cell? ⟨r1, 1, none⟩ = some (.slice x1 n1 c1))) (K2 : Hid (w.cell? ⟨r2, 0, none⟩ = some (.slice xn nn cn))) (K3 : Hid (w.cell? ⟨r3, 0, none⟩ = some (.slice xb nb cb)))
    (hQ : ∀ (u7 u8 u9 u10 u11 : Value)  (wx : World), Below w.heap.size w wx → Q .normal ⟨#[v0, v1, v2, .pointer (some ⟨r1, 0, none⟩), .pointer (some ⟨r2, 0, none⟩), .pointer (some ⟨r3, 0, none⟩), .bool false, u7, u8, u9, u10, u11], []⟩ wx) :
    (Code.region 1 #[{ dst := some 7, op := Op.load 31 (Operand.tmp 3), type := 31, pos := "l10_rule.go:41", after := #[], guard := none },
      { dst := some 8, op := Op.call { callee := Callee.value (Operand.func 49), args := #[Operand.tmp 7], argTypes := #[31] }, type := 68, pos := "l10_rule.go:41", after := #[{ on := 0, ground := Ground.data }], guard := none },
      { dst := some 9, op := Op.load 45 (Operand.tmp 4), type := 45, pos := "l10_rule.go:41", after := #[], guard := none },
      { dst := some 10, op := Op.load 45 (Operand.tmp 5), type := 45, pos := "l10_rule.go:41", after := #[], guard := none },
      { dst := some 11, op := Op.call { callee := Callee.value (Operand.tmp 8), args := #[Operand.tmp 9, Operand.tmp 10], argTypes := #[45, 45] }, type := 4, pos := "l10_rule.go:41", after := #[{ on := 1, ground := Ground.data }, { on := 2, ground := Ground.data }, { on := 3, ground := Ground.data }, { on := 1, ground := Ground.chain }], guard := none },
      { dst := some 6, op := Op.assign (Operand.tmp 11), type := 4, pos := "l10_rule.go:41", after := #[{ on := 4, ground := Ground.data }, { on := 4, ground := Ground.chain }, { on := 0, ground := Ground.phase }, { on := 1, ground := Ground.phase }, { on := 2, ground := Ground.phase }, { on := 3, ground := Ground.phase }, { on := 4, ground := Ground.phase }], guard := none }] true).wp Try.prog Q ⟨#[v0, v1, v2, .pointer (some ⟨r1, 0, none⟩), .pointer (some ⟨r2, 0, none⟩), .pointer (some ⟨r3, 0, none⟩), v6, v7, v8, v9, v10, v11], []⟩ w := by
  have HQ := Lib.hid hQ; clear hQ
  have hdr : Below w.heap.size w w.drew := (Below.refl _ _).drew
  have BB := Lib.hid hdr
  refine wp_region_noPanic ?_
  refine wp_region_held_drew (S := (fun w' => w'.cell? ⟨r1, 0, none⟩ = some (.slice x0 n0 c0) ∧ w'.cell? ⟨r1, 1, none⟩ = some (.slice x1 n1 c1) ∧ w'.cell? ⟨r2, 0, none⟩ = some (.slice xn nn cn) ∧ w'.cell? ⟨r3, 0, none⟩ = some (.slice xb nb cb))) (by kernel_rfl) ?_ (fun hHeld => ?_)
  · exact ⟨kc K0.out BB.out, kc K1.out BB.out, kc K2.out BB.out, kc K3.out BB.out⟩
  clear hdr
  generalize w.drew = wd at *
  refine wpAnyH_take (i := 0) (oi := { dst := some 7, op := Op.load 31 (Operand.tmp 3), type := 31, pos := "l10_rule.go:41", after := #[], guard := none }) (v := ?_) rfl (by kernel_rfl) (by kernel_rfl) (by kernel_rfl) (fun _ _ _ h => h) (Or.inl ⟨by rfl, ?_⟩) (by assumption) ?_
  rotate_left
  · intro w' hSw; (try dsimp only at hSw); first | (go_simp; done) | (go_simp; with_reducible rfl)
  (try simp only [Act.put, List.setIfInBounds_toArray, List.set_cons_zero, List.set_cons_succ])
  refine wpAnyH_take (i := 2) (oi := { dst := some 9, op := Op.load 45 (Operand.tmp 4), type := 45, pos := "l10_rule.go:41", after := #[], guard := none }) (v := ?_) rfl (by kernel_rfl) (by kernel_rfl) (by kernel_rfl) (fun _ _ _ h => h) (Or.inl ⟨by rfl, ?_⟩) (by assumption) ?_
  rotate_left
  · intro w' hSw; (try dsimp only at hSw); first | (go_simp; done) | (go_simp; with_reducible rfl)
  (try simp only [Act.put, List.setIfInBounds_toArray, List.set_cons_zero, List.set_cons_succ])
  refine wpAnyH_take (i := 3) (oi := { dst := some 10, op := Op.load 45 (Operand.tmp 5), type := 45, pos := "l10_rule.go:41", after := #[], guard := none }) (v := ?_) rfl (by kernel_rfl) (by kernel_rfl) (by kernel_rfl) (fun _ _ _ h => h) (Or.inl ⟨by rfl, ?_⟩) (by assumption) ?_
  rotate_left
  · intro w' hSw; (try dsimp only at hSw); first | (go_simp; done) | (go_simp; with_reducible rfl)
  (try simp only [Act.put, List.setIfInBounds_toArray, List.set_cons_zero, List.set_cons_succ])
  refine wpAnyH_ready (rs := [1]) (by kernel_rfl) (by simp) ?_
  refine AllReadyH.cons (o := { dst := some 8, op := Op.call { callee := Callee.value (Operand.func 49), args := #[Operand.tmp 7], argTypes := #[31] }, type := 68, pos := "l10_rule.go:41", after := #[{ on := 0, ground := Ground.data }], guard := none }) rfl (fun K hK => ?_) AllReadyH.nil
  go_simp
  refine (allowanceNo _ x _ HV.out (H_x.out.on BB.out) HP.out).mono ?_
  rintro e wn1 ⟨rfl, hb⟩
  replace BB := Lib.hid (BB.out.trans (hb.mono BB.out.size))
  clear hb
  (try go_wp2_with fail)
  clear hHeld
  refine hK.out _ _ ?_ (fun hHeld => ?_)
  · (try dsimp only); exact ⟨kc K0.out BB.out, kc K1.out BB.out, kc K2.out BB.out, kc K3.out BB.out⟩
  clear hK K
  (try simp only [Act.put, List.setIfInBounds_toArray, List.set_cons_zero, List.set_cons_succ])
  refine wpAnyH_ready (rs := [4]) (by kernel_rfl) (by simp) ?_
  refine AllReadyH.cons (o := { dst := some 11, op := Op.call { callee := Callee.value (Operand.tmp 8), args := #[Operand.tmp 9, Operand.tmp 10], argTypes := #[45, 45] }, type := 4, pos := "l10_rule.go:41", after := #[{ on := 1, ground := Ground.data }, { on := 2, ground := Ground.data }, { on := 3, ground := Ground.data }, { on := 1, ground := Ground.chain }], guard := none }) rfl (fun K hK => ?_) AllReadyH.nil
  go_simp
  refine (allowNo _ _ _ _ _ _ _).mono ?_
  rintro e wn2 ⟨rfl, hb⟩
  replace BB := Lib.hid (BB.out.trans (hb.mono BB.out.size))
  clear hb
  (try go_wp2_with fail)
  clear hHeld
  refine hK.out _ _ ?_ (fun hHeld => ?_)
  · (try dsimp only); exact ⟨kc K0.out BB.out, kc K1.out BB.out, kc K2.out BB.out, kc K3.out BB.out⟩
  clear hK K
  (try simp only [Act.put, List.setIfInBounds_toArray, List.set_cons_zero, List.set_cons_succ])
  refine wpAnyH_take (i := 5) (oi := { dst := some 6, op := Op.assign (Operand.tmp 11), type := 4, pos := "l10_rule.go:41", after := #[{ on := 4, ground := Ground.data }, { on := 4, ground := Ground.chain }, { on := 0, ground := Ground.phase }, { on := 1, ground := Ground.phase }, { on := 2, ground := Ground.phase }, { on := 3, ground := Ground.phase }, { on := 4, ground := Ground.phase }], guard := none }) (v := ?_) rfl (by kernel_rfl) (by kernel_rfl) (by kernel_rfl) (fun _ _ _ h => h) (Or.inl ⟨by rfl, ?_⟩) (by assumption) ?_
  rotate_left
  · intro w' hSw; (try dsimp only at hSw); first | (go_simp; done) | (go_simp; with_reducible rfl)
  (try simp only [Act.put, List.setIfInBounds_toArray, List.set_cons_zero, List.set_cons_succ])
  refine wpAnyH_done (by kernel_rfl) ?_ _
  exact NoPanic.normal (HQ.out _ _ _ _ _  _  BB.out)

set_option maxRecDepth 100000 in
set_option maxHeartbeats 4000000 in
theorem ral2 {Q : Exit → Act → World → Prop} {v0 v1 v2 v6 v7 v8 v9 v10 v11 : Value} {w : World} {r1 r2 r3 : Nat} {n0 c0 n1 c1 nn cn nb cb : Nat} {x0 x1 xn xb : Option Addr} {x : Rlt} {ln lb : List ByteArray} {z : Bool} (HV : Hid (validR x = true)) (HZ : Hid (okR2 x ln lb = z)) (H_n : Hid (kN.At w (.agg #[.slice xn nn cn]) ln)) (H_b : Hid (kN.At w (.agg #[.slice xb nb cb]) lb)) (HPN : Hid (bulk ln ≤ 9000000)) (HPB : Hid (bulk lb ≤ 9000000)) (H_x : Hid (kRl.At w (.agg #[.slice x0 n0 c0, .slice x1 n1 c1]) x)) (HP : Hid (wtRl x ≤ 9000000))  (K0 : Hid (w.cell? ⟨r1, 0, none⟩ = some (.slice x0 n0 c0))) (K1 : Hid (w.cell? ⟨r1, 1, none⟩ = some (.slice x1 n1 c1))) (K2 : Hid (w.cell? ⟨r2, 0, none⟩ = some (.slice xn nn cn))) (K3 : Hid (w.cell? ⟨r3, 0, none⟩ = some (.slice xb nb cb)))
    (hQ : ∀ (u7 u8 u9 u10 u11 : Value)  (wx : World), Below w.heap.size w wx → Q .normal ⟨#[v0, v1, v2, .pointer (some ⟨r1, 0, none⟩), .pointer (some ⟨r2, 0, none⟩), .pointer (some ⟨r3, 0, none⟩), .bool z, u7, u8, u9, u10, u11], []⟩ wx) :
    (Code.region 1 #[{ dst := some 7, op := Op.load 31 (Operand.tmp 3), type := 31, pos := "l10_rule.go:41", after := #[], guard := none },
      { dst := some 8, op := Op.call { callee := Callee.value (Operand.func 49), args := #[Operand.tmp 7], argTypes := #[31] }, type := 68, pos := "l10_rule.go:41", after := #[{ on := 0, ground := Ground.data }], guard := none },
      { dst := some 9, op := Op.load 45 (Operand.tmp 4), type := 45, pos := "l10_rule.go:41", after := #[], guard := none },
      { dst := some 10, op := Op.load 45 (Operand.tmp 5), type := 45, pos := "l10_rule.go:41", after := #[], guard := none },
      { dst := some 11, op := Op.call { callee := Callee.value (Operand.tmp 8), args := #[Operand.tmp 9, Operand.tmp 10], argTypes := #[45, 45] }, type := 4, pos := "l10_rule.go:41", after := #[{ on := 1, ground := Ground.data }, { on := 2, ground := Ground.data }, { on := 3, ground := Ground.data }, { on := 1, ground := Ground.chain }], guard := none },
      { dst := some 6, op := Op.assign (Operand.tmp 11), type := 4, pos := "l10_rule.go:41", after := #[{ on := 4, ground := Ground.data }, { on := 4, ground := Ground.chain }, { on := 0, ground := Ground.phase }, { on := 1, ground := Ground.phase }, { on := 2, ground := Ground.phase }, { on := 3, ground := Ground.phase }, { on := 4, ground := Ground.phase }], guard := none }] true).wp Try.prog Q ⟨#[v0, v1, v2, .pointer (some ⟨r1, 0, none⟩), .pointer (some ⟨r2, 0, none⟩), .pointer (some ⟨r3, 0, none⟩), v6, v7, v8, v9, v10, v11], []⟩ w := by
  have HQ := Lib.hid hQ; clear hQ
  have hdr : Below w.heap.size w w.drew := (Below.refl _ _).drew
  have BB := Lib.hid hdr
  refine wp_region_noPanic ?_
  refine wp_region_held_drew (S := (fun w' => w'.cell? ⟨r1, 0, none⟩ = some (.slice x0 n0 c0) ∧ w'.cell? ⟨r1, 1, none⟩ = some (.slice x1 n1 c1) ∧ w'.cell? ⟨r2, 0, none⟩ = some (.slice xn nn cn) ∧ w'.cell? ⟨r3, 0, none⟩ = some (.slice xb nb cb))) (by kernel_rfl) ?_ (fun hHeld => ?_)
  · exact ⟨kc K0.out BB.out, kc K1.out BB.out, kc K2.out BB.out, kc K3.out BB.out⟩
  clear hdr
  generalize w.drew = wd at *
  refine wpAnyH_take (i := 0) (oi := { dst := some 7, op := Op.load 31 (Operand.tmp 3), type := 31, pos := "l10_rule.go:41", after := #[], guard := none }) (v := ?_) rfl (by kernel_rfl) (by kernel_rfl) (by kernel_rfl) (fun _ _ _ h => h) (Or.inl ⟨by rfl, ?_⟩) (by assumption) ?_
  rotate_left
  · intro w' hSw; (try dsimp only at hSw); first | (go_simp; done) | (go_simp; with_reducible rfl)
  (try simp only [Act.put, List.setIfInBounds_toArray, List.set_cons_zero, List.set_cons_succ])
  refine wpAnyH_take (i := 2) (oi := { dst := some 9, op := Op.load 45 (Operand.tmp 4), type := 45, pos := "l10_rule.go:41", after := #[], guard := none }) (v := ?_) rfl (by kernel_rfl) (by kernel_rfl) (by kernel_rfl) (fun _ _ _ h => h) (Or.inl ⟨by rfl, ?_⟩) (by assumption) ?_
  rotate_left
  · intro w' hSw; (try dsimp only at hSw); first | (go_simp; done) | (go_simp; with_reducible rfl)
  (try simp only [Act.put, List.setIfInBounds_toArray, List.set_cons_zero, List.set_cons_succ])
  refine wpAnyH_take (i := 3) (oi := { dst := some 10, op := Op.load 45 (Operand.tmp 5), type := 45, pos := "l10_rule.go:41", after := #[], guard := none }) (v := ?_) rfl (by kernel_rfl) (by kernel_rfl) (by kernel_rfl) (fun _ _ _ h => h) (Or.inl ⟨by rfl, ?_⟩) (by assumption) ?_
  rotate_left
  · intro w' hSw; (try dsimp only at hSw); first | (go_simp; done) | (go_simp; with_reducible rfl)
  (try simp only [Act.put, List.setIfInBounds_toArray, List.set_cons_zero, List.set_cons_succ])
  refine wpAnyH_ready (rs := [1]) (by kernel_rfl) (by simp) ?_
  refine AllReadyH.cons (o := { dst := some 8, op := Op.call { callee := Callee.value (Operand.func 49), args := #[Operand.tmp 7], argTypes := #[31] }, type := 68, pos := "l10_rule.go:41", after := #[{ on := 0, ground := Ground.data }], guard := none }) rfl (fun K hK => ?_) AllReadyH.nil
  go_simp
  refine (allowanceYes _ x _ HV.out (H_x.out.on BB.out) HP.out).mono ?_
  rintro e wn1 ⟨g, y0, y1, m0, d0, m1, d1, rfl, hr, hb⟩
  have RR := Lib.hid hr; clear hr
  replace BB := Lib.hid (BB.out.trans (hb.mono BB.out.size))
  clear hb
  (try go_wp2_with fail)
  clear hHeld
  refine hK.out _ _ ?_ (fun hHeld => ?_)
  · (try dsimp only); exact ⟨kc K0.out BB.out, kc K1.out BB.out, kc K2.out BB.out, kc K3.out BB.out⟩
  clear hK K
  (try simp only [Act.put, List.setIfInBounds_toArray, List.set_cons_zero, List.set_cons_succ])
  refine wpAnyH_ready (rs := [4]) (by kernel_rfl) (by simp) ?_
  refine AllReadyH.cons (o := { dst := some 11, op := Op.call { callee := Callee.value (Operand.tmp 8), args := #[Operand.tmp 9, Operand.tmp 10], argTypes := #[45, 45] }, type := 4, pos := "l10_rule.go:41", after := #[{ on := 1, ground := Ground.data }, { on := 2, ground := Ground.data }, { on := 3, ground := Ground.data }, { on := 1, ground := Ground.chain }], guard := none }) rfl (fun K hK => ?_) AllReadyH.nil
  go_simp
  refine (allowYes _ x _ _ _ _ _ _ _ _ _ _ _ _ ln lb _ z HZ.out RR.out (H_n.out.on BB.out) (H_b.out.on BB.out) HP.out HPN.out HPB.out).mono ?_
  rintro e wn2 ⟨rfl, hb⟩
  replace RR := Lib.hid (RR.out.on hb)
  replace BB := Lib.hid (BB.out.trans (hb.mono BB.out.size))
  clear hb
  (try go_wp2_with fail)
  clear hHeld
  refine hK.out _ _ ?_ (fun hHeld => ?_)
  · (try dsimp only); exact ⟨kc K0.out BB.out, kc K1.out BB.out, kc K2.out BB.out, kc K3.out BB.out⟩
  clear hK K
  (try simp only [Act.put, List.setIfInBounds_toArray, List.set_cons_zero, List.set_cons_succ])
  refine wpAnyH_take (i := 5) (oi := { dst := some 6, op := Op.assign (Operand.tmp 11), type := 4, pos := "l10_rule.go:41", after := #[{ on := 4, ground := Ground.data }, { on := 4, ground := Ground.chain }, { on := 0, ground := Ground.phase }, { on := 1, ground := Ground.phase }, { on := 2, ground := Ground.phase }, { on := 3, ground := Ground.phase }, { on := 4, ground := Ground.phase }], guard := none }) (v := ?_) rfl (by kernel_rfl) (by kernel_rfl) (by kernel_rfl) (fun _ _ _ h => h) (Or.inl ⟨by rfl, ?_⟩) (by assumption) ?_
  rotate_left
  · intro w' hSw; (try dsimp only at hSw); first | (go_simp; done) | (go_simp; with_reducible rfl)
  (try simp only [Act.put, List.setIfInBounds_toArray, List.set_cons_zero, List.set_cons_succ])
  refine wpAnyH_done (by kernel_rfl) ?_ _
  exact NoPanic.normal (HQ.out _ _ _ _ _  _  BB.out)

set_option maxHeartbeats 4000000 in
theorem implRuleAllows (V U1 U2 : Value) (x : Rlt) (n b : List ByteArray) (w : World) (z : Bool) (hz : allowsR x n b = z) (h : kRl.At w V x) (gn9 : kN.At w U1 n) (gb9 : kN.At w U2 b) (hp : wtRl x ≤ 9000000) (hn : bulk n ≤ 9000000) (hb : bulk b ≤ 9000000) :
    Calls Try.prog 24 #[V, U1, U2] w fun e w' => e = .returned (.bool z) ∧ Below w.heap.size w w' := by
  obtain ⟨x0, n0, c0, x1, n1, c1, rfl, g0⟩ := kRl_shapeA h
  obtain ⟨xn, nn, cn, rfl, gn⟩ := kN_shapeA gn9
  obtain ⟨xb, nb, cb, rfl, gb⟩ := kN_shapeA gb9
  have HB := Lib.hid ((((Below.refl w.heap.size w).alloc (Nat.le_refl _) (.cells #[.slice x0 n0 c0, .slice x1 n1 c1] 31)).alloc (by simp) (.cells #[.slice xn nn cn] 45)).alloc (by simp; omega) (.cells #[.slice xb nb cb] 45))
  have HX := Lib.hid (((Ret.Blk.new w #[.slice x0 n0 c0, .slice x1 n1 c1] 31).on ((Below.refl _ _).alloc (Nat.le_refl _) (.cells #[.slice xn nn cn] 45))).on ((Below.refl _ _).alloc (Nat.le_refl _) (.cells #[.slice xb nb cb] 45)))
  have HN := Lib.hid ((Ret.Blk.new' (w := w.alloc (.cells #[.slice x0 n0 c0, .slice x1 n1 c1] 31)) (n := w.heap.size + 1) #[.slice xn nn cn] 45 (by simp)).on ((Below.refl _ _).alloc (Nat.le_refl _) (.cells #[.slice xb nb cb] 45)))
  have HY := Lib.hid (Ret.Blk.new' (w := ((w.alloc (.cells #[.slice x0 n0 c0, .slice x1 n1 c1] 31)).alloc (.cells #[.slice xn nn cn] 45))) (n := w.heap.size + 1 + 1) #[.slice xb nb cb] 45 (by simp))
  have G0 := Lib.hid g0; have GN := Lib.hid gn; have GB := Lib.hid gb; have HZ := Lib.hid hz; have HP := Lib.hid hp; have HPN := Lib.hid hn; have HPB := Lib.hid hb
  clear h g0 gn gb gn9 gb9 hz hp hn hb
  go_enter Try.func24, Try.ntmps24
  go_wp2_with fail
  cases hv : validR x with
  | false =>
    have HV := Lib.hid hv
    have HE : Hid (z = false) := Lib.hid (by rw [← HZ.out]; exact allowsR_no hv n b)
    clear hv
    refine ral1 HV (Lib.hid (G0.out.on HB.out)) HP (Lib.hid (HX.out.cell 0)) (Lib.hid (HX.out.cell 1)) (Lib.hid (HN.out.cell 0)) (Lib.hid (HY.out.cell 0)) ?_
    intro u7 u8 u9 u10 u11 wx hb
    replace HB := Lib.hid (HB.out.trans (hb.mono HB.out.size)); clear hb
    go_wp2_with fail
    go_ret
    exact ⟨ret_bool HE.out.symm, HB.out⟩
  | true =>
    have HV := Lib.hid hv
    have HE : Hid (okR2 x n b = z) := Lib.hid (by rw [← HZ.out]; exact (allowsR_yes hv n b).symm)
    clear hv
    refine ral2 HV HE (Lib.hid (GN.out.on HB.out)) (Lib.hid (GB.out.on HB.out)) HPN HPB (Lib.hid (G0.out.on HB.out)) HP (Lib.hid (HX.out.cell 0)) (Lib.hid (HX.out.cell 1)) (Lib.hid (HN.out.cell 0)) (Lib.hid (HY.out.cell 0)) ?_
    intro u7 u8 u9 u10 u11 wx hb
    replace HB := Lib.hid (HB.out.trans (hb.mono HB.out.size)); clear hb
    go_wp2_with fail
    go_ret
    exact ⟨rfl, HB.out⟩
end Go.Proofs.Ytkojeajjappchaa.Row
