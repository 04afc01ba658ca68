/- Contracts and mathematics, joined: RuleM, SplitSp, RuleT. No conditions but those that each states. -/
import Derived.WalkKit
import Derived.Deep.RegionHeld3
import Derived.Test.YtcidfmmeonhkhaaGreatDoorB5
import Derived.Test.YtcidfmmeonhkhaaGreatDoorB7
import Derived.Test.YtcidfmmeonhkhaaGreatDoorB6
import Derived.Test.YtcidfmmeonhkhaaGreatDoorB4
import Derived.Lib.IndexMore
/- The reference model's chapter 10 (rules): ValidRule, ValidRules, RuleAllows, FirstAllowingRule, Allowed, FormatRule, EqualRules. No conditions but that lengths fit. -/
namespace Go.Proofs.YtcidfmmeonhkhaaGreatDoor.Row
open Go.ChangeShapes Go.WideShapes Go.ChangeAt Go.RowKit Go.Instr
set_option linter.unusedVariables false
set_option maxRecDepth 100000

/-! ### mathematics -/
def hasP (l : List ByteArray) (s : ByteArray) : Bool := l.any fun x => decide (x = s)
theorem hasP_iff {l : List ByteArray} {s : ByteArray} : hasP l s = true ↔ s ∈ l := by
  unfold hasP
  rw [List.any_eq_true]
  constructor
  · rintro ⟨x, hx, e⟩
    rw [← of_decide_eq_true e]; exact hx
  · exact fun h => ⟨s, h, decide_eq_true rfl⟩
theorem hasP_no {l : List ByteArray} {s : ByteArray} : hasP l s = false ↔ ¬ s ∈ l := by rw [← Bool.not_eq_true, hasP_iff]
/-- Every letter of the key's pattern stands in the data's. -/
def lettersIn (p q : List ByteArray) : Bool := q.all fun s => !letterP s || hasP p s
def validR (x : Rlt) : Bool := validPat x.1 && validPat x.2 && lettersIn x.1 x.2
def validRs (l : List Rlt) : Bool := l.all validR && decide (l.length ≤ 8)
def allowsR (x : Rlt) (n b : List ByteArray) : Bool := validR x && mOk x.1 n [] && mOk x.2 b (mOut x.1 n [])
def firstR (l : List Rlt) (n b : List ByteArray) : Int := if l.findIdx (fun x => allowsR x n b) < l.length then (l.findIdx (fun x => allowsR x n b) : Int) else -1
def fmtR (x : Rlt) : ByteArray := fmtS x.1 ++ { data := #[32, 60, 32] } ++ fmtS x.2
theorem tlB_true {a b : ByteArray} (h : a = b) : (a.toList == b.toList) = true := by subst h; simp
theorem tlB_false {a b : ByteArray} (h : ¬ a = b) : (a.toList == b.toList) = false := by
  have := tl_dec a b
  simpa [h] using this
theorem lettersIn_no {p q : List ByteArray} {k : Nat} (hk : k < q.length) (h1 : letterP (nth q k) = true) (h2 : ¬ nth q k ∈ p) : lettersIn p q = false := by
  unfold lettersIn
  rw [List.all_eq_false]
  exact ⟨nth q k, nth_mem hk, by rw [h1, hasP_no.2 h2]; simp⟩
theorem lettersIn_all {p q : List ByteArray} (h : ∀ j, j < q.length → letterP (nth q j) = true → nth q j ∈ p) : lettersIn p q = true := by
  unfold lettersIn
  rw [List.all_eq_true]
  intro s hs
  obtain ⟨j, hj, rfl⟩ := List.getElem_of_mem hs
  have := h j hj
  rw [nth_eq hj] at this
  cases hl : letterP q[j] with
  | false => simp
  | true => rw [hasP_iff.2 (this hl)]; simp
theorem firstR_at {l : List Rlt} {n b : List ByteArray} {k : Nat} (hk : k < l.length) (h : allowsR (nth l k) n b = true) (hb : ∀ j, j < k → allowsR (nth l j) n b = false) : firstR l n b = k := by
  have e : l.findIdx (fun x => allowsR x n b) = k := by
    rw [List.findIdx_eq hk]
    exact ⟨by rw [← nth_eq hk]; exact h, fun j hj => by rw [← nth_eq (by omega)]; exact hb j hj⟩
  unfold firstR
  rw [e, if_pos hk]
theorem firstR_none {l : List Rlt} {n b : List ByteArray} (hb : ∀ j, j < l.length → allowsR (nth l j) n b = false) : firstR l n b = -1 := by
  unfold firstR
  rw [if_neg]
  intro h
  have h1 := List.findIdx_getElem (w := h)
  have h2 := hb _ h
  rw [nth_eq h] at h2
  rw [h2] at h1
  cases h1
theorem fitR {x : Rlt} (h : wtRl x ≤ 9000000) : bulk x.1 ≤ 9000000 ∧ bulk x.2 ≤ 9000000 := by unfold wtRl at h; omega

set_option maxHeartbeats 2000000 in
theorem l10Has (v : Value) (l : List ByteArray) (s : ByteArray) (w : World) (z : Bool) (hz : hasP l s = z) (h : Holds Value.string w v l) (hl : bulk l ≤ 100000000) :
    Calls Tryz.prog 196 #[.agg #[v], .string s] w fun e w' => e = .returned (.bool z) ∧ Below w.heap.size w w' := by
  obtain ⟨x, n, cap, rfl, hn, hcap, hh⟩ := h.shapeN
  have hll := bigLen hl
  rw [← hn] at hll
  have HN := Lib.hid hn
  have HH := Lib.hid hh
  have HZ := Lib.hid hz
  have HB0 := Lib.hid ((Below.refl w.heap.size w).alloc (Nat.le_refl _) (.cells #[.slice x n cap] 166))
  have HC0 := Lib.hid (Ret.Box.new w (.slice x n cap) 166)
  clear hn h hh hl hz
  go_enter Tryz.func196, Tryz.ntmps196
  go_wp2_with fail
  go_loopw [5] (fun i wr => ∃ k : Nat, k ≤ n ∧ i = .int .i64 k ∧ Hid (∀ j, j < k → ¬ nth l j = s) ∧ Hid (Ret.Box wr w.heap.size (.slice x n cap) 166) ∧ Hid (Below w.heap.size w wr)) (fun i _ => n - (intOf i).toNat)
  case atStart => exact ⟨0, Nat.zero_le _, rfl, Lib.hid (fun j hj => absurd hj (by omega)), HC0, HB0⟩
  case round =>
    obtain ⟨k, hk, rfl, ha, hc, hb⟩ := hrel
    have hc1 := hc.out.cell
    by_cases hlt : k < n
    · have hlen := HN.out
      obtain ⟨b, off, rfl, hd⟩ := (HH.out.on hb.out).at (j := k) (by omega)
      by_cases hq : nth l k = s
      · have HE : Hid (z = true) := Lib.hid (by rw [← HZ.out]; exact hasP_iff.2 (hq ▸ nth_mem (by omega)))
        have HQ := Lib.hid (tlB_true hq)
        clear hlen hq
        have hq := HQ.out
        go_wp2_with fail
        go_ret
        exact ⟨ret_bool HE.out.symm, hb.out⟩
      · have HA := Lib.hid (show ∀ j, j < k + 1 → ¬ nth l j = s from fun j hj => by rcases Nat.lt_succ_iff_lt_or_eq.1 hj with h5 | h5; exact ha.out j h5; exact h5 ▸ hq)
        have HQ := Lib.hid (tlB_false hq)
        clear hlen hq
        have hq := HQ.out
        go_wp2_with fail
        go_roundw
        case rel => exact ⟨k + 1, by omega, by go_num, HA, hc, hb⟩
        case measure => simp [intOf]; omega
    · obtain rfl : k = n := by omega
      have HE : Hid (z = false) := Lib.hid (by
        rw [← HZ.out]
        refine hasP_no.2 fun hm => ?_
        obtain ⟨j, hj, e⟩ := List.getElem_of_mem hm
        exact ha.out j (by have := HN.out; omega) (by rw [nth_eq hj]; exact e))
      clear hlt
      go_wp2_with fail
      go_ret
      exact ⟨ret_bool HE.out.symm, hb.out⟩
theorem l5LV {s : ByteArray} {w : World} (z : Bool) (hz : letterP s = z) (hl : s.size ≤ 140737488351232) :
    Calls Tryz.prog 195 #[.string s] w fun e w' => e = .returned (.bool z) ∧ Below w.heap.size w w' := (l5Letter s w hl).mono fun e w' ⟨a, b⟩ => ⟨by rw [a, hz], by subst b; exact Below.refl _ _⟩
theorem vPatV {v : Value} {l : List ByteArray} {w : World} (z : Bool) (hz : validPat l = z) (h : Holds Value.string w v l) (hl : bulk l ≤ 100000000) :
    Calls Tryz.prog 194 #[.agg #[v]] w fun e w' => e = .returned (.bool z) ∧ Below w.heap.size w w' := hz ▸ specValidPattern v l w h hl
set_option maxRecDepth 100000 in
set_option maxHeartbeats 4000000 in
theorem rvl1 {Q : Exit → Act → World → Prop} {v0 v2 v4 v5 v6 v7 v8 v9 v10 v11 v12 v13 v14 v15 v16 v17 v18 v19 v20 v21 v22 v23 v24 v25 v26 v27 v28 v29 v30 v31 v32 v33 v34 v35 v36 v37 v38 v39 v40 : Value} {w : World} {r b off n0 c0 n1 c1 k : Nat} {x0 : Option Addr}  {s : ByteArray} (hk : k < n1) (hsz : s.size ≤ 140737488351232) (HL : Hid (letterP s = false)) (K0 : Hid (w.cell? ⟨r, 0, none⟩ = some (.slice x0 n0 c0))) (K1 : Hid (w.cell? ⟨r, 1, none⟩ = some (.slice (some ⟨b, off, none⟩) n1 c1))) (K2 : Hid (w.cell? ⟨b, off + k, none⟩ = some (.string s)))
    (hQ : ∀ (u22 u23 u24 u25 u26 u27 u28 u29 u30 u31 u32 u33 u34 u35 u36 u37 u38 u39 : Value)  (wx : World), Below w.heap.size w wx → Q .normal ⟨#[v0, .pointer (some ⟨r, 0, none⟩), v2, .int .i64 k, v4, v5, v6, v7, v8, v9, v10, v11, v12, v13, v14, v15, v16, v17, v18, v19, v20, v21, u22, u23, u24, u25, u26, u27, u28, u29, u30, u31, u32, u33, u34, u35, u36, u37, u38, u39, .bool false], []⟩ wx) :
    (Code.region 6 #[{ dst := some 22, op := Op.fieldAddr 168 (Operand.tmp 1) 1, type := 0, pos := "l10_rule.go:19", after := #[], guard := none },
      { dst := some 23, op := Op.fieldAddr 166 (Operand.tmp 22) 0, type := 0, pos := "l10_rule.go:19", after := #[{ on := 0, ground := Ground.data }], guard := none },
      { dst := some 24, op := Op.load 30 (Operand.tmp 23), type := 30, pos := "l10_rule.go:19", after := #[{ on := 1, ground := Ground.data }], guard := none },
      { dst := some 25, op := Op.move (Operand.tmp 3), type := 3, pos := "l10_rule.go:19", after := #[], guard := none },
      { dst := some 26, op := Op.indexAddr 30 (Operand.tmp 24) (Operand.tmp 25), type := 0, pos := "l10_rule.go:19", after := #[{ on := 2, ground := Ground.data }, { on := 3, ground := Ground.data }], guard := none },
      { dst := some 27, op := Op.load 9 (Operand.tmp 26), type := 9, pos := "l10_rule.go:19", after := #[{ on := 4, ground := Ground.data }], guard := none },
      { dst := some 28, op := Op.call { callee := Callee.value (Operand.func 195), args := #[Operand.tmp 27], argTypes := #[9] }, type := 4, pos := "l10_rule.go:19", after := #[{ on := 5, ground := Ground.data }], guard := none },
      { dst := some 29, op := Op.move (Operand.tmp 28), type := 4, pos := "l10_rule.go:19", after := #[{ on := 6, ground := Ground.data }, { on := 6, ground := Ground.chain }], guard := none },
      { dst := some 30, op := Op.fieldAddr 168 (Operand.tmp 1) 0, type := 0, pos := "l10_rule.go:19", after := #[{ on := 7, ground := Ground.guard }], guard := some (7, true) },
      { dst := some 31, op := Op.load 166 (Operand.tmp 30), type := 166, pos := "l10_rule.go:19", after := #[{ on := 8, ground := Ground.data }, { on := 7, ground := Ground.guard }], guard := some (7, true) },
      { dst := some 32, op := Op.fieldAddr 168 (Operand.tmp 1) 1, type := 0, pos := "l10_rule.go:19", after := #[{ on := 7, ground := Ground.guard }], guard := some (7, true) },
      { dst := some 33, op := Op.fieldAddr 166 (Operand.tmp 32) 0, type := 0, pos := "l10_rule.go:19", after := #[{ on := 10, ground := Ground.data }, { on := 7, ground := Ground.guard }], guard := some (7, true) },
      { dst := some 34, op := Op.load 30 (Operand.tmp 33), type := 30, pos := "l10_rule.go:19", after := #[{ on := 11, ground := Ground.data }, { on := 7, ground := Ground.guard }], guard := some (7, true) },
      { dst := some 35, op := Op.move (Operand.tmp 3), type := 3, pos := "l10_rule.go:19", after := #[{ on := 7, ground := Ground.guard }], guard := some (7, true) },
      { dst := some 36, op := Op.indexAddr 30 (Operand.tmp 34) (Operand.tmp 35), type := 0, pos := "l10_rule.go:19", after := #[{ on := 12, ground := Ground.data }, { on := 13, ground := Ground.data }, { on := 7, ground := Ground.guard }], guard := some (7, true) },
      { dst := some 37, op := Op.load 9 (Operand.tmp 36), type := 9, pos := "l10_rule.go:19", after := #[{ on := 14, ground := Ground.data }, { on := 7, ground := Ground.guard }], guard := some (7, true) },
      { dst := some 38, op := Op.call { callee := Callee.value (Operand.func 196), args := #[Operand.tmp 31, Operand.tmp 37], argTypes := #[166, 9] }, type := 4, pos := "l10_rule.go:19", after := #[{ on := 9, ground := Ground.data }, { on := 15, ground := Ground.data }, { on := 7, ground := Ground.chain }, { on := 7, ground := Ground.guard }], guard := some (7, true) },
      { dst := some 39, op := Op.unOp UnOp.not 4 (Operand.tmp 38), type := 4, pos := "l10_rule.go:19", after := #[{ on := 16, ground := Ground.data }, { on := 7, ground := Ground.guard }], guard := some (7, true) },
      { dst := some 40, op := Op.pick (Operand.tmp 29) (Operand.tmp 39) (Operand.const (Value.bool false)), type := 4, pos := "l10_rule.go:19", after := #[{ on := 7, ground := Ground.data }, { on := 17, ground := Ground.data }], guard := none }] true).wp Tryz.prog Q ⟨#[v0, .pointer (some ⟨r, 0, none⟩), v2, .int .i64 k, v4, v5, v6, v7, v8, v9, v10, v11, v12, v13, v14, v15, v16, v17, v18, v19, v20, v21, v22, v23, v24, v25, v26, v27, v28, v29, v30, v31, v32, v33, v34, v35, v36, v37, v38, v39, v40], []⟩ w := by
  have HQ := Lib.hid hQ; clear hQ
  have hdr : Below w.heap.size w w.drew := (Below.refl _ _).drew
  have BB := Lib.hid hdr
  refine wp_region_noPanic ?_
  refine wp_region_held_drew (S := (fun w' => w'.cell? ⟨r, 0, none⟩ = some (.slice x0 n0 c0) ∧ w'.cell? ⟨r, 1, none⟩ = some (.slice (some ⟨b, off, none⟩) n1 c1) ∧ w'.cell? ⟨b, off + k, none⟩ = some (.string s))) (by kernel_rfl) ?_ (fun hHeld => ?_)
  · exact ⟨kc K0.out BB.out, kc K1.out BB.out, kc K2.out BB.out⟩
  clear hdr
  generalize w.drew = wd at *
  refine wpAnyH_take (i := 0) (oi := { dst := some 22, op := Op.fieldAddr 168 (Operand.tmp 1) 1, type := 0, pos := "l10_rule.go:19", after := #[], guard := none }) (v := ?_) rfl (by kernel_rfl) (by kernel_rfl) (by kernel_rfl) (fun _ _ _ h => h) (Or.inl ⟨by rfl, ?_⟩) (by assumption) ?_
  rotate_left
  · intro w' hSw; (try dsimp only at hSw); first | (go_simp; done) | (go_simp; with_reducible rfl)
  (try simp only [Act.put, List.setIfInBounds_toArray, List.set_cons_zero, List.set_cons_succ])
  refine wpAnyH_take (i := 1) (oi := { dst := some 23, op := Op.fieldAddr 166 (Operand.tmp 22) 0, type := 0, pos := "l10_rule.go:19", after := #[{ on := 0, ground := Ground.data }], guard := none }) (v := ?_) rfl (by kernel_rfl) (by kernel_rfl) (by kernel_rfl) (fun _ _ _ h => h) (Or.inl ⟨by rfl, ?_⟩) (by assumption) ?_
  rotate_left
  · intro w' hSw; (try dsimp only at hSw); first | (go_simp; done) | (go_simp; with_reducible rfl)
  (try simp only [Act.put, List.setIfInBounds_toArray, List.set_cons_zero, List.set_cons_succ])
  refine wpAnyH_take (i := 2) (oi := { dst := some 24, op := Op.load 30 (Operand.tmp 23), type := 30, pos := "l10_rule.go:19", after := #[{ on := 1, ground := Ground.data }], guard := none }) (v := ?_) rfl (by kernel_rfl) (by kernel_rfl) (by kernel_rfl) (fun _ _ _ h => h) (Or.inl ⟨by rfl, ?_⟩) (by assumption) ?_
  rotate_left
  · intro w' hSw; (try dsimp only at hSw); first | (go_simp; done) | (go_simp; with_reducible rfl)
  (try simp only [Act.put, List.setIfInBounds_toArray, List.set_cons_zero, List.set_cons_succ])
  refine wpAnyH_take (i := 3) (oi := { dst := some 25, op := Op.move (Operand.tmp 3), type := 3, pos := "l10_rule.go:19", after := #[], guard := none }) (v := ?_) rfl (by kernel_rfl) (by kernel_rfl) (by kernel_rfl) (fun _ _ _ h => h) (Or.inl ⟨by rfl, ?_⟩) (by assumption) ?_
  rotate_left
  · intro w' hSw; (try dsimp only at hSw); first | (go_simp; done) | (go_simp; with_reducible rfl)
  (try simp only [Act.put, List.setIfInBounds_toArray, List.set_cons_zero, List.set_cons_succ])
  refine wpAnyH_take (i := 4) (oi := { dst := some 26, op := Op.indexAddr 30 (Operand.tmp 24) (Operand.tmp 25), type := 0, pos := "l10_rule.go:19", after := #[{ on := 2, ground := Ground.data }, { on := 3, ground := Ground.data }], guard := none }) (v := ?_) rfl (by kernel_rfl) (by kernel_rfl) (by kernel_rfl) (fun _ _ _ h => h) (Or.inl ⟨by rfl, ?_⟩) (by assumption) ?_
  rotate_left
  · intro w' hSw; (try dsimp only at hSw); first | (go_simp; done) | (go_simp; with_reducible rfl)
  (try simp only [Act.put, List.setIfInBounds_toArray, List.set_cons_zero, List.set_cons_succ])
  refine wpAnyH_take (i := 5) (oi := { dst := some 27, op := Op.load 9 (Operand.tmp 26), type := 9, pos := "l10_rule.go:19", after := #[{ on := 4, ground := Ground.data }], guard := none }) (v := ?_) rfl (by kernel_rfl) (by kernel_rfl) (by kernel_rfl) (fun _ _ _ h => h) (Or.inl ⟨by rfl, ?_⟩) (by assumption) ?_
  rotate_left
  · intro w' hSw; (try dsimp only at hSw); first | (go_simp; done) | (go_simp; with_reducible rfl)
  (try simp only [Act.put, List.setIfInBounds_toArray, List.set_cons_zero, List.set_cons_succ])
  refine wpAnyH_ready (rs := [6]) (by kernel_rfl) (by simp) ?_
  refine AllReadyH.cons (o := { dst := some 28, op := Op.call { callee := Callee.value (Operand.func 195), args := #[Operand.tmp 27], argTypes := #[9] }, type := 4, pos := "l10_rule.go:19", after := #[{ on := 5, ground := Ground.data }], guard := none }) rfl (fun K hK => ?_) AllReadyH.nil
  go_simp
  refine (l5LV false HL.out hsz).mono ?_
  rintro e wn1 ⟨rfl, hb⟩
  replace BB := Lib.hid (BB.out.trans (hb.mono BB.out.size))
  clear hb
  (try go_wp2_with fail)
  clear hHeld
  refine hK.out _ _ ?_ (fun hHeld => ?_)
  · (try dsimp only); exact ⟨kc K0.out BB.out, kc K1.out BB.out, kc K2.out BB.out⟩
  clear hK K
  (try simp only [Act.put, List.setIfInBounds_toArray, List.set_cons_zero, List.set_cons_succ])
  refine wpAnyH_take (i := 7) (oi := { dst := some 29, op := Op.move (Operand.tmp 28), type := 4, pos := "l10_rule.go:19", after := #[{ on := 6, ground := Ground.data }, { on := 6, ground := Ground.chain }], guard := none }) (v := ?_) rfl (by kernel_rfl) (by kernel_rfl) (by kernel_rfl) (fun _ _ _ h => h) (Or.inl ⟨by rfl, ?_⟩) (by assumption) ?_
  rotate_left
  · intro w' hSw; (try dsimp only at hSw); first | (go_simp; done) | (go_simp; with_reducible rfl)
  (try simp only [Act.put, List.setIfInBounds_toArray, List.set_cons_zero, List.set_cons_succ])
  refine wpAnyH_take (i := 8) (oi := { dst := some 30, op := Op.fieldAddr 168 (Operand.tmp 1) 0, type := 0, pos := "l10_rule.go:19", after := #[{ on := 7, ground := Ground.guard }], guard := some (7, true) }) (v := undef) rfl (by kernel_rfl) (by kernel_rfl) (by kernel_rfl) (fun _ _ _ h => h) (Or.inr ⟨by rfl, rfl⟩) (by assumption) ?_
  (try simp only [Act.put, List.setIfInBounds_toArray, List.set_cons_zero, List.set_cons_succ])
  refine wpAnyH_take (i := 9) (oi := { dst := some 31, op := Op.load 166 (Operand.tmp 30), type := 166, pos := "l10_rule.go:19", after := #[{ on := 8, ground := Ground.data }, { on := 7, ground := Ground.guard }], guard := some (7, true) }) (v := undef) rfl (by kernel_rfl) (by kernel_rfl) (by kernel_rfl) (fun _ _ _ h => h) (Or.inr ⟨by rfl, rfl⟩) (by assumption) ?_
  (try simp only [Act.put, List.setIfInBounds_toArray, List.set_cons_zero, List.set_cons_succ])
  refine wpAnyH_take (i := 10) (oi := { dst := some 32, op := Op.fieldAddr 168 (Operand.tmp 1) 1, type := 0, pos := "l10_rule.go:19", after := #[{ on := 7, ground := Ground.guard }], guard := some (7, true) }) (v := undef) rfl (by kernel_rfl) (by kernel_rfl) (by kernel_rfl) (fun _ _ _ h => h) (Or.inr ⟨by rfl, rfl⟩) (by assumption) ?_
  (try simp only [Act.put, List.setIfInBounds_toArray, List.set_cons_zero, List.set_cons_succ])
  refine wpAnyH_take (i := 11) (oi := { dst := some 33, op := Op.fieldAddr 166 (Operand.tmp 32) 0, type := 0, pos := "l10_rule.go:19", after := #[{ on := 10, ground := Ground.data }, { on := 7, ground := Ground.guard }], guard := some (7, true) }) (v := undef) rfl (by kernel_rfl) (by kernel_rfl) (by kernel_rfl) (fun _ _ _ h => h) (Or.inr ⟨by rfl, rfl⟩) (by assumption) ?_
  (try simp only [Act.put, List.setIfInBounds_toArray, List.set_cons_zero, List.set_cons_succ])
  refine wpAnyH_take (i := 12) (oi := { dst := some 34, op := Op.load 30 (Operand.tmp 33), type := 30, pos := "l10_rule.go:19", after := #[{ on := 11, ground := Ground.data }, { on := 7, ground := Ground.guard }], guard := some (7, true) }) (v := undef) rfl (by kernel_rfl) (by kernel_rfl) (by kernel_rfl) (fun _ _ _ h => h) (Or.inr ⟨by rfl, rfl⟩) (by assumption) ?_
  (try simp only [Act.put, List.setIfInBounds_toArray, List.set_cons_zero, List.set_cons_succ])
  refine wpAnyH_take (i := 13) (oi := { dst := some 35, op := Op.move (Operand.tmp 3), type := 3, pos := "l10_rule.go:19", after := #[{ on := 7, ground := Ground.guard }], guard := some (7, true) }) (v := undef) rfl (by kernel_rfl) (by kernel_rfl) (by kernel_rfl) (fun _ _ _ h => h) (Or.inr ⟨by rfl, rfl⟩) (by assumption) ?_
  (try simp only [Act.put, List.setIfInBounds_toArray, List.set_cons_zero, List.set_cons_succ])
  refine wpAnyH_take (i := 14) (oi := { dst := some 36, op := Op.indexAddr 30 (Operand.tmp 34) (Operand.tmp 35), type := 0, pos := "l10_rule.go:19", after := #[{ on := 12, ground := Ground.data }, { on := 13, ground := Ground.data }, { on := 7, ground := Ground.guard }], guard := some (7, true) }) (v := undef) rfl (by kernel_rfl) (by kernel_rfl) (by kernel_rfl) (fun _ _ _ h => h) (Or.inr ⟨by rfl, rfl⟩) (by assumption) ?_
  (try simp only [Act.put, List.setIfInBounds_toArray, List.set_cons_zero, List.set_cons_succ])
  refine wpAnyH_take (i := 15) (oi := { dst := some 37, op := Op.load 9 (Operand.tmp 36), type := 9, pos := "l10_rule.go:19", after := #[{ on := 14, ground := Ground.data }, { on := 7, ground := Ground.guard }], guard := some (7, true) }) (v := undef) rfl (by kernel_rfl) (by kernel_rfl) (by kernel_rfl) (fun _ _ _ h => h) (Or.inr ⟨by rfl, rfl⟩) (by assumption) ?_
  (try simp only [Act.put, List.setIfInBounds_toArray, List.set_cons_zero, List.set_cons_succ])
  refine wpAnyH_take (i := 16) (oi := { dst := some 38, op := Op.call { callee := Callee.value (Operand.func 196), args := #[Operand.tmp 31, Operand.tmp 37], argTypes := #[166, 9] }, type := 4, pos := "l10_rule.go:19", after := #[{ on := 9, ground := Ground.data }, { on := 15, ground := Ground.data }, { on := 7, ground := Ground.chain }, { on := 7, ground := Ground.guard }], guard := some (7, true) }) (v := undef) rfl (by kernel_rfl) (by kernel_rfl) (by kernel_rfl) (fun _ _ _ h => h) (Or.inr ⟨by rfl, rfl⟩) (by assumption) ?_
  (try simp only [Act.put, List.setIfInBounds_toArray, List.set_cons_zero, List.set_cons_succ])
  refine wpAnyH_take (i := 17) (oi := { dst := some 39, op := Op.unOp UnOp.not 4 (Operand.tmp 38), type := 4, pos := "l10_rule.go:19", after := #[{ on := 16, ground := Ground.data }, { on := 7, ground := Ground.guard }], guard := some (7, true) }) (v := undef) rfl (by kernel_rfl) (by kernel_rfl) (by kernel_rfl) (fun _ _ _ h => h) (Or.inr ⟨by rfl, rfl⟩) (by assumption) ?_
  (try simp only [Act.put, List.setIfInBounds_toArray, List.set_cons_zero, List.set_cons_succ])
  refine wpAnyH_take (i := 18) (oi := { dst := some 40, op := Op.pick (Operand.tmp 29) (Operand.tmp 39) (Operand.const (Value.bool false)), type := 4, pos := "l10_rule.go:19", after := #[{ on := 7, ground := Ground.data }, { on := 17, ground := Ground.data }], guard := none }) (v := ?_) rfl (by kernel_rfl) (by kernel_rfl) (by kernel_rfl) (fun _ _ _ h => h) (Or.inl ⟨by rfl, ?_⟩) (by assumption) ?_
  rotate_left
  · intro w' hSw; (try dsimp only at hSw); first | (go_simp; done) | (go_simp; with_reducible rfl)
  (try simp only [Act.put, List.setIfInBounds_toArray, List.set_cons_zero, List.set_cons_succ])
  refine wpAnyH_done (by kernel_rfl) ?_ _
  exact NoPanic.normal (HQ.out _ _ _ _ _ _ _ _ _ _ _ _ _ _ _ _ _ _  _  BB.out)

set_option maxRecDepth 100000 in
set_option maxHeartbeats 4000000 in
theorem rvl2 {Q : Exit → Act → World → Prop} {v0 v2 v4 v5 v6 v7 v8 v9 v10 v11 v12 v13 v14 v15 v16 v17 v18 v19 v20 v21 v22 v23 v24 v25 v26 v27 v28 v29 v30 v31 v32 v33 v34 v35 v36 v37 v38 v39 v40 : Value} {w : World} {r b off n0 c0 n1 c1 k : Nat} {x0 : Option Addr} {p : List ByteArray} {s : ByteArray} (hk : k < n1) (hsz : s.size ≤ 140737488351232) {z : Bool} (HL : Hid (letterP s = true)) (H_p : Hid (Holds Value.string w (.slice x0 n0 c0) p)) (HP : Hid (bulk p ≤ 100000000)) (HZ : Hid (hasP p s = z)) (K0 : Hid (w.cell? ⟨r, 0, none⟩ = some (.slice x0 n0 c0))) (K1 : Hid (w.cell? ⟨r, 1, none⟩ = some (.slice (some ⟨b, off, none⟩) n1 c1))) (K2 : Hid (w.cell? ⟨b, off + k, none⟩ = some (.string s)))
    (hQ : ∀ (u22 u23 u24 u25 u26 u27 u28 u29 u30 u31 u32 u33 u34 u35 u36 u37 u38 u39 : Value)  (wx : World), Below w.heap.size w wx → Q .normal ⟨#[v0, .pointer (some ⟨r, 0, none⟩), v2, .int .i64 k, v4, v5, v6, v7, v8, v9, v10, v11, v12, v13, v14, v15, v16, v17, v18, v19, v20, v21, u22, u23, u24, u25, u26, u27, u28, u29, u30, u31, u32, u33, u34, u35, u36, u37, u38, u39, .bool (!z)], []⟩ wx) :
    (Code.region 6 #[{ dst := some 22, op := Op.fieldAddr 168 (Operand.tmp 1) 1, type := 0, pos := "l10_rule.go:19", after := #[], guard := none },
      { dst := some 23, op := Op.fieldAddr 166 (Operand.tmp 22) 0, type := 0, pos := "l10_rule.go:19", after := #[{ on := 0, ground := Ground.data }], guard := none },
      { dst := some 24, op := Op.load 30 (Operand.tmp 23), type := 30, pos := "l10_rule.go:19", after := #[{ on := 1, ground := Ground.data }], guard := none },
      { dst := some 25, op := Op.move (Operand.tmp 3), type := 3, pos := "l10_rule.go:19", after := #[], guard := none },
      { dst := some 26, op := Op.indexAddr 30 (Operand.tmp 24) (Operand.tmp 25), type := 0, pos := "l10_rule.go:19", after := #[{ on := 2, ground := Ground.data }, { on := 3, ground := Ground.data }], guard := none },
      { dst := some 27, op := Op.load 9 (Operand.tmp 26), type := 9, pos := "l10_rule.go:19", after := #[{ on := 4, ground := Ground.data }], guard := none },
      { dst := some 28, op := Op.call { callee := Callee.value (Operand.func 195), args := #[Operand.tmp 27], argTypes := #[9] }, type := 4, pos := "l10_rule.go:19", after := #[{ on := 5, ground := Ground.data }], guard := none },
      { dst := some 29, op := Op.move (Operand.tmp 28), type := 4, pos := "l10_rule.go:19", after := #[{ on := 6, ground := Ground.data }, { on := 6, ground := Ground.chain }], guard := none },
      { dst := some 30, op := Op.fieldAddr 168 (Operand.tmp 1) 0, type := 0, pos := "l10_rule.go:19", after := #[{ on := 7, ground := Ground.guard }], guard := some (7, true) },
      { dst := some 31, op := Op.load 166 (Operand.tmp 30), type := 166, pos := "l10_rule.go:19", after := #[{ on := 8, ground := Ground.data }, { on := 7, ground := Ground.guard }], guard := some (7, true) },
      { dst := some 32, op := Op.fieldAddr 168 (Operand.tmp 1) 1, type := 0, pos := "l10_rule.go:19", after := #[{ on := 7, ground := Ground.guard }], guard := some (7, true) },
      { dst := some 33, op := Op.fieldAddr 166 (Operand.tmp 32) 0, type := 0, pos := "l10_rule.go:19", after := #[{ on := 10, ground := Ground.data }, { on := 7, ground := Ground.guard }], guard := some (7, true) },
      { dst := some 34, op := Op.load 30 (Operand.tmp 33), type := 30, pos := "l10_rule.go:19", after := #[{ on := 11, ground := Ground.data }, { on := 7, ground := Ground.guard }], guard := some (7, true) },
      { dst := some 35, op := Op.move (Operand.tmp 3), type := 3, pos := "l10_rule.go:19", after := #[{ on := 7, ground := Ground.guard }], guard := some (7, true) },
      { dst := some 36, op := Op.indexAddr 30 (Operand.tmp 34) (Operand.tmp 35), type := 0, pos := "l10_rule.go:19", after := #[{ on := 12, ground := Ground.data }, { on := 13, ground := Ground.data }, { on := 7, ground := Ground.guard }], guard := some (7, true) },
      { dst := some 37, op := Op.load 9 (Operand.tmp 36), type := 9, pos := "l10_rule.go:19", after := #[{ on := 14, ground := Ground.data }, { on := 7, ground := Ground.guard }], guard := some (7, true) },
      { dst := some 38, op := Op.call { callee := Callee.value (Operand.func 196), args := #[Operand.tmp 31, Operand.tmp 37], argTypes := #[166, 9] }, type := 4, pos := "l10_rule.go:19", after := #[{ on := 9, ground := Ground.data }, { on := 15, ground := Ground.data }, { on := 7, ground := Ground.chain }, { on := 7, ground := Ground.guard }], guard := some (7, true) },
      { dst := some 39, op := Op.unOp UnOp.not 4 (Operand.tmp 38), type := 4, pos := "l10_rule.go:19", after := #[{ on := 16, ground := Ground.data }, { on := 7, ground := Ground.guard }], guard := some (7, true) },
      { dst := some 40, op := Op.pick (Operand.tmp 29) (Operand.tmp 39) (Operand.const (Value.bool false)), type := 4, pos := "l10_rule.go:19", after := #[{ on := 7, ground := Ground.data }, { on := 17, ground := Ground.data }], guard := none }] true).wp Tryz.prog Q ⟨#[v0, .pointer (some ⟨r, 0, none⟩), v2, .int .i64 k, v4, v5, v6, v7, v8, v9, v10, v11, v12, v13, v14, v15, v16, v17, v18, v19, v20, v21, v22, v23, v24, v25, v26, v27, v28, v29, v30, v31, v32, v33, v34, v35, v36, v37, v38, v39, v40], []⟩ w := by
  have HQ := Lib.hid hQ; clear hQ
  have hdr : Below w.heap.size w w.drew := (Below.refl _ _).drew
  have BB := Lib.hid hdr
  refine wp_region_noPanic ?_
  refine wp_region_held_drew (S := (fun w' => w'.cell? ⟨r, 0, none⟩ = some (.slice x0 n0 c0) ∧ w'.cell? ⟨r, 1, none⟩ = some (.slice (some ⟨b, off, none⟩) n1 c1) ∧ w'.cell? ⟨b, off + k, none⟩ = some (.string s))) (by kernel_rfl) ?_ (fun hHeld => ?_)
  · exact ⟨kc K0.out BB.out, kc K1.out BB.out, kc K2.out BB.out⟩
  clear hdr
  generalize w.drew = wd at *
  refine wpAnyH_take (i := 0) (oi := { dst := some 22, op := Op.fieldAddr 168 (Operand.tmp 1) 1, type := 0, pos := "l10_rule.go:19", after := #[], guard := none }) (v := ?_) rfl (by kernel_rfl) (by kernel_rfl) (by kernel_rfl) (fun _ _ _ h => h) (Or.inl ⟨by rfl, ?_⟩) (by assumption) ?_
  rotate_left
  · intro w' hSw; (try dsimp only at hSw); first | (go_simp; done) | (go_simp; with_reducible rfl)
  (try simp only [Act.put, List.setIfInBounds_toArray, List.set_cons_zero, List.set_cons_succ])
  refine wpAnyH_take (i := 1) (oi := { dst := some 23, op := Op.fieldAddr 166 (Operand.tmp 22) 0, type := 0, pos := "l10_rule.go:19", after := #[{ on := 0, ground := Ground.data }], guard := none }) (v := ?_) rfl (by kernel_rfl) (by kernel_rfl) (by kernel_rfl) (fun _ _ _ h => h) (Or.inl ⟨by rfl, ?_⟩) (by assumption) ?_
  rotate_left
  · intro w' hSw; (try dsimp only at hSw); first | (go_simp; done) | (go_simp; with_reducible rfl)
  (try simp only [Act.put, List.setIfInBounds_toArray, List.set_cons_zero, List.set_cons_succ])
  refine wpAnyH_take (i := 2) (oi := { dst := some 24, op := Op.load 30 (Operand.tmp 23), type := 30, pos := "l10_rule.go:19", after := #[{ on := 1, ground := Ground.data }], guard := none }) (v := ?_) rfl (by kernel_rfl) (by kernel_rfl) (by kernel_rfl) (fun _ _ _ h => h) (Or.inl ⟨by rfl, ?_⟩) (by assumption) ?_
  rotate_left
  · intro w' hSw; (try dsimp only at hSw); first | (go_simp; done) | (go_simp; with_reducible rfl)
  (try simp only [Act.put, List.setIfInBounds_toArray, List.set_cons_zero, List.set_cons_succ])
  refine wpAnyH_take (i := 3) (oi := { dst := some 25, op := Op.move (Operand.tmp 3), type := 3, pos := "l10_rule.go:19", after := #[], guard := none }) (v := ?_) rfl (by kernel_rfl) (by kernel_rfl) (by kernel_rfl) (fun _ _ _ h => h) (Or.inl ⟨by rfl, ?_⟩) (by assumption) ?_
  rotate_left
  · intro w' hSw; (try dsimp only at hSw); first | (go_simp; done) | (go_simp; with_reducible rfl)
  (try simp only [Act.put, List.setIfInBounds_toArray, List.set_cons_zero, List.set_cons_succ])
  refine wpAnyH_take (i := 4) (oi := { dst := some 26, op := Op.indexAddr 30 (Operand.tmp 24) (Operand.tmp 25), type := 0, pos := "l10_rule.go:19", after := #[{ on := 2, ground := Ground.data }, { on := 3, ground := Ground.data }], guard := none }) (v := ?_) rfl (by kernel_rfl) (by kernel_rfl) (by kernel_rfl) (fun _ _ _ h => h) (Or.inl ⟨by rfl, ?_⟩) (by assumption) ?_
  rotate_left
  · intro w' hSw; (try dsimp only at hSw); first | (go_simp; done) | (go_simp; with_reducible rfl)
  (try simp only [Act.put, List.setIfInBounds_toArray, List.set_cons_zero, List.set_cons_succ])
  refine wpAnyH_take (i := 5) (oi := { dst := some 27, op := Op.load 9 (Operand.tmp 26), type := 9, pos := "l10_rule.go:19", after := #[{ on := 4, ground := Ground.data }], guard := none }) (v := ?_) rfl (by kernel_rfl) (by kernel_rfl) (by kernel_rfl) (fun _ _ _ h => h) (Or.inl ⟨by rfl, ?_⟩) (by assumption) ?_
  rotate_left
  · intro w' hSw; (try dsimp only at hSw); first | (go_simp; done) | (go_simp; with_reducible rfl)
  (try simp only [Act.put, List.setIfInBounds_toArray, List.set_cons_zero, List.set_cons_succ])
  refine wpAnyH_ready (rs := [6]) (by kernel_rfl) (by simp) ?_
  refine AllReadyH.cons (o := { dst := some 28, op := Op.call { callee := Callee.value (Operand.func 195), args := #[Operand.tmp 27], argTypes := #[9] }, type := 4, pos := "l10_rule.go:19", after := #[{ on := 5, ground := Ground.data }], guard := none }) rfl (fun K hK => ?_) AllReadyH.nil
  go_simp
  refine (l5LV true HL.out hsz).mono ?_
  rintro e wn1 ⟨rfl, hb⟩
  replace BB := Lib.hid (BB.out.trans (hb.mono BB.out.size))
  clear hb
  (try go_wp2_with fail)
  clear hHeld
  refine hK.out _ _ ?_ (fun hHeld => ?_)
  · (try dsimp only); exact ⟨kc K0.out BB.out, kc K1.out BB.out, kc K2.out BB.out⟩
  clear hK K
  (try simp only [Act.put, List.setIfInBounds_toArray, List.set_cons_zero, List.set_cons_succ])
  refine wpAnyH_take (i := 7) (oi := { dst := some 29, op := Op.move (Operand.tmp 28), type := 4, pos := "l10_rule.go:19", after := #[{ on := 6, ground := Ground.data }, { on := 6, ground := Ground.chain }], guard := none }) (v := ?_) rfl (by kernel_rfl) (by kernel_rfl) (by kernel_rfl) (fun _ _ _ h => h) (Or.inl ⟨by rfl, ?_⟩) (by assumption) ?_
  rotate_left
  · intro w' hSw; (try dsimp only at hSw); first | (go_simp; done) | (go_simp; with_reducible rfl)
  (try simp only [Act.put, List.setIfInBounds_toArray, List.set_cons_zero, List.set_cons_succ])
  refine wpAnyH_take (i := 8) (oi := { dst := some 30, op := Op.fieldAddr 168 (Operand.tmp 1) 0, type := 0, pos := "l10_rule.go:19", after := #[{ on := 7, ground := Ground.guard }], guard := some (7, true) }) (v := ?_) rfl (by kernel_rfl) (by kernel_rfl) (by kernel_rfl) (fun _ _ _ h => h) (Or.inl ⟨by rfl, ?_⟩) (by assumption) ?_
  rotate_left
  · intro w' hSw; (try dsimp only at hSw); first | (go_simp; done) | (go_simp; with_reducible rfl)
  (try simp only [Act.put, List.setIfInBounds_toArray, List.set_cons_zero, List.set_cons_succ])
  refine wpAnyH_take (i := 9) (oi := { dst := some 31, op := Op.load 166 (Operand.tmp 30), type := 166, pos := "l10_rule.go:19", after := #[{ on := 8, ground := Ground.data }, { on := 7, ground := Ground.guard }], guard := some (7, true) }) (v := ?_) rfl (by kernel_rfl) (by kernel_rfl) (by kernel_rfl) (fun _ _ _ h => h) (Or.inl ⟨by rfl, ?_⟩) (by assumption) ?_
  rotate_left
  · intro w' hSw; (try dsimp only at hSw); first | (go_simp; done) | (go_simp; with_reducible rfl)
  (try simp only [Act.put, List.setIfInBounds_toArray, List.set_cons_zero, List.set_cons_succ])
  refine wpAnyH_take (i := 10) (oi := { dst := some 32, op := Op.fieldAddr 168 (Operand.tmp 1) 1, type := 0, pos := "l10_rule.go:19", after := #[{ on := 7, ground := Ground.guard }], guard := some (7, true) }) (v := ?_) rfl (by kernel_rfl) (by kernel_rfl) (by kernel_rfl) (fun _ _ _ h => h) (Or.inl ⟨by rfl, ?_⟩) (by assumption) ?_
  rotate_left
  · intro w' hSw; (try dsimp only at hSw); first | (go_simp; done) | (go_simp; with_reducible rfl)
  (try simp only [Act.put, List.setIfInBounds_toArray, List.set_cons_zero, List.set_cons_succ])
  refine wpAnyH_take (i := 11) (oi := { dst := some 33, op := Op.fieldAddr 166 (Operand.tmp 32) 0, type := 0, pos := "l10_rule.go:19", after := #[{ on := 10, ground := Ground.data }, { on := 7, ground := Ground.guard }], guard := some (7, true) }) (v := ?_) rfl (by kernel_rfl) (by kernel_rfl) (by kernel_rfl) (fun _ _ _ h => h) (Or.inl ⟨by rfl, ?_⟩) (by assumption) ?_
  rotate_left
  · intro w' hSw; (try dsimp only at hSw); first | (go_simp; done) | (go_simp; with_reducible rfl)
  (try simp only [Act.put, List.setIfInBounds_toArray, List.set_cons_zero, List.set_cons_succ])
  refine wpAnyH_take (i := 12) (oi := { dst := some 34, op := Op.load 30 (Operand.tmp 33), type := 30, pos := "l10_rule.go:19", after := #[{ on := 11, ground := Ground.data }, { on := 7, ground := Ground.guard }], guard := some (7, true) }) (v := ?_) rfl (by kernel_rfl) (by kernel_rfl) (by kernel_rfl) (fun _ _ _ h => h) (Or.inl ⟨by rfl, ?_⟩) (by assumption) ?_
  rotate_left
  · intro w' hSw; (try dsimp only at hSw); first | (go_simp; done) | (go_simp; with_reducible rfl)
  (try simp only [Act.put, List.setIfInBounds_toArray, List.set_cons_zero, List.set_cons_succ])
  refine wpAnyH_take (i := 13) (oi := { dst := some 35, op := Op.move (Operand.tmp 3), type := 3, pos := "l10_rule.go:19", after := #[{ on := 7, ground := Ground.guard }], guard := some (7, true) }) (v := ?_) rfl (by kernel_rfl) (by kernel_rfl) (by kernel_rfl) (fun _ _ _ h => h) (Or.inl ⟨by rfl, ?_⟩) (by assumption) ?_
  rotate_left
  · intro w' hSw; (try dsimp only at hSw); first | (go_simp; done) | (go_simp; with_reducible rfl)
  (try simp only [Act.put, List.setIfInBounds_toArray, List.set_cons_zero, List.set_cons_succ])
  refine wpAnyH_take (i := 14) (oi := { dst := some 36, op := Op.indexAddr 30 (Operand.tmp 34) (Operand.tmp 35), type := 0, pos := "l10_rule.go:19", after := #[{ on := 12, ground := Ground.data }, { on := 13, ground := Ground.data }, { on := 7, ground := Ground.guard }], guard := some (7, true) }) (v := ?_) rfl (by kernel_rfl) (by kernel_rfl) (by kernel_rfl) (fun _ _ _ h => h) (Or.inl ⟨by rfl, ?_⟩) (by assumption) ?_
  rotate_left
  · intro w' hSw; (try dsimp only at hSw); first | (go_simp; done) | (go_simp; with_reducible rfl)
  (try simp only [Act.put, List.setIfInBounds_toArray, List.set_cons_zero, List.set_cons_succ])
  refine wpAnyH_take (i := 15) (oi := { dst := some 37, op := Op.load 9 (Operand.tmp 36), type := 9, pos := "l10_rule.go:19", after := #[{ on := 14, ground := Ground.data }, { on := 7, ground := Ground.guard }], guard := some (7, true) }) (v := ?_) rfl (by kernel_rfl) (by kernel_rfl) (by kernel_rfl) (fun _ _ _ h => h) (Or.inl ⟨by rfl, ?_⟩) (by assumption) ?_
  rotate_left
  · intro w' hSw; (try dsimp only at hSw); first | (go_simp; done) | (go_simp; with_reducible rfl)
  (try simp only [Act.put, List.setIfInBounds_toArray, List.set_cons_zero, List.set_cons_succ])
  refine wpAnyH_ready (rs := [16]) (by kernel_rfl) (by simp) ?_
  refine AllReadyH.cons (o := { dst := some 38, op := Op.call { callee := Callee.value (Operand.func 196), args := #[Operand.tmp 31, Operand.tmp 37], argTypes := #[166, 9] }, type := 4, pos := "l10_rule.go:19", after := #[{ on := 9, ground := Ground.data }, { on := 15, ground := Ground.data }, { on := 7, ground := Ground.chain }, { on := 7, ground := Ground.guard }], guard := some (7, true) }) rfl (fun K hK => ?_) AllReadyH.nil
  go_simp
  refine (l10Has _ p s _ z HZ.out (H_p.out.on BB.out) HP.out).mono ?_
  rintro e wn2 ⟨rfl, hb⟩
  replace BB := Lib.hid (BB.out.trans (hb.mono BB.out.size))
  clear hb
  (try go_wp2_with fail)
  clear hHeld
  refine hK.out _ _ ?_ (fun hHeld => ?_)
  · (try dsimp only); exact ⟨kc K0.out BB.out, kc K1.out BB.out, kc K2.out BB.out⟩
  clear hK K
  (try simp only [Act.put, List.setIfInBounds_toArray, List.set_cons_zero, List.set_cons_succ])
  refine wpAnyH_take (i := 17) (oi := { dst := some 39, op := Op.unOp UnOp.not 4 (Operand.tmp 38), type := 4, pos := "l10_rule.go:19", after := #[{ on := 16, ground := Ground.data }, { on := 7, ground := Ground.guard }], guard := some (7, true) }) (v := ?_) rfl (by kernel_rfl) (by kernel_rfl) (by kernel_rfl) (fun _ _ _ h => h) (Or.inl ⟨by rfl, ?_⟩) (by assumption) ?_
  rotate_left
  · intro w' hSw; (try dsimp only at hSw); first | (go_simp; done) | (go_simp; with_reducible rfl)
  (try simp only [Act.put, List.setIfInBounds_toArray, List.set_cons_zero, List.set_cons_succ])
  refine wpAnyH_take (i := 18) (oi := { dst := some 40, op := Op.pick (Operand.tmp 29) (Operand.tmp 39) (Operand.const (Value.bool false)), type := 4, pos := "l10_rule.go:19", after := #[{ on := 7, ground := Ground.data }, { on := 17, ground := Ground.data }], guard := none }) (v := ?_) rfl (by kernel_rfl) (by kernel_rfl) (by kernel_rfl) (fun _ _ _ h => h) (Or.inl ⟨by rfl, ?_⟩) (by assumption) ?_
  rotate_left
  · intro w' hSw; (try dsimp only at hSw); first | (go_simp; done) | (go_simp; with_reducible rfl)
  (try simp only [Act.put, List.setIfInBounds_toArray, List.set_cons_zero, List.set_cons_succ])
  refine wpAnyH_done (by kernel_rfl) ?_ _
  exact NoPanic.normal (HQ.out _ _ _ _ _ _ _ _ _ _ _ _ _ _ _ _ _ _  _  BB.out)

set_option maxHeartbeats 4000000 in
theorem specValidRule (V : Value) (x : Rlt) (w : World) (z : Bool) (hz : validR x = z) (h : kRl.At w V x) (hp : wtRl x ≤ 9000000) :
    Calls Tryz.prog 147 #[V] w fun e w' => e = .returned (.bool z) ∧ Below w.heap.size w w' := by
  obtain ⟨x0, n0, c0, x1, n1, c1, rfl, g0, g1⟩ := kRl_at h
  obtain ⟨p, q⟩ := x
  obtain ⟨p0, p1⟩ := fitR hp
  dsimp only at g0 g1 p0 p1
  obtain ⟨v0, e0, g0⟩ := kN_at g0
  obtain ⟨v1, e1, g1⟩ := kN_at g1
  obtain rfl : v0 = .slice x0 n0 c0 := by injection e0 with e; have := congrArg (fun z : Array Value => z[0]?) e; simpa using this.symm
  obtain rfl : v1 = .slice x1 n1 c1 := by injection e1 with e; have := congrArg (fun z : Array Value => z[0]?) e; simpa using this.symm
  have hn1 : n1 = q.length := g1.lenEq
  have hq9 := bigLen (Nat.le_trans p1 (by decide : 9000000 ≤ 100000000))
  have HSZ := Lib.hid (fun k (hk : k < q.length) => size_nth (Nat.le_trans p1 (by decide : 9000000 ≤ 100000000)) hk)
  have HB := Lib.hid ((Below.refl w.heap.size w).alloc (Nat.le_refl _) (.cells #[.slice x0 n0 c0, .slice x1 n1 c1] 168))
  have HX := Lib.hid (Ret.Blk.new w #[.slice x0 n0 c0, .slice x1 n1 c1] 168)
  have G0 := Lib.hid g0; have G1 := Lib.hid g1; have HZ := Lib.hid hz; have HN := Lib.hid hn1
  rw [← hn1] at hq9
  clear h hp hz g0 g1 e0 e1 hn1
  go_enter Tryz.func147, Tryz.ntmps147
  go_wp2_with fail
  obtain ⟨a, ha⟩ : ∃ a, validPat p = a := ⟨_, rfl⟩
  have HA := Lib.hid ha; clear ha
  refine (vPatV a HA.out (G0.out.on HB.out) (by omega)).mono ?_
  rintro e w1 ⟨rfl, hb⟩
  replace HX := Lib.hid (HX.out.on hb); replace HB := Lib.hid (HB.out.trans (hb.mono HB.out.size)); clear hb
  have q0 : w1.cell? ⟨w.heap.size, 0, none⟩ = some (.slice x0 n0 c0) := HX.out.cell 0
  have q1 : w1.cell? ⟨w.heap.size, 1, none⟩ = some (.slice x1 n1 c1) := HX.out.cell 1
  cases a with
  | false =>
    have HE : Hid (z = false) := Lib.hid (by rw [← HZ.out]; show (validPat p && validPat q && lettersIn p q) = false; rw [HA.out]; rfl)
    go_wp2_with fail
    go_ret
    exact ⟨ret_bool HE.out.symm, HB.out⟩
  | true =>
    go_wp2_with fail
    clear q0 q1
    obtain ⟨c, hc⟩ : ∃ a, validPat q = a := ⟨_, rfl⟩
    have HC := Lib.hid hc; clear hc
    refine (vPatV c HC.out (G1.out.on HB.out) (by omega)).mono ?_
    rintro e w2 ⟨rfl, hb⟩
    replace HX := Lib.hid (HX.out.on hb); replace HB := Lib.hid (HB.out.trans (hb.mono HB.out.size)); clear hb
    cases c with
    | false =>
      have HE : Hid (z = false) := Lib.hid (by rw [← HZ.out]; show (validPat p && validPat q && lettersIn p q) = false; rw [HA.out, HC.out]; rfl)
      go_wp2_with fail
      go_ret
      exact ⟨ret_bool HE.out.symm, HB.out⟩
    | true =>
      have HE : Hid (z = lettersIn p q) := Lib.hid (by rw [← HZ.out]; show (validPat p && validPat q && lettersIn p q) = _; rw [HA.out, HC.out]; rfl)
      go_wp2_with fail
      go_loopw [3] (fun i wr => ∃ k : Nat, k ≤ n1 ∧ i = .int .i64 k ∧ Hid (∀ j, j < k → letterP (nth q j) = true → nth q j ∈ p) ∧ Hid (Ret.Blk wr w.heap.size #[.slice x0 n0 c0, .slice x1 n1 c1] 168) ∧ Hid (Below w.heap.size w wr)) (fun i _ => n1 - (intOf i).toNat)
      case atStart => exact ⟨0, Nat.zero_le _, rfl, Lib.hid (fun j hj => absurd hj (by omega)), HX, HB⟩
      case round =>
        obtain ⟨k, hk, rfl, ha, hx, hb⟩ := hrel
        have q0 : wr.cell? ⟨w.heap.size, 0, none⟩ = some (.slice x0 n0 c0) := hx.out.cell 0
        have q1 : wr.cell? ⟨w.heap.size, 1, none⟩ = some (.slice x1 n1 c1) := hx.out.cell 1
        by_cases hlt : k < n1
        · have hlen := HN.out
          obtain ⟨b, off, rfl, hd⟩ := (G1.out.on hb.out).at (j := k) (by omega)
          have hsz := HSZ.out k (by omega)
          have HQ0 := Lib.hid q0; have HQ1 := Lib.hid q1; have HD := Lib.hid hd
          clear hlen
          go_wp2_with fail
          clear q0 q1 hd
          by_cases hl : letterP (nth q k) = true
          · obtain ⟨c, hc⟩ : ∃ a, hasP p (nth q k) = a := ⟨_, rfl⟩
            have HC2 := Lib.hid hc
            have HL := Lib.hid hl
            clear hl hc
            refine rvl2 hlt (by omega) HL (Lib.hid (G0.out.on hb.out)) (Lib.hid (by omega)) HC2 HQ0 HQ1 HD ?_
            intro u22 u23 u24 u25 u26 u27 u28 u29 u30 u31 u32 u33 u34 u35 u36 u37 u38 u39 wx hb1
            replace hx := Lib.hid (hx.out.on hb1); replace hb := Lib.hid (hb.out.trans (hb1.mono hb.out.size)); clear hb1
            cases c with
            | false =>
              have HF : Hid (z = false) := Lib.hid (by rw [HE.out]; exact lettersIn_no (by have := HN.out; omega) HL.out (hasP_no.1 HC2.out))
              go_wp2_with fail
              go_ret
              exact ⟨ret_bool HF.out.symm, hb.out⟩
            | true =>
              have HM := Lib.hid (show ∀ j, j < k + 1 → letterP (nth q j) = true → nth q j ∈ p from fun j hj => by rcases Nat.lt_succ_iff_lt_or_eq.1 hj with h5 | h5; exact ha.out j h5; exact fun _ => h5 ▸ hasP_iff.1 HC2.out)
              go_wp2_with fail
              go_roundw
              case rel => exact ⟨k + 1, by omega, by go_num, HM, hx, hb⟩
              case measure => simp [intOf]; omega
          · have hl : letterP (nth q k) = false := by simpa using hl
            have HL := Lib.hid hl
            clear hl
            refine rvl1 hlt (by omega) HL HQ0 HQ1 HD ?_
            intro u22 u23 u24 u25 u26 u27 u28 u29 u30 u31 u32 u33 u34 u35 u36 u37 u38 u39 wx hb1
            replace hx := Lib.hid (hx.out.on hb1); replace hb := Lib.hid (hb.out.trans (hb1.mono hb.out.size)); clear hb1
            have HM := Lib.hid (show ∀ j, j < k + 1 → letterP (nth q j) = true → nth q j ∈ p from fun j hj => by rcases Nat.lt_succ_iff_lt_or_eq.1 hj with h5 | h5; exact ha.out j h5; exact fun h6 => by rw [h5, HL.out] at h6; cases h6)
            go_wp2_with fail
            go_roundw
            case rel => exact ⟨k + 1, by omega, by go_num, HM, hx, hb⟩
            case measure => simp [intOf]; omega
        · obtain rfl : k = n1 := by omega
          have HF : Hid (z = true) := Lib.hid (by rw [HE.out]; exact lettersIn_all (fun j hj => ha.out j (by have := HN.out; omega)))
          clear hlt
          go_wp2_with fail
          go_ret
          exact ⟨ret_bool HF.out.symm, hb.out⟩

end Go.Proofs.YtcidfmmeonhkhaaGreatDoor.Row
/- The reference model's split of a text at its spaces. No conditions but that lengths fit. -/
namespace Go.Proofs.YtcidfmmeonhkhaaGreatDoor.Row.Sp
open Go.ChangeShapes Go.WideShapes Go.ChangeAt Go.RowKit Go.Instr
set_option linter.unusedVariables false
set_option maxRecDepth 100000

def goS (cur : List UInt8) : List UInt8 → List (List UInt8)
  | [] => [cur]
  | c :: t => if c = 32 then cur :: goS [] t else goS (cur ++ [c]) t
theorem goS_slash (s : ByteArray) {f i : Nat} (h : i < s.size) (hc : s[i]'h = 32) : goS (seg s f i) (rest s i) = seg s f i :: goS (seg s (i + 1) (i + 1)) (rest s (i + 1)) := by
  rw [rest_cons s h, goS, if_pos hc, seg_self]
theorem goS_byte (s : ByteArray) {f i : Nat} (hf : f ≤ i) (h : i < s.size) (hc : s[i]'h ≠ 32) : goS (seg s f i) (rest s i) = goS (seg s f (i + 1)) (rest s (i + 1)) := by
  rw [rest_cons s h, goS, if_neg hc, seg_succ s hf h]
theorem goS_end (s : ByteArray) (f : Nat) : goS (seg s f s.size) (rest s s.size) = [seg s f s.size] := by rw [rest_end]; rfl
def splitB (s : ByteArray) : List ByteArray := (goS [] (bl s)).map mk
theorem nat32 {x : Nat} (h : x ≠ 32) : ((x : Int) == 32) = false := beq_eq_false_iff_ne.2 (by omega)
theorem byte32 {c : UInt8} : c = 32 ↔ c.toNat = 32 := by
  constructor
  · rintro rfl; rfl
  · intro h; apply UInt8.toNat_inj.1; rw [h]; rfl

/-- Where the reference model's loop stands: the pieces so far, and the rest. -/
def SpI (s : ByteArray) (k f : Nat) (L : List ByteArray) : Prop :=
  (k ≤ s.size → splitB s = L ++ (goS (seg s f k) (rest s k)).map mk) ∧ (k = s.size + 1 → splitB s = L)
theorem SpI.start (s : ByteArray) : SpI s 0 0 [] := ⟨fun _ => by unfold splitB; rw [seg_self]; rfl, fun h => by omega⟩
theorem SpI.cut {s : ByteArray} {k f : Nat} {L : List ByteArray} (h : SpI s k f L) (hk : k ≤ s.size) (hf : f ≤ k) (hc : ∀ h : k < s.size, s[k]'h = 32) : SpI s (k + 1) (k + 1) (L ++ [s.extract f k]) := by
  have h1 := h.1 hk
  by_cases hl : k < s.size
  · rw [goS_slash s hl (hc hl)] at h1
    refine ⟨fun _ => ?_, fun e => by omega⟩
    rw [h1, extract_seg]; simp
  · obtain rfl : k = s.size := by omega
    rw [goS_end] at h1
    refine ⟨fun e => by omega, fun _ => ?_⟩
    rw [h1, extract_seg]; simp
theorem SpI.on {s : ByteArray} {k f : Nat} {L : List ByteArray} (h : SpI s k f L) (hf : f ≤ k) (hl : k < s.size) (hc : s[k]'hl ≠ 32) : SpI s (k + 1) f L := by
  have h1 := h.1 (by omega)
  rw [goS_byte s hf hl hc] at h1
  exact ⟨fun _ => h1, fun e => by omega⟩

set_option maxHeartbeats 2000000 in
theorem l4Split (s : ByteArray) (w : World) (hs : s.size ≤ 10000000) :
    Calls Tryz.prog 187 #[.string s, .int .u8 32] w (GivesS w (splitB s)) := by
  have H0 := Lib.hid (own_empty Value.string 9 w)
  have B0 := Lib.hid ((Below.refl w.heap.size w).alloc (Nat.le_refl _) (.cells #[] 9))
  go_enter Tryz.func187, Tryz.ntmps187
  go_wp2_with fail
  go_loopw [5, 6, 7] (fun rv fv iv wr => ∃ (k f m : Nat) (L : List ByteArray), k ≤ s.size + 1 ∧ f ≤ k ∧ m ≤ k ∧ iv = .int .i64 k ∧ fv = .int .i64 f ∧ Hid (L.length = m) ∧ Hid (Own 9 Value.string w.heap.size wr rv L) ∧ Hid (Below w.heap.size w wr) ∧ Hid (SpI s k f L)) (fun _ _ iv _ => s.size + 1 - (intOf iv).toNat)
  case atStart => exact ⟨0, 0, 0, [], by omega, Nat.le_refl _, Nat.le_refl _, rfl, rfl, Lib.hid rfl, H0, B0, Lib.hid (SpI.start s)⟩
  case round =>
    obtain ⟨k, f, m, L, hk, hf, hm, rfl, rfl, hL, ho, hb, hI⟩ := hrel
    by_cases hle : k ≤ s.size
    · by_cases hcut : ∀ h : k < s.size, s[k]'h = 32
      · have HI2 := Lib.hid (hI.out.cut hle hf hcut)
        have HO := Lib.hid (ho.out.on ((Below.refl _ _).alloc (Nat.le_refl _) (.cells #[.string (s.extract f k)] 9)))
        have HL2 := Lib.hid (show (L ++ [s.extract f k]).length = m + 1 by rw [List.length_append, hL.out]; rfl)
        have hlm : (L.length + [s.extract f k].length) * 16 ≤ 140737488355328 := by rw [hL.out]; simp; omega
        have hlx : L.length + [s.extract f k].length ≤ maxLen := by rw [hL.out]; unfold maxLen; simp; omega
        have HLM := Lib.hid hlm; have HLX := Lib.hid hlx
        clear hlm hlx
        by_cases hlt : k < s.size
        · have hne : ((k : Int) == (s.size : Int)) = false := natne (Nat.ne_of_lt hlt)
          have hb32 : (((s[k]'hlt).toNat : Int) == 32) = true := by
            have := byte32.1 (hcut hlt)
            rw [this]; rfl
          clear hcut
          go_wp2_with (at_builtin; refine wpList_app (enc := Value.string) (B := w.heap.size) (l := L) (m := [s.extract f k]) rfl _ _ rfl Tryz.underlying30 elemSTR rfl rfl rfl HO.out (holds_one Value.string 9 _ _) oneStr HLM.out HLX.out (Nat.le_trans hb.out.size (by simp)) ?_)
          intro v2 w2 ho2 hg2
          have HO2 := Lib.hid ho2
          have HB2 := Lib.hid ((hb.out.alloc hb.out.size (.cells #[.string (s.extract f k)] 9)).grown hg2 (Nat.le_trans hb.out.size (by simp)) (fun g hh => (HO.out.lt g hh).1))
          clear ho2 hg2
          go_wp2_with fail
          go_roundw
          case rel => exact ⟨k + 1, k + 1, m + 1, _, by omega, Nat.le_refl _, by omega, by go_num, by go_num, HL2, HO2, HB2, HI2⟩
          case measure => simp [intOf]; omega
        · obtain rfl : k = s.size := by omega
          clear hcut
          go_wp2_with (at_builtin; refine wpList_app (enc := Value.string) (B := w.heap.size) (l := L) (m := [s.extract f s.size]) rfl _ _ rfl Tryz.underlying30 elemSTR rfl rfl rfl HO.out (holds_one Value.string 9 _ _) oneStr HLM.out HLX.out (Nat.le_trans hb.out.size (by simp)) ?_)
          intro v2 w2 ho2 hg2
          have HO2 := Lib.hid ho2
          have HB2 := Lib.hid ((hb.out.alloc hb.out.size (.cells #[.string (s.extract f s.size)] 9)).grown hg2 (Nat.le_trans hb.out.size (by simp)) (fun g hh => (HO.out.lt g hh).1))
          clear ho2 hg2
          go_wp2_with fail
          go_roundw
          case rel => exact ⟨s.size + 1, s.size + 1, m + 1, _, by omega, Nat.le_refl _, by omega, by go_num, by go_num, HL2, HO2, HB2, HI2⟩
          case measure => simp [intOf]
      · have hlt : k < s.size := by
          by_cases h : k < s.size
          · exact h
          · exact absurd (fun h2 => absurd h2 h) hcut
        have hc : s[k]'hlt ≠ 32 := fun e => hcut (fun _ => e)
        have HI2 := Lib.hid (hI.out.on hf hlt hc)
        have hne : ((k : Int) == (s.size : Int)) = false := natne (Nat.ne_of_lt hlt)
        have hb32 : (((s[k]'hlt).toNat : Int) == 32) = false := nat32 (fun e => hc (byte32.2 e))
        clear hcut hc
        go_wp2_with fail
        go_roundw
        case rel => exact ⟨k + 1, f, m, L, by omega, by omega, by omega, by go_num, rfl, hL, ho, hb, HI2⟩
        case measure => simp [intOf]; omega
    · obtain rfl : k = s.size + 1 := by omega
      have HE := Lib.hid (hI.out.2 rfl)
      clear hle
      go_wp2_with fail
      go_ret
      exact ⟨_, rfl, by rw [HE.out]; exact ho.out, hb.out⟩

end Go.Proofs.YtcidfmmeonhkhaaGreatDoor.Row.Sp
/- The mathematics of ParseRule: a text is cut at ' < ', or split at its spaces: the same pieces. No conditions. -/
namespace Go.Proofs.YtcidfmmeonhkhaaGreatDoor.Row
open Go.ChangeShapes Go.WideShapes Go.ChangeAt Go.RowKit Go.Instr
set_option linter.unusedVariables false
set_option maxRecDepth 100000

def freeS (l : List UInt8) : Prop := ∀ c ∈ l, c ≠ 32
theorem goSp_size : ∀ (t cur : List UInt8), ∀ p ∈ Sp.goS cur t, p.length ≤ cur.length + t.length
  | [], cur, p, hp => by rw [Sp.goS] at hp; rw [List.mem_singleton.1 hp]; simp
  | c :: t, cur, p, hp => by
    rw [Sp.goS] at hp
    by_cases hc : c = 32
    · rw [if_pos hc] at hp
      rcases List.mem_cons.1 hp with hp | hp
      · rw [hp]; omega
      · have := goSp_size t [] p hp; simp at this ⊢; omega
    · rw [if_neg hc] at hp
      have := goSp_size t _ p hp; simp at this ⊢; omega
theorem splitSp_size (s : ByteArray) : ∀ p ∈ Sp.splitB s, p.size ≤ s.size := fun p hp => by
  unfold Sp.splitB at hp
  obtain ⟨q, hq, rfl⟩ := List.mem_map.1 hp
  have := goSp_size _ _ q hq
  rw [mk_size, ← bl_length s]; simpa using this
def signL : List UInt8 := [32, 60, 32]
/-! patterns' texts have no space, and are not empty -/
/-- What the pieces are asked. -/
def prAB (a b : ByteArray) : Bool := ppOk a && ppOk b && validR (ppN a, ppN b)
def prOk (s : ByteArray) : Bool :=
  match Sp.splitB s with
  | [a, c, b] => decide (c = mk [60]) && prAB a b
  | _ => false
def prR (s : ByteArray) : Rlt :=
  match Sp.splitB s with
  | [a, c, b] => if (decide (c = mk [60]) && prAB a b) = true then (ppN a, ppN b) else ([], [])
  | _ => ([], [])
theorem pr_three {s a c b : ByteArray} (h : Sp.splitB s = [a, c, b]) : prOk s = (decide (c = mk [60]) && prAB a b) ∧ prR s = if (decide (c = mk [60]) && prAB a b) = true then (ppN a, ppN b) else ([], []) := by
  unfold prOk prR; rw [h]; exact ⟨rfl, rfl⟩
theorem pr_other {s : ByteArray} (h : (Sp.splitB s).length ≠ 3) : prOk s = false ∧ prR s = ([], []) := by
  unfold prOk prR
  rcases hs : Sp.splitB s with _ | ⟨a, _ | ⟨b, _ | ⟨c, _ | ⟨d, r⟩⟩⟩⟩
  · exact ⟨rfl, rfl⟩
  · exact ⟨rfl, rfl⟩
  · exact ⟨rfl, rfl⟩
  · rw [hs] at h; exact absurd rfl h
  · exact ⟨rfl, rfl⟩
theorem prR_no {s : ByteArray} (h : prOk s = false) : prR s = ([], []) := by
  by_cases hl : (Sp.splitB s).length = 3
  · rcases hs : Sp.splitB s with _ | ⟨a, _ | ⟨c, _ | ⟨b, _ | ⟨d, r⟩⟩⟩⟩ <;> (try (rw [hs] at hl; simp at hl))
    have := pr_three hs
    rw [this.1] at h
    rw [this.2, h]; rfl
  · exact (pr_other hl).2
theorem elem_size {s : ByteArray} {b : Bool} (h : elemP s b = true) : s.size ≤ 8 := by
  rcases elemP_iff.1 h with h | h | h | ⟨h, _⟩
  · exact (validP_iff.1 h).2.1
  · subst h; decide
  · have := (letterP_iff.1 h).1; omega
  · subst h; decide
theorem bulk_small9 : ∀ (l : List ByteArray), (∀ s ∈ l, s.size ≤ 8) → bulk l ≤ 9 * l.length
  | [], _ => by simp [bulk_nil]
  | x :: r, h => by
    have h1 := h x (by simp)
    have h2 := bulk_small9 r (fun s hs => h s (by simp [hs]))
    rw [bulk_cons, List.length_cons]; omega
theorem ppN_bulk (s : ByteArray) : bulk (ppN s) ≤ 54 := by
  have hv := validPat_iff.1 (pt_valid_pN s)
  have := bulk_small9 (ppN s) (fun x hx => by
    obtain ⟨j, hj, rfl⟩ := List.getElem_of_mem hx
    have := hv.2 j hj
    rw [nth_eq hj] at this
    exact elem_size this)
  omega
theorem wt_pp (a b : ByteArray) : wtRl (ppN a, ppN b) ≤ 9000000 := by
  have h1 := ppN_bulk a; have h2 := ppN_bulk b
  show bulk (ppN a) + bulk (ppN b) ≤ 9000000
  omega
end Go.Proofs.YtcidfmmeonhkhaaGreatDoor.Row
