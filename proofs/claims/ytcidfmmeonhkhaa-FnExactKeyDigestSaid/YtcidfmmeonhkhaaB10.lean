/- Contracts and mathematics, joined: RuleM, FindK, TrustMath, RuleP. No conditions but those that each states. -/
import Derived.WalkKit
import Derived.Deep.RegionHeld3
import Derived.Test.YtcidfmmeonhkhaaB3
import Derived.Test.YtcidfmmeonhkhaaB9
import Derived.Test.YtcidfmmeonhkhaaB2
import Derived.Test.YtcidfmmeonhkhaaB5
/- The reference model's chapter 10 (rules): ValidRule, ValidRules, RuleAllows, FirstAllowingRule, Allowed, FormatRule, EqualRules. No conditions but that lengths fit. -/
namespace Go.Proofs.Ytcidfmmeonhkhaa.Row
open Go.ChangeShapes Go.WideShapes Go.ChangeAt Go.RowKit Go.Instr
set_option linter.unusedVariables false
set_option maxRecDepth 100000

/-! ### mathematics -/
def hasP (l : List ByteArray) (s : ByteArray) : Bool := l.any fun x => decide (x = s)
theorem hasP_iff {l : List ByteArray} {s : ByteArray} : hasP l s = true ↔ s ∈ l := by
  unfold hasP
  rw [List.any_eq_true]
  constructor
  · rintro ⟨x, hx, e⟩
    rw [← of_decide_eq_true e]; exact hx
  · exact fun h => ⟨s, h, decide_eq_true rfl⟩
theorem hasP_no {l : List ByteArray} {s : ByteArray} : hasP l s = false ↔ ¬ s ∈ l := by rw [← Bool.not_eq_true, hasP_iff]
/-- Every letter of the key's pattern stands in the data's. -/
def lettersIn (p q : List ByteArray) : Bool := q.all fun s => !letterP s || hasP p s
def validR (x : Rlt) : Bool := validPat x.1 && validPat x.2 && lettersIn x.1 x.2
def validRs (l : List Rlt) : Bool := l.all validR && decide (l.length ≤ 8)
def allowsR (x : Rlt) (n b : List ByteArray) : Bool := validR x && mOk x.1 n [] && mOk x.2 b (mOut x.1 n [])
def firstR (l : List Rlt) (n b : List ByteArray) : Int := if l.findIdx (fun x => allowsR x n b) < l.length then (l.findIdx (fun x => allowsR x n b) : Int) else -1
def fmtR (x : Rlt) : ByteArray := fmtS x.1 ++ { data := #[32, 60, 32] } ++ fmtS x.2
theorem tlB_true {a b : ByteArray} (h : a = b) : (a.toList == b.toList) = true := by subst h; simp
theorem tlB_false {a b : ByteArray} (h : ¬ a = b) : (a.toList == b.toList) = false := by
  have := tl_dec a b
  simpa [h] using this
theorem lettersIn_no {p q : List ByteArray} {k : Nat} (hk : k < q.length) (h1 : letterP (nth q k) = true) (h2 : ¬ nth q k ∈ p) : lettersIn p q = false := by
  unfold lettersIn
  rw [List.all_eq_false]
  exact ⟨nth q k, nth_mem hk, by rw [h1, hasP_no.2 h2]; simp⟩
theorem lettersIn_all {p q : List ByteArray} (h : ∀ j, j < q.length → letterP (nth q j) = true → nth q j ∈ p) : lettersIn p q = true := by
  unfold lettersIn
  rw [List.all_eq_true]
  intro s hs
  obtain ⟨j, hj, rfl⟩ := List.getElem_of_mem hs
  have := h j hj
  rw [nth_eq hj] at this
  cases hl : letterP q[j] with
  | false => simp
  | true => rw [hasP_iff.2 (this hl)]; simp
theorem fitR {x : Rlt} (h : wtRl x ≤ 9000000) : bulk x.1 ≤ 9000000 ∧ bulk x.2 ≤ 9000000 := by unfold wtRl at h; omega

set_option maxHeartbeats 2000000 in
theorem l10Has (v : Value) (l : List ByteArray) (s : ByteArray) (w : World) (z : Bool) (hz : hasP l s = z) (h : Holds Value.string w v l) (hl : bulk l ≤ 100000000) :
    Calls Try.prog 116 #[.agg #[v], .string s] w fun e w' => e = .returned (.bool z) ∧ Below w.heap.size w w' := by
  obtain ⟨x, n, cap, rfl, hn, hcap, hh⟩ := h.shapeN
  have hll := bigLen hl
  rw [← hn] at hll
  have HN := Lib.hid hn
  have HH := Lib.hid hh
  have HZ := Lib.hid hz
  have HB0 := Lib.hid ((Below.refl w.heap.size w).alloc (Nat.le_refl _) (.cells #[.slice x n cap] 109))
  have HC0 := Lib.hid (Ret.Box.new w (.slice x n cap) 109)
  clear hn h hh hl hz
  go_enter Try.func116, Try.ntmps116
  go_wp2_with fail
  go_loopw [5] (fun i wr => ∃ k : Nat, k ≤ n ∧ i = .int .i64 k ∧ Hid (∀ j, j < k → ¬ nth l j = s) ∧ Hid (Ret.Box wr w.heap.size (.slice x n cap) 109) ∧ Hid (Below w.heap.size w wr)) (fun i _ => n - (intOf i).toNat)
  case atStart => exact ⟨0, Nat.zero_le _, rfl, Lib.hid (fun j hj => absurd hj (by omega)), HC0, HB0⟩
  case round =>
    obtain ⟨k, hk, rfl, ha, hc, hb⟩ := hrel
    have hc1 := hc.out.cell
    by_cases hlt : k < n
    · have hlen := HN.out
      obtain ⟨b, off, rfl, hd⟩ := (HH.out.on hb.out).at (j := k) (by omega)
      by_cases hq : nth l k = s
      · have HE : Hid (z = true) := Lib.hid (by rw [← HZ.out]; exact hasP_iff.2 (hq ▸ nth_mem (by omega)))
        have HQ := Lib.hid (tlB_true hq)
        clear hlen hq
        have hq := HQ.out
        go_wp2_with fail
        go_ret
        exact ⟨ret_bool HE.out.symm, hb.out⟩
      · have HA := Lib.hid (show ∀ j, j < k + 1 → ¬ nth l j = s from fun j hj => by rcases Nat.lt_succ_iff_lt_or_eq.1 hj with h5 | h5; exact ha.out j h5; exact h5 ▸ hq)
        have HQ := Lib.hid (tlB_false hq)
        clear hlen hq
        have hq := HQ.out
        go_wp2_with fail
        go_roundw
        case rel => exact ⟨k + 1, by omega, by go_num, HA, hc, hb⟩
        case measure => simp [intOf]; omega
    · obtain rfl : k = n := by omega
      have HE : Hid (z = false) := Lib.hid (by
        rw [← HZ.out]
        refine hasP_no.2 fun hm => ?_
        obtain ⟨j, hj, e⟩ := List.getElem_of_mem hm
        exact ha.out j (by have := HN.out; omega) (by rw [nth_eq hj]; exact e))
      clear hlt
      go_wp2_with fail
      go_ret
      exact ⟨ret_bool HE.out.symm, hb.out⟩
theorem l5LV {s : ByteArray} {w : World} (z : Bool) (hz : letterP s = z) (hl : s.size ≤ 140737488351232) :
    Calls Try.prog 115 #[.string s] w fun e w' => e = .returned (.bool z) ∧ Below w.heap.size w w' := (l5Letter s w hl).mono fun e w' ⟨a, b⟩ => ⟨by rw [a, hz], by subst b; exact Below.refl _ _⟩
theorem vPatV {v : Value} {l : List ByteArray} {w : World} (z : Bool) (hz : validPat l = z) (h : Holds Value.string w v l) (hl : bulk l ≤ 100000000) :
    Calls Try.prog 114 #[.agg #[v]] w fun e w' => e = .returned (.bool z) ∧ Below w.heap.size w w' := hz ▸ specValidPattern v l w h hl
set_option maxRecDepth 100000 in
set_option maxHeartbeats 4000000 in
theorem rvl1 {Q : Exit → Act → World → Prop} {v0 v2 v4 v5 v6 v7 v8 v9 v10 v11 v12 v13 v14 v15 v16 v17 v18 v19 v20 v21 v22 v23 v24 v25 v26 v27 v28 v29 v30 v31 v32 v33 v34 v35 v36 v37 v38 v39 v40 : Value} {w : World} {r b off n0 c0 n1 c1 k : Nat} {x0 : Option Addr}  {s : ByteArray} (hk : k < n1) (hsz : s.size ≤ 140737488351232) (HL : Hid (letterP s = false)) (K0 : Hid (w.cell? ⟨r, 0, none⟩ = some (.slice x0 n0 c0))) (K1 : Hid (w.cell? ⟨r, 1, none⟩ = some (.slice (some ⟨b, off, none⟩) n1 c1))) (K2 : Hid (w.cell? ⟨b, off + k, none⟩ = some (.string s)))
    (hQ : ∀ (u22 u23 u24 u25 u26 u27 u28 u29 u30 u31 u32 u33 u34 u35 u36 u37 u38 u39 : Value)  (wx : World), Below w.heap.size w wx → Q .normal ⟨#[v0, .pointer (some ⟨r, 0, none⟩), v2, .int .i64 k, v4, v5, v6, v7, v8, v9, v10, v11, v12, v13, v14, v15, v16, v17, v18, v19, v20, v21, u22, u23, u24, u25, u26, u27, u28, u29, u30, u31, u32, u33, u34, u35, u36, u37, u38, u39, .bool false], []⟩ wx) :
    (Code.region 6 #[{ dst := some 22, op := Op.fieldAddr 111 (Operand.tmp 1) 1, type := 0, pos := "l10_rule.go:19", after := #[], guard := none },
      { dst := some 23, op := Op.fieldAddr 109 (Operand.tmp 22) 0, type := 0, pos := "l10_rule.go:19", after := #[{ on := 0, ground := Ground.data }], guard := none },
      { dst := some 24, op := Op.load 39 (Operand.tmp 23), type := 39, pos := "l10_rule.go:19", after := #[{ on := 1, ground := Ground.data }], guard := none },
      { dst := some 25, op := Op.move (Operand.tmp 3), type := 3, pos := "l10_rule.go:19", after := #[], guard := none },
      { dst := some 26, op := Op.indexAddr 39 (Operand.tmp 24) (Operand.tmp 25), type := 0, pos := "l10_rule.go:19", after := #[{ on := 2, ground := Ground.data }, { on := 3, ground := Ground.data }], guard := none },
      { dst := some 27, op := Op.load 9 (Operand.tmp 26), type := 9, pos := "l10_rule.go:19", after := #[{ on := 4, ground := Ground.data }], guard := none },
      { dst := some 28, op := Op.call { callee := Callee.value (Operand.func 115), args := #[Operand.tmp 27], argTypes := #[9] }, type := 4, pos := "l10_rule.go:19", after := #[{ on := 5, ground := Ground.data }], guard := none },
      { dst := some 29, op := Op.move (Operand.tmp 28), type := 4, pos := "l10_rule.go:19", after := #[{ on := 6, ground := Ground.data }, { on := 6, ground := Ground.chain }], guard := none },
      { dst := some 30, op := Op.fieldAddr 111 (Operand.tmp 1) 0, type := 0, pos := "l10_rule.go:19", after := #[{ on := 7, ground := Ground.guard }], guard := some (7, true) },
      { dst := some 31, op := Op.load 109 (Operand.tmp 30), type := 109, pos := "l10_rule.go:19", after := #[{ on := 8, ground := Ground.data }, { on := 7, ground := Ground.guard }], guard := some (7, true) },
      { dst := some 32, op := Op.fieldAddr 111 (Operand.tmp 1) 1, type := 0, pos := "l10_rule.go:19", after := #[{ on := 7, ground := Ground.guard }], guard := some (7, true) },
      { dst := some 33, op := Op.fieldAddr 109 (Operand.tmp 32) 0, type := 0, pos := "l10_rule.go:19", after := #[{ on := 10, ground := Ground.data }, { on := 7, ground := Ground.guard }], guard := some (7, true) },
      { dst := some 34, op := Op.load 39 (Operand.tmp 33), type := 39, pos := "l10_rule.go:19", after := #[{ on := 11, ground := Ground.data }, { on := 7, ground := Ground.guard }], guard := some (7, true) },
      { dst := some 35, op := Op.move (Operand.tmp 3), type := 3, pos := "l10_rule.go:19", after := #[{ on := 7, ground := Ground.guard }], guard := some (7, true) },
      { dst := some 36, op := Op.indexAddr 39 (Operand.tmp 34) (Operand.tmp 35), type := 0, pos := "l10_rule.go:19", after := #[{ on := 12, ground := Ground.data }, { on := 13, ground := Ground.data }, { on := 7, ground := Ground.guard }], guard := some (7, true) },
      { dst := some 37, op := Op.load 9 (Operand.tmp 36), type := 9, pos := "l10_rule.go:19", after := #[{ on := 14, ground := Ground.data }, { on := 7, ground := Ground.guard }], guard := some (7, true) },
      { dst := some 38, op := Op.call { callee := Callee.value (Operand.func 116), args := #[Operand.tmp 31, Operand.tmp 37], argTypes := #[109, 9] }, type := 4, pos := "l10_rule.go:19", after := #[{ on := 9, ground := Ground.data }, { on := 15, ground := Ground.data }, { on := 7, ground := Ground.chain }, { on := 7, ground := Ground.guard }], guard := some (7, true) },
      { dst := some 39, op := Op.unOp UnOp.not 4 (Operand.tmp 38), type := 4, pos := "l10_rule.go:19", after := #[{ on := 16, ground := Ground.data }, { on := 7, ground := Ground.guard }], guard := some (7, true) },
      { dst := some 40, op := Op.pick (Operand.tmp 29) (Operand.tmp 39) (Operand.const (Value.bool false)), type := 4, pos := "l10_rule.go:19", after := #[{ on := 7, ground := Ground.data }, { on := 17, ground := Ground.data }], guard := none }] true).wp Try.prog Q ⟨#[v0, .pointer (some ⟨r, 0, none⟩), v2, .int .i64 k, v4, v5, v6, v7, v8, v9, v10, v11, v12, v13, v14, v15, v16, v17, v18, v19, v20, v21, v22, v23, v24, v25, v26, v27, v28, v29, v30, v31, v32, v33, v34, v35, v36, v37, v38, v39, v40], []⟩ w := by
  have HQ := Lib.hid hQ; clear hQ
  have hdr : Below w.heap.size w w.drew := (Below.refl _ _).drew
  have BB := Lib.hid hdr
  refine wp_region_noPanic ?_
  refine wp_region_held_drew (S := (fun w' => w'.cell? ⟨r, 0, none⟩ = some (.slice x0 n0 c0) ∧ w'.cell? ⟨r, 1, none⟩ = some (.slice (some ⟨b, off, none⟩) n1 c1) ∧ w'.cell? ⟨b, off + k, none⟩ = some (.string s))) (by kernel_rfl) ?_ (fun hHeld => ?_)
  · exact ⟨kc K0.out BB.out, kc K1.out BB.out, kc K2.out BB.out⟩
  clear hdr
  generalize w.drew = wd at *
  refine wpAnyH_take (i := 0) (oi := { dst := some 22, op := Op.fieldAddr 111 (Operand.tmp 1) 1, type := 0, pos := "l10_rule.go:19", after := #[], guard := none }) (v := ?_) rfl (by kernel_rfl) (by kernel_rfl) (by kernel_rfl) (fun _ _ _ h => h) (Or.inl ⟨by rfl, ?_⟩) (by assumption) ?_
  rotate_left
  · intro w' hSw; (try dsimp only at hSw); first | (go_simp; done) | (go_simp; with_reducible rfl)
  (try simp only [Act.put, List.setIfInBounds_toArray, List.set_cons_zero, List.set_cons_succ])
  refine wpAnyH_take (i := 1) (oi := { dst := some 23, op := Op.fieldAddr 109 (Operand.tmp 22) 0, type := 0, pos := "l10_rule.go:19", after := #[{ on := 0, ground := Ground.data }], guard := none }) (v := ?_) rfl (by kernel_rfl) (by kernel_rfl) (by kernel_rfl) (fun _ _ _ h => h) (Or.inl ⟨by rfl, ?_⟩) (by assumption) ?_
  rotate_left
  · intro w' hSw; (try dsimp only at hSw); first | (go_simp; done) | (go_simp; with_reducible rfl)
  (try simp only [Act.put, List.setIfInBounds_toArray, List.set_cons_zero, List.set_cons_succ])
  refine wpAnyH_take (i := 2) (oi := { dst := some 24, op := Op.load 39 (Operand.tmp 23), type := 39, pos := "l10_rule.go:19", after := #[{ on := 1, ground := Ground.data }], guard := none }) (v := ?_) rfl (by kernel_rfl) (by kernel_rfl) (by kernel_rfl) (fun _ _ _ h => h) (Or.inl ⟨by rfl, ?_⟩) (by assumption) ?_
  rotate_left
  · intro w' hSw; (try dsimp only at hSw); first | (go_simp; done) | (go_simp; with_reducible rfl)
  (try simp only [Act.put, List.setIfInBounds_toArray, List.set_cons_zero, List.set_cons_succ])
  refine wpAnyH_take (i := 3) (oi := { dst := some 25, op := Op.move (Operand.tmp 3), type := 3, pos := "l10_rule.go:19", after := #[], guard := none }) (v := ?_) rfl (by kernel_rfl) (by kernel_rfl) (by kernel_rfl) (fun _ _ _ h => h) (Or.inl ⟨by rfl, ?_⟩) (by assumption) ?_
  rotate_left
  · intro w' hSw; (try dsimp only at hSw); first | (go_simp; done) | (go_simp; with_reducible rfl)
  (try simp only [Act.put, List.setIfInBounds_toArray, List.set_cons_zero, List.set_cons_succ])
  refine wpAnyH_take (i := 4) (oi := { dst := some 26, op := Op.indexAddr 39 (Operand.tmp 24) (Operand.tmp 25), type := 0, pos := "l10_rule.go:19", after := #[{ on := 2, ground := Ground.data }, { on := 3, ground := Ground.data }], guard := none }) (v := ?_) rfl (by kernel_rfl) (by kernel_rfl) (by kernel_rfl) (fun _ _ _ h => h) (Or.inl ⟨by rfl, ?_⟩) (by assumption) ?_
  rotate_left
  · intro w' hSw; (try dsimp only at hSw); first | (go_simp; done) | (go_simp; with_reducible rfl)
  (try simp only [Act.put, List.setIfInBounds_toArray, List.set_cons_zero, List.set_cons_succ])
  refine wpAnyH_take (i := 5) (oi := { dst := some 27, op := Op.load 9 (Operand.tmp 26), type := 9, pos := "l10_rule.go:19", after := #[{ on := 4, ground := Ground.data }], guard := none }) (v := ?_) rfl (by kernel_rfl) (by kernel_rfl) (by kernel_rfl) (fun _ _ _ h => h) (Or.inl ⟨by rfl, ?_⟩) (by assumption) ?_
  rotate_left
  · intro w' hSw; (try dsimp only at hSw); first | (go_simp; done) | (go_simp; with_reducible rfl)
  (try simp only [Act.put, List.setIfInBounds_toArray, List.set_cons_zero, List.set_cons_succ])
  refine wpAnyH_ready (rs := [6]) (by kernel_rfl) (by simp) ?_
  refine AllReadyH.cons (o := { dst := some 28, op := Op.call { callee := Callee.value (Operand.func 115), args := #[Operand.tmp 27], argTypes := #[9] }, type := 4, pos := "l10_rule.go:19", after := #[{ on := 5, ground := Ground.data }], guard := none }) rfl (fun K hK => ?_) AllReadyH.nil
  go_simp
  refine (l5LV false HL.out hsz).mono ?_
  rintro e wn1 ⟨rfl, hb⟩
  replace BB := Lib.hid (BB.out.trans (hb.mono BB.out.size))
  clear hb
  (try go_wp2_with fail)
  clear hHeld
  refine hK.out _ _ ?_ (fun hHeld => ?_)
  · (try dsimp only); exact ⟨kc K0.out BB.out, kc K1.out BB.out, kc K2.out BB.out⟩
  clear hK K
  (try simp only [Act.put, List.setIfInBounds_toArray, List.set_cons_zero, List.set_cons_succ])
  refine wpAnyH_take (i := 7) (oi := { dst := some 29, op := Op.move (Operand.tmp 28), type := 4, pos := "l10_rule.go:19", after := #[{ on := 6, ground := Ground.data }, { on := 6, ground := Ground.chain }], guard := none }) (v := ?_) rfl (by kernel_rfl) (by kernel_rfl) (by kernel_rfl) (fun _ _ _ h => h) (Or.inl ⟨by rfl, ?_⟩) (by assumption) ?_
  rotate_left
  · intro w' hSw; (try dsimp only at hSw); first | (go_simp; done) | (go_simp; with_reducible rfl)
  (try simp only [Act.put, List.setIfInBounds_toArray, List.set_cons_zero, List.set_cons_succ])
  refine wpAnyH_take (i := 8) (oi := { dst := some 30, op := Op.fieldAddr 111 (Operand.tmp 1) 0, type := 0, pos := "l10_rule.go:19", after := #[{ on := 7, ground := Ground.guard }], guard := some (7, true) }) (v := undef) rfl (by kernel_rfl) (by kernel_rfl) (by kernel_rfl) (fun _ _ _ h => h) (Or.inr ⟨by rfl, rfl⟩) (by assumption) ?_
  (try simp only [Act.put, List.setIfInBounds_toArray, List.set_cons_zero, List.set_cons_succ])
  refine wpAnyH_take (i := 9) (oi := { dst := some 31, op := Op.load 109 (Operand.tmp 30), type := 109, pos := "l10_rule.go:19", after := #[{ on := 8, ground := Ground.data }, { on := 7, ground := Ground.guard }], guard := some (7, true) }) (v := undef) rfl (by kernel_rfl) (by kernel_rfl) (by kernel_rfl) (fun _ _ _ h => h) (Or.inr ⟨by rfl, rfl⟩) (by assumption) ?_
  (try simp only [Act.put, List.setIfInBounds_toArray, List.set_cons_zero, List.set_cons_succ])
  refine wpAnyH_take (i := 10) (oi := { dst := some 32, op := Op.fieldAddr 111 (Operand.tmp 1) 1, type := 0, pos := "l10_rule.go:19", after := #[{ on := 7, ground := Ground.guard }], guard := some (7, true) }) (v := undef) rfl (by kernel_rfl) (by kernel_rfl) (by kernel_rfl) (fun _ _ _ h => h) (Or.inr ⟨by rfl, rfl⟩) (by assumption) ?_
  (try simp only [Act.put, List.setIfInBounds_toArray, List.set_cons_zero, List.set_cons_succ])
  refine wpAnyH_take (i := 11) (oi := { dst := some 33, op := Op.fieldAddr 109 (Operand.tmp 32) 0, type := 0, pos := "l10_rule.go:19", after := #[{ on := 10, ground := Ground.data }, { on := 7, ground := Ground.guard }], guard := some (7, true) }) (v := undef) rfl (by kernel_rfl) (by kernel_rfl) (by kernel_rfl) (fun _ _ _ h => h) (Or.inr ⟨by rfl, rfl⟩) (by assumption) ?_
  (try simp only [Act.put, List.setIfInBounds_toArray, List.set_cons_zero, List.set_cons_succ])
  refine wpAnyH_take (i := 12) (oi := { dst := some 34, op := Op.load 39 (Operand.tmp 33), type := 39, pos := "l10_rule.go:19", after := #[{ on := 11, ground := Ground.data }, { on := 7, ground := Ground.guard }], guard := some (7, true) }) (v := undef) rfl (by kernel_rfl) (by kernel_rfl) (by kernel_rfl) (fun _ _ _ h => h) (Or.inr ⟨by rfl, rfl⟩) (by assumption) ?_
  (try simp only [Act.put, List.setIfInBounds_toArray, List.set_cons_zero, List.set_cons_succ])
  refine wpAnyH_take (i := 13) (oi := { dst := some 35, op := Op.move (Operand.tmp 3), type := 3, pos := "l10_rule.go:19", after := #[{ on := 7, ground := Ground.guard }], guard := some (7, true) }) (v := undef) rfl (by kernel_rfl) (by kernel_rfl) (by kernel_rfl) (fun _ _ _ h => h) (Or.inr ⟨by rfl, rfl⟩) (by assumption) ?_
  (try simp only [Act.put, List.setIfInBounds_toArray, List.set_cons_zero, List.set_cons_succ])
  refine wpAnyH_take (i := 14) (oi := { dst := some 36, op := Op.indexAddr 39 (Operand.tmp 34) (Operand.tmp 35), type := 0, pos := "l10_rule.go:19", after := #[{ on := 12, ground := Ground.data }, { on := 13, ground := Ground.data }, { on := 7, ground := Ground.guard }], guard := some (7, true) }) (v := undef) rfl (by kernel_rfl) (by kernel_rfl) (by kernel_rfl) (fun _ _ _ h => h) (Or.inr ⟨by rfl, rfl⟩) (by assumption) ?_
  (try simp only [Act.put, List.setIfInBounds_toArray, List.set_cons_zero, List.set_cons_succ])
  refine wpAnyH_take (i := 15) (oi := { dst := some 37, op := Op.load 9 (Operand.tmp 36), type := 9, pos := "l10_rule.go:19", after := #[{ on := 14, ground := Ground.data }, { on := 7, ground := Ground.guard }], guard := some (7, true) }) (v := undef) rfl (by kernel_rfl) (by kernel_rfl) (by kernel_rfl) (fun _ _ _ h => h) (Or.inr ⟨by rfl, rfl⟩) (by assumption) ?_
  (try simp only [Act.put, List.setIfInBounds_toArray, List.set_cons_zero, List.set_cons_succ])
  refine wpAnyH_take (i := 16) (oi := { dst := some 38, op := Op.call { callee := Callee.value (Operand.func 116), args := #[Operand.tmp 31, Operand.tmp 37], argTypes := #[109, 9] }, type := 4, pos := "l10_rule.go:19", after := #[{ on := 9, ground := Ground.data }, { on := 15, ground := Ground.data }, { on := 7, ground := Ground.chain }, { on := 7, ground := Ground.guard }], guard := some (7, true) }) (v := undef) rfl (by kernel_rfl) (by kernel_rfl) (by kernel_rfl) (fun _ _ _ h => h) (Or.inr ⟨by rfl, rfl⟩) (by assumption) ?_
  (try simp only [Act.put, List.setIfInBounds_toArray, List.set_cons_zero, List.set_cons_succ])
  refine wpAnyH_take (i := 17) (oi := { dst := some 39, op := Op.unOp UnOp.not 4 (Operand.tmp 38), type := 4, pos := "l10_rule.go:19", after := #[{ on := 16, ground := Ground.data }, { on := 7, ground := Ground.guard }], guard := some (7, true) }) (v := undef) rfl (by kernel_rfl) (by kernel_rfl) (by kernel_rfl) (fun _ _ _ h => h) (Or.inr ⟨by rfl, rfl⟩) (by assumption) ?_
  (try simp only [Act.put, List.setIfInBounds_toArray, List.set_cons_zero, List.set_cons_succ])
  refine wpAnyH_take (i := 18) (oi := { dst := some 40, op := Op.pick (Operand.tmp 29) (Operand.tmp 39) (Operand.const (Value.bool false)), type := 4, pos := "l10_rule.go:19", after := #[{ on := 7, ground := Ground.data }, { on := 17, ground := Ground.data }], guard := none }) (v := ?_) rfl (by kernel_rfl) (by kernel_rfl) (by kernel_rfl) (fun _ _ _ h => h) (Or.inl ⟨by rfl, ?_⟩) (by assumption) ?_
  rotate_left
  · intro w' hSw; (try dsimp only at hSw); first | (go_simp; done) | (go_simp; with_reducible rfl)
  (try simp only [Act.put, List.setIfInBounds_toArray, List.set_cons_zero, List.set_cons_succ])
  refine wpAnyH_done (by kernel_rfl) ?_ _
  exact NoPanic.normal (HQ.out _ _ _ _ _ _ _ _ _ _ _ _ _ _ _ _ _ _  _  BB.out)

set_option maxRecDepth 100000 in
set_option maxHeartbeats 4000000 in
theorem rvl2 {Q : Exit → Act → World → Prop} {v0 v2 v4 v5 v6 v7 v8 v9 v10 v11 v12 v13 v14 v15 v16 v17 v18 v19 v20 v21 v22 v23 v24 v25 v26 v27 v28 v29 v30 v31 v32 v33 v34 v35 v36 v37 v38 v39 v40 : Value} {w : World} {r b off n0 c0 n1 c1 k : Nat} {x0 : Option Addr} {p : List ByteArray} {s : ByteArray} (hk : k < n1) (hsz : s.size ≤ 140737488351232) {z : Bool} (HL : Hid (letterP s = true)) (H_p : Hid (Holds Value.string w (.slice x0 n0 c0) p)) (HP : Hid (bulk p ≤ 100000000)) (HZ : Hid (hasP p s = z)) (K0 : Hid (w.cell? ⟨r, 0, none⟩ = some (.slice x0 n0 c0))) (K1 : Hid (w.cell? ⟨r, 1, none⟩ = some (.slice (some ⟨b, off, none⟩) n1 c1))) (K2 : Hid (w.cell? ⟨b, off + k, none⟩ = some (.string s)))
    (hQ : ∀ (u22 u23 u24 u25 u26 u27 u28 u29 u30 u31 u32 u33 u34 u35 u36 u37 u38 u39 : Value)  (wx : World), Below w.heap.size w wx → Q .normal ⟨#[v0, .pointer (some ⟨r, 0, none⟩), v2, .int .i64 k, v4, v5, v6, v7, v8, v9, v10, v11, v12, v13, v14, v15, v16, v17, v18, v19, v20, v21, u22, u23, u24, u25, u26, u27, u28, u29, u30, u31, u32, u33, u34, u35, u36, u37, u38, u39, .bool (!z)], []⟩ wx) :
    (Code.region 6 #[{ dst := some 22, op := Op.fieldAddr 111 (Operand.tmp 1) 1, type := 0, pos := "l10_rule.go:19", after := #[], guard := none },
      { dst := some 23, op := Op.fieldAddr 109 (Operand.tmp 22) 0, type := 0, pos := "l10_rule.go:19", after := #[{ on := 0, ground := Ground.data }], guard := none },
      { dst := some 24, op := Op.load 39 (Operand.tmp 23), type := 39, pos := "l10_rule.go:19", after := #[{ on := 1, ground := Ground.data }], guard := none },
      { dst := some 25, op := Op.move (Operand.tmp 3), type := 3, pos := "l10_rule.go:19", after := #[], guard := none },
      { dst := some 26, op := Op.indexAddr 39 (Operand.tmp 24) (Operand.tmp 25), type := 0, pos := "l10_rule.go:19", after := #[{ on := 2, ground := Ground.data }, { on := 3, ground := Ground.data }], guard := none },
      { dst := some 27, op := Op.load 9 (Operand.tmp 26), type := 9, pos := "l10_rule.go:19", after := #[{ on := 4, ground := Ground.data }], guard := none },
      { dst := some 28, op := Op.call { callee := Callee.value (Operand.func 115), args := #[Operand.tmp 27], argTypes := #[9] }, type := 4, pos := "l10_rule.go:19", after := #[{ on := 5, ground := Ground.data }], guard := none },
      { dst := some 29, op := Op.move (Operand.tmp 28), type := 4, pos := "l10_rule.go:19", after := #[{ on := 6, ground := Ground.data }, { on := 6, ground := Ground.chain }], guard := none },
      { dst := some 30, op := Op.fieldAddr 111 (Operand.tmp 1) 0, type := 0, pos := "l10_rule.go:19", after := #[{ on := 7, ground := Ground.guard }], guard := some (7, true) },
      { dst := some 31, op := Op.load 109 (Operand.tmp 30), type := 109, pos := "l10_rule.go:19", after := #[{ on := 8, ground := Ground.data }, { on := 7, ground := Ground.guard }], guard := some (7, true) },
      { dst := some 32, op := Op.fieldAddr 111 (Operand.tmp 1) 1, type := 0, pos := "l10_rule.go:19", after := #[{ on := 7, ground := Ground.guard }], guard := some (7, true) },
      { dst := some 33, op := Op.fieldAddr 109 (Operand.tmp 32) 0, type := 0, pos := "l10_rule.go:19", after := #[{ on := 10, ground := Ground.data }, { on := 7, ground := Ground.guard }], guard := some (7, true) },
      { dst := some 34, op := Op.load 39 (Operand.tmp 33), type := 39, pos := "l10_rule.go:19", after := #[{ on := 11, ground := Ground.data }, { on := 7, ground := Ground.guard }], guard := some (7, true) },
      { dst := some 35, op := Op.move (Operand.tmp 3), type := 3, pos := "l10_rule.go:19", after := #[{ on := 7, ground := Ground.guard }], guard := some (7, true) },
      { dst := some 36, op := Op.indexAddr 39 (Operand.tmp 34) (Operand.tmp 35), type := 0, pos := "l10_rule.go:19", after := #[{ on := 12, ground := Ground.data }, { on := 13, ground := Ground.data }, { on := 7, ground := Ground.guard }], guard := some (7, true) },
      { dst := some 37, op := Op.load 9 (Operand.tmp 36), type := 9, pos := "l10_rule.go:19", after := #[{ on := 14, ground := Ground.data }, { on := 7, ground := Ground.guard }], guard := some (7, true) },
      { dst := some 38, op := Op.call { callee := Callee.value (Operand.func 116), args := #[Operand.tmp 31, Operand.tmp 37], argTypes := #[109, 9] }, type := 4, pos := "l10_rule.go:19", after := #[{ on := 9, ground := Ground.data }, { on := 15, ground := Ground.data }, { on := 7, ground := Ground.chain }, { on := 7, ground := Ground.guard }], guard := some (7, true) },
      { dst := some 39, op := Op.unOp UnOp.not 4 (Operand.tmp 38), type := 4, pos := "l10_rule.go:19", after := #[{ on := 16, ground := Ground.data }, { on := 7, ground := Ground.guard }], guard := some (7, true) },
      { dst := some 40, op := Op.pick (Operand.tmp 29) (Operand.tmp 39) (Operand.const (Value.bool false)), type := 4, pos := "l10_rule.go:19", after := #[{ on := 7, ground := Ground.data }, { on := 17, ground := Ground.data }], guard := none }] true).wp Try.prog Q ⟨#[v0, .pointer (some ⟨r, 0, none⟩), v2, .int .i64 k, v4, v5, v6, v7, v8, v9, v10, v11, v12, v13, v14, v15, v16, v17, v18, v19, v20, v21, v22, v23, v24, v25, v26, v27, v28, v29, v30, v31, v32, v33, v34, v35, v36, v37, v38, v39, v40], []⟩ w := by
  have HQ := Lib.hid hQ; clear hQ
  have hdr : Below w.heap.size w w.drew := (Below.refl _ _).drew
  have BB := Lib.hid hdr
  refine wp_region_noPanic ?_
  refine wp_region_held_drew (S := (fun w' => w'.cell? ⟨r, 0, none⟩ = some (.slice x0 n0 c0) ∧ w'.cell? ⟨r, 1, none⟩ = some (.slice (some ⟨b, off, none⟩) n1 c1) ∧ w'.cell? ⟨b, off + k, none⟩ = some (.string s))) (by kernel_rfl) ?_ (fun hHeld => ?_)
  · exact ⟨kc K0.out BB.out, kc K1.out BB.out, kc K2.out BB.out⟩
  clear hdr
  generalize w.drew = wd at *
  refine wpAnyH_take (i := 0) (oi := { dst := some 22, op := Op.fieldAddr 111 (Operand.tmp 1) 1, type := 0, pos := "l10_rule.go:19", after := #[], guard := none }) (v := ?_) rfl (by kernel_rfl) (by kernel_rfl) (by kernel_rfl) (fun _ _ _ h => h) (Or.inl ⟨by rfl, ?_⟩) (by assumption) ?_
  rotate_left
  · intro w' hSw; (try dsimp only at hSw); first | (go_simp; done) | (go_simp; with_reducible rfl)
  (try simp only [Act.put, List.setIfInBounds_toArray, List.set_cons_zero, List.set_cons_succ])
  refine wpAnyH_take (i := 1) (oi := { dst := some 23, op := Op.fieldAddr 109 (Operand.tmp 22) 0, type := 0, pos := "l10_rule.go:19", after := #[{ on := 0, ground := Ground.data }], guard := none }) (v := ?_) rfl (by kernel_rfl) (by kernel_rfl) (by kernel_rfl) (fun _ _ _ h => h) (Or.inl ⟨by rfl, ?_⟩) (by assumption) ?_
  rotate_left
  · intro w' hSw; (try dsimp only at hSw); first | (go_simp; done) | (go_simp; with_reducible rfl)
  (try simp only [Act.put, List.setIfInBounds_toArray, List.set_cons_zero, List.set_cons_succ])
  refine wpAnyH_take (i := 2) (oi := { dst := some 24, op := Op.load 39 (Operand.tmp 23), type := 39, pos := "l10_rule.go:19", after := #[{ on := 1, ground := Ground.data }], guard := none }) (v := ?_) rfl (by kernel_rfl) (by kernel_rfl) (by kernel_rfl) (fun _ _ _ h => h) (Or.inl ⟨by rfl, ?_⟩) (by assumption) ?_
  rotate_left
  · intro w' hSw; (try dsimp only at hSw); first | (go_simp; done) | (go_simp; with_reducible rfl)
  (try simp only [Act.put, List.setIfInBounds_toArray, List.set_cons_zero, List.set_cons_succ])
  refine wpAnyH_take (i := 3) (oi := { dst := some 25, op := Op.move (Operand.tmp 3), type := 3, pos := "l10_rule.go:19", after := #[], guard := none }) (v := ?_) rfl (by kernel_rfl) (by kernel_rfl) (by kernel_rfl) (fun _ _ _ h => h) (Or.inl ⟨by rfl, ?_⟩) (by assumption) ?_
  rotate_left
  · intro w' hSw; (try dsimp only at hSw); first | (go_simp; done) | (go_simp; with_reducible rfl)
  (try simp only [Act.put, List.setIfInBounds_toArray, List.set_cons_zero, List.set_cons_succ])
  refine wpAnyH_take (i := 4) (oi := { dst := some 26, op := Op.indexAddr 39 (Operand.tmp 24) (Operand.tmp 25), type := 0, pos := "l10_rule.go:19", after := #[{ on := 2, ground := Ground.data }, { on := 3, ground := Ground.data }], guard := none }) (v := ?_) rfl (by kernel_rfl) (by kernel_rfl) (by kernel_rfl) (fun _ _ _ h => h) (Or.inl ⟨by rfl, ?_⟩) (by assumption) ?_
  rotate_left
  · intro w' hSw; (try dsimp only at hSw); first | (go_simp; done) | (go_simp; with_reducible rfl)
  (try simp only [Act.put, List.setIfInBounds_toArray, List.set_cons_zero, List.set_cons_succ])
  refine wpAnyH_take (i := 5) (oi := { dst := some 27, op := Op.load 9 (Operand.tmp 26), type := 9, pos := "l10_rule.go:19", after := #[{ on := 4, ground := Ground.data }], guard := none }) (v := ?_) rfl (by kernel_rfl) (by kernel_rfl) (by kernel_rfl) (fun _ _ _ h => h) (Or.inl ⟨by rfl, ?_⟩) (by assumption) ?_
  rotate_left
  · intro w' hSw; (try dsimp only at hSw); first | (go_simp; done) | (go_simp; with_reducible rfl)
  (try simp only [Act.put, List.setIfInBounds_toArray, List.set_cons_zero, List.set_cons_succ])
  refine wpAnyH_ready (rs := [6]) (by kernel_rfl) (by simp) ?_
  refine AllReadyH.cons (o := { dst := some 28, op := Op.call { callee := Callee.value (Operand.func 115), args := #[Operand.tmp 27], argTypes := #[9] }, type := 4, pos := "l10_rule.go:19", after := #[{ on := 5, ground := Ground.data }], guard := none }) rfl (fun K hK => ?_) AllReadyH.nil
  go_simp
  refine (l5LV true HL.out hsz).mono ?_
  rintro e wn1 ⟨rfl, hb⟩
  replace BB := Lib.hid (BB.out.trans (hb.mono BB.out.size))
  clear hb
  (try go_wp2_with fail)
  clear hHeld
  refine hK.out _ _ ?_ (fun hHeld => ?_)
  · (try dsimp only); exact ⟨kc K0.out BB.out, kc K1.out BB.out, kc K2.out BB.out⟩
  clear hK K
  (try simp only [Act.put, List.setIfInBounds_toArray, List.set_cons_zero, List.set_cons_succ])
  refine wpAnyH_take (i := 7) (oi := { dst := some 29, op := Op.move (Operand.tmp 28), type := 4, pos := "l10_rule.go:19", after := #[{ on := 6, ground := Ground.data }, { on := 6, ground := Ground.chain }], guard := none }) (v := ?_) rfl (by kernel_rfl) (by kernel_rfl) (by kernel_rfl) (fun _ _ _ h => h) (Or.inl ⟨by rfl, ?_⟩) (by assumption) ?_
  rotate_left
  · intro w' hSw; (try dsimp only at hSw); first | (go_simp; done) | (go_simp; with_reducible rfl)
  (try simp only [Act.put, List.setIfInBounds_toArray, List.set_cons_zero, List.set_cons_succ])
  refine wpAnyH_take (i := 8) (oi := { dst := some 30, op := Op.fieldAddr 111 (Operand.tmp 1) 0, type := 0, pos := "l10_rule.go:19", after := #[{ on := 7, ground := Ground.guard }], guard := some (7, true) }) (v := ?_) rfl (by kernel_rfl) (by kernel_rfl) (by kernel_rfl) (fun _ _ _ h => h) (Or.inl ⟨by rfl, ?_⟩) (by assumption) ?_
  rotate_left
  · intro w' hSw; (try dsimp only at hSw); first | (go_simp; done) | (go_simp; with_reducible rfl)
  (try simp only [Act.put, List.setIfInBounds_toArray, List.set_cons_zero, List.set_cons_succ])
  refine wpAnyH_take (i := 9) (oi := { dst := some 31, op := Op.load 109 (Operand.tmp 30), type := 109, pos := "l10_rule.go:19", after := #[{ on := 8, ground := Ground.data }, { on := 7, ground := Ground.guard }], guard := some (7, true) }) (v := ?_) rfl (by kernel_rfl) (by kernel_rfl) (by kernel_rfl) (fun _ _ _ h => h) (Or.inl ⟨by rfl, ?_⟩) (by assumption) ?_
  rotate_left
  · intro w' hSw; (try dsimp only at hSw); first | (go_simp; done) | (go_simp; with_reducible rfl)
  (try simp only [Act.put, List.setIfInBounds_toArray, List.set_cons_zero, List.set_cons_succ])
  refine wpAnyH_take (i := 10) (oi := { dst := some 32, op := Op.fieldAddr 111 (Operand.tmp 1) 1, type := 0, pos := "l10_rule.go:19", after := #[{ on := 7, ground := Ground.guard }], guard := some (7, true) }) (v := ?_) rfl (by kernel_rfl) (by kernel_rfl) (by kernel_rfl) (fun _ _ _ h => h) (Or.inl ⟨by rfl, ?_⟩) (by assumption) ?_
  rotate_left
  · intro w' hSw; (try dsimp only at hSw); first | (go_simp; done) | (go_simp; with_reducible rfl)
  (try simp only [Act.put, List.setIfInBounds_toArray, List.set_cons_zero, List.set_cons_succ])
  refine wpAnyH_take (i := 11) (oi := { dst := some 33, op := Op.fieldAddr 109 (Operand.tmp 32) 0, type := 0, pos := "l10_rule.go:19", after := #[{ on := 10, ground := Ground.data }, { on := 7, ground := Ground.guard }], guard := some (7, true) }) (v := ?_) rfl (by kernel_rfl) (by kernel_rfl) (by kernel_rfl) (fun _ _ _ h => h) (Or.inl ⟨by rfl, ?_⟩) (by assumption) ?_
  rotate_left
  · intro w' hSw; (try dsimp only at hSw); first | (go_simp; done) | (go_simp; with_reducible rfl)
  (try simp only [Act.put, List.setIfInBounds_toArray, List.set_cons_zero, List.set_cons_succ])
  refine wpAnyH_take (i := 12) (oi := { dst := some 34, op := Op.load 39 (Operand.tmp 33), type := 39, pos := "l10_rule.go:19", after := #[{ on := 11, ground := Ground.data }, { on := 7, ground := Ground.guard }], guard := some (7, true) }) (v := ?_) rfl (by kernel_rfl) (by kernel_rfl) (by kernel_rfl) (fun _ _ _ h => h) (Or.inl ⟨by rfl, ?_⟩) (by assumption) ?_
  rotate_left
  · intro w' hSw; (try dsimp only at hSw); first | (go_simp; done) | (go_simp; with_reducible rfl)
  (try simp only [Act.put, List.setIfInBounds_toArray, List.set_cons_zero, List.set_cons_succ])
  refine wpAnyH_take (i := 13) (oi := { dst := some 35, op := Op.move (Operand.tmp 3), type := 3, pos := "l10_rule.go:19", after := #[{ on := 7, ground := Ground.guard }], guard := some (7, true) }) (v := ?_) rfl (by kernel_rfl) (by kernel_rfl) (by kernel_rfl) (fun _ _ _ h => h) (Or.inl ⟨by rfl, ?_⟩) (by assumption) ?_
  rotate_left
  · intro w' hSw; (try dsimp only at hSw); first | (go_simp; done) | (go_simp; with_reducible rfl)
  (try simp only [Act.put, List.setIfInBounds_toArray, List.set_cons_zero, List.set_cons_succ])
  refine wpAnyH_take (i := 14) (oi := { dst := some 36, op := Op.indexAddr 39 (Operand.tmp 34) (Operand.tmp 35), type := 0, pos := "l10_rule.go:19", after := #[{ on := 12, ground := Ground.data }, { on := 13, ground := Ground.data }, { on := 7, ground := Ground.guard }], guard := some (7, true) }) (v := ?_) rfl (by kernel_rfl) (by kernel_rfl) (by kernel_rfl) (fun _ _ _ h => h) (Or.inl ⟨by rfl, ?_⟩) (by assumption) ?_
  rotate_left
  · intro w' hSw; (try dsimp only at hSw); first | (go_simp; done) | (go_simp; with_reducible rfl)
  (try simp only [Act.put, List.setIfInBounds_toArray, List.set_cons_zero, List.set_cons_succ])
  refine wpAnyH_take (i := 15) (oi := { dst := some 37, op := Op.load 9 (Operand.tmp 36), type := 9, pos := "l10_rule.go:19", after := #[{ on := 14, ground := Ground.data }, { on := 7, ground := Ground.guard }], guard := some (7, true) }) (v := ?_) rfl (by kernel_rfl) (by kernel_rfl) (by kernel_rfl) (fun _ _ _ h => h) (Or.inl ⟨by rfl, ?_⟩) (by assumption) ?_
  rotate_left
  · intro w' hSw; (try dsimp only at hSw); first | (go_simp; done) | (go_simp; with_reducible rfl)
  (try simp only [Act.put, List.setIfInBounds_toArray, List.set_cons_zero, List.set_cons_succ])
  refine wpAnyH_ready (rs := [16]) (by kernel_rfl) (by simp) ?_
  refine AllReadyH.cons (o := { dst := some 38, op := Op.call { callee := Callee.value (Operand.func 116), args := #[Operand.tmp 31, Operand.tmp 37], argTypes := #[109, 9] }, type := 4, pos := "l10_rule.go:19", after := #[{ on := 9, ground := Ground.data }, { on := 15, ground := Ground.data }, { on := 7, ground := Ground.chain }, { on := 7, ground := Ground.guard }], guard := some (7, true) }) rfl (fun K hK => ?_) AllReadyH.nil
  go_simp
  refine (l10Has _ p s _ z HZ.out (H_p.out.on BB.out) HP.out).mono ?_
  rintro e wn2 ⟨rfl, hb⟩
  replace BB := Lib.hid (BB.out.trans (hb.mono BB.out.size))
  clear hb
  (try go_wp2_with fail)
  clear hHeld
  refine hK.out _ _ ?_ (fun hHeld => ?_)
  · (try dsimp only); exact ⟨kc K0.out BB.out, kc K1.out BB.out, kc K2.out BB.out⟩
  clear hK K
  (try simp only [Act.put, List.setIfInBounds_toArray, List.set_cons_zero, List.set_cons_succ])
  refine wpAnyH_take (i := 17) (oi := { dst := some 39, op := Op.unOp UnOp.not 4 (Operand.tmp 38), type := 4, pos := "l10_rule.go:19", after := #[{ on := 16, ground := Ground.data }, { on := 7, ground := Ground.guard }], guard := some (7, true) }) (v := ?_) rfl (by kernel_rfl) (by kernel_rfl) (by kernel_rfl) (fun _ _ _ h => h) (Or.inl ⟨by rfl, ?_⟩) (by assumption) ?_
  rotate_left
  · intro w' hSw; (try dsimp only at hSw); first | (go_simp; done) | (go_simp; with_reducible rfl)
  (try simp only [Act.put, List.setIfInBounds_toArray, List.set_cons_zero, List.set_cons_succ])
  refine wpAnyH_take (i := 18) (oi := { dst := some 40, op := Op.pick (Operand.tmp 29) (Operand.tmp 39) (Operand.const (Value.bool false)), type := 4, pos := "l10_rule.go:19", after := #[{ on := 7, ground := Ground.data }, { on := 17, ground := Ground.data }], guard := none }) (v := ?_) rfl (by kernel_rfl) (by kernel_rfl) (by kernel_rfl) (fun _ _ _ h => h) (Or.inl ⟨by rfl, ?_⟩) (by assumption) ?_
  rotate_left
  · intro w' hSw; (try dsimp only at hSw); first | (go_simp; done) | (go_simp; with_reducible rfl)
  (try simp only [Act.put, List.setIfInBounds_toArray, List.set_cons_zero, List.set_cons_succ])
  refine wpAnyH_done (by kernel_rfl) ?_ _
  exact NoPanic.normal (HQ.out _ _ _ _ _ _ _ _ _ _ _ _ _ _ _ _ _ _  _  BB.out)

set_option maxHeartbeats 4000000 in
theorem specValidRule (V : Value) (x : Rlt) (w : World) (z : Bool) (hz : validR x = z) (h : kRl.At w V x) (hp : wtRl x ≤ 9000000) :
    Calls Try.prog 84 #[V] w fun e w' => e = .returned (.bool z) ∧ Below w.heap.size w w' := by
  obtain ⟨x0, n0, c0, x1, n1, c1, rfl, g0, g1⟩ := kRl_at h
  obtain ⟨p, q⟩ := x
  obtain ⟨p0, p1⟩ := fitR hp
  dsimp only at g0 g1 p0 p1
  obtain ⟨v0, e0, g0⟩ := kN_at g0
  obtain ⟨v1, e1, g1⟩ := kN_at g1
  obtain rfl : v0 = .slice x0 n0 c0 := by injection e0 with e; have := congrArg (fun z : Array Value => z[0]?) e; simpa using this.symm
  obtain rfl : v1 = .slice x1 n1 c1 := by injection e1 with e; have := congrArg (fun z : Array Value => z[0]?) e; simpa using this.symm
  have hn1 : n1 = q.length := g1.lenEq
  have hq9 := bigLen (Nat.le_trans p1 (by decide : 9000000 ≤ 100000000))
  have HSZ := Lib.hid (fun k (hk : k < q.length) => size_nth (Nat.le_trans p1 (by decide : 9000000 ≤ 100000000)) hk)
  have HB := Lib.hid ((Below.refl w.heap.size w).alloc (Nat.le_refl _) (.cells #[.slice x0 n0 c0, .slice x1 n1 c1] 111))
  have HX := Lib.hid (Ret.Blk.new w #[.slice x0 n0 c0, .slice x1 n1 c1] 111)
  have G0 := Lib.hid g0; have G1 := Lib.hid g1; have HZ := Lib.hid hz; have HN := Lib.hid hn1
  rw [← hn1] at hq9
  clear h hp hz g0 g1 e0 e1 hn1
  go_enter Try.func84, Try.ntmps84
  go_wp2_with fail
  obtain ⟨a, ha⟩ : ∃ a, validPat p = a := ⟨_, rfl⟩
  have HA := Lib.hid ha; clear ha
  refine (vPatV a HA.out (G0.out.on HB.out) (by omega)).mono ?_
  rintro e w1 ⟨rfl, hb⟩
  replace HX := Lib.hid (HX.out.on hb); replace HB := Lib.hid (HB.out.trans (hb.mono HB.out.size)); clear hb
  have q0 : w1.cell? ⟨w.heap.size, 0, none⟩ = some (.slice x0 n0 c0) := HX.out.cell 0
  have q1 : w1.cell? ⟨w.heap.size, 1, none⟩ = some (.slice x1 n1 c1) := HX.out.cell 1
  cases a with
  | false =>
    have HE : Hid (z = false) := Lib.hid (by rw [← HZ.out]; show (validPat p && validPat q && lettersIn p q) = false; rw [HA.out]; rfl)
    go_wp2_with fail
    go_ret
    exact ⟨ret_bool HE.out.symm, HB.out⟩
  | true =>
    go_wp2_with fail
    clear q0 q1
    obtain ⟨c, hc⟩ : ∃ a, validPat q = a := ⟨_, rfl⟩
    have HC := Lib.hid hc; clear hc
    refine (vPatV c HC.out (G1.out.on HB.out) (by omega)).mono ?_
    rintro e w2 ⟨rfl, hb⟩
    replace HX := Lib.hid (HX.out.on hb); replace HB := Lib.hid (HB.out.trans (hb.mono HB.out.size)); clear hb
    cases c with
    | false =>
      have HE : Hid (z = false) := Lib.hid (by rw [← HZ.out]; show (validPat p && validPat q && lettersIn p q) = false; rw [HA.out, HC.out]; rfl)
      go_wp2_with fail
      go_ret
      exact ⟨ret_bool HE.out.symm, HB.out⟩
    | true =>
      have HE : Hid (z = lettersIn p q) := Lib.hid (by rw [← HZ.out]; show (validPat p && validPat q && lettersIn p q) = _; rw [HA.out, HC.out]; rfl)
      go_wp2_with fail
      go_loopw [3] (fun i wr => ∃ k : Nat, k ≤ n1 ∧ i = .int .i64 k ∧ Hid (∀ j, j < k → letterP (nth q j) = true → nth q j ∈ p) ∧ Hid (Ret.Blk wr w.heap.size #[.slice x0 n0 c0, .slice x1 n1 c1] 111) ∧ Hid (Below w.heap.size w wr)) (fun i _ => n1 - (intOf i).toNat)
      case atStart => exact ⟨0, Nat.zero_le _, rfl, Lib.hid (fun j hj => absurd hj (by omega)), HX, HB⟩
      case round =>
        obtain ⟨k, hk, rfl, ha, hx, hb⟩ := hrel
        have q0 : wr.cell? ⟨w.heap.size, 0, none⟩ = some (.slice x0 n0 c0) := hx.out.cell 0
        have q1 : wr.cell? ⟨w.heap.size, 1, none⟩ = some (.slice x1 n1 c1) := hx.out.cell 1
        by_cases hlt : k < n1
        · have hlen := HN.out
          obtain ⟨b, off, rfl, hd⟩ := (G1.out.on hb.out).at (j := k) (by omega)
          have hsz := HSZ.out k (by omega)
          have HQ0 := Lib.hid q0; have HQ1 := Lib.hid q1; have HD := Lib.hid hd
          clear hlen
          go_wp2_with fail
          clear q0 q1 hd
          by_cases hl : letterP (nth q k) = true
          · obtain ⟨c, hc⟩ : ∃ a, hasP p (nth q k) = a := ⟨_, rfl⟩
            have HC2 := Lib.hid hc
            have HL := Lib.hid hl
            clear hl hc
            refine rvl2 hlt (by omega) HL (Lib.hid (G0.out.on hb.out)) (Lib.hid (by omega)) HC2 HQ0 HQ1 HD ?_
            intro u22 u23 u24 u25 u26 u27 u28 u29 u30 u31 u32 u33 u34 u35 u36 u37 u38 u39 wx hb1
            replace hx := Lib.hid (hx.out.on hb1); replace hb := Lib.hid (hb.out.trans (hb1.mono hb.out.size)); clear hb1
            cases c with
            | false =>
              have HF : Hid (z = false) := Lib.hid (by rw [HE.out]; exact lettersIn_no (by have := HN.out; omega) HL.out (hasP_no.1 HC2.out))
              go_wp2_with fail
              go_ret
              exact ⟨ret_bool HF.out.symm, hb.out⟩
            | true =>
              have HM := Lib.hid (show ∀ j, j < k + 1 → letterP (nth q j) = true → nth q j ∈ p from fun j hj => by rcases Nat.lt_succ_iff_lt_or_eq.1 hj with h5 | h5; exact ha.out j h5; exact fun _ => h5 ▸ hasP_iff.1 HC2.out)
              go_wp2_with fail
              go_roundw
              case rel => exact ⟨k + 1, by omega, by go_num, HM, hx, hb⟩
              case measure => simp [intOf]; omega
          · have hl : letterP (nth q k) = false := by simpa using hl
            have HL := Lib.hid hl
            clear hl
            refine rvl1 hlt (by omega) HL HQ0 HQ1 HD ?_
            intro u22 u23 u24 u25 u26 u27 u28 u29 u30 u31 u32 u33 u34 u35 u36 u37 u38 u39 wx hb1
            replace hx := Lib.hid (hx.out.on hb1); replace hb := Lib.hid (hb.out.trans (hb1.mono hb.out.size)); clear hb1
            have HM := Lib.hid (show ∀ j, j < k + 1 → letterP (nth q j) = true → nth q j ∈ p from fun j hj => by rcases Nat.lt_succ_iff_lt_or_eq.1 hj with h5 | h5; exact ha.out j h5; exact fun h6 => by rw [h5, HL.out] at h6; cases h6)
            go_wp2_with fail
            go_roundw
            case rel => exact ⟨k + 1, by omega, by go_num, HM, hx, hb⟩
            case measure => simp [intOf]; omega
        · obtain rfl : k = n1 := by omega
          have HF : Hid (z = true) := Lib.hid (by rw [HE.out]; exact lettersIn_all (fun j hj => ha.out j (by have := HN.out; omega)))
          clear hlt
          go_wp2_with fail
          go_ret
          exact ⟨ret_bool HF.out.symm, hb.out⟩

set_option maxHeartbeats 4000000 in
theorem specValidRules (V : Value) (l : List Rlt) (w : World) (z : Bool) (hz : validRs l = z) (h : kLRl.At w V l) (hl : l.length ≤ 9000000) (hp : ∀ x ∈ l, wtRl x ≤ 9000000) :
    Calls Try.prog 39 #[V] w fun e w' => e = .returned (.bool z) ∧ Below w.heap.size w w' := by
  obtain ⟨ad, n, cap, L, rfl, hn, ht, hh, hel⟩ := kLRl_at h
  have hlen : l.length = n := by rw [← ht, List.length_map]; exact hn.symm
  rw [hlen] at hl
  have HN := Lib.hid hn; have HT := Lib.hid ht; have HH := Lib.hid hh; have HEL := Lib.hid hel; have HP := Lib.hid hp; have HLEN := Lib.hid hlen; have HZ := Lib.hid hz
  clear hn h hh hp ht hel hlen hz
  go_enter Try.func39, Try.ntmps39
  go_wp2
  go_loopw [3] (fun i wr => ∃ k : Nat, k ≤ n ∧ i = .int .i64 k ∧ Hid (∀ j, j < k → validR (nth l j) = true) ∧ Hid (Below w.heap.size w wr)) (fun i _ => n - (intOf i).toNat)
  case atStart => exact ⟨0, Nat.zero_le _, rfl, Lib.hid (fun j hj => absurd hj (by omega)), Lib.hid (Below.refl _ _)⟩
  case round =>
    obtain ⟨k, hk, rfl, ha, hb⟩ := hrel
    by_cases hlt : k < n
    · have hlen := HN.out
      obtain ⟨b, off, x0, n0, c0, x1, n1, c1, rfl, -, hc0, hc1, hA⟩ := kLRl_elem (HH.out.on hb.out) (fun y hy => kRl.holds_on (HEL.out y hy) hb.out) (j := k) (by omega)
      have hpt : nth l k = kRl.strip (nth L k) := by rw [← HT.out, nth_map _ (by omega)]
      have hps := HP.out (nth l k) (nth_mem (by have := HLEN.out; omega))
      rw [← hpt] at hA
      have HA := Lib.hid hA; have HPS := Lib.hid hps
      clear hlen hpt hps hA
      go_wp2_with fail
      obtain ⟨a, ha2⟩ : ∃ a, validR (nth l k) = a := ⟨_, rfl⟩
      have HV := Lib.hid ha2; clear ha2
      refine (specValidRule _ (nth l k) _ a HV.out HA.out HPS.out).mono ?_
      rintro e w1 ⟨rfl, hb1⟩
      have HB1 := Lib.hid (hb.out.trans (hb1.mono hb.out.size)); clear hb1 hc0 hc1
      cases a with
      | false =>
        have HF : Hid (z = false) := Lib.hid (by
          rw [← HZ.out]
          unfold validRs
          rw [show l.all validR = false from by rw [List.all_eq_false]; exact ⟨nth l k, nth_mem (by have := HLEN.out; omega), by rw [HV.out]; simp⟩]
          rfl)
        go_wp2_with fail
        go_ret
        exact ⟨ret_bool HF.out.symm, HB1.out⟩
      | true =>
        have HM := Lib.hid (show ∀ j, j < k + 1 → validR (nth l j) = true from fun j hj => by rcases Nat.lt_succ_iff_lt_or_eq.1 hj with h5 | h5; exact ha.out j h5; exact h5 ▸ HV.out)
        go_wp2_with fail
        go_roundw
        case rel => exact ⟨k + 1, by omega, by go_num, HM, HB1⟩
        case measure => simp [intOf]; omega
    · obtain rfl : k = n := by omega
      have HF : Hid (z = decide (((k : Nat) : Int) ≤ 8)) := Lib.hid (by
        rw [← HZ.out]
        unfold validRs
        rw [show l.all validR = true from by
          rw [List.all_eq_true]
          intro s hs
          obtain ⟨j, hj, rfl⟩ := List.getElem_of_mem hs
          rw [← nth_eq hj]
          exact ha.out j (by have := HLEN.out; omega), Bool.true_and, HLEN.out]
        exact decide_eq_decide.2 (by omega))
      clear hlt
      go_wp2_with fail
      go_ret
      exact ⟨ret_bool (by rw [HF.out]), hb.out⟩

end Go.Proofs.Ytcidfmmeonhkhaa.Row
/- Searching a list for the first element of which something holds; what is asked of a closure that is handed to the library. For any kind. No conditions. -/
namespace Go.Proofs.Ytcidfmmeonhkhaa.Row
open Go.ChangeShapes Go.WideShapes Go.ChangeAt Go.RowKit Go.Instr
set_option linter.unusedVariables false
set_option maxRecDepth 100000

section
variable {α : Type} [Inhabited α] {p : α → Bool} {l : List α} {k : Nat}
/-- The place of the first element of which p is true; -1 if there is none. -/
def ixL (p : α → Bool) (l : List α) : Int := if l.findIdx p < l.length then (l.findIdx p : Int) else -1
def noL (p : α → Bool) (l : List α) (k : Nat) : Prop := ∀ j, j < k → p (nth l j) = false
theorem noL_zero (p : α → Bool) (l : List α) : noL p l 0 := fun j h => absurd h (by omega)
theorem noL_succ (h : noL p l k) (hc : p (nth l k) = false) : noL p l (k + 1) := fun j h1 => by
  by_cases e : j = k
  · subst e; exact hc
  · exact h j (by omega)
theorem ixL_at (hk : k < l.length) (h : noL p l k) (hc : p (nth l k) = true) : ixL p l = k := by
  have e : l.findIdx p = k := by
    rw [List.findIdx_eq hk]
    exact ⟨by rw [← nth_eq hk]; exact hc, fun j hj => by rw [← nth_eq (Nat.lt_trans hj hk)]; exact h j hj⟩
  unfold ixL; rw [e, if_pos hk]
theorem ixL_none (h : noL p l l.length) : ixL p l = -1 := by
  have e : l.findIdx p = l.length := by
    rw [List.findIdx_eq_length]
    intro x hx
    obtain ⟨j, hj, rfl⟩ := List.getElem_of_mem hx
    rw [← nth_eq hj]; exact h j hj
  unfold ixL; rw [e, if_neg (by omega)]
theorem ixL_cases (p : α → Bool) (l : List α) : (ixL p l = -1 ∧ noL p l l.length) ∨ ∃ k, k < l.length ∧ ixL p l = (k : Int) ∧ p (nth l k) = true ∧ noL p l k := by
  by_cases h : l.findIdx p < l.length
  · refine Or.inr ⟨l.findIdx p, h, by unfold ixL; rw [if_pos h], ?_, ?_⟩
    · rw [nth_eq h]; exact List.findIdx_getElem
    · intro j hj
      rw [nth_eq (Nat.lt_trans hj h)]
      have := List.not_of_lt_findIdx hj
      simpa using this
  · have e : l.findIdx p = l.length := Nat.le_antisymm List.findIdx_le_length (by omega)
    refine Or.inl ⟨by unfold ixL; rw [if_neg h], fun j hj => ?_⟩
    rw [nth_eq hj]
    have := List.not_of_lt_findIdx (p := p) (xs := l) (i := j) (by omega)
    simpa using this
theorem any_of_noL (h : noL p l l.length) : l.any p = false := by
  rw [List.any_eq_false]
  intro x hx
  obtain ⟨j, hj, rfl⟩ := List.getElem_of_mem hx
  rw [← nth_eq hj, h j hj]
  simp
theorem any_of_at (hk : k < l.length) (hc : p (nth l k) = true) : l.any p = true := List.any_eq_true.2 ⟨_, nth_mem hk, hc⟩
theorem any_ixL (p : α → Bool) (l : List α) : l.any p = decide (0 ≤ ixL p l) := by
  rcases ixL_cases p l with ⟨e, h⟩ | ⟨k, hk, e, hc, -⟩
  · rw [e, any_of_noL h]; rfl
  · rw [e, any_of_at hk hc]; simp
theorem ixL_lt (p : α → Bool) (l : List α) : -1 ≤ ixL p l ∧ ixL p l < l.length ∨ ixL p l = -1 := by
  rcases ixL_cases p l with ⟨e, h⟩ | ⟨k, hk, e, hc, -⟩
  · exact Or.inr e
  · exact Or.inl ⟨by omega, by omega⟩
end
/-- What is asked of a closure that is handed to the library: it answers p, for each element that fits, and leaves what was there. -/
def ClosK {α M : Type} (P : Program) (k : Kd α M) (fid : FuncId) (cap : Array Value) (p : α → Bool) (ok : α → Prop) (w : World) : Prop :=
  ∀ (x : α) (V : Value) (W : World), Below w.heap.size w W → k.At W V x → ok x → Calls P fid (#[V] ++ cap) W fun e w' => e = .returned (.bool (p x)) ∧ Below W.heap.size W w'
theorem ClosK.on {α M : Type} {P : Program} {k : Kd α M} {fid : FuncId} {cap : Array Value} {p : α → Bool} {ok : α → Prop} {w w' : World} (h : ClosK P k fid cap p ok w) (hb : Below w.heap.size w w') : ClosK P k fid cap p ok w' := fun x V W hW => h x V W (hb.trans (hW.mono hb.size))
end Go.Proofs.Ytcidfmmeonhkhaa.Row
/- Chapter 11's answers as functions of lists, in the words of kinds; what fits. No conditions. -/
namespace Go.Proofs.Ytcidfmmeonhkhaa.Row
open Go.ChangeShapes Go.WideShapes Go.ChangeAt Go.RowKit Go.Instr
set_option linter.unusedVariables false
set_option maxRecDepth 100000

/-! ### sizes -/
theorem bulkT_K (T : List Kyt) : Ring.bulkT T = bulkK wtKy T := rfl
structure FitT (t : Tpt) : Prop where
  wt : wtTp t ≤ 1200000
  ok : inTp t
structure FitD (x : Dzt) : Prop where
  wt : wtDz x ≤ 1200000
  ok : inDz x
section
variable {t : Tpt} {x : Dzt}
theorem FitT.sum (h : FitT t) : bulkK wtKy t.1 + bulkK wtRl t.2.1 + bulkK wtNn t.2.2.1 + bulkK wtDz t.2.2.2 ≤ 1200000 := h.wt
theorem FitT.keys (h : FitT t) : Ring.bulkT t.1 ≤ 1200000 := by have := h.sum; rw [bulkT_K]; omega
theorem FitT.keyWf (h : FitT t) : ∀ y ∈ t.1, y.1.length ≤ 9223372036854775807 ∧ (∀ s ∈ y.1, s.size ≤ maxLen) ∧ (Lit.int .i64 y.2).wf = true := fun y hy => ⟨(h.ok.1.2 y hy).1.1, (h.ok.1.2 y hy).1.2, (h.ok.1.2 y hy).2⟩
theorem FitT.ruleLen (h : FitT t) : t.2.1.length ≤ 9000000 := by have := h.sum; have := bulkK_len wtRl t.2.1; omega
theorem FitT.ruleWt (h : FitT t) : ∀ y ∈ t.2.1, wtRl y ≤ 9000000 := fun y hy => by have := h.sum; have := bulkK_mem (f := wtRl) hy; omega
theorem FitT.nameLen (h : FitT t) : t.2.2.1.length ≤ 9000000 := by have := h.sum; have := bulkK_len wtNn t.2.2.1; omega
theorem FitT.nameWt (h : FitT t) : ∀ y ∈ t.2.2.1, bulk y ≤ 1200000 := fun y hy => by have := h.sum; have := bulkK_mem (f := wtNn) hy; have : wtNn y = bulk y := rfl; omega
theorem FitT.nameWt9 (h : FitT t) : ∀ y ∈ t.2.2.1, bulk y ≤ 9000000 := fun y hy => Nat.le_trans (h.nameWt y hy) (by decide)
theorem FitT.certLen (h : FitT t) : t.2.2.2.length ≤ 9000000 := by have := h.sum; have := bulkK_len wtDz t.2.2.2; omega
theorem FitT.certs (h : FitT t) : ∀ y ∈ t.2.2.2, FitD y := fun y hy => ⟨by have := h.sum; have := bulkK_mem (f := wtDz) hy; omega, h.ok.2.2.2.2 y hy⟩
theorem FitD.bulk (h : FitD x) : bulkD x ≤ 1200000 := h.wt
theorem FitD.bulk9 (h : FitD x) : bulkD x ≤ 9000000 := Nat.le_trans h.wt (by decide)
theorem FitD.wf (h : FitD x) : WfD x := ⟨h.ok.1.2, h.ok.2.1.2, h.ok.2.2.1.2, h.ok.2.2.2.1, h.ok.2.2.2.2⟩
theorem FitD.bytes (h : FitD x) : x.2.1.length ≤ 1200000 := by have : Row.bulk x.1 + x.2.1.length + Row.bulk x.2.2.1 ≤ 1200000 := h.wt; omega
theorem FitD.key (h : FitD x) : Row.bulk x.2.2.1 ≤ 1200000 := by have : Row.bulk x.1 + x.2.1.length + Row.bulk x.2.2.1 ≤ 1200000 := h.wt; omega
end

/-! ### the answers -/
/-- The list has a key with this name. -/
def hasK (T : List Kyt) (m : List ByteArray) : Bool := decide (0 ≤ Ring.ixT (Ring.isN m) T)
/-- Among valid keys a name has a key just where its secret is not 0. -/
theorem hasK_lk {T : List Kyt} {m : List ByteArray} (h : Ring.validK T = true) : hasK T m = !decide (Ring.lkN T m = 0) := by
  obtain ⟨hv, -, -, -⟩ := Ring.validK_iff.1 h
  unfold hasK
  rcases Ring.ixT_cases (Ring.isN m) T with ⟨e, h1, -⟩ | ⟨i, hi, e, h1, -, -⟩
  · have e2 : Ring.lkN T m = 0 := by unfold Ring.lkN; rw [h1, if_neg (by omega)]
    rw [e, e2]; rfl
  · have e2 : Ring.lkN T m = (nth T i).2 := by unfold Ring.lkN; rw [h1, if_pos hi]
    have h2 := hv (nth T i) (nth_mem hi)
    unfold Ring.vkey at h2
    have h3 : Num.inB (nth T i).2 1 2147483646 = true := by
      revert h2
      cases Num.inB (nth T i).2 1 2147483646 <;> simp
    have h4 : (nth T i).2 ≠ 0 := by
      intro e0
      rw [e0] at h3
      exact absurd h3 (by decide)
    rw [e, e2]
    simp [h4]
def validT (t : Tpt) : Bool := Ring.validK t.1 && validRs t.2.1 && decide (t.2.2.1.length ≤ 8) && decide (t.2.2.2.length ≤ 8) && t.2.2.1.all (hasK t.1) && t.2.2.2.all validD
/-- The packet is a certificate of the name that serves. -/
def certP (T : List Kyt) (n : List ByteArray) (now : Int) (x : Dzt) : Bool := decide (x.1 = n) && decide (now ≤ x.2.2.2.1) && decide (x.2.1 = digK T n) && verD (Ring.lkN T x.2.2.1) x
def findC (t : Tpt) (n : List ByteArray) (now : Int) : Int := if Ring.lkN t.1 n = 0 then -1 else ixL (certP t.1 n now) t.2.2.2
/-- Signed by a key that may. -/
def sigT (t : Tpt) (x : Dzt) : Bool := verD (Ring.lkN t.1 x.2.2.1) x && decide (0 ≤ firstR t.2.1 x.1 x.2.2.1)
/-- The chain of keys, at most k of them. -/
def chainT (t : Tpt) (now : Int) : Nat → Dzt → Option (List Nnt)
  | 0, _ => none
  | k + 1, x => if sigT t x = true then (if anchorT t.2.2.1 x.2.2.1 = true then some [x.2.2.1] else if findC t x.2.2.1 now < 0 then none else (chainT t now k (nth t.2.2.2 (findC t x.2.2.1 now).toNat)).map (x.2.2.1 :: ·)) else none
def chT (t : Tpt) (x : Dzt) (now : Int) : List Nnt := (chainT t now 4 x).getD []
def chOk (t : Tpt) (x : Dzt) (now : Int) : Bool := (chainT t now 4 x).isSome
def trusted (t : Tpt) (x : Dzt) (now : Int) : Bool := chOk t x now && validD x
end Go.Proofs.Ytcidfmmeonhkhaa.Row
/- The program's chapter 10, its first part: ValidRule, ValidRules, FormatRule, EqualRules. No conditions but that lengths fit. -/
namespace Go.Proofs.Ytcidfmmeonhkhaa.Row
open Go.ChangeShapes Go.WideShapes Go.ChangeAt Go.RowKit Go.Instr
set_option linter.unusedVariables false
set_option maxRecDepth 100000

set_option maxHeartbeats 1000000 in
theorem indexS (v : Value) (l : List ByteArray) (s : ByteArray) (w : World) (h : Holds Value.string w v l) (hl : bulk l ≤ 100000000) :
    Calls Try.prog 147 #[v, .string s] w fun e w' => ((hasP l s = true ∧ ∃ k : Nat, e = .returned (.int .i64 k)) ∨ (hasP l s = false ∧ e = .returned (.int .i64 (-1)))) ∧ w = w' := by
  obtain ⟨x, n, cap, rfl, hn, hcap, hh⟩ := h.shapeN
  have hll := bigLen hl
  rw [← hn] at hll
  have HN := Lib.hid hn
  have HH := Lib.hid hh
  clear hn h hh hl
  go_enter Try.func147, Try.ntmps147
  go_wp2
  go_loop [8] (fun iv => ∃ k : Nat, k ≤ n ∧ iv = .int .i64 k ∧ Hid (∀ j, j < k → ¬ nth l j = s)) (fun iv => n - (intOf iv).toNat)
  case atStart => exact ⟨0, Nat.zero_le _, rfl, Lib.hid (fun j hj => absurd hj (by omega))⟩
  case round =>
    obtain ⟨k, hk, rfl, ha⟩ := hrel
    by_cases hlt : k < n
    · have hlen := HN.out
      obtain ⟨b, off, rfl, hd⟩ := HH.out.at (j := k) (by omega)
      by_cases hq : nth l k = s
      · have HE : Hid (hasP l s = true) := Lib.hid (hasP_iff.2 (hq ▸ nth_mem (by omega)))
        have HQ := Lib.hid (tlB_true hq); have HQ2 := Lib.hid (tlB_true hq.symm)
        clear hlen hq
        have hq := HQ.out; have hq2 := HQ2.out
        go_wp2
        go_ret
        exact ⟨Or.inl ⟨HE.out, k, rfl⟩, rfl⟩
      · have HA := Lib.hid (show ∀ j, j < k + 1 → ¬ nth l j = s from fun j hj => by rcases Nat.lt_succ_iff_lt_or_eq.1 hj with h5 | h5; exact ha.out j h5; exact h5 ▸ hq)
        have HQ := Lib.hid (tlB_false hq); have HQ2 := Lib.hid (tlB_false (fun e => hq e.symm))
        clear hlen hq
        have hq := HQ.out; have hq2 := HQ2.out
        go_wp2
        go_round
        case rel => exact ⟨k + 1, by omega, by go_num, HA⟩
        case measure => simp [intOf]; omega
    · obtain rfl : k = n := by omega
      have HE : Hid (hasP l s = false) := Lib.hid (by
        refine hasP_no.2 fun hm => ?_
        obtain ⟨j, hj, e⟩ := List.getElem_of_mem hm
        exact ha.out j (by have := HN.out; omega) (by rw [nth_eq hj]; exact e))
      clear hlt
      go_wp2
      go_ret
      exact ⟨Or.inr ⟨HE.out, rfl⟩, rfl⟩

set_option maxHeartbeats 1000000 in
theorem containsS (v : Value) (l : List ByteArray) (s : ByteArray) (w : World) (z : Bool) (hz : hasP l s = z) (h : Holds Value.string w v l) (hl : bulk l ≤ 100000000) :
    Calls Try.prog 136 #[v, .string s] w fun e w' => e = .returned (.bool z) ∧ w = w' := by
  obtain ⟨x, n, cap, rfl, hn, hcap, hh⟩ := h.shapeN
  have HZ := Lib.hid hz; have HH := Lib.hid hh; have HL := Lib.hid hl
  clear hn h hh hz hl
  go_enter Try.func136, Try.ntmps136
  go_wp2_with fail
  refine (indexS _ l s _ HH.out HL.out).mono ?_
  rintro e w1 ⟨⟨hh, k, rfl⟩ | ⟨hh, rfl⟩, rfl⟩
  · have HE : Hid (z = true) := Lib.hid (HZ.out.symm.trans hh)
    clear hh
    go_wp2
    go_ret
    exact ⟨ret_bool HE.out.symm, rfl⟩
  · have HE : Hid (z = false) := Lib.hid (HZ.out.symm.trans hh)
    clear hh
    go_wp2
    go_ret
    exact ⟨ret_bool HE.out.symm, rfl⟩

theorem iPatV {v : Value} {l : List ByteArray} {w : World} (z : Bool) (hz : validPat l = z) (h : Holds Value.string w v l) (hl : bulk l ≤ 100000000) :
    Calls Try.prog 121 #[.agg #[v]] w fun e w' => e = .returned (.bool z) ∧ Below w.heap.size w w' := hz ▸ implValidPattern v l w h hl
/-- The text s is a letter that does not stand in p. -/
def freeL (p : List ByteArray) (s : ByteArray) : Bool := letterP s && !hasP p s
theorem letters_free (p q : List ByteArray) : lettersIn p q = !(q.any (freeL p)) := by
  unfold lettersIn freeL
  induction q with
  | nil => rfl
  | cons a r ih => rw [List.all_cons, List.any_cons, ih]; cases letterP a <;> cases hasP p a <;> simp
set_option maxHeartbeats 1000000 in
theorem freeClos (s : ByteArray) (g : Nat) (x0 x1 : Option Addr) (n0 c0 n1 c1 : Nat) (p : List ByteArray) (w : World) (z : Bool) (hz : freeL p s = z) (hx : Ret.Blk w g #[.slice x0 n0 c0, .slice x1 n1 c1] 111) (h : Holds Value.string w (.slice x0 n0 c0) p) (hl : bulk p ≤ 100000000) (hs : s.size ≤ 140737488351232) :
    Calls Try.prog 134 #[.string s, .pointer (some ⟨g, 0, none⟩)] w fun e w' => e = .returned (.bool z) ∧ w = w' := by
  have HZ := Lib.hid hz; have HH := Lib.hid h; have HL := Lib.hid hl; have HX := Lib.hid hx
  clear hz h hl hx
  have q0 : w.cell? ⟨g, 0, none⟩ = some (.slice x0 n0 c0) := HX.out.cell 0
  go_enter Try.func134, Try.ntmps134
  go_wp2_with fail
  refine (isVariable s _ hs).mono ?_
  rintro e w1 ⟨rfl, rfl⟩
  cases ha : letterP s with
  | false =>
    have HE : Hid (z = false) := Lib.hid (by rw [← HZ.out]; unfold freeL; rw [ha]; rfl)
    clear ha
    go_wp2_with fail
    go_ret
    exact ⟨ret_bool HE.out.symm, rfl⟩
  | true =>
    obtain ⟨c, hc⟩ : ∃ c, hasP p s = c := ⟨_, rfl⟩
    have HE : Hid (z = !c) := Lib.hid (by rw [← HZ.out]; unfold freeL; rw [ha, hc]; rfl)
    have HC := Lib.hid hc
    clear ha hc
    go_wp2_with fail
    refine (containsS _ p s _ c HC.out HH.out HL.out).mono ?_
    rintro e w1 ⟨rfl, rfl⟩
    cases c <;> (go_wp2_with fail; go_ret; exact ⟨ret_bool HE.out.symm, rfl⟩)

set_option maxHeartbeats 1000000 in
theorem indexFree (v : Value) (q : List ByteArray) (g : Nat) (x0 x1 : Option Addr) (n0 c0 n1 c1 : Nat) (p : List ByteArray) (w : World) (z : Bool) (hz : q.any (freeL p) = z) (hx : Ret.Blk w g #[.slice x0 n0 c0, .slice x1 n1 c1] 111) (h : Holds Value.string w (.slice x0 n0 c0) p) (hq : Holds Value.string w v q) (hl : bulk p ≤ 100000000) (hql : bulk q ≤ 100000000) :
    Calls Try.prog 146 #[v, .func (.func 134) #[] #[.pointer (some ⟨g, 0, none⟩)]] w fun e w' => ((z = true ∧ ∃ k : Nat, e = .returned (.int .i64 k)) ∨ (z = false ∧ e = .returned (.int .i64 (-1)))) ∧ w = w' := by
  obtain ⟨x, n, cap, rfl, hn, hcap, hh⟩ := hq.shapeN
  have hll := bigLen hql
  rw [← hn] at hll
  have HSZ := Lib.hid (fun k (hk : k < q.length) => size_nth hql hk)
  have HN := Lib.hid hn; have HH := Lib.hid hh; have HX := Lib.hid hx; have HP := Lib.hid h; have HL := Lib.hid hl; have HZ := Lib.hid hz
  clear hn h hh hx hl hql hq hz
  go_enter Try.func146, Try.ntmps146
  go_wp2
  go_loop [8] (fun iv => ∃ k : Nat, k ≤ n ∧ iv = .int .i64 k ∧ Hid (∀ j, j < k → freeL p (nth q j) = false)) (fun iv => n - (intOf iv).toNat)
  case atStart => exact ⟨0, Nat.zero_le _, rfl, Lib.hid (fun j hj => absurd hj (by omega))⟩
  case round =>
    obtain ⟨k, hk, rfl, ha⟩ := hrel
    by_cases hlt : k < n
    · have hlen := HN.out
      obtain ⟨b, off, rfl, hd⟩ := HH.out.at (j := k) (by omega)
      have hsz := HSZ.out k (by omega)
      obtain ⟨c, hc⟩ : ∃ c, freeL p (nth q k) = c := ⟨_, rfl⟩
      have HC := Lib.hid hc
      have HCL := Lib.hid (freeClos (nth q k) g x0 x1 n0 c0 n1 c1 p w c hc HX.out HP.out HL.out (by omega))
      clear hlen hc
      go_wp2_with fail
      refine HCL.out.mono ?_
      rintro e w2 ⟨rfl, rfl⟩
      clear hd
      cases c with
      | true =>
        have HE : Hid (z = true) := Lib.hid (HZ.out ▸ List.any_eq_true.2 ⟨_, nth_mem (by have := HN.out; omega), HC.out⟩)
        go_wp2
        go_ret
        exact ⟨Or.inl ⟨HE.out, k, rfl⟩, rfl⟩
      | false =>
        have HA := Lib.hid (show ∀ j, j < k + 1 → freeL p (nth q j) = false from fun j hj => by rcases Nat.lt_succ_iff_lt_or_eq.1 hj with h5 | h5; exact ha.out j h5; exact h5 ▸ HC.out)
        go_wp2
        go_round
        case rel => exact ⟨k + 1, by omega, by go_num, HA⟩
        case measure => simp [intOf]; omega
    · obtain rfl : k = n := by omega
      have HE : Hid (z = false) := Lib.hid (by
        rw [← HZ.out, List.any_eq_false]
        intro s hs
        obtain ⟨j, hj, rfl⟩ := List.getElem_of_mem hs
        rw [← nth_eq hj, ha.out j (by have := HN.out; omega)]
        simp)
      clear hlt
      go_wp2
      go_ret
      exact ⟨Or.inr ⟨HE.out, rfl⟩, rfl⟩

set_option maxHeartbeats 1000000 in
theorem containsFree (v : Value) (q : List ByteArray) (g : Nat) (x0 x1 : Option Addr) (n0 c0 n1 c1 : Nat) (p : List ByteArray) (w : World) (z : Bool) (hz : q.any (freeL p) = z) (hx : Ret.Blk w g #[.slice x0 n0 c0, .slice x1 n1 c1] 111) (h : Holds Value.string w (.slice x0 n0 c0) p) (hq : Holds Value.string w v q) (hl : bulk p ≤ 100000000) (hql : bulk q ≤ 100000000) :
    Calls Try.prog 133 #[v, .func (.func 134) #[] #[.pointer (some ⟨g, 0, none⟩)]] w fun e w' => e = .returned (.bool z) ∧ w = w' := by
  obtain ⟨x, n, cap, rfl, hn, hcap, hh⟩ := hq.shapeN
  have HN := Lib.hid hn; have HH := Lib.hid hh; have HX := Lib.hid hx; have HP := Lib.hid h; have HL := Lib.hid hl; have HQ := Lib.hid hql; have HZ := Lib.hid hz
  clear hn h hh hx hl hql hq hz
  go_enter Try.func133, Try.ntmps133
  go_wp2_with fail
  refine (indexFree _ q g x0 x1 n0 c0 n1 c1 p _ z HZ.out HX.out HP.out HH.out HL.out HQ.out).mono ?_
  rintro e w1 ⟨⟨hh, k, rfl⟩ | ⟨hh, rfl⟩, rfl⟩
  · have HE := Lib.hid hh
    clear hh
    go_wp2
    go_ret
    exact ⟨ret_bool HE.out.symm, rfl⟩
  · have HE := Lib.hid hh
    clear hh
    go_wp2
    go_ret
    exact ⟨ret_bool HE.out.symm, rfl⟩

set_option maxHeartbeats 2000000 in
theorem hasFree (V : Value) (x : Rlt) (w : World) (z : Bool) (hz : lettersIn x.1 x.2 = !z) (h : kRl.At w V x) (hp : wtRl x ≤ 9000000) :
    Calls Try.prog 122 #[V] w fun e w' => e = .returned (.bool z) ∧ Below w.heap.size w w' := by
  obtain ⟨x0, n0, c0, x1, n1, c1, rfl, g0, g1⟩ := kRl_at h
  obtain ⟨p, q⟩ := x
  obtain ⟨p0, p1⟩ := fitR hp
  dsimp only at g0 g1 p0 p1
  obtain ⟨v0, e0, g0⟩ := kN_at g0
  obtain ⟨v1, e1, g1⟩ := kN_at g1
  obtain rfl : v0 = .slice x0 n0 c0 := by injection e0 with e; have := congrArg (fun z : Array Value => z[0]?) e; simpa using this.symm
  obtain rfl : v1 = .slice x1 n1 c1 := by injection e1 with e; have := congrArg (fun z : Array Value => z[0]?) e; simpa using this.symm
  have HB := Lib.hid ((Below.refl w.heap.size w).alloc (Nat.le_refl _) (.cells #[.slice x0 n0 c0, .slice x1 n1 c1] 111))
  have HX := Lib.hid (Ret.Blk.new w #[.slice x0 n0 c0, .slice x1 n1 c1] 111)
  have G0 := Lib.hid g0; have G1 := Lib.hid g1
  have HE : Hid (q.any (freeL p) = z) := Lib.hid (by have := letters_free p q; dsimp only at hz; rw [this] at hz; cases hq : q.any (freeL p) <;> cases z <;> simp [hq] at hz ⊢)
  have hmf : ∀ (fn : Fn) (first cap : Array Value) (w : World), (Instr.makeFunc fn first cap).run Try.prog w = .ok (.func fn first cap) w := fun _ _ _ _ => rfl
  clear h hp hz g0 g1 e0 e1
  go_enter Try.func122, Try.ntmps122
  go_wp2_with fail
  refine (containsFree _ q w.heap.size x0 x1 n0 c0 n1 c1 p _ z HE.out HX.out (G0.out.on HB.out) (G1.out.on HB.out) (by omega) (by omega)).mono ?_
  rintro e w1 ⟨rfl, rfl⟩
  go_wp2_with fail
  go_ret
  exact ⟨rfl, HB.out⟩

set_option maxHeartbeats 4000000 in
theorem implValidRule (V : Value) (x : Rlt) (w : World) (z : Bool) (hz : validR x = z) (h : kRl.At w V x) (hp : wtRl x ≤ 9000000) :
    Calls Try.prog 90 #[V] w fun e w' => e = .returned (.bool z) ∧ Below w.heap.size w w' := by
  have h9 := h; have hp9 := hp
  obtain ⟨x0, n0, c0, x1, n1, c1, rfl, g0, g1⟩ := kRl_at h
  obtain ⟨p, q⟩ := x
  obtain ⟨p0, p1⟩ := fitR hp
  dsimp only at g0 g1 p0 p1
  obtain ⟨v0, e0, g0⟩ := kN_at g0
  obtain ⟨v1, e1, g1⟩ := kN_at g1
  obtain rfl : v0 = .slice x0 n0 c0 := by injection e0 with e; have := congrArg (fun z : Array Value => z[0]?) e; simpa using this.symm
  obtain rfl : v1 = .slice x1 n1 c1 := by injection e1 with e; have := congrArg (fun z : Array Value => z[0]?) e; simpa using this.symm
  have HB := Lib.hid ((Below.refl w.heap.size w).alloc (Nat.le_refl _) (.cells #[.slice x0 n0 c0, .slice x1 n1 c1] 111))
  have HX := Lib.hid (Ret.Blk.new w #[.slice x0 n0 c0, .slice x1 n1 c1] 111)
  have G0 := Lib.hid g0; have G1 := Lib.hid g1; have HZ := Lib.hid hz; have H9 := Lib.hid h9; have HP9 := Lib.hid hp9
  clear h hp hz g0 g1 e0 e1 h9 hp9
  go_enter Try.func90, Try.ntmps90
  go_wp2_with fail
  obtain ⟨a, ha⟩ : ∃ a, validPat p = a := ⟨_, rfl⟩
  have HA := Lib.hid ha; clear ha
  refine (iPatV a HA.out (G0.out.on HB.out) (by omega)).mono ?_
  rintro e w1 ⟨rfl, hb⟩
  replace HX := Lib.hid (HX.out.on hb); replace HB := Lib.hid (HB.out.trans (hb.mono HB.out.size)); clear hb
  have q0 : w1.cell? ⟨w.heap.size, 0, none⟩ = some (.slice x0 n0 c0) := HX.out.cell 0
  have q1 : w1.cell? ⟨w.heap.size, 1, none⟩ = some (.slice x1 n1 c1) := HX.out.cell 1
  cases a with
  | false =>
    have HE : Hid (z = false) := Lib.hid (by rw [← HZ.out]; show (validPat p && validPat q && lettersIn p q) = false; rw [HA.out]; rfl)
    go_wp2_with fail
    go_ret
    exact ⟨ret_bool HE.out.symm, HB.out⟩
  | true =>
    go_wp2_with fail
    clear q0 q1
    obtain ⟨c, hc⟩ : ∃ a, validPat q = a := ⟨_, rfl⟩
    have HC := Lib.hid hc; clear hc
    refine (iPatV c HC.out (G1.out.on HB.out) (by omega)).mono ?_
    rintro e w2 ⟨rfl, hb⟩
    replace HX := Lib.hid (HX.out.on hb); replace HB := Lib.hid (HB.out.trans (hb.mono HB.out.size)); clear hb
    have q0 : w2.cell? ⟨w.heap.size, 0, none⟩ = some (.slice x0 n0 c0) := HX.out.cell 0
    have q1 : w2.cell? ⟨w.heap.size, 1, none⟩ = some (.slice x1 n1 c1) := HX.out.cell 1
    cases c with
    | false =>
      have HE : Hid (z = false) := Lib.hid (by rw [← HZ.out]; show (validPat p && validPat q && lettersIn p q) = false; rw [HA.out, HC.out]; rfl)
      go_wp2_with fail
      go_ret
      exact ⟨ret_bool HE.out.symm, HB.out⟩
    | true =>
      obtain ⟨d, hd⟩ : ∃ a, lettersIn p q = !a := ⟨!lettersIn p q, by simp⟩
      have HE : Hid (z = !d) := Lib.hid (by rw [← HZ.out]; show (validPat p && validPat q && lettersIn p q) = _; rw [HA.out, HC.out, hd]; simp)
      have HD := Lib.hid hd; clear hd
      go_wp2_with fail
      clear q0 q1
      refine (hasFree _ (p, q) _ d HD.out (H9.out.on HB.out) HP9.out).mono ?_
      rintro e w3 ⟨rfl, hb⟩
      replace HB := Lib.hid (HB.out.trans (hb.mono HB.out.size)); clear hb
      cases d <;> (go_wp2_with fail; go_ret; exact ⟨ret_bool HE.out.symm, HB.out⟩)

set_option maxHeartbeats 4000000 in
theorem implValidRules (V : Value) (l : List Rlt) (w : World) (z : Bool) (hz : validRs l = z) (h : kLRl.At w V l) (hl : l.length ≤ 9000000) (hp : ∀ x ∈ l, wtRl x ≤ 9000000) :
    Calls Try.prog 46 #[V] w fun e w' => e = .returned (.bool z) ∧ Below w.heap.size w w' := by
  obtain ⟨ad, n, cap, L, rfl, hn, ht, hh, hel⟩ := kLRl_at h
  have hlen : l.length = n := by rw [← ht, List.length_map]; exact hn.symm
  rw [hlen] at hl
  have HN := Lib.hid hn; have HT := Lib.hid ht; have HH := Lib.hid hh; have HEL := Lib.hid hel; have HP := Lib.hid hp; have HLEN := Lib.hid hlen; have HZ := Lib.hid hz
  clear hn h hh hp ht hel hlen hz
  go_enter Try.func46, Try.ntmps46
  go_wp2
  go_loopw [7] (fun i wr => ∃ k : Nat, k ≤ n ∧ i = .int .i64 k ∧ Hid (∀ j, j < k → validR (nth l j) = true) ∧ Hid (Below w.heap.size w wr)) (fun i _ => n - (intOf i).toNat)
  case atStart => exact ⟨0, Nat.zero_le _, rfl, Lib.hid (fun j hj => absurd hj (by omega)), Lib.hid (Below.refl _ _)⟩
  case round =>
    obtain ⟨k, hk, rfl, ha, hb⟩ := hrel
    by_cases hlt : k < n
    · have hlen := HN.out
      obtain ⟨b, off, x0, n0, c0, x1, n1, c1, rfl, -, hc0, hc1, hA⟩ := kLRl_elem (HH.out.on hb.out) (fun y hy => kRl.holds_on (HEL.out y hy) hb.out) (j := k) (by omega)
      have hpt : nth l k = kRl.strip (nth L k) := by rw [← HT.out, nth_map _ (by omega)]
      have hps := HP.out (nth l k) (nth_mem (by have := HLEN.out; omega))
      rw [← hpt] at hA
      have hal := (Below.refl wr.heap.size wr).alloc (Nat.le_refl _) (.cells #[.slice x0 n0 c0, .slice x1 n1 c1] 111)
      have HA := Lib.hid (hA.on hal); have HPS := Lib.hid hps
      have HBA := Lib.hid (hb.out.trans (hal.mono hb.out.size))
      clear hlen hpt hps hA hal
      go_wp2_with fail
      obtain ⟨a, ha2⟩ : ∃ a, validR (nth l k) = a := ⟨_, rfl⟩
      have HV := Lib.hid ha2; clear ha2
      refine (implValidRule _ (nth l k) _ a HV.out HA.out HPS.out).mono ?_
      rintro e w1 ⟨rfl, hb1⟩
      have HB1 := Lib.hid (HBA.out.trans (hb1.mono HBA.out.size)); clear hb1 hc0 hc1
      cases a with
      | false =>
        have HF : Hid (z = false) := Lib.hid (by
          rw [← HZ.out]
          unfold validRs
          rw [show l.all validR = false from by rw [List.all_eq_false]; exact ⟨nth l k, nth_mem (by have := HLEN.out; omega), by rw [HV.out]; simp⟩]
          rfl)
        go_wp2_with fail
        go_ret
        exact ⟨ret_bool HF.out.symm, HB1.out⟩
      | true =>
        have HM := Lib.hid (show ∀ j, j < k + 1 → validR (nth l j) = true from fun j hj => by rcases Nat.lt_succ_iff_lt_or_eq.1 hj with h5 | h5; exact ha.out j h5; exact h5 ▸ HV.out)
        go_wp2_with fail
        go_roundw
        case rel => exact ⟨k + 1, by omega, by go_num, HM, HB1⟩
        case measure => simp [intOf]; omega
    · obtain rfl : k = n := by omega
      have HF : Hid (z = decide (((k : Nat) : Int) ≤ 8)) := Lib.hid (by
        rw [← HZ.out]
        unfold validRs
        rw [show l.all validR = true from by
          rw [List.all_eq_true]
          intro s hs
          obtain ⟨j, hj, rfl⟩ := List.getElem_of_mem hs
          rw [← nth_eq hj]
          exact ha.out j (by have := HLEN.out; omega), Bool.true_and, HLEN.out]
        exact decide_eq_decide.2 (by omega))
      clear hlt
      go_wp2_with fail
      go_ret
      exact ⟨ret_bool (by rw [HF.out]), hb.out⟩


end Go.Proofs.Ytcidfmmeonhkhaa.Row
