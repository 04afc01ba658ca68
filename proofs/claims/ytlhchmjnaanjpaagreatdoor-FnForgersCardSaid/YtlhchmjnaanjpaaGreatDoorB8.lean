/- Contracts and mathematics, joined: RuleM. No conditions but those that each states. -/
import Derived.WalkKit
import Derived.Deep.RegionHeld3
import Derived.Test.YtlhchmjnaanjpaaGreatDoorB5
import Derived.Test.YtlhchmjnaanjpaaGreatDoorB7
import Derived.Test.YtlhchmjnaanjpaaGreatDoorB6
/- The reference model's chapter 10 (rules): ValidRule, ValidRules, RuleAllows, FirstAllowingRule, Allowed, FormatRule, EqualRules. No conditions but that lengths fit. -/
namespace Go.Proofs.YtlhchmjnaanjpaaGreatDoor.Row
open Go.ChangeShapes Go.WideShapes Go.ChangeAt Go.RowKit Go.Instr
set_option linter.unusedVariables false
set_option maxRecDepth 100000
def hasP (l : List ByteArray) (s : ByteArray) : Bool := l.any fun x => decide (x = s)
theorem hasP_iff {l : List ByteArray} {s : ByteArray} : hasP l s = true ↔ s ∈ l := by
  unfold hasP
  rw [List.any_eq_true]
  constructor
  · rintro ⟨x, hx, e⟩
    rw [← of_decide_eq_true e]; exact hx
  · exact fun h => ⟨s, h, decide_eq_true rfl⟩
theorem hasP_no {l : List ByteArray} {s : ByteArray} : hasP l s = false ↔ ¬ s ∈ l := by rw [← Bool.not_eq_true, hasP_iff]
def lettersIn (p q : List ByteArray) : Bool := q.all fun s => !letterP s || hasP p s
def validR (x : Rlt) : Bool := validPat x.1 && validPat x.2 && lettersIn x.1 x.2
def validRs (l : List Rlt) : Bool := l.all validR && decide (l.length ≤ 8)
def allowsR (x : Rlt) (n b : List ByteArray) : Bool := validR x && mOk x.1 n [] && mOk x.2 b (mOut x.1 n [])
def firstR (l : List Rlt) (n b : List ByteArray) : Int := if l.findIdx (fun x => allowsR x n b) < l.length then (l.findIdx (fun x => allowsR x n b) : Int) else -1
def fmtR (x : Rlt) : ByteArray := fmtS x.1 ++ { data := #[32, 60, 32] } ++ fmtS x.2
theorem tlB_true {a b : ByteArray} (h : a = b) : (a.toList == b.toList) = true := by subst h; simp
theorem tlB_false {a b : ByteArray} (h : ¬ a = b) : (a.toList == b.toList) = false := by
  have := tl_dec a b
  simpa [h] using this
theorem lettersIn_no {p q : List ByteArray} {k : Nat} (hk : k < q.length) (h1 : letterP (nth q k) = true) (h2 : ¬ nth q k ∈ p) : lettersIn p q = false := by
  unfold lettersIn
  rw [List.all_eq_false]
  exact ⟨nth q k, nth_mem hk, by rw [h1, hasP_no.2 h2]; simp⟩
theorem lettersIn_all {p q : List ByteArray} (h : ∀ j, j < q.length → letterP (nth q j) = true → nth q j ∈ p) : lettersIn p q = true := by
  unfold lettersIn
  rw [List.all_eq_true]
  intro s hs
  obtain ⟨j, hj, rfl⟩ := List.getElem_of_mem hs
  have := h j hj
  rw [nth_eq hj] at this
  cases hl : letterP q[j] with
  | false => simp
  | true => rw [hasP_iff.2 (this hl)]; simp
theorem firstR_at {l : List Rlt} {n b : List ByteArray} {k : Nat} (hk : k < l.length) (h : allowsR (nth l k) n b = true) (hb : ∀ j, j < k → allowsR (nth l j) n b = false) : firstR l n b = k := by
  have e : l.findIdx (fun x => allowsR x n b) = k := by
    rw [List.findIdx_eq hk]
    exact ⟨by rw [← nth_eq hk]; exact h, fun j hj => by rw [← nth_eq (by omega)]; exact hb j hj⟩
  unfold firstR
  rw [e, if_pos hk]
theorem firstR_none {l : List Rlt} {n b : List ByteArray} (hb : ∀ j, j < l.length → allowsR (nth l j) n b = false) : firstR l n b = -1 := by
  unfold firstR
  rw [if_neg]
  intro h
  have h1 := List.findIdx_getElem (w := h)
  have h2 := hb _ h
  rw [nth_eq h] at h2
  rw [h2] at h1
  cases h1
theorem fitR {x : Rlt} (h : wtRl x ≤ 9000000) : bulk x.1 ≤ 9000000 ∧ bulk x.2 ≤ 9000000 := by unfold wtRl at h; omega
set_option maxHeartbeats 2000000 in
theorem l10Has (v : Value) (l : List ByteArray) (s : ByteArray) (w : World) (z : Bool) (hz : hasP l s = z) (h : Holds Value.string w v l) (hl : bulk l ≤ 100000000) :
    Calls Tryz.prog 148 #[.agg #[v], .string s] w fun e w' => e = .returned (.bool z) ∧ Below w.heap.size w w' := by
  obtain ⟨x, n, cap, rfl, hn, hcap, hh⟩ := h.shapeN
  have hll := bigLen hl
  rw [← hn] at hll
  have HN := Lib.hid hn
  have HH := Lib.hid hh
  have HZ := Lib.hid hz
  have HB0 := Lib.hid ((Below.refl w.heap.size w).alloc (Nat.le_refl _) (.cells #[.slice x n cap] 129))
  have HC0 := Lib.hid (Ret.Box.new w (.slice x n cap) 129)
  clear hn h hh hl hz
  go_enter Tryz.func148, Tryz.ntmps148
  go_wp2_with fail
  go_loopw [5] (fun i wr => ∃ k : Nat, k ≤ n ∧ i = .int .i64 k ∧ Hid (∀ j, j < k → ¬ nth l j = s) ∧ Hid (Ret.Box wr w.heap.size (.slice x n cap) 129) ∧ Hid (Below w.heap.size w wr)) (fun i _ => n - (intOf i).toNat)
  case atStart => exact ⟨0, Nat.zero_le _, rfl, Lib.hid (fun j hj => absurd hj (by omega)), HC0, HB0⟩
  case round =>
    obtain ⟨k, hk, rfl, ha, hc, hb⟩ := hrel
    have hc1 := hc.out.cell
    by_cases hlt : k < n
    · have hlen := HN.out
      obtain ⟨b, off, rfl, hd⟩ := (HH.out.on hb.out).at (j := k) (by omega)
      by_cases hq : nth l k = s
      · have HE : Hid (z = true) := Lib.hid (by rw [← HZ.out]; exact hasP_iff.2 (hq ▸ nth_mem (by omega)))
        have HQ := Lib.hid (tlB_true hq)
        clear hlen hq
        have hq := HQ.out
        go_wp2_with fail
        go_ret
        exact ⟨ret_bool HE.out.symm, hb.out⟩
      · have HA := Lib.hid (show ∀ j, j < k + 1 → ¬ nth l j = s from fun j hj => by rcases Nat.lt_succ_iff_lt_or_eq.1 hj with h5 | h5; exact ha.out j h5; exact h5 ▸ hq)
        have HQ := Lib.hid (tlB_false hq)
        clear hlen hq
        have hq := HQ.out
        go_wp2_with fail
        go_roundw
        case rel => exact ⟨k + 1, by omega, by go_num, HA, hc, hb⟩
        case measure => simp [intOf]; omega
    · obtain rfl : k = n := by omega
      have HE : Hid (z = false) := Lib.hid (by
        rw [← HZ.out]
        refine hasP_no.2 fun hm => ?_
        obtain ⟨j, hj, e⟩ := List.getElem_of_mem hm
        exact ha.out j (by have := HN.out; omega) (by rw [nth_eq hj]; exact e))
      clear hlt
      go_wp2_with fail
      go_ret
      exact ⟨ret_bool HE.out.symm, hb.out⟩
theorem l5LV {s : ByteArray} {w : World} (z : Bool) (hz : letterP s = z) (hl : s.size ≤ 140737488351232) :
    Calls Tryz.prog 147 #[.string s] w fun e w' => e = .returned (.bool z) ∧ Below w.heap.size w w' := (l5Letter s w hl).mono fun e w' ⟨a, b⟩ => ⟨by rw [a, hz], by subst b; exact Below.refl _ _⟩
theorem vPatV {v : Value} {l : List ByteArray} {w : World} (z : Bool) (hz : validPat l = z) (h : Holds Value.string w v l) (hl : bulk l ≤ 100000000) :
    Calls Tryz.prog 146 #[.agg #[v]] w fun e w' => e = .returned (.bool z) ∧ Below w.heap.size w w' := hz ▸ specValidPattern v l w h hl
set_option maxRecDepth 100000 in
set_option maxHeartbeats 4000000 in
theorem rvl1 {Q : Exit → Act → World → Prop} {v0 v2 v4 v5 v6 v7 v8 v9 v10 v11 v12 v13 v14 v15 v16 v17 v18 v19 v20 v21 v22 v23 v24 v25 v26 v27 v28 v29 v30 v31 v32 v33 v34 v35 v36 v37 v38 v39 v40 : Value} {w : World} {r b off n0 c0 n1 c1 k : Nat} {x0 : Option Addr}  {s : ByteArray} (hk : k < n1) (hsz : s.size ≤ 140737488351232) (HL : Hid (letterP s = false)) (K0 : Hid (w.cell? ⟨r, 0, none⟩ = some (.slice x0 n0 c0))) (K1 : Hid (w.cell? ⟨r, 1, none⟩ = some (.slice (some ⟨b, off, none⟩) n1 c1))) (K2 : Hid (w.cell? ⟨b, off + k, none⟩ = some (.string s)))
  (hQ : ∀ (u22 u23 u24 u25 u26 u27 u28 u29 u30 u31 u32 u33 u34 u35 u36 u37 u38 u39 : Value)  (wx : World), Below w.heap.size w wx → Q .normal ⟨#[v0, .pointer (some ⟨r, 0, none⟩), v2, .int .i64 k, v4, v5, v6, v7, v8, v9, v10, v11, v12, v13, v14, v15, v16, v17, v18, v19, v20, v21, u22, u23, u24, u25, u26, u27, u28, u29, u30, u31, u32, u33, u34, u35, u36, u37, u38, u39, .bool false], []⟩ wx) :
  (Code.region 6 #[⟨some 22, .fieldAddr 131 (.tmp 1) 1, 0, "l10_rule.go:19", #[], none⟩,
   ⟨some 23, .fieldAddr 129 (.tmp 22) 0, 0, "l10_rule.go:19", #[⟨0, .data⟩], none⟩,
   ⟨some 24, .load 30 (.tmp 23), 30, "l10_rule.go:19", #[⟨1, .data⟩], none⟩,
   ⟨some 25, .move (.tmp 3), 3, "l10_rule.go:19", #[], none⟩,
   ⟨some 26, .indexAddr 30 (.tmp 24) (.tmp 25), 0, "l10_rule.go:19", #[⟨2, .data⟩, ⟨3, .data⟩], none⟩,
   ⟨some 27, .load 9 (.tmp 26), 9, "l10_rule.go:19", #[⟨4, .data⟩], none⟩,
   ⟨some 28, .call ⟨.value (.func 147), #[.tmp 27], #[9]⟩, 4, "l10_rule.go:19", #[⟨5, .data⟩], none⟩,
   ⟨some 29, .move (.tmp 28), 4, "l10_rule.go:19", #[⟨6, .data⟩, ⟨6, .chain⟩], none⟩,
   ⟨some 30, .fieldAddr 131 (.tmp 1) 0, 0, "l10_rule.go:19", #[⟨7, .guard⟩], some (7, true)⟩,
   ⟨some 31, .load 129 (.tmp 30), 129, "l10_rule.go:19", #[⟨8, .data⟩, ⟨7, .guard⟩], some (7, true)⟩,
   ⟨some 32, .fieldAddr 131 (.tmp 1) 1, 0, "l10_rule.go:19", #[⟨7, .guard⟩], some (7, true)⟩,
   ⟨some 33, .fieldAddr 129 (.tmp 32) 0, 0, "l10_rule.go:19", #[⟨10, .data⟩, ⟨7, .guard⟩], some (7, true)⟩,
   ⟨some 34, .load 30 (.tmp 33), 30, "l10_rule.go:19", #[⟨11, .data⟩, ⟨7, .guard⟩], some (7, true)⟩,
   ⟨some 35, .move (.tmp 3), 3, "l10_rule.go:19", #[⟨7, .guard⟩], some (7, true)⟩,
   ⟨some 36, .indexAddr 30 (.tmp 34) (.tmp 35), 0, "l10_rule.go:19", #[⟨12, .data⟩, ⟨13, .data⟩, ⟨7, .guard⟩], some (7, true)⟩,
   ⟨some 37, .load 9 (.tmp 36), 9, "l10_rule.go:19", #[⟨14, .data⟩, ⟨7, .guard⟩], some (7, true)⟩,
   ⟨some 38, .call ⟨.value (.func 148), #[.tmp 31, .tmp 37], #[129, 9]⟩, 4, "l10_rule.go:19", #[⟨9, .data⟩, ⟨15, .data⟩, ⟨7, .chain⟩, ⟨7, .guard⟩], some (7, true)⟩,
   ⟨some 39, .unOp UnOp.not 4 (.tmp 38), 4, "l10_rule.go:19", #[⟨16, .data⟩, ⟨7, .guard⟩], some (7, true)⟩,
   ⟨some 40, .pick (.tmp 29) (.tmp 39) (.const (Value.bool false)), 4, "l10_rule.go:19", #[⟨7, .data⟩, ⟨17, .data⟩], none⟩] true).wp Tryz.prog Q ⟨#[v0, .pointer (some ⟨r, 0, none⟩), v2, .int .i64 k, v4, v5, v6, v7, v8, v9, v10, v11, v12, v13, v14, v15, v16, v17, v18, v19, v20, v21, v22, v23, v24, v25, v26, v27, v28, v29, v30, v31, v32, v33, v34, v35, v36, v37, v38, v39, v40], []⟩ w := by
 have HQ := Lib.hid hQ; clear hQ
 have hdr : Below w.heap.size w w.drew := (Below.refl _ _).drew
 have BB := Lib.hid hdr
 refine wp_region_noPanic ?_
 refine wp_region_held_drew (S := (fun w' => w'.cell? ⟨r, 0, none⟩ = some (.slice x0 n0 c0) ∧ w'.cell? ⟨r, 1, none⟩ = some (.slice (some ⟨b, off, none⟩) n1 c1) ∧ w'.cell? ⟨b, off + k, none⟩ = some (.string s))) (by kernel_rfl) ?_ (fun hHeld => ?_)
 ·
  exact ⟨kc K0.out BB.out, kc K1.out BB.out, kc K2.out BB.out⟩
 clear hdr
 generalize w.drew = wd at *
 refine wpAnyH_take (i := 0) (oi := ⟨some 22, .fieldAddr 131 (.tmp 1) 1, 0, "l10_rule.go:19", #[], none⟩) (v := ?_) rfl (by kernel_rfl) (by kernel_rfl) (by kernel_rfl) (fun _ _ _ h => h) (Or.inl ⟨by rfl, ?_⟩) (by assumption) ?_
 rotate_left
 ·
  intro w' hSw; (try dsimp only at hSw); first | (go_simp; done) | (go_simp; with_reducible rfl)
 (try simp only [Act.put, Row.pB0, Row.pB1, Row.pB2])
 refine wpAnyH_take (i := 1) (oi := ⟨some 23, .fieldAddr 129 (.tmp 22) 0, 0, "l10_rule.go:19", #[⟨0, .data⟩], none⟩) (v := ?_) rfl (by kernel_rfl) (by kernel_rfl) (by kernel_rfl) (fun _ _ _ h => h) (Or.inl ⟨by rfl, ?_⟩) (by assumption) ?_
 rotate_left
 ·
  intro w' hSw; (try dsimp only at hSw); first | (go_simp; done) | (go_simp; with_reducible rfl)
 (try simp only [Act.put, Row.pB0, Row.pB1, Row.pB2])
 refine wpAnyH_take (i := 2) (oi := ⟨some 24, .load 30 (.tmp 23), 30, "l10_rule.go:19", #[⟨1, .data⟩], none⟩) (v := ?_) rfl (by kernel_rfl) (by kernel_rfl) (by kernel_rfl) (fun _ _ _ h => h) (Or.inl ⟨by rfl, ?_⟩) (by assumption) ?_
 rotate_left
 ·
  intro w' hSw; (try dsimp only at hSw); first | (go_simp; done) | (go_simp; with_reducible rfl)
 (try simp only [Act.put, Row.pB0, Row.pB1, Row.pB2])
 refine wpAnyH_take (i := 3) (oi := ⟨some 25, .move (.tmp 3), 3, "l10_rule.go:19", #[], none⟩) (v := ?_) rfl (by kernel_rfl) (by kernel_rfl) (by kernel_rfl) (fun _ _ _ h => h) (Or.inl ⟨by rfl, ?_⟩) (by assumption) ?_
 rotate_left
 ·
  intro w' hSw; (try dsimp only at hSw); first | (go_simp; done) | (go_simp; with_reducible rfl)
 (try simp only [Act.put, Row.pB0, Row.pB1, Row.pB2])
 refine wpAnyH_take (i := 4) (oi := ⟨some 26, .indexAddr 30 (.tmp 24) (.tmp 25), 0, "l10_rule.go:19", #[⟨2, .data⟩, ⟨3, .data⟩], none⟩) (v := ?_) rfl (by kernel_rfl) (by kernel_rfl) (by kernel_rfl) (fun _ _ _ h => h) (Or.inl ⟨by rfl, ?_⟩) (by assumption) ?_
 rotate_left
 ·
  intro w' hSw; (try dsimp only at hSw); first | (go_simp; done) | (go_simp; with_reducible rfl)
 (try simp only [Act.put, Row.pB0, Row.pB1, Row.pB2])
 refine wpAnyH_take (i := 5) (oi := ⟨some 27, .load 9 (.tmp 26), 9, "l10_rule.go:19", #[⟨4, .data⟩], none⟩) (v := ?_) rfl (by kernel_rfl) (by kernel_rfl) (by kernel_rfl) (fun _ _ _ h => h) (Or.inl ⟨by rfl, ?_⟩) (by assumption) ?_
 rotate_left
 ·
  intro w' hSw; (try dsimp only at hSw); first | (go_simp; done) | (go_simp; with_reducible rfl)
 (try simp only [Act.put, Row.pB0, Row.pB1, Row.pB2])
 refine wpAnyH_ready (rs := [6]) (by kernel_rfl) (by simp) ?_
 refine AllReadyH.cons (o := ⟨some 28, .call ⟨.value (.func 147), #[.tmp 27], #[9]⟩, 4, "l10_rule.go:19", #[⟨5, .data⟩], none⟩) rfl (fun K hK => ?_) AllReadyH.nil
 go_simp
 refine (l5LV false HL.out hsz).mono ?_
 rintro e wn1 ⟨rfl, hb⟩
 replace BB := Lib.hid (BB.out.trans (hb.mono BB.out.size))
 clear hb
 (try go_wp2_with fail)
 clear hHeld
 refine hK.out _ _ ?_ (fun hHeld => ?_)
 ·
  (try dsimp only); exact ⟨kc K0.out BB.out, kc K1.out BB.out, kc K2.out BB.out⟩
 clear hK K
 (try simp only [Act.put, Row.pB0, Row.pB1, Row.pB2])
 refine wpAnyH_take (i := 7) (oi := ⟨some 29, .move (.tmp 28), 4, "l10_rule.go:19", #[⟨6, .data⟩, ⟨6, .chain⟩], none⟩) (v := ?_) rfl (by kernel_rfl) (by kernel_rfl) (by kernel_rfl) (fun _ _ _ h => h) (Or.inl ⟨by rfl, ?_⟩) (by assumption) ?_
 rotate_left
 ·
  intro w' hSw; (try dsimp only at hSw); first | (go_simp; done) | (go_simp; with_reducible rfl)
 (try simp only [Act.put, Row.pB0, Row.pB1, Row.pB2])
 refine wpAnyH_take (i := 8) (oi := ⟨some 30, .fieldAddr 131 (.tmp 1) 0, 0, "l10_rule.go:19", #[⟨7, .guard⟩], some (7, true)⟩) (v := undef) rfl (by kernel_rfl) (by kernel_rfl) (by kernel_rfl) (fun _ _ _ h => h) (Or.inr ⟨by rfl, rfl⟩) (by assumption) ?_
 (try simp only [Act.put, Row.pB0, Row.pB1, Row.pB2])
 refine wpAnyH_take (i := 9) (oi := ⟨some 31, .load 129 (.tmp 30), 129, "l10_rule.go:19", #[⟨8, .data⟩, ⟨7, .guard⟩], some (7, true)⟩) (v := undef) rfl (by kernel_rfl) (by kernel_rfl) (by kernel_rfl) (fun _ _ _ h => h) (Or.inr ⟨by rfl, rfl⟩) (by assumption) ?_
 (try simp only [Act.put, Row.pB0, Row.pB1, Row.pB2])
 refine wpAnyH_take (i := 10) (oi := ⟨some 32, .fieldAddr 131 (.tmp 1) 1, 0, "l10_rule.go:19", #[⟨7, .guard⟩], some (7, true)⟩) (v := undef) rfl (by kernel_rfl) (by kernel_rfl) (by kernel_rfl) (fun _ _ _ h => h) (Or.inr ⟨by rfl, rfl⟩) (by assumption) ?_
 (try simp only [Act.put, Row.pB0, Row.pB1, Row.pB2])
 refine wpAnyH_take (i := 11) (oi := ⟨some 33, .fieldAddr 129 (.tmp 32) 0, 0, "l10_rule.go:19", #[⟨10, .data⟩, ⟨7, .guard⟩], some (7, true)⟩) (v := undef) rfl (by kernel_rfl) (by kernel_rfl) (by kernel_rfl) (fun _ _ _ h => h) (Or.inr ⟨by rfl, rfl⟩) (by assumption) ?_
 (try simp only [Act.put, Row.pB0, Row.pB1, Row.pB2])
 refine wpAnyH_take (i := 12) (oi := ⟨some 34, .load 30 (.tmp 33), 30, "l10_rule.go:19", #[⟨11, .data⟩, ⟨7, .guard⟩], some (7, true)⟩) (v := undef) rfl (by kernel_rfl) (by kernel_rfl) (by kernel_rfl) (fun _ _ _ h => h) (Or.inr ⟨by rfl, rfl⟩) (by assumption) ?_
 (try simp only [Act.put, Row.pB0, Row.pB1, Row.pB2])
 refine wpAnyH_take (i := 13) (oi := ⟨some 35, .move (.tmp 3), 3, "l10_rule.go:19", #[⟨7, .guard⟩], some (7, true)⟩) (v := undef) rfl (by kernel_rfl) (by kernel_rfl) (by kernel_rfl) (fun _ _ _ h => h) (Or.inr ⟨by rfl, rfl⟩) (by assumption) ?_
 (try simp only [Act.put, Row.pB0, Row.pB1, Row.pB2])
 refine wpAnyH_take (i := 14) (oi := ⟨some 36, .indexAddr 30 (.tmp 34) (.tmp 35), 0, "l10_rule.go:19", #[⟨12, .data⟩, ⟨13, .data⟩, ⟨7, .guard⟩], some (7, true)⟩) (v := undef) rfl (by kernel_rfl) (by kernel_rfl) (by kernel_rfl) (fun _ _ _ h => h) (Or.inr ⟨by rfl, rfl⟩) (by assumption) ?_
 (try simp only [Act.put, Row.pB0, Row.pB1, Row.pB2])
 refine wpAnyH_take (i := 15) (oi := ⟨some 37, .load 9 (.tmp 36), 9, "l10_rule.go:19", #[⟨14, .data⟩, ⟨7, .guard⟩], some (7, true)⟩) (v := undef) rfl (by kernel_rfl) (by kernel_rfl) (by kernel_rfl) (fun _ _ _ h => h) (Or.inr ⟨by rfl, rfl⟩) (by assumption) ?_
 (try simp only [Act.put, Row.pB0, Row.pB1, Row.pB2])
 refine wpAnyH_take (i := 16) (oi := ⟨some 38, .call ⟨.value (.func 148), #[.tmp 31, .tmp 37], #[129, 9]⟩, 4, "l10_rule.go:19", #[⟨9, .data⟩, ⟨15, .data⟩, ⟨7, .chain⟩, ⟨7, .guard⟩], some (7, true)⟩) (v := undef) rfl (by kernel_rfl) (by kernel_rfl) (by kernel_rfl) (fun _ _ _ h => h) (Or.inr ⟨by rfl, rfl⟩) (by assumption) ?_
 (try simp only [Act.put, Row.pB0, Row.pB1, Row.pB2])
 refine wpAnyH_take (i := 17) (oi := ⟨some 39, .unOp UnOp.not 4 (.tmp 38), 4, "l10_rule.go:19", #[⟨16, .data⟩, ⟨7, .guard⟩], some (7, true)⟩) (v := undef) rfl (by kernel_rfl) (by kernel_rfl) (by kernel_rfl) (fun _ _ _ h => h) (Or.inr ⟨by rfl, rfl⟩) (by assumption) ?_
 (try simp only [Act.put, Row.pB0, Row.pB1, Row.pB2])
 refine wpAnyH_take (i := 18) (oi := ⟨some 40, .pick (.tmp 29) (.tmp 39) (.const (Value.bool false)), 4, "l10_rule.go:19", #[⟨7, .data⟩, ⟨17, .data⟩], none⟩) (v := ?_) rfl (by kernel_rfl) (by kernel_rfl) (by kernel_rfl) (fun _ _ _ h => h) (Or.inl ⟨by rfl, ?_⟩) (by assumption) ?_
 rotate_left
 ·
  intro w' hSw; (try dsimp only at hSw); first | (go_simp; done) | (go_simp; with_reducible rfl)
 (try simp only [Act.put, Row.pB0, Row.pB1, Row.pB2])
 refine wpAnyH_done (by kernel_rfl) ?_ _
 exact NoPanic.normal (HQ.out _ _ _ _ _ _ _ _ _ _ _ _ _ _ _ _ _ _  _  BB.out)
set_option maxRecDepth 100000 in
set_option maxHeartbeats 4000000 in
theorem rvl2 {Q : Exit → Act → World → Prop} {v0 v2 v4 v5 v6 v7 v8 v9 v10 v11 v12 v13 v14 v15 v16 v17 v18 v19 v20 v21 v22 v23 v24 v25 v26 v27 v28 v29 v30 v31 v32 v33 v34 v35 v36 v37 v38 v39 v40 : Value} {w : World} {r b off n0 c0 n1 c1 k : Nat} {x0 : Option Addr} {p : List ByteArray} {s : ByteArray} (hk : k < n1) (hsz : s.size ≤ 140737488351232) {z : Bool} (HL : Hid (letterP s = true)) (H_p : Hid (Holds Value.string w (.slice x0 n0 c0) p)) (HP : Hid (bulk p ≤ 100000000)) (HZ : Hid (hasP p s = z)) (K0 : Hid (w.cell? ⟨r, 0, none⟩ = some (.slice x0 n0 c0))) (K1 : Hid (w.cell? ⟨r, 1, none⟩ = some (.slice (some ⟨b, off, none⟩) n1 c1))) (K2 : Hid (w.cell? ⟨b, off + k, none⟩ = some (.string s)))
  (hQ : ∀ (u22 u23 u24 u25 u26 u27 u28 u29 u30 u31 u32 u33 u34 u35 u36 u37 u38 u39 : Value)  (wx : World), Below w.heap.size w wx → Q .normal ⟨#[v0, .pointer (some ⟨r, 0, none⟩), v2, .int .i64 k, v4, v5, v6, v7, v8, v9, v10, v11, v12, v13, v14, v15, v16, v17, v18, v19, v20, v21, u22, u23, u24, u25, u26, u27, u28, u29, u30, u31, u32, u33, u34, u35, u36, u37, u38, u39, .bool (!z)], []⟩ wx) :
  (Code.region 6 #[⟨some 22, .fieldAddr 131 (.tmp 1) 1, 0, "l10_rule.go:19", #[], none⟩,
   ⟨some 23, .fieldAddr 129 (.tmp 22) 0, 0, "l10_rule.go:19", #[⟨0, .data⟩], none⟩,
   ⟨some 24, .load 30 (.tmp 23), 30, "l10_rule.go:19", #[⟨1, .data⟩], none⟩,
   ⟨some 25, .move (.tmp 3), 3, "l10_rule.go:19", #[], none⟩,
   ⟨some 26, .indexAddr 30 (.tmp 24) (.tmp 25), 0, "l10_rule.go:19", #[⟨2, .data⟩, ⟨3, .data⟩], none⟩,
   ⟨some 27, .load 9 (.tmp 26), 9, "l10_rule.go:19", #[⟨4, .data⟩], none⟩,
   ⟨some 28, .call ⟨.value (.func 147), #[.tmp 27], #[9]⟩, 4, "l10_rule.go:19", #[⟨5, .data⟩], none⟩,
   ⟨some 29, .move (.tmp 28), 4, "l10_rule.go:19", #[⟨6, .data⟩, ⟨6, .chain⟩], none⟩,
   ⟨some 30, .fieldAddr 131 (.tmp 1) 0, 0, "l10_rule.go:19", #[⟨7, .guard⟩], some (7, true)⟩,
   ⟨some 31, .load 129 (.tmp 30), 129, "l10_rule.go:19", #[⟨8, .data⟩, ⟨7, .guard⟩], some (7, true)⟩,
   ⟨some 32, .fieldAddr 131 (.tmp 1) 1, 0, "l10_rule.go:19", #[⟨7, .guard⟩], some (7, true)⟩,
   ⟨some 33, .fieldAddr 129 (.tmp 32) 0, 0, "l10_rule.go:19", #[⟨10, .data⟩, ⟨7, .guard⟩], some (7, true)⟩,
   ⟨some 34, .load 30 (.tmp 33), 30, "l10_rule.go:19", #[⟨11, .data⟩, ⟨7, .guard⟩], some (7, true)⟩,
   ⟨some 35, .move (.tmp 3), 3, "l10_rule.go:19", #[⟨7, .guard⟩], some (7, true)⟩,
   ⟨some 36, .indexAddr 30 (.tmp 34) (.tmp 35), 0, "l10_rule.go:19", #[⟨12, .data⟩, ⟨13, .data⟩, ⟨7, .guard⟩], some (7, true)⟩,
   ⟨some 37, .load 9 (.tmp 36), 9, "l10_rule.go:19", #[⟨14, .data⟩, ⟨7, .guard⟩], some (7, true)⟩,
   ⟨some 38, .call ⟨.value (.func 148), #[.tmp 31, .tmp 37], #[129, 9]⟩, 4, "l10_rule.go:19", #[⟨9, .data⟩, ⟨15, .data⟩, ⟨7, .chain⟩, ⟨7, .guard⟩], some (7, true)⟩,
   ⟨some 39, .unOp UnOp.not 4 (.tmp 38), 4, "l10_rule.go:19", #[⟨16, .data⟩, ⟨7, .guard⟩], some (7, true)⟩,
   ⟨some 40, .pick (.tmp 29) (.tmp 39) (.const (Value.bool false)), 4, "l10_rule.go:19", #[⟨7, .data⟩, ⟨17, .data⟩], none⟩] true).wp Tryz.prog Q ⟨#[v0, .pointer (some ⟨r, 0, none⟩), v2, .int .i64 k, v4, v5, v6, v7, v8, v9, v10, v11, v12, v13, v14, v15, v16, v17, v18, v19, v20, v21, v22, v23, v24, v25, v26, v27, v28, v29, v30, v31, v32, v33, v34, v35, v36, v37, v38, v39, v40], []⟩ w := by
 have HQ := Lib.hid hQ; clear hQ
 have hdr : Below w.heap.size w w.drew := (Below.refl _ _).drew
 have BB := Lib.hid hdr
 refine wp_region_noPanic ?_
 refine wp_region_held_drew (S := (fun w' => w'.cell? ⟨r, 0, none⟩ = some (.slice x0 n0 c0) ∧ w'.cell? ⟨r, 1, none⟩ = some (.slice (some ⟨b, off, none⟩) n1 c1) ∧ w'.cell? ⟨b, off + k, none⟩ = some (.string s))) (by kernel_rfl) ?_ (fun hHeld => ?_)
 ·
  exact ⟨kc K0.out BB.out, kc K1.out BB.out, kc K2.out BB.out⟩
 clear hdr
 generalize w.drew = wd at *
 refine wpAnyH_take (i := 0) (oi := ⟨some 22, .fieldAddr 131 (.tmp 1) 1, 0, "l10_rule.go:19", #[], none⟩) (v := ?_) rfl (by kernel_rfl) (by kernel_rfl) (by kernel_rfl) (fun _ _ _ h => h) (Or.inl ⟨by rfl, ?_⟩) (by assumption) ?_
 rotate_left
 ·
  intro w' hSw; (try dsimp only at hSw); first | (go_simp; done) | (go_simp; with_reducible rfl)
 (try simp only [Act.put, Row.pB0, Row.pB1, Row.pB2])
 refine wpAnyH_take (i := 1) (oi := ⟨some 23, .fieldAddr 129 (.tmp 22) 0, 0, "l10_rule.go:19", #[⟨0, .data⟩], none⟩) (v := ?_) rfl (by kernel_rfl) (by kernel_rfl) (by kernel_rfl) (fun _ _ _ h => h) (Or.inl ⟨by rfl, ?_⟩) (by assumption) ?_
 rotate_left
 ·
  intro w' hSw; (try dsimp only at hSw); first | (go_simp; done) | (go_simp; with_reducible rfl)
 (try simp only [Act.put, Row.pB0, Row.pB1, Row.pB2])
 refine wpAnyH_take (i := 2) (oi := ⟨some 24, .load 30 (.tmp 23), 30, "l10_rule.go:19", #[⟨1, .data⟩], none⟩) (v := ?_) rfl (by kernel_rfl) (by kernel_rfl) (by kernel_rfl) (fun _ _ _ h => h) (Or.inl ⟨by rfl, ?_⟩) (by assumption) ?_
 rotate_left
 ·
  intro w' hSw; (try dsimp only at hSw); first | (go_simp; done) | (go_simp; with_reducible rfl)
 (try simp only [Act.put, Row.pB0, Row.pB1, Row.pB2])
 refine wpAnyH_take (i := 3) (oi := ⟨some 25, .move (.tmp 3), 3, "l10_rule.go:19", #[], none⟩) (v := ?_) rfl (by kernel_rfl) (by kernel_rfl) (by kernel_rfl) (fun _ _ _ h => h) (Or.inl ⟨by rfl, ?_⟩) (by assumption) ?_
 rotate_left
 ·
  intro w' hSw; (try dsimp only at hSw); first | (go_simp; done) | (go_simp; with_reducible rfl)
 (try simp only [Act.put, Row.pB0, Row.pB1, Row.pB2])
 refine wpAnyH_take (i := 4) (oi := ⟨some 26, .indexAddr 30 (.tmp 24) (.tmp 25), 0, "l10_rule.go:19", #[⟨2, .data⟩, ⟨3, .data⟩], none⟩) (v := ?_) rfl (by kernel_rfl) (by kernel_rfl) (by kernel_rfl) (fun _ _ _ h => h) (Or.inl ⟨by rfl, ?_⟩) (by assumption) ?_
 rotate_left
 ·
  intro w' hSw; (try dsimp only at hSw); first | (go_simp; done) | (go_simp; with_reducible rfl)
 (try simp only [Act.put, Row.pB0, Row.pB1, Row.pB2])
 refine wpAnyH_take (i := 5) (oi := ⟨some 27, .load 9 (.tmp 26), 9, "l10_rule.go:19", #[⟨4, .data⟩], none⟩) (v := ?_) rfl (by kernel_rfl) (by kernel_rfl) (by kernel_rfl) (fun _ _ _ h => h) (Or.inl ⟨by rfl, ?_⟩) (by assumption) ?_
 rotate_left
 ·
  intro w' hSw; (try dsimp only at hSw); first | (go_simp; done) | (go_simp; with_reducible rfl)
 (try simp only [Act.put, Row.pB0, Row.pB1, Row.pB2])
 refine wpAnyH_ready (rs := [6]) (by kernel_rfl) (by simp) ?_
 refine AllReadyH.cons (o := ⟨some 28, .call ⟨.value (.func 147), #[.tmp 27], #[9]⟩, 4, "l10_rule.go:19", #[⟨5, .data⟩], none⟩) rfl (fun K hK => ?_) AllReadyH.nil
 go_simp
 refine (l5LV true HL.out hsz).mono ?_
 rintro e wn1 ⟨rfl, hb⟩
 replace BB := Lib.hid (BB.out.trans (hb.mono BB.out.size))
 clear hb
 (try go_wp2_with fail)
 clear hHeld
 refine hK.out _ _ ?_ (fun hHeld => ?_)
 ·
  (try dsimp only); exact ⟨kc K0.out BB.out, kc K1.out BB.out, kc K2.out BB.out⟩
 clear hK K
 (try simp only [Act.put, Row.pB0, Row.pB1, Row.pB2])
 refine wpAnyH_take (i := 7) (oi := ⟨some 29, .move (.tmp 28), 4, "l10_rule.go:19", #[⟨6, .data⟩, ⟨6, .chain⟩], none⟩) (v := ?_) rfl (by kernel_rfl) (by kernel_rfl) (by kernel_rfl) (fun _ _ _ h => h) (Or.inl ⟨by rfl, ?_⟩) (by assumption) ?_
 rotate_left
 ·
  intro w' hSw; (try dsimp only at hSw); first | (go_simp; done) | (go_simp; with_reducible rfl)
 (try simp only [Act.put, Row.pB0, Row.pB1, Row.pB2])
 refine wpAnyH_take (i := 8) (oi := ⟨some 30, .fieldAddr 131 (.tmp 1) 0, 0, "l10_rule.go:19", #[⟨7, .guard⟩], some (7, true)⟩) (v := ?_) rfl (by kernel_rfl) (by kernel_rfl) (by kernel_rfl) (fun _ _ _ h => h) (Or.inl ⟨by rfl, ?_⟩) (by assumption) ?_
 rotate_left
 ·
  intro w' hSw; (try dsimp only at hSw); first | (go_simp; done) | (go_simp; with_reducible rfl)
 (try simp only [Act.put, Row.pB0, Row.pB1, Row.pB2])
 refine wpAnyH_take (i := 9) (oi := ⟨some 31, .load 129 (.tmp 30), 129, "l10_rule.go:19", #[⟨8, .data⟩, ⟨7, .guard⟩], some (7, true)⟩) (v := ?_) rfl (by kernel_rfl) (by kernel_rfl) (by kernel_rfl) (fun _ _ _ h => h) (Or.inl ⟨by rfl, ?_⟩) (by assumption) ?_
 rotate_left
 ·
  intro w' hSw; (try dsimp only at hSw); first | (go_simp; done) | (go_simp; with_reducible rfl)
 (try simp only [Act.put, Row.pB0, Row.pB1, Row.pB2])
 refine wpAnyH_take (i := 10) (oi := ⟨some 32, .fieldAddr 131 (.tmp 1) 1, 0, "l10_rule.go:19", #[⟨7, .guard⟩], some (7, true)⟩) (v := ?_) rfl (by kernel_rfl) (by kernel_rfl) (by kernel_rfl) (fun _ _ _ h => h) (Or.inl ⟨by rfl, ?_⟩) (by assumption) ?_
 rotate_left
 ·
  intro w' hSw; (try dsimp only at hSw); first | (go_simp; done) | (go_simp; with_reducible rfl)
 (try simp only [Act.put, Row.pB0, Row.pB1, Row.pB2])
 refine wpAnyH_take (i := 11) (oi := ⟨some 33, .fieldAddr 129 (.tmp 32) 0, 0, "l10_rule.go:19", #[⟨10, .data⟩, ⟨7, .guard⟩], some (7, true)⟩) (v := ?_) rfl (by kernel_rfl) (by kernel_rfl) (by kernel_rfl) (fun _ _ _ h => h) (Or.inl ⟨by rfl, ?_⟩) (by assumption) ?_
 rotate_left
 ·
  intro w' hSw; (try dsimp only at hSw); first | (go_simp; done) | (go_simp; with_reducible rfl)
 (try simp only [Act.put, Row.pB0, Row.pB1, Row.pB2])
 refine wpAnyH_take (i := 12) (oi := ⟨some 34, .load 30 (.tmp 33), 30, "l10_rule.go:19", #[⟨11, .data⟩, ⟨7, .guard⟩], some (7, true)⟩) (v := ?_) rfl (by kernel_rfl) (by kernel_rfl) (by kernel_rfl) (fun _ _ _ h => h) (Or.inl ⟨by rfl, ?_⟩) (by assumption) ?_
 rotate_left
 ·
  intro w' hSw; (try dsimp only at hSw); first | (go_simp; done) | (go_simp; with_reducible rfl)
 (try simp only [Act.put, Row.pB0, Row.pB1, Row.pB2])
 refine wpAnyH_take (i := 13) (oi := ⟨some 35, .move (.tmp 3), 3, "l10_rule.go:19", #[⟨7, .guard⟩], some (7, true)⟩) (v := ?_) rfl (by kernel_rfl) (by kernel_rfl) (by kernel_rfl) (fun _ _ _ h => h) (Or.inl ⟨by rfl, ?_⟩) (by assumption) ?_
 rotate_left
 ·
  intro w' hSw; (try dsimp only at hSw); first | (go_simp; done) | (go_simp; with_reducible rfl)
 (try simp only [Act.put, Row.pB0, Row.pB1, Row.pB2])
 refine wpAnyH_take (i := 14) (oi := ⟨some 36, .indexAddr 30 (.tmp 34) (.tmp 35), 0, "l10_rule.go:19", #[⟨12, .data⟩, ⟨13, .data⟩, ⟨7, .guard⟩], some (7, true)⟩) (v := ?_) rfl (by kernel_rfl) (by kernel_rfl) (by kernel_rfl) (fun _ _ _ h => h) (Or.inl ⟨by rfl, ?_⟩) (by assumption) ?_
 rotate_left
 ·
  intro w' hSw; (try dsimp only at hSw); first | (go_simp; done) | (go_simp; with_reducible rfl)
 (try simp only [Act.put, Row.pB0, Row.pB1, Row.pB2])
 refine wpAnyH_take (i := 15) (oi := ⟨some 37, .load 9 (.tmp 36), 9, "l10_rule.go:19", #[⟨14, .data⟩, ⟨7, .guard⟩], some (7, true)⟩) (v := ?_) rfl (by kernel_rfl) (by kernel_rfl) (by kernel_rfl) (fun _ _ _ h => h) (Or.inl ⟨by rfl, ?_⟩) (by assumption) ?_
 rotate_left
 ·
  intro w' hSw; (try dsimp only at hSw); first | (go_simp; done) | (go_simp; with_reducible rfl)
 (try simp only [Act.put, Row.pB0, Row.pB1, Row.pB2])
 refine wpAnyH_ready (rs := [16]) (by kernel_rfl) (by simp) ?_
 refine AllReadyH.cons (o := ⟨some 38, .call ⟨.value (.func 148), #[.tmp 31, .tmp 37], #[129, 9]⟩, 4, "l10_rule.go:19", #[⟨9, .data⟩, ⟨15, .data⟩, ⟨7, .chain⟩, ⟨7, .guard⟩], some (7, true)⟩) rfl (fun K hK => ?_) AllReadyH.nil
 go_simp
 refine (l10Has _ p s _ z HZ.out (H_p.out.on BB.out) HP.out).mono ?_
 rintro e wn2 ⟨rfl, hb⟩
 replace BB := Lib.hid (BB.out.trans (hb.mono BB.out.size))
 clear hb
 (try go_wp2_with fail)
 clear hHeld
 refine hK.out _ _ ?_ (fun hHeld => ?_)
 ·
  (try dsimp only); exact ⟨kc K0.out BB.out, kc K1.out BB.out, kc K2.out BB.out⟩
 clear hK K
 (try simp only [Act.put, Row.pB0, Row.pB1, Row.pB2])
 refine wpAnyH_take (i := 17) (oi := ⟨some 39, .unOp UnOp.not 4 (.tmp 38), 4, "l10_rule.go:19", #[⟨16, .data⟩, ⟨7, .guard⟩], some (7, true)⟩) (v := ?_) rfl (by kernel_rfl) (by kernel_rfl) (by kernel_rfl) (fun _ _ _ h => h) (Or.inl ⟨by rfl, ?_⟩) (by assumption) ?_
 rotate_left
 ·
  intro w' hSw; (try dsimp only at hSw); first | (go_simp; done) | (go_simp; with_reducible rfl)
 (try simp only [Act.put, Row.pB0, Row.pB1, Row.pB2])
 refine wpAnyH_take (i := 18) (oi := ⟨some 40, .pick (.tmp 29) (.tmp 39) (.const (Value.bool false)), 4, "l10_rule.go:19", #[⟨7, .data⟩, ⟨17, .data⟩], none⟩) (v := ?_) rfl (by kernel_rfl) (by kernel_rfl) (by kernel_rfl) (fun _ _ _ h => h) (Or.inl ⟨by rfl, ?_⟩) (by assumption) ?_
 rotate_left
 ·
  intro w' hSw; (try dsimp only at hSw); first | (go_simp; done) | (go_simp; with_reducible rfl)
 (try simp only [Act.put, Row.pB0, Row.pB1, Row.pB2])
 refine wpAnyH_done (by kernel_rfl) ?_ _
 exact NoPanic.normal (HQ.out _ _ _ _ _ _ _ _ _ _ _ _ _ _ _ _ _ _  _  BB.out)
set_option maxHeartbeats 4000000 in
theorem specValidRule (V : Value) (x : Rlt) (w : World) (z : Bool) (hz : validR x = z) (h : kRl.At w V x) (hp : wtRl x ≤ 9000000) :
    Calls Tryz.prog 109 #[V] w fun e w' => e = .returned (.bool z) ∧ Below w.heap.size w w' := by
  obtain ⟨x0, n0, c0, x1, n1, c1, rfl, g0, g1⟩ := kRl_at h
  obtain ⟨p, q⟩ := x
  obtain ⟨p0, p1⟩ := fitR hp
  dsimp only at g0 g1 p0 p1
  obtain ⟨v0, e0, g0⟩ := kN_at g0
  obtain ⟨v1, e1, g1⟩ := kN_at g1
  obtain rfl : v0 = .slice x0 n0 c0 := by injection e0 with e; have := congrArg (fun z : Array Value => z[0]?) e; simpa using this.symm
  obtain rfl : v1 = .slice x1 n1 c1 := by injection e1 with e; have := congrArg (fun z : Array Value => z[0]?) e; simpa using this.symm
  have hn1 : n1 = q.length := g1.lenEq
  have hq9 := bigLen (Nat.le_trans p1 (by decide : 9000000 ≤ 100000000))
  have HSZ := Lib.hid (fun k (hk : k < q.length) => size_nth (Nat.le_trans p1 (by decide : 9000000 ≤ 100000000)) hk)
  have HB := Lib.hid ((Below.refl w.heap.size w).alloc (Nat.le_refl _) (.cells #[.slice x0 n0 c0, .slice x1 n1 c1] 131))
  have HX := Lib.hid (Ret.Blk.new w #[.slice x0 n0 c0, .slice x1 n1 c1] 131)
  have G0 := Lib.hid g0; have G1 := Lib.hid g1; have HZ := Lib.hid hz; have HN := Lib.hid hn1
  rw [← hn1] at hq9
  clear h hp hz g0 g1 e0 e1 hn1
  go_enter Tryz.func109, Tryz.ntmps109
  go_wp2_with fail
  obtain ⟨a, ha⟩ : ∃ a, validPat p = a := ⟨_, rfl⟩
  have HA := Lib.hid ha; clear ha
  refine (vPatV a HA.out (G0.out.on HB.out) (by omega)).mono ?_
  rintro e w1 ⟨rfl, hb⟩
  replace HX := Lib.hid (HX.out.on hb); replace HB := Lib.hid (HB.out.trans (hb.mono HB.out.size)); clear hb
  have q0 : w1.cell? ⟨w.heap.size, 0, none⟩ = some (.slice x0 n0 c0) := HX.out.cell 0
  have q1 : w1.cell? ⟨w.heap.size, 1, none⟩ = some (.slice x1 n1 c1) := HX.out.cell 1
  cases a with
  | false =>
    have HE : Hid (z = false) := Lib.hid (by rw [← HZ.out]; show (validPat p && validPat q && lettersIn p q) = false; rw [HA.out]; rfl)
    go_wp2_with fail
    go_ret
    exact ⟨ret_bool HE.out.symm, HB.out⟩
  | true =>
    go_wp2_with fail
    clear q0 q1
    obtain ⟨c, hc⟩ : ∃ a, validPat q = a := ⟨_, rfl⟩
    have HC := Lib.hid hc; clear hc
    refine (vPatV c HC.out (G1.out.on HB.out) (by omega)).mono ?_
    rintro e w2 ⟨rfl, hb⟩
    replace HX := Lib.hid (HX.out.on hb); replace HB := Lib.hid (HB.out.trans (hb.mono HB.out.size)); clear hb
    cases c with
    | false =>
      have HE : Hid (z = false) := Lib.hid (by rw [← HZ.out]; show (validPat p && validPat q && lettersIn p q) = false; rw [HA.out, HC.out]; rfl)
      go_wp2_with fail
      go_ret
      exact ⟨ret_bool HE.out.symm, HB.out⟩
    | true =>
      have HE : Hid (z = lettersIn p q) := Lib.hid (by rw [← HZ.out]; show (validPat p && validPat q && lettersIn p q) = _; rw [HA.out, HC.out]; rfl)
      go_wp2_with fail
      go_loopw [3] (fun i wr => ∃ k : Nat, k ≤ n1 ∧ i = .int .i64 k ∧ Hid (∀ j, j < k → letterP (nth q j) = true → nth q j ∈ p) ∧ Hid (Ret.Blk wr w.heap.size #[.slice x0 n0 c0, .slice x1 n1 c1] 131) ∧ Hid (Below w.heap.size w wr)) (fun i _ => n1 - (intOf i).toNat)
      case atStart => exact ⟨0, Nat.zero_le _, rfl, Lib.hid (fun j hj => absurd hj (by omega)), HX, HB⟩
      case round =>
        obtain ⟨k, hk, rfl, ha, hx, hb⟩ := hrel
        have q0 : wr.cell? ⟨w.heap.size, 0, none⟩ = some (.slice x0 n0 c0) := hx.out.cell 0
        have q1 : wr.cell? ⟨w.heap.size, 1, none⟩ = some (.slice x1 n1 c1) := hx.out.cell 1
        by_cases hlt : k < n1
        · have hlen := HN.out
          obtain ⟨b, off, rfl, hd⟩ := (G1.out.on hb.out).at (j := k) (by omega)
          have hsz := HSZ.out k (by omega)
          have HQ0 := Lib.hid q0; have HQ1 := Lib.hid q1; have HD := Lib.hid hd
          clear hlen
          go_wp2_with fail
          clear q0 q1 hd
          by_cases hl : letterP (nth q k) = true
          · obtain ⟨c, hc⟩ : ∃ a, hasP p (nth q k) = a := ⟨_, rfl⟩
            have HC2 := Lib.hid hc
            have HL := Lib.hid hl
            clear hl hc
            refine rvl2 hlt (by omega) HL (Lib.hid (G0.out.on hb.out)) (Lib.hid (by omega)) HC2 HQ0 HQ1 HD ?_
            intro u22 u23 u24 u25 u26 u27 u28 u29 u30 u31 u32 u33 u34 u35 u36 u37 u38 u39 wx hb1
            replace hx := Lib.hid (hx.out.on hb1); replace hb := Lib.hid (hb.out.trans (hb1.mono hb.out.size)); clear hb1
            cases c with
            | false =>
              have HF : Hid (z = false) := Lib.hid (by rw [HE.out]; exact lettersIn_no (by have := HN.out; omega) HL.out (hasP_no.1 HC2.out))
              go_wp2_with fail
              go_ret
              exact ⟨ret_bool HF.out.symm, hb.out⟩
            | true =>
              have HM := Lib.hid (show ∀ j, j < k + 1 → letterP (nth q j) = true → nth q j ∈ p from fun j hj => by rcases Nat.lt_succ_iff_lt_or_eq.1 hj with h5 | h5; exact ha.out j h5; exact fun _ => h5 ▸ hasP_iff.1 HC2.out)
              go_wp2_with fail
              go_roundw
              case rel => exact ⟨k + 1, by omega, by go_num, HM, hx, hb⟩
              case measure => simp [intOf]; omega
          · have hl : letterP (nth q k) = false := by simpa using hl
            have HL := Lib.hid hl
            clear hl
            refine rvl1 hlt (by omega) HL HQ0 HQ1 HD ?_
            intro u22 u23 u24 u25 u26 u27 u28 u29 u30 u31 u32 u33 u34 u35 u36 u37 u38 u39 wx hb1
            replace hx := Lib.hid (hx.out.on hb1); replace hb := Lib.hid (hb.out.trans (hb1.mono hb.out.size)); clear hb1
            have HM := Lib.hid (show ∀ j, j < k + 1 → letterP (nth q j) = true → nth q j ∈ p from fun j hj => by rcases Nat.lt_succ_iff_lt_or_eq.1 hj with h5 | h5; exact ha.out j h5; exact fun h6 => by rw [h5, HL.out] at h6; cases h6)
            go_wp2_with fail
            go_roundw
            case rel => exact ⟨k + 1, by omega, by go_num, HM, hx, hb⟩
            case measure => simp [intOf]; omega
        · obtain rfl : k = n1 := by omega
          have HF : Hid (z = true) := Lib.hid (by rw [HE.out]; exact lettersIn_all (fun j hj => ha.out j (by have := HN.out; omega)))
          clear hlt
          go_wp2_with fail
          go_ret
          exact ⟨ret_bool HF.out.symm, hb.out⟩
set_option maxHeartbeats 4000000 in
theorem specRuleAllows (V U1 U2 : Value) (x : Rlt) (n b : List ByteArray) (w : World) (z : Bool) (hz : allowsR x n b = z) (h : kRl.At w V x) (gn9 : kN.At w U1 n) (gb9 : kN.At w U2 b) (hp : wtRl x ≤ 9000000) (hn : bulk n ≤ 9000000) (hb : bulk b ≤ 9000000) :
    Calls Tryz.prog 131 #[V, U1, U2] w fun e w' => e = .returned (.bool z) ∧ Below w.heap.size w w' := by
  have h9 := h
  obtain ⟨x0, n0, c0, x1, n1, c1, rfl, g0, g1⟩ := kRl_at h
  obtain ⟨v, rfl, g⟩ := kN_at gn9
  obtain ⟨u, rfl, g'⟩ := kN_at gb9
  obtain ⟨xn, nn, cn, rfl, -, -, gn⟩ := g.shapeN
  obtain ⟨xb, nb, cb, rfl, -, -, gb⟩ := g'.shapeN
  obtain ⟨p, q⟩ := x
  obtain ⟨p0, p1⟩ := fitR hp
  dsimp only at g0 g1 p0 p1
  obtain ⟨v0, e0, g0⟩ := kN_at g0
  obtain ⟨v1, e1, g1⟩ := kN_at g1
  obtain rfl : v0 = .slice x0 n0 c0 := by injection e0 with e; have := congrArg (fun z : Array Value => z[0]?) e; simpa using this.symm
  obtain rfl : v1 = .slice x1 n1 c1 := by injection e1 with e; have := congrArg (fun z : Array Value => z[0]?) e; simpa using this.symm
  have b0 := (Below.refl w.heap.size w).alloc (Nat.le_refl _) (.cells #[.slice x0 n0 c0, .slice x1 n1 c1] 131)
  have b1 := b0.alloc (by simp) (.cells #[.slice xn nn cn] 32)
  have b2 := b1.alloc (by simp; omega) (.cells #[.slice xb nb cb] 32)
  have b3 := b2.alloc (by simp; omega) (.cells #[] 204)
  have s0 := (Below.refl w.heap.size w).alloc (Nat.le_refl _) (.cells #[.slice x0 n0 c0, .slice x1 n1 c1] 131)
  have HB := Lib.hid b3
  have HX := Lib.hid ((((Ret.Blk.new w #[.slice x0 n0 c0, .slice x1 n1 c1] 131).on ((Below.refl _ _).alloc (Nat.le_refl _) (.cells #[.slice xn nn cn] 32))).on ((Below.refl _ _).alloc (Nat.le_refl _) (.cells #[.slice xb nb cb] 32))).on ((Below.refl _ _).alloc (Nat.le_refl _) (.cells #[] 204)))
  have HY := Lib.hid ((Ret.Blk.new' (w := ((w.alloc (.cells #[.slice x0 n0 c0, .slice x1 n1 c1] 131)).alloc (.cells #[.slice xn nn cn] 32))) (n := w.heap.size + 1 + 1) #[.slice xb nb cb] 32 (by simp)).on ((Below.refl _ _).alloc (Nat.le_refl _) (.cells #[] 204)))
  have HE0 := Lib.hid (show HoldsK encBd 2 ((((w.alloc (.cells #[.slice x0 n0 c0, .slice x1 n1 c1] 131)).alloc (.cells #[.slice xn nn cn] 32)).alloc (.cells #[.slice xb nb cb] 32)).alloc (.cells #[] 204)) (.slice (some ⟨w.heap.size + 1 + 1 + 1, 0, none⟩) 0 0) [] from ⟨_, 0, rfl, Nat.le_refl _, Or.inl rfl⟩)
  have G0 := Lib.hid g0; have G1 := Lib.hid g1; have GN := Lib.hid gn; have GB := Lib.hid gb; have H9 := Lib.hid h9; have HZ := Lib.hid hz
  obtain ⟨a, ha⟩ : ∃ a, mOk p n [] = a := ⟨_, rfl⟩
  obtain ⟨m, hm⟩ : ∃ m, mOut p n [] = m := ⟨_, rfl⟩
  obtain ⟨c, hc⟩ : ∃ a, mOk q b m = a := ⟨_, rfl⟩
  obtain ⟨d, hd⟩ : ∃ a, validR (p, q) = a := ⟨_, rfl⟩
  have hml := mOut_len p n []
  rw [hm] at hml
  have HA := Lib.hid ha; have HM := Lib.hid hm; have HC := Lib.hid hc; have HD := Lib.hid hd
  have HE : Hid (z = (d && a && c)) := Lib.hid (by rw [← HZ.out]; show (validR (p, q) && mOk p n [] && mOk q b (mOut p n [])) = _; rw [HM.out, HA.out, HC.out, HD.out])
  have HPP := Lib.hid hp
  clear h h9 g g' gn gb gn9 gb9 g0 g1 e0 e1 b0 b1 b2 b3 s0 hz ha hm hc hd hp HZ
  go_enter Tryz.func131, Tryz.ntmps131
  go_wp2_with fail
  refine (specMatchX _ _ _ p n [] _ (G0.out.on HB.out) (GN.out.on HB.out) HE0.out (by omega) (by omega) (by simp)).mono ?_
  rintro e w1 ⟨v1, rfl, ho, hb1⟩
  rw [HA.out, HM.out] at *
  obtain ⟨xm, nm, cm, rfl, -, -, ho⟩ := ho.shapeN
  have HO := Lib.hid ho.holds
  replace HX := Lib.hid (HX.out.on hb1); replace HY := Lib.hid (HY.out.on hb1); replace HB := Lib.hid (HB.out.trans (hb1.mono HB.out.size)); clear hb1 ho
  have q0 : w1.cell? ⟨w.heap.size, 0, none⟩ = some (.slice x0 n0 c0) := HX.out.cell 0
  have q1 : w1.cell? ⟨w.heap.size, 1, none⟩ = some (.slice x1 n1 c1) := HX.out.cell 1
  have q2 : w1.cell? ⟨w.heap.size + 1 + 1, 0, none⟩ = some (.slice xb nb cb) := HY.out.cell 0
  go_wp2_with fail
  clear q0 q1 q2
  refine (specMatchX _ _ _ q b m _ (G1.out.on HB.out) (GB.out.on HB.out) HO.out (by omega) (by omega) (by simp at hml; omega)).mono ?_
  rintro e w2 ⟨v2, rfl, -, hb2⟩
  rw [HC.out]
  replace HX := Lib.hid (HX.out.on hb2); replace HB := Lib.hid (HB.out.trans (hb2.mono HB.out.size)); clear hb2
  have q0 : w2.cell? ⟨w.heap.size, 0, none⟩ = some (.slice x0 n0 c0) := HX.out.cell 0
  have q1 : w2.cell? ⟨w.heap.size, 1, none⟩ = some (.slice x1 n1 c1) := HX.out.cell 1
  go_wp2_with fail
  clear q0 q1
  refine (specValidRule _ (p, q) _ d HD.out (H9.out.on HB.out) HPP.out).mono ?_
  rintro e w3 ⟨rfl, hb3⟩
  replace HB := Lib.hid (HB.out.trans (hb3.mono HB.out.size)); clear hb3
  cases d <;> cases a <;> cases c <;> (go_wp2_with fail; go_ret; exact ⟨ret_bool (by rw [HE.out]; rfl), HB.out⟩)
set_option maxRecDepth 100000 in
set_option maxHeartbeats 4000000 in
theorem rfa {Q : Exit → Act → World → Prop} {v1 v2 v3 v6 v8 v9 v10 v11 v12 v13 v14 v15 v16 v17 v18 v19 v20 v21 : Value} {w : World} {b off n c g1 g2 k n0 c0 n1 c1 nn cn nb cb : Nat} {x0 x1 xn xb : Option Addr} {x : Rlt} {ln lb : List ByteArray} {z : Bool} (hk : k < n) (hkc : k ≤ c) (hn : n ≤ 9000000) (HZ : Hid (allowsR x ln lb = z)) (H_x : Hid (kRl.At w (.agg #[.slice x0 n0 c0, .slice x1 n1 c1]) x)) (H_n : Hid (kN.At w (.agg #[.slice xn nn cn]) ln)) (H_b : Hid (kN.At w (.agg #[.slice xb nb cb]) lb)) (HP : Hid (wtRl x ≤ 9000000)) (HPN : Hid (bulk ln ≤ 9000000)) (HPB : Hid (bulk lb ≤ 9000000)) (K0 : Hid (w.cell? ⟨b, off + k * 2, none⟩ = some (.slice x0 n0 c0))) (K1 : Hid (w.cell? ⟨b, off + k * 2 + 1, none⟩ = some (.slice x1 n1 c1))) (K2 : Hid (w.cell? ⟨g1, 0, none⟩ = some (.slice xn nn cn))) (K3 : Hid (w.cell? ⟨g2, 0, none⟩ = some (.slice xb nb cb)))
  (hQ : ∀ (u14 u15 u16 u17 u18 u19 : Value)  (wx : World), Below w.heap.size w wx → Q .normal ⟨#[.slice (some ⟨b, off, none⟩) n c, v1, v2, v3, .pointer (some ⟨g1, 0, none⟩), .pointer (some ⟨g2, 0, none⟩), v6, .int .i64 k, v8, v9, v10, v11, v12, v13, u14, u15, u16, u17, u18, u19, .bool z, v21], []⟩ wx) :
  (Code.region 4 #[⟨some 14, .move (.tmp 0), 25, "l10_rule.go:43", #[], none⟩,
   ⟨some 15, .move (.tmp 7), 3, "l10_rule.go:43", #[], none⟩,
   ⟨some 16, .indexAddr 25 (.tmp 14) (.tmp 15), 0, "l10_rule.go:43", #[⟨0, .data⟩, ⟨1, .data⟩], none⟩,
   ⟨some 17, .load 131 (.tmp 16), 131, "l10_rule.go:43", #[⟨2, .data⟩], none⟩,
   ⟨some 18, .load 32 (.tmp 4), 32, "l10_rule.go:43", #[], none⟩,
   ⟨some 19, .load 32 (.tmp 5), 32, "l10_rule.go:43", #[], none⟩,
   ⟨some 20, .call ⟨.value (.func 131), #[.tmp 17, .tmp 18, .tmp 19], #[131, 32, 32]⟩, 4, "l10_rule.go:43", #[⟨3, .data⟩, ⟨4, .data⟩, ⟨5, .data⟩], none⟩] true).wp Tryz.prog Q ⟨#[.slice (some ⟨b, off, none⟩) n c, v1, v2, v3, .pointer (some ⟨g1, 0, none⟩), .pointer (some ⟨g2, 0, none⟩), v6, .int .i64 k, v8, v9, v10, v11, v12, v13, v14, v15, v16, v17, v18, v19, v20, v21], []⟩ w := by
 have HQ := Lib.hid hQ; clear hQ
 have hdr : Below w.heap.size w w.drew := (Below.refl _ _).drew
 have BB := Lib.hid hdr
 refine wp_region_noPanic ?_
 refine wp_region_held_drew (S := (fun w' => w'.cell? ⟨b, off + k * 2, none⟩ = some (.slice x0 n0 c0) ∧ w'.cell? ⟨b, off + k * 2 + 1, none⟩ = some (.slice x1 n1 c1) ∧ w'.cell? ⟨g1, 0, none⟩ = some (.slice xn nn cn) ∧ w'.cell? ⟨g2, 0, none⟩ = some (.slice xb nb cb))) (by kernel_rfl) ?_ (fun hHeld => ?_)
 ·
  exact ⟨kc K0.out BB.out, kc K1.out BB.out, kc K2.out BB.out, kc K3.out BB.out⟩
 clear hdr
 generalize w.drew = wd at *
 refine wpAnyH_take (i := 0) (oi := ⟨some 14, .move (.tmp 0), 25, "l10_rule.go:43", #[], none⟩) (v := ?_) rfl (by kernel_rfl) (by kernel_rfl) (by kernel_rfl) (fun _ _ _ h => h) (Or.inl ⟨by rfl, ?_⟩) (by assumption) ?_
 rotate_left
 ·
  intro w' hSw; (try dsimp only at hSw); first | (go_simp; done) | (go_simp; with_reducible rfl)
 (try simp only [Act.put, Row.pB0, Row.pB1, Row.pB2])
 refine wpAnyH_take (i := 1) (oi := ⟨some 15, .move (.tmp 7), 3, "l10_rule.go:43", #[], none⟩) (v := ?_) rfl (by kernel_rfl) (by kernel_rfl) (by kernel_rfl) (fun _ _ _ h => h) (Or.inl ⟨by rfl, ?_⟩) (by assumption) ?_
 rotate_left
 ·
  intro w' hSw; (try dsimp only at hSw); first | (go_simp; done) | (go_simp; with_reducible rfl)
 (try simp only [Act.put, Row.pB0, Row.pB1, Row.pB2])
 refine wpAnyH_take (i := 2) (oi := ⟨some 16, .indexAddr 25 (.tmp 14) (.tmp 15), 0, "l10_rule.go:43", #[⟨0, .data⟩, ⟨1, .data⟩], none⟩) (v := ?_) rfl (by kernel_rfl) (by kernel_rfl) (by kernel_rfl) (fun _ _ _ h => h) (Or.inl ⟨by rfl, ?_⟩) (by assumption) ?_
 rotate_left
 ·
  intro w' hSw; (try dsimp only at hSw); first | (go_simp; done) | (go_simp; with_reducible rfl)
 (try simp only [Act.put, Row.pB0, Row.pB1, Row.pB2])
 refine wpAnyH_take (i := 3) (oi := ⟨some 17, .load 131 (.tmp 16), 131, "l10_rule.go:43", #[⟨2, .data⟩], none⟩) (v := ?_) rfl (by kernel_rfl) (by kernel_rfl) (by kernel_rfl) (fun _ _ _ h => h) (Or.inl ⟨by rfl, ?_⟩) (by assumption) ?_
 rotate_left
 ·
  intro w' hSw; (try dsimp only at hSw); first | (go_simp; done) | (go_simp; with_reducible rfl)
 (try simp only [Act.put, Row.pB0, Row.pB1, Row.pB2])
 refine wpAnyH_take (i := 4) (oi := ⟨some 18, .load 32 (.tmp 4), 32, "l10_rule.go:43", #[], none⟩) (v := ?_) rfl (by kernel_rfl) (by kernel_rfl) (by kernel_rfl) (fun _ _ _ h => h) (Or.inl ⟨by rfl, ?_⟩) (by assumption) ?_
 rotate_left
 ·
  intro w' hSw; (try dsimp only at hSw); first | (go_simp; done) | (go_simp; with_reducible rfl)
 (try simp only [Act.put, Row.pB0, Row.pB1, Row.pB2])
 refine wpAnyH_take (i := 5) (oi := ⟨some 19, .load 32 (.tmp 5), 32, "l10_rule.go:43", #[], none⟩) (v := ?_) rfl (by kernel_rfl) (by kernel_rfl) (by kernel_rfl) (fun _ _ _ h => h) (Or.inl ⟨by rfl, ?_⟩) (by assumption) ?_
 rotate_left
 ·
  intro w' hSw; (try dsimp only at hSw); first | (go_simp; done) | (go_simp; with_reducible rfl)
 (try simp only [Act.put, Row.pB0, Row.pB1, Row.pB2])
 refine wpAnyH_ready (rs := [6]) (by kernel_rfl) (by simp) ?_
 refine AllReadyH.cons (o := ⟨some 20, .call ⟨.value (.func 131), #[.tmp 17, .tmp 18, .tmp 19], #[131, 32, 32]⟩, 4, "l10_rule.go:43", #[⟨3, .data⟩, ⟨4, .data⟩, ⟨5, .data⟩], none⟩) rfl (fun K hK => ?_) AllReadyH.nil
 go_simp
 refine (specRuleAllows _ _ _ x ln lb _ z HZ.out (H_x.out.on BB.out) (H_n.out.on BB.out) (H_b.out.on BB.out) HP.out HPN.out HPB.out).mono ?_
 rintro e wn1 ⟨rfl, hb⟩
 replace BB := Lib.hid (BB.out.trans (hb.mono BB.out.size))
 clear hb
 (try go_wp2_with fail)
 clear hHeld
 refine hK.out _ _ ?_ (fun hHeld => ?_)
 ·
  (try dsimp only); exact ⟨kc K0.out BB.out, kc K1.out BB.out, kc K2.out BB.out, kc K3.out BB.out⟩
 clear hK K
 (try simp only [Act.put, Row.pB0, Row.pB1, Row.pB2])
 refine wpAnyH_done (by kernel_rfl) ?_ _
 exact NoPanic.normal (HQ.out _ _ _ _ _ _  _  BB.out)
set_option maxHeartbeats 4000000 in
theorem specFirstAllowingRule (V U1 U2 : Value) (l : List Rlt) (ln lb : List ByteArray) (w : World) (z : Int) (hz : firstR l ln lb = z) (h : kLRl.At w V l) (g : kN.At w U1 ln) (g' : kN.At w U2 lb) (hl : l.length ≤ 9000000) (hp : ∀ x ∈ l, wtRl x ≤ 9000000) (hpn : bulk ln ≤ 9000000) (hpb : bulk lb ≤ 9000000) :
    Calls Tryz.prog 86 #[V, U1, U2] w fun e w' => e = .returned (.int .i64 z) ∧ Below w.heap.size w w' := by
  obtain ⟨ad, n, cap, L, rfl, hn, ht, hh, hel⟩ := kLRl_at h
  obtain ⟨xn, nn, cn, rfl, g⟩ := kN_shapeA g
  obtain ⟨xb, nb, cb, rfl, g'⟩ := kN_shapeA g'
  have hlen : l.length = n := by rw [← ht, List.length_map]; exact hn.symm
  rw [hlen] at hl
  have hcap : n ≤ cap := by obtain ⟨x', n', cap', hv, hn', hc', -⟩ := hh.shapeN; cases hv; exact hc'
  have HB0 := Lib.hid (((Below.refl w.heap.size w).alloc (Nat.le_refl _) (.cells #[.slice xn nn cn] 32)).alloc (by simp) (.cells #[.slice xb nb cb] 32))
  have HX0 := Lib.hid ((Ret.Blk.new w #[.slice xn nn cn] 32).on ((Below.refl _ _).alloc (Nat.le_refl _) (.cells #[.slice xb nb cb] 32)))
  have HY0 := Lib.hid (Ret.Blk.new' (w := w.alloc (.cells #[.slice xn nn cn] 32)) (n := w.heap.size + 1) #[.slice xb nb cb] 32 (by simp))
  have HN := Lib.hid hn; have HT := Lib.hid ht; have HH := Lib.hid hh; have HEL := Lib.hid hel; have HP := Lib.hid hp; have HLEN := Lib.hid hlen; have HZ := Lib.hid hz; have GN := Lib.hid g; have GB := Lib.hid g'; have HPN := Lib.hid hpn; have HPB := Lib.hid hpb
  clear hn h hh hp ht hel hlen hz g g' hpn hpb
  go_enter Tryz.func86, Tryz.ntmps86
  go_wp2_with fail
  go_loopw [7] (fun i wr => ∃ k : Nat, k ≤ n ∧ i = .int .i64 k ∧ Hid (∀ j, j < k → allowsR (nth l j) ln lb = false) ∧ Hid (Ret.Blk wr w.heap.size #[.slice xn nn cn] 32) ∧ Hid (Ret.Blk wr (w.heap.size + 1) #[.slice xb nb cb] 32) ∧ Hid (Below w.heap.size w wr)) (fun i _ => n - (intOf i).toNat)
  case atStart => exact ⟨0, Nat.zero_le _, rfl, Lib.hid (fun j hj => absurd hj (by omega)), HX0, HY0, HB0⟩
  case round =>
    obtain ⟨k, hk, rfl, ha, hx, hy, hb⟩ := hrel
    by_cases hlt : k < n
    · have hlen := HN.out
      obtain ⟨b, off, x0, n0, c0, x1, n1, c1, rfl, -, hc0, hc1, hA⟩ := kLRl_elem (HH.out.on hb.out) (fun y hy => kRl.holds_on (HEL.out y hy) hb.out) (j := k) (by omega)
      have hpt : nth l k = kRl.strip (nth L k) := by rw [← HT.out, nth_map _ (by omega)]
      have hps := HP.out (nth l k) (nth_mem (by have := HLEN.out; omega))
      rw [← hpt] at hA
      have HA := Lib.hid hA; have HPS := Lib.hid hps; have HC0 := Lib.hid hc0; have HC1 := Lib.hid hc1
      clear hlen hpt hps hA
      obtain ⟨a, ha2⟩ : ∃ a, allowsR (nth l k) ln lb = a := ⟨_, rfl⟩
      have HV := Lib.hid ha2; clear ha2
      go_wp2_with fail
      clear hc0 hc1
      refine rfa hlt (by omega) hl HV HA (Lib.hid (GN.out.on hb.out)) (Lib.hid (GB.out.on hb.out)) HPS HPN HPB HC0 HC1 (Lib.hid (hx.out.cell 0)) (Lib.hid (hy.out.cell 0)) ?_
      intro u14 u15 u16 u17 u18 u19 wx hb1
      replace hx := Lib.hid (hx.out.on hb1); replace hy := Lib.hid (hy.out.on hb1); replace hb := Lib.hid (hb.out.trans (hb1.mono hb.out.size)); clear hb1
      cases a with
      | true =>
        have HF : Hid (z = (k : Int)) := Lib.hid (by rw [← HZ.out]; exact firstR_at (by have := HLEN.out; omega) HV.out ha.out)
        go_wp2_with fail
        go_ret
        exact ⟨ret_int HF.out.symm, hb.out⟩
      | false =>
        have HM := Lib.hid (show ∀ j, j < k + 1 → allowsR (nth l j) ln lb = false from fun j hj => by rcases Nat.lt_succ_iff_lt_or_eq.1 hj with h5 | h5; exact ha.out j h5; exact h5 ▸ HV.out)
        go_wp2_with fail
        go_roundw
        case rel => exact ⟨k + 1, by omega, by go_num, HM, hx, hy, hb⟩
        case measure => simp [intOf]; omega
    · obtain rfl : k = n := by omega
      have HF : Hid (z = -1) := Lib.hid (by rw [← HZ.out]; exact firstR_none (fun j hj => ha.out j (by have := HLEN.out; omega)))
      clear hlt
      go_wp2_with fail
      go_ret
      exact ⟨ret_int HF.out.symm, hb.out⟩
set_option maxHeartbeats 2000000 in
theorem specAllowed (V U1 U2 : Value) (l : List Rlt) (ln lb : List ByteArray) (w : World) (h : kLRl.At w V l) (g : kN.At w U1 ln) (g' : kN.At w U2 lb) (hl : l.length ≤ 9000000) (hp : ∀ x ∈ l, wtRl x ≤ 9000000) (hpn : bulk ln ≤ 9000000) (hpb : bulk lb ≤ 9000000) :
    Calls Tryz.prog 38 #[V, U1, U2] w fun e w' => e = .returned (.bool (decide (0 ≤ firstR l ln lb))) ∧ Below w.heap.size w w' := by
  obtain ⟨xl, nl, cl, rfl, h⟩ := kLRl_shapeA h
  obtain ⟨xn, nn, cn, rfl, g⟩ := kN_shapeA g
  obtain ⟨xb, nb, cb, rfl, g'⟩ := kN_shapeA g'
  have HB := Lib.hid (((Below.refl w.heap.size w).alloc (Nat.le_refl _) (.cells #[.slice xn nn cn] 32)).alloc (by simp) (.cells #[.slice xb nb cb] 32))
  have H0 := Lib.hid h; have GN := Lib.hid g; have GB := Lib.hid g'; have HP := Lib.hid hp; have HL := Lib.hid hl; have HPN := Lib.hid hpn; have HPB := Lib.hid hpb
  clear h g g' hp hl hpn hpb
  go_enter Tryz.func38, Tryz.ntmps38
  go_wp2_with fail
  refine (specFirstAllowingRule _ _ _ l ln lb _ _ rfl (H0.out.on HB.out) (GN.out.on HB.out) (GB.out.on HB.out) HL.out HP.out HPN.out HPB.out).mono ?_
  rintro e w1 ⟨rfl, hb⟩
  replace HB := Lib.hid (HB.out.trans (hb.mono HB.out.size)); clear hb
  go_wp2_with fail
  go_ret
  exact ⟨rfl, HB.out⟩
end Go.Proofs.YtlhchmjnaanjpaaGreatDoor.Row
