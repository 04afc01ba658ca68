/- Contracts and mathematics, joined: RuleP. No conditions but those that each states. -/
import Derived.WalkKit
import Derived.Deep.RegionHeld3
import Derived.Test.YtkojeajjappchaaGreatB7
/- The program's chapter 10, its first part: ValidRule, ValidRules, FormatRule, EqualRules. No conditions but that lengths fit. -/
namespace Go.Proofs.YtkojeajjappchaaGreat.Row
open Go.ChangeShapes Go.WideShapes Go.ChangeAt Go.RowKit Go.Instr
set_option linter.unusedVariables false
set_option maxRecDepth 100000

set_option maxHeartbeats 1000000 in
theorem indexS (v : Value) (l : List ByteArray) (s : ByteArray) (w : World) (h : Holds Value.string w v l) (hl : bulk l ≤ 100000000) :
    Calls Tryz.prog 88 #[v, .string s] w fun e w' => ((hasP l s = true ∧ ∃ k : Nat, e = .returned (.int .i64 k)) ∨ (hasP l s = false ∧ e = .returned (.int .i64 (-1)))) ∧ w = w' := by
  obtain ⟨x, n, cap, rfl, hn, hcap, hh⟩ := h.shapeN
  have hll := bigLen hl
  rw [← hn] at hll
  have HN := Lib.hid hn
  have HH := Lib.hid hh
  clear hn h hh hl
  go_enter Tryz.func88, Tryz.ntmps88
  go_wp2
  go_loop [8] (fun iv => ∃ k : Nat, k ≤ n ∧ iv = .int .i64 k ∧ Hid (∀ j, j < k → ¬ nth l j = s)) (fun iv => n - (intOf iv).toNat)
  case atStart => exact ⟨0, Nat.zero_le _, rfl, Lib.hid (fun j hj => absurd hj (by omega))⟩
  case round =>
    obtain ⟨k, hk, rfl, ha⟩ := hrel
    by_cases hlt : k < n
    · have hlen := HN.out
      obtain ⟨b, off, rfl, hd⟩ := HH.out.at (j := k) (by omega)
      by_cases hq : nth l k = s
      · have HE : Hid (hasP l s = true) := Lib.hid (hasP_iff.2 (hq ▸ nth_mem (by omega)))
        have HQ := Lib.hid (tlB_true hq); have HQ2 := Lib.hid (tlB_true hq.symm)
        clear hlen hq
        have hq := HQ.out; have hq2 := HQ2.out
        go_wp2
        go_ret
        exact ⟨Or.inl ⟨HE.out, k, rfl⟩, rfl⟩
      · have HA := Lib.hid (show ∀ j, j < k + 1 → ¬ nth l j = s from fun j hj => by rcases Nat.lt_succ_iff_lt_or_eq.1 hj with h5 | h5; exact ha.out j h5; exact h5 ▸ hq)
        have HQ := Lib.hid (tlB_false hq); have HQ2 := Lib.hid (tlB_false (fun e => hq e.symm))
        clear hlen hq
        have hq := HQ.out; have hq2 := HQ2.out
        go_wp2
        go_round
        case rel => exact ⟨k + 1, by omega, by go_num, HA⟩
        case measure => simp [intOf]; omega
    · obtain rfl : k = n := by omega
      have HE : Hid (hasP l s = false) := Lib.hid (by
        refine hasP_no.2 fun hm => ?_
        obtain ⟨j, hj, e⟩ := List.getElem_of_mem hm
        exact ha.out j (by have := HN.out; omega) (by rw [nth_eq hj]; exact e))
      clear hlt
      go_wp2
      go_ret
      exact ⟨Or.inr ⟨HE.out, rfl⟩, rfl⟩

set_option maxHeartbeats 1000000 in
theorem containsS (v : Value) (l : List ByteArray) (s : ByteArray) (w : World) (z : Bool) (hz : hasP l s = z) (h : Holds Value.string w v l) (hl : bulk l ≤ 100000000) :
    Calls Tryz.prog 72 #[v, .string s] w fun e w' => e = .returned (.bool z) ∧ w = w' := by
  obtain ⟨x, n, cap, rfl, hn, hcap, hh⟩ := h.shapeN
  have HZ := Lib.hid hz; have HH := Lib.hid hh; have HL := Lib.hid hl
  clear hn h hh hz hl
  go_enter Tryz.func72, Tryz.ntmps72
  go_wp2_with fail
  refine (indexS _ l s _ HH.out HL.out).mono ?_
  rintro e w1 ⟨⟨hh, k, rfl⟩ | ⟨hh, rfl⟩, rfl⟩
  · have HE : Hid (z = true) := Lib.hid (HZ.out.symm.trans hh)
    clear hh
    go_wp2
    go_ret
    exact ⟨ret_bool HE.out.symm, rfl⟩
  · have HE : Hid (z = false) := Lib.hid (HZ.out.symm.trans hh)
    clear hh
    go_wp2
    go_ret
    exact ⟨ret_bool HE.out.symm, rfl⟩

theorem iPatV {v : Value} {l : List ByteArray} {w : World} (z : Bool) (hz : validPat l = z) (h : Holds Value.string w v l) (hl : bulk l ≤ 100000000) :
    Calls Tryz.prog 45 #[.agg #[v]] w fun e w' => e = .returned (.bool z) ∧ Below w.heap.size w w' := hz ▸ implValidPattern v l w h hl
theorem fPatI {v : Value} {l : List ByteArray} {w : World} (z : ByteArray) (hz : fmtS l = z) (h : Holds Value.string w v l) (hl : bulk l ≤ 100000000) :
    Calls Tryz.prog 41 #[.agg #[v]] w fun e w' => e = .returned (.string z) ∧ Below w.heap.size w w' := hz ▸ implFormatPattern v l w h hl
/-- The text s is a letter that does not stand in p. -/
def freeL (p : List ByteArray) (s : ByteArray) : Bool := letterP s && !hasP p s
theorem letters_free (p q : List ByteArray) : lettersIn p q = !(q.any (freeL p)) := by
  unfold lettersIn freeL
  induction q with
  | nil => rfl
  | cons a r ih => rw [List.all_cons, List.any_cons, ih]; cases letterP a <;> cases hasP p a <;> simp
set_option maxHeartbeats 1000000 in
theorem freeClos (s : ByteArray) (g : Nat) (x0 x1 : Option Addr) (n0 c0 n1 c1 : Nat) (p : List ByteArray) (w : World) (z : Bool) (hz : freeL p s = z) (hx : Ret.Blk w g #[.slice x0 n0 c0, .slice x1 n1 c1] 28) (h : Holds Value.string w (.slice x0 n0 c0) p) (hl : bulk p ≤ 100000000) (hs : s.size ≤ 140737488351232) :
    Calls Tryz.prog 70 #[.string s, .pointer (some ⟨g, 0, none⟩)] w fun e w' => e = .returned (.bool z) ∧ w = w' := by
  have HZ := Lib.hid hz; have HH := Lib.hid h; have HL := Lib.hid hl; have HX := Lib.hid hx
  clear hz h hl hx
  have q0 : w.cell? ⟨g, 0, none⟩ = some (.slice x0 n0 c0) := HX.out.cell 0
  go_enter Tryz.func70, Tryz.ntmps70
  go_wp2_with fail
  refine (isVariable s _ hs).mono ?_
  rintro e w1 ⟨rfl, rfl⟩
  cases ha : letterP s with
  | false =>
    have HE : Hid (z = false) := Lib.hid (by rw [← HZ.out]; unfold freeL; rw [ha]; rfl)
    clear ha
    go_wp2_with fail
    go_ret
    exact ⟨ret_bool HE.out.symm, rfl⟩
  | true =>
    obtain ⟨c, hc⟩ : ∃ c, hasP p s = c := ⟨_, rfl⟩
    have HE : Hid (z = !c) := Lib.hid (by rw [← HZ.out]; unfold freeL; rw [ha, hc]; rfl)
    have HC := Lib.hid hc
    clear ha hc
    go_wp2_with fail
    refine (containsS _ p s _ c HC.out HH.out HL.out).mono ?_
    rintro e w1 ⟨rfl, rfl⟩
    cases c <;> (go_wp2_with fail; go_ret; exact ⟨ret_bool HE.out.symm, rfl⟩)

set_option maxHeartbeats 1000000 in
theorem indexFree (v : Value) (q : List ByteArray) (g : Nat) (x0 x1 : Option Addr) (n0 c0 n1 c1 : Nat) (p : List ByteArray) (w : World) (z : Bool) (hz : q.any (freeL p) = z) (hx : Ret.Blk w g #[.slice x0 n0 c0, .slice x1 n1 c1] 28) (h : Holds Value.string w (.slice x0 n0 c0) p) (hq : Holds Value.string w v q) (hl : bulk p ≤ 100000000) (hql : bulk q ≤ 100000000) :
    Calls Tryz.prog 87 #[v, .func (.func 70) #[] #[.pointer (some ⟨g, 0, none⟩)]] w fun e w' => ((z = true ∧ ∃ k : Nat, e = .returned (.int .i64 k)) ∨ (z = false ∧ e = .returned (.int .i64 (-1)))) ∧ w = w' := by
  obtain ⟨x, n, cap, rfl, hn, hcap, hh⟩ := hq.shapeN
  have hll := bigLen hql
  rw [← hn] at hll
  have HSZ := Lib.hid (fun k (hk : k < q.length) => size_nth hql hk)
  have HN := Lib.hid hn; have HH := Lib.hid hh; have HX := Lib.hid hx; have HP := Lib.hid h; have HL := Lib.hid hl; have HZ := Lib.hid hz
  clear hn h hh hx hl hql hq hz
  go_enter Tryz.func87, Tryz.ntmps87
  go_wp2
  go_loop [8] (fun iv => ∃ k : Nat, k ≤ n ∧ iv = .int .i64 k ∧ Hid (∀ j, j < k → freeL p (nth q j) = false)) (fun iv => n - (intOf iv).toNat)
  case atStart => exact ⟨0, Nat.zero_le _, rfl, Lib.hid (fun j hj => absurd hj (by omega))⟩
  case round =>
    obtain ⟨k, hk, rfl, ha⟩ := hrel
    by_cases hlt : k < n
    · have hlen := HN.out
      obtain ⟨b, off, rfl, hd⟩ := HH.out.at (j := k) (by omega)
      have hsz := HSZ.out k (by omega)
      obtain ⟨c, hc⟩ : ∃ c, freeL p (nth q k) = c := ⟨_, rfl⟩
      have HC := Lib.hid hc
      have HCL := Lib.hid (freeClos (nth q k) g x0 x1 n0 c0 n1 c1 p w c hc HX.out HP.out HL.out (by omega))
      clear hlen hc
      go_wp2_with fail
      refine HCL.out.mono ?_
      rintro e w2 ⟨rfl, rfl⟩
      clear hd
      cases c with
      | true =>
        have HE : Hid (z = true) := Lib.hid (HZ.out ▸ List.any_eq_true.2 ⟨_, nth_mem (by have := HN.out; omega), HC.out⟩)
        go_wp2
        go_ret
        exact ⟨Or.inl ⟨HE.out, k, rfl⟩, rfl⟩
      | false =>
        have HA := Lib.hid (show ∀ j, j < k + 1 → freeL p (nth q j) = false from fun j hj => by rcases Nat.lt_succ_iff_lt_or_eq.1 hj with h5 | h5; exact ha.out j h5; exact h5 ▸ HC.out)
        go_wp2
        go_round
        case rel => exact ⟨k + 1, by omega, by go_num, HA⟩
        case measure => simp [intOf]; omega
    · obtain rfl : k = n := by omega
      have HE : Hid (z = false) := Lib.hid (by
        rw [← HZ.out, List.any_eq_false]
        intro s hs
        obtain ⟨j, hj, rfl⟩ := List.getElem_of_mem hs
        rw [← nth_eq hj, ha.out j (by have := HN.out; omega)]
        simp)
      clear hlt
      go_wp2
      go_ret
      exact ⟨Or.inr ⟨HE.out, rfl⟩, rfl⟩

set_option maxHeartbeats 1000000 in
theorem containsFree (v : Value) (q : List ByteArray) (g : Nat) (x0 x1 : Option Addr) (n0 c0 n1 c1 : Nat) (p : List ByteArray) (w : World) (z : Bool) (hz : q.any (freeL p) = z) (hx : Ret.Blk w g #[.slice x0 n0 c0, .slice x1 n1 c1] 28) (h : Holds Value.string w (.slice x0 n0 c0) p) (hq : Holds Value.string w v q) (hl : bulk p ≤ 100000000) (hql : bulk q ≤ 100000000) :
    Calls Tryz.prog 69 #[v, .func (.func 70) #[] #[.pointer (some ⟨g, 0, none⟩)]] w fun e w' => e = .returned (.bool z) ∧ w = w' := by
  obtain ⟨x, n, cap, rfl, hn, hcap, hh⟩ := hq.shapeN
  have HN := Lib.hid hn; have HH := Lib.hid hh; have HX := Lib.hid hx; have HP := Lib.hid h; have HL := Lib.hid hl; have HQ := Lib.hid hql; have HZ := Lib.hid hz
  clear hn h hh hx hl hql hq hz
  go_enter Tryz.func69, Tryz.ntmps69
  go_wp2_with fail
  refine (indexFree _ q g x0 x1 n0 c0 n1 c1 p _ z HZ.out HX.out HP.out HH.out HL.out HQ.out).mono ?_
  rintro e w1 ⟨⟨hh, k, rfl⟩ | ⟨hh, rfl⟩, rfl⟩
  · have HE := Lib.hid hh
    clear hh
    go_wp2
    go_ret
    exact ⟨ret_bool HE.out.symm, rfl⟩
  · have HE := Lib.hid hh
    clear hh
    go_wp2
    go_ret
    exact ⟨ret_bool HE.out.symm, rfl⟩

set_option maxHeartbeats 2000000 in
theorem hasFree (V : Value) (x : Rlt) (w : World) (z : Bool) (hz : lettersIn x.1 x.2 = !z) (h : kRl.At w V x) (hp : wtRl x ≤ 9000000) :
    Calls Tryz.prog 46 #[V] w fun e w' => e = .returned (.bool z) ∧ Below w.heap.size w w' := by
  obtain ⟨x0, n0, c0, x1, n1, c1, rfl, g0, g1⟩ := kRl_at h
  obtain ⟨p, q⟩ := x
  obtain ⟨p0, p1⟩ := fitR hp
  dsimp only at g0 g1 p0 p1
  obtain ⟨v0, e0, g0⟩ := kN_at g0
  obtain ⟨v1, e1, g1⟩ := kN_at g1
  obtain rfl : v0 = .slice x0 n0 c0 := by injection e0 with e; have := congrArg (fun z : Array Value => z[0]?) e; simpa using this.symm
  obtain rfl : v1 = .slice x1 n1 c1 := by injection e1 with e; have := congrArg (fun z : Array Value => z[0]?) e; simpa using this.symm
  have HB := Lib.hid ((Below.refl w.heap.size w).alloc (Nat.le_refl _) (.cells #[.slice x0 n0 c0, .slice x1 n1 c1] 28))
  have HX := Lib.hid (Ret.Blk.new w #[.slice x0 n0 c0, .slice x1 n1 c1] 28)
  have G0 := Lib.hid g0; have G1 := Lib.hid g1
  have HE : Hid (q.any (freeL p) = z) := Lib.hid (by have := letters_free p q; dsimp only at hz; rw [this] at hz; cases hq : q.any (freeL p) <;> cases z <;> simp [hq] at hz ⊢)
  have hmf : ∀ (fn : Fn) (first cap : Array Value) (w : World), (Instr.makeFunc fn first cap).run Tryz.prog w = .ok (.func fn first cap) w := fun _ _ _ _ => rfl
  clear h hp hz g0 g1 e0 e1
  go_enter Tryz.func46, Tryz.ntmps46
  go_wp2_with fail
  refine (containsFree _ q w.heap.size x0 x1 n0 c0 n1 c1 p _ z HE.out HX.out (G0.out.on HB.out) (G1.out.on HB.out) (by omega) (by omega)).mono ?_
  rintro e w1 ⟨rfl, rfl⟩
  go_wp2_with fail
  go_ret
  exact ⟨rfl, HB.out⟩

set_option maxHeartbeats 4000000 in
theorem implValidRule (V : Value) (x : Rlt) (w : World) (z : Bool) (hz : validR x = z) (h : kRl.At w V x) (hp : wtRl x ≤ 9000000) :
    Calls Tryz.prog 24 #[V] w fun e w' => e = .returned (.bool z) ∧ Below w.heap.size w w' := by
  have h9 := h; have hp9 := hp
  obtain ⟨x0, n0, c0, x1, n1, c1, rfl, g0, g1⟩ := kRl_at h
  obtain ⟨p, q⟩ := x
  obtain ⟨p0, p1⟩ := fitR hp
  dsimp only at g0 g1 p0 p1
  obtain ⟨v0, e0, g0⟩ := kN_at g0
  obtain ⟨v1, e1, g1⟩ := kN_at g1
  obtain rfl : v0 = .slice x0 n0 c0 := by injection e0 with e; have := congrArg (fun z : Array Value => z[0]?) e; simpa using this.symm
  obtain rfl : v1 = .slice x1 n1 c1 := by injection e1 with e; have := congrArg (fun z : Array Value => z[0]?) e; simpa using this.symm
  have HB := Lib.hid ((Below.refl w.heap.size w).alloc (Nat.le_refl _) (.cells #[.slice x0 n0 c0, .slice x1 n1 c1] 28))
  have HX := Lib.hid (Ret.Blk.new w #[.slice x0 n0 c0, .slice x1 n1 c1] 28)
  have G0 := Lib.hid g0; have G1 := Lib.hid g1; have HZ := Lib.hid hz; have H9 := Lib.hid h9; have HP9 := Lib.hid hp9
  clear h hp hz g0 g1 e0 e1 h9 hp9
  go_enter Tryz.func24, Tryz.ntmps24
  go_wp2_with fail
  obtain ⟨a, ha⟩ : ∃ a, validPat p = a := ⟨_, rfl⟩
  have HA := Lib.hid ha; clear ha
  refine (iPatV a HA.out (G0.out.on HB.out) (by omega)).mono ?_
  rintro e w1 ⟨rfl, hb⟩
  replace HX := Lib.hid (HX.out.on hb); replace HB := Lib.hid (HB.out.trans (hb.mono HB.out.size)); clear hb
  have q0 : w1.cell? ⟨w.heap.size, 0, none⟩ = some (.slice x0 n0 c0) := HX.out.cell 0
  have q1 : w1.cell? ⟨w.heap.size, 1, none⟩ = some (.slice x1 n1 c1) := HX.out.cell 1
  cases a with
  | false =>
    have HE : Hid (z = false) := Lib.hid (by rw [← HZ.out]; show (validPat p && validPat q && lettersIn p q) = false; rw [HA.out]; rfl)
    go_wp2_with fail
    go_ret
    exact ⟨ret_bool HE.out.symm, HB.out⟩
  | true =>
    go_wp2_with fail
    clear q0 q1
    obtain ⟨c, hc⟩ : ∃ a, validPat q = a := ⟨_, rfl⟩
    have HC := Lib.hid hc; clear hc
    refine (iPatV c HC.out (G1.out.on HB.out) (by omega)).mono ?_
    rintro e w2 ⟨rfl, hb⟩
    replace HX := Lib.hid (HX.out.on hb); replace HB := Lib.hid (HB.out.trans (hb.mono HB.out.size)); clear hb
    have q0 : w2.cell? ⟨w.heap.size, 0, none⟩ = some (.slice x0 n0 c0) := HX.out.cell 0
    have q1 : w2.cell? ⟨w.heap.size, 1, none⟩ = some (.slice x1 n1 c1) := HX.out.cell 1
    cases c with
    | false =>
      have HE : Hid (z = false) := Lib.hid (by rw [← HZ.out]; show (validPat p && validPat q && lettersIn p q) = false; rw [HA.out, HC.out]; rfl)
      go_wp2_with fail
      go_ret
      exact ⟨ret_bool HE.out.symm, HB.out⟩
    | true =>
      obtain ⟨d, hd⟩ : ∃ a, lettersIn p q = !a := ⟨!lettersIn p q, by simp⟩
      have HE : Hid (z = !d) := Lib.hid (by rw [← HZ.out]; show (validPat p && validPat q && lettersIn p q) = _; rw [HA.out, HC.out, hd]; simp)
      have HD := Lib.hid hd; clear hd
      go_wp2_with fail
      clear q0 q1
      refine (hasFree _ (p, q) _ d HD.out (H9.out.on HB.out) HP9.out).mono ?_
      rintro e w3 ⟨rfl, hb⟩
      replace HB := Lib.hid (HB.out.trans (hb.mono HB.out.size)); clear hb
      cases d <;> (go_wp2_with fail; go_ret; exact ⟨ret_bool HE.out.symm, HB.out⟩)

set_option maxHeartbeats 4000000 in
theorem implValidRules (V : Value) (l : List Rlt) (w : World) (z : Bool) (hz : validRs l = z) (h : kLRl.At w V l) (hl : l.length ≤ 9000000) (hp : ∀ x ∈ l, wtRl x ≤ 9000000) :
    Calls Tryz.prog 22 #[V] w fun e w' => e = .returned (.bool z) ∧ Below w.heap.size w w' := by
  obtain ⟨ad, n, cap, L, rfl, hn, ht, hh, hel⟩ := kLRl_at h
  have hlen : l.length = n := by rw [← ht, List.length_map]; exact hn.symm
  rw [hlen] at hl
  have HN := Lib.hid hn; have HT := Lib.hid ht; have HH := Lib.hid hh; have HEL := Lib.hid hel; have HP := Lib.hid hp; have HLEN := Lib.hid hlen; have HZ := Lib.hid hz
  clear hn h hh hp ht hel hlen hz
  go_enter Tryz.func22, Tryz.ntmps22
  go_wp2
  go_loopw [7] (fun i wr => ∃ k : Nat, k ≤ n ∧ i = .int .i64 k ∧ Hid (∀ j, j < k → validR (nth l j) = true) ∧ Hid (Below w.heap.size w wr)) (fun i _ => n - (intOf i).toNat)
  case atStart => exact ⟨0, Nat.zero_le _, rfl, Lib.hid (fun j hj => absurd hj (by omega)), Lib.hid (Below.refl _ _)⟩
  case round =>
    obtain ⟨k, hk, rfl, ha, hb⟩ := hrel
    by_cases hlt : k < n
    · have hlen := HN.out
      obtain ⟨b, off, x0, n0, c0, x1, n1, c1, rfl, -, hc0, hc1, hA⟩ := kLRl_elem (HH.out.on hb.out) (fun y hy => kRl.holds_on (HEL.out y hy) hb.out) (j := k) (by omega)
      have hpt : nth l k = kRl.strip (nth L k) := by rw [← HT.out, nth_map _ (by omega)]
      have hps := HP.out (nth l k) (nth_mem (by have := HLEN.out; omega))
      rw [← hpt] at hA
      have hal := (Below.refl wr.heap.size wr).alloc (Nat.le_refl _) (.cells #[.slice x0 n0 c0, .slice x1 n1 c1] 28)
      have HA := Lib.hid (hA.on hal); have HPS := Lib.hid hps
      have HBA := Lib.hid (hb.out.trans (hal.mono hb.out.size))
      clear hlen hpt hps hA hal
      go_wp2_with fail
      obtain ⟨a, ha2⟩ : ∃ a, validR (nth l k) = a := ⟨_, rfl⟩
      have HV := Lib.hid ha2; clear ha2
      refine (implValidRule _ (nth l k) _ a HV.out HA.out HPS.out).mono ?_
      rintro e w1 ⟨rfl, hb1⟩
      have HB1 := Lib.hid (HBA.out.trans (hb1.mono HBA.out.size)); clear hb1 hc0 hc1
      cases a with
      | false =>
        have HF : Hid (z = false) := Lib.hid (by
          rw [← HZ.out]
          unfold validRs
          rw [show l.all validR = false from by rw [List.all_eq_false]; exact ⟨nth l k, nth_mem (by have := HLEN.out; omega), by rw [HV.out]; simp⟩]
          rfl)
        go_wp2_with fail
        go_ret
        exact ⟨ret_bool HF.out.symm, HB1.out⟩
      | true =>
        have HM := Lib.hid (show ∀ j, j < k + 1 → validR (nth l j) = true from fun j hj => by rcases Nat.lt_succ_iff_lt_or_eq.1 hj with h5 | h5; exact ha.out j h5; exact h5 ▸ HV.out)
        go_wp2_with fail
        go_roundw
        case rel => exact ⟨k + 1, by omega, by go_num, HM, HB1⟩
        case measure => simp [intOf]; omega
    · obtain rfl : k = n := by omega
      have HF : Hid (z = decide (((k : Nat) : Int) ≤ 8)) := Lib.hid (by
        rw [← HZ.out]
        unfold validRs
        rw [show l.all validR = true from by
          rw [List.all_eq_true]
          intro s hs
          obtain ⟨j, hj, rfl⟩ := List.getElem_of_mem hs
          rw [← nth_eq hj]
          exact ha.out j (by have := HLEN.out; omega), Bool.true_and, HLEN.out]
        exact decide_eq_decide.2 (by omega))
      clear hlt
      go_wp2_with fail
      go_ret
      exact ⟨ret_bool (by rw [HF.out]), hb.out⟩


set_option maxRecDepth 100000 in
set_option maxHeartbeats 4000000 in
theorem rfi {Q : Exit → Act → World → Prop} {v0 v2 v3 v4 v5 v6 v7 v8 v9 v10 : Value} {w : World} {r : Nat} {n0 c0 n1 c1 : Nat} {x0 x1 : Option Addr} {p q : List ByteArray} {a c : ByteArray} (H_p : Hid (Holds Value.string w (.slice x0 n0 c0) p)) (H_q : Hid (Holds Value.string w (.slice x1 n1 c1) q)) (HP : Hid (bulk p ≤ 100000000)) (HQ2 : Hid (bulk q ≤ 100000000)) (HA : Hid (fmtS p = a)) (HC : Hid (fmtS q = c)) (hs1 : a.size ≤ 100000001) (hs2 : c.size ≤ 100000001) (K0 : Hid (w.cell? ⟨r, 0, none⟩ = some (.slice x0 n0 c0))) (K1 : Hid (w.cell? ⟨r, 1, none⟩ = some (.slice x1 n1 c1)))
    (hQ : ∀ (u3 u4 u5 u6 u7 u8 u9 u10 : Value)  (wx : World), Below w.heap.size w wx → Q .normal ⟨#[v0, .pointer (some ⟨r, 0, none⟩), .string (a ++ { data := #[32, 60, 32] } ++ c), u3, u4, u5, u6, u7, u8, u9, u10], []⟩ wx) :
    (Code.region 1 #[{ dst := some 3, op := Op.fieldAddr 28 (Operand.tmp 1) 0, type := 0, pos := "l10_rule.go:103", after := #[], guard := none },
      { dst := some 4, op := Op.load 26 (Operand.tmp 3), type := 26, pos := "l10_rule.go:103", after := #[{ on := 0, ground := Ground.data }], guard := none },
      { dst := some 5, op := Op.call { callee := Callee.value (Operand.func 41), args := #[Operand.tmp 4], argTypes := #[26] }, type := 9, pos := "l10_rule.go:103", after := #[{ on := 1, ground := Ground.data }], guard := none },
      { dst := some 6, op := Op.binOp BinOp.add 9 (Operand.tmp 5) (Operand.const (Value.string { data := #[32, 60, 32] })) 9, type := 9, pos := "l10_rule.go:103", after := #[{ on := 2, ground := Ground.data }], guard := none },
      { dst := some 7, op := Op.fieldAddr 28 (Operand.tmp 1) 1, type := 0, pos := "l10_rule.go:103", after := #[], guard := none },
      { dst := some 8, op := Op.load 26 (Operand.tmp 7), type := 26, pos := "l10_rule.go:103", after := #[{ on := 4, ground := Ground.data }], guard := none },
      { dst := some 9, op := Op.call { callee := Callee.value (Operand.func 41), args := #[Operand.tmp 8], argTypes := #[26] }, type := 9, pos := "l10_rule.go:103", after := #[{ on := 5, ground := Ground.data }, { on := 2, ground := Ground.chain }], guard := none },
      { dst := some 10, op := Op.binOp BinOp.add 9 (Operand.tmp 6) (Operand.tmp 9) 9, type := 9, pos := "l10_rule.go:103", after := #[{ on := 3, ground := Ground.data }, { on := 6, ground := Ground.data }], guard := none },
      { dst := some 2, op := Op.assign (Operand.tmp 10), type := 9, pos := "l10_rule.go:103", after := #[{ on := 7, ground := Ground.data }, { on := 6, ground := Ground.chain }, { on := 0, ground := Ground.phase }, { on := 1, ground := Ground.phase }, { on := 2, ground := Ground.phase }, { on := 3, ground := Ground.phase }, { on := 4, ground := Ground.phase }, { on := 5, ground := Ground.phase }, { on := 6, ground := Ground.phase }, { on := 7, ground := Ground.phase }], guard := none }] true).wp Tryz.prog Q ⟨#[v0, .pointer (some ⟨r, 0, none⟩), v2, v3, v4, v5, v6, v7, v8, v9, v10], []⟩ w := by
  have HQ := Lib.hid hQ; clear hQ
  have hdr : Below w.heap.size w w.drew := (Below.refl _ _).drew
  have t1 : ¬ 9223372036854775807 < a.size + 3 := by omega
  have t2 : ¬ 9223372036854775807 < a.size + 3 + c.size := by omega
  have BB := Lib.hid hdr
  refine wp_region_noPanic ?_
  refine wp_region_held_drew (S := (fun w' => w'.cell? ⟨r, 0, none⟩ = some (.slice x0 n0 c0) ∧ w'.cell? ⟨r, 1, none⟩ = some (.slice x1 n1 c1))) (by kernel_rfl) ?_ (fun hHeld => ?_)
  · exact ⟨kc K0.out BB.out, kc K1.out BB.out⟩
  clear hdr
  generalize w.drew = wd at *
  refine wpAnyH_take (i := 0) (oi := { dst := some 3, op := Op.fieldAddr 28 (Operand.tmp 1) 0, type := 0, pos := "l10_rule.go:103", after := #[], guard := none }) (v := ?_) rfl (by kernel_rfl) (by kernel_rfl) (by kernel_rfl) (fun _ _ _ h => h) (Or.inl ⟨by rfl, ?_⟩) (by assumption) ?_
  rotate_left
  · intro w' hSw; (try dsimp only at hSw); first | (go_simp; done) | (go_simp; with_reducible rfl)
  (try simp only [Act.put, List.setIfInBounds_toArray, List.set_cons_zero, List.set_cons_succ])
  refine wpAnyH_take (i := 1) (oi := { dst := some 4, op := Op.load 26 (Operand.tmp 3), type := 26, pos := "l10_rule.go:103", after := #[{ on := 0, ground := Ground.data }], guard := none }) (v := ?_) rfl (by kernel_rfl) (by kernel_rfl) (by kernel_rfl) (fun _ _ _ h => h) (Or.inl ⟨by rfl, ?_⟩) (by assumption) ?_
  rotate_left
  · intro w' hSw; (try dsimp only at hSw); first | (go_simp; done) | (go_simp; with_reducible rfl)
  (try simp only [Act.put, List.setIfInBounds_toArray, List.set_cons_zero, List.set_cons_succ])
  refine wpAnyH_take (i := 4) (oi := { dst := some 7, op := Op.fieldAddr 28 (Operand.tmp 1) 1, type := 0, pos := "l10_rule.go:103", after := #[], guard := none }) (v := ?_) rfl (by kernel_rfl) (by kernel_rfl) (by kernel_rfl) (fun _ _ _ h => h) (Or.inl ⟨by rfl, ?_⟩) (by assumption) ?_
  rotate_left
  · intro w' hSw; (try dsimp only at hSw); first | (go_simp; done) | (go_simp; with_reducible rfl)
  (try simp only [Act.put, List.setIfInBounds_toArray, List.set_cons_zero, List.set_cons_succ])
  refine wpAnyH_take (i := 5) (oi := { dst := some 8, op := Op.load 26 (Operand.tmp 7), type := 26, pos := "l10_rule.go:103", after := #[{ on := 4, ground := Ground.data }], guard := none }) (v := ?_) rfl (by kernel_rfl) (by kernel_rfl) (by kernel_rfl) (fun _ _ _ h => h) (Or.inl ⟨by rfl, ?_⟩) (by assumption) ?_
  rotate_left
  · intro w' hSw; (try dsimp only at hSw); first | (go_simp; done) | (go_simp; with_reducible rfl)
  (try simp only [Act.put, List.setIfInBounds_toArray, List.set_cons_zero, List.set_cons_succ])
  refine wpAnyH_ready (rs := [2]) (by kernel_rfl) (by simp) ?_
  refine AllReadyH.cons (o := { dst := some 5, op := Op.call { callee := Callee.value (Operand.func 41), args := #[Operand.tmp 4], argTypes := #[26] }, type := 9, pos := "l10_rule.go:103", after := #[{ on := 1, ground := Ground.data }], guard := none }) rfl (fun K hK => ?_) AllReadyH.nil
  go_simp
  refine (fPatI a HA.out (H_p.out.on BB.out) HP.out).mono ?_
  rintro e wn1 ⟨rfl, hb⟩
  replace BB := Lib.hid (BB.out.trans (hb.mono BB.out.size))
  clear hb
  (try go_wp2_with fail)
  clear hHeld
  refine hK.out _ _ ?_ (fun hHeld => ?_)
  · (try dsimp only); exact ⟨kc K0.out BB.out, kc K1.out BB.out⟩
  clear hK K
  (try simp only [Act.put, List.setIfInBounds_toArray, List.set_cons_zero, List.set_cons_succ])
  refine wpAnyH_take (i := 3) (oi := { dst := some 6, op := Op.binOp BinOp.add 9 (Operand.tmp 5) (Operand.const (Value.string { data := #[32, 60, 32] })) 9, type := 9, pos := "l10_rule.go:103", after := #[{ on := 2, ground := Ground.data }], guard := none }) (v := ?_) rfl (by kernel_rfl) (by kernel_rfl) (by kernel_rfl) (fun _ _ _ h => h) (Or.inl ⟨by rfl, ?_⟩) (by assumption) ?_
  rotate_left
  · intro w' hSw; (try dsimp only at hSw); first | (go_simp; done) | (go_simp; with_reducible rfl)
  (try simp only [Act.put, List.setIfInBounds_toArray, List.set_cons_zero, List.set_cons_succ])
  refine wpAnyH_ready (rs := [6]) (by kernel_rfl) (by simp) ?_
  refine AllReadyH.cons (o := { dst := some 9, op := Op.call { callee := Callee.value (Operand.func 41), args := #[Operand.tmp 8], argTypes := #[26] }, type := 9, pos := "l10_rule.go:103", after := #[{ on := 5, ground := Ground.data }, { on := 2, ground := Ground.chain }], guard := none }) rfl (fun K hK => ?_) AllReadyH.nil
  go_simp
  refine (fPatI c HC.out (H_q.out.on BB.out) HQ2.out).mono ?_
  rintro e wn2 ⟨rfl, hb⟩
  replace BB := Lib.hid (BB.out.trans (hb.mono BB.out.size))
  clear hb
  (try go_wp2_with fail)
  clear hHeld
  refine hK.out _ _ ?_ (fun hHeld => ?_)
  · (try dsimp only); exact ⟨kc K0.out BB.out, kc K1.out BB.out⟩
  clear hK K
  (try simp only [Act.put, List.setIfInBounds_toArray, List.set_cons_zero, List.set_cons_succ])
  refine wpAnyH_take (i := 7) (oi := { dst := some 10, op := Op.binOp BinOp.add 9 (Operand.tmp 6) (Operand.tmp 9) 9, type := 9, pos := "l10_rule.go:103", after := #[{ on := 3, ground := Ground.data }, { on := 6, ground := Ground.data }], guard := none }) (v := ?_) rfl (by kernel_rfl) (by kernel_rfl) (by kernel_rfl) (fun _ _ _ h => h) (Or.inl ⟨by rfl, ?_⟩) (by assumption) ?_
  rotate_left
  · intro w' hSw; (try dsimp only at hSw); first | (go_simp; done) | (go_simp; with_reducible rfl)
  (try simp only [Act.put, List.setIfInBounds_toArray, List.set_cons_zero, List.set_cons_succ])
  refine wpAnyH_take (i := 8) (oi := { dst := some 2, op := Op.assign (Operand.tmp 10), type := 9, pos := "l10_rule.go:103", after := #[{ on := 7, ground := Ground.data }, { on := 6, ground := Ground.chain }, { on := 0, ground := Ground.phase }, { on := 1, ground := Ground.phase }, { on := 2, ground := Ground.phase }, { on := 3, ground := Ground.phase }, { on := 4, ground := Ground.phase }, { on := 5, ground := Ground.phase }, { on := 6, ground := Ground.phase }, { on := 7, ground := Ground.phase }], guard := none }) (v := ?_) rfl (by kernel_rfl) (by kernel_rfl) (by kernel_rfl) (fun _ _ _ h => h) (Or.inl ⟨by rfl, ?_⟩) (by assumption) ?_
  rotate_left
  · intro w' hSw; (try dsimp only at hSw); first | (go_simp; done) | (go_simp; with_reducible rfl)
  (try simp only [Act.put, List.setIfInBounds_toArray, List.set_cons_zero, List.set_cons_succ])
  refine wpAnyH_done (by kernel_rfl) ?_ _
  exact NoPanic.normal (HQ.out _ _ _ _ _ _ _ _  _  BB.out)

set_option maxHeartbeats 2000000 in
theorem implFormatRule (V : Value) (x : Rlt) (w : World) (h : kRl.At w V x) (hp : wtRl x ≤ 9000000) :
    Calls Tryz.prog 18 #[V] w fun e w' => e = .returned (.string (fmtR x)) ∧ Below w.heap.size w w' := by
  obtain ⟨x0, n0, c0, x1, n1, c1, rfl, g0, g1⟩ := kRl_at h
  obtain ⟨p, q⟩ := x
  obtain ⟨p0, p1⟩ := fitR hp
  dsimp only at g0 g1 p0 p1
  obtain ⟨v0, e0, g0⟩ := kN_at g0
  obtain ⟨v1, e1, g1⟩ := kN_at g1
  obtain rfl : v0 = .slice x0 n0 c0 := by injection e0 with e; have := congrArg (fun z : Array Value => z[0]?) e; simpa using this.symm
  obtain rfl : v1 = .slice x1 n1 c1 := by injection e1 with e; have := congrArg (fun z : Array Value => z[0]?) e; simpa using this.symm
  have HB := Lib.hid ((Below.refl w.heap.size w).alloc (Nat.le_refl _) (.cells #[.slice x0 n0 c0, .slice x1 n1 c1] 28))
  have HX := Lib.hid (Ret.Blk.new w #[.slice x0 n0 c0, .slice x1 n1 c1] 28)
  have G0 := Lib.hid g0; have G1 := Lib.hid g1
  obtain ⟨a, ha⟩ : ∃ a, fmtS p = a := ⟨_, rfl⟩
  obtain ⟨c, hc⟩ : ∃ a, fmtS q = a := ⟨_, rfl⟩
  have HE : Hid (fmtR (p, q) = a ++ { data := #[32, 60, 32] } ++ c) := Lib.hid (by unfold fmtR; rw [ha, hc])
  have hs1 : a.size ≤ 100000001 := by rw [← ha]; have := fmtS_sz p; omega
  have hs2 : c.size ≤ 100000001 := by rw [← hc]; have := fmtS_sz q; omega
  have HA := Lib.hid ha; have HC := Lib.hid hc
  rw [HE.out]
  clear h hp g0 g1 e0 e1 ha hc
  go_enter Tryz.func18, Tryz.ntmps18
  go_wp2_with fail
  refine rfi (Lib.hid (G0.out.on HB.out)) (Lib.hid (G1.out.on HB.out)) (Lib.hid (by omega)) (Lib.hid (by omega)) HA HC hs1 hs2 (Lib.hid (HX.out.cell 0)) (Lib.hid (HX.out.cell 1)) ?_
  intro u3 u4 u5 u6 u7 u8 u9 u10 wx hb
  replace HB := Lib.hid (HB.out.trans (hb.mono HB.out.size)); clear hb
  go_wp2_with fail
  go_ret
  exact ⟨rfl, HB.out⟩

set_option maxHeartbeats 2000000 in
theorem equalPatterns (V U : Value) (p q : List ByteArray) (w : World) (z : Bool) (hz : decide (p = q) = z) (h9 : kN.At w V p) (g9 : kN.At w U q) (hp : p.length ≤ 9000000) (hq : q.length ≤ 9000000) :
    Calls Tryz.prog 43 #[V, U] w fun e w' => e = .returned (.bool z) ∧ Below w.heap.size w w' := by
  obtain ⟨v, rfl, h⟩ := kN_at h9
  obtain ⟨u, rfl, g⟩ := kN_at g9
  obtain ⟨x0, n0, c0, rfl, -, -, h8⟩ := h.shapeN
  obtain ⟨x1, n1, c1, rfl, -, -, g8⟩ := g.shapeN
  have HB := Lib.hid (((Below.refl w.heap.size w).alloc (Nat.le_refl _) (.cells #[.slice x0 n0 c0] 26)).alloc (by simp) (.cells #[.slice x1 n1 c1] 26))
  have H0 := Lib.hid h8; have G0 := Lib.hid g8; have HZ := Lib.hid hz
  clear h g h8 g8 h9 g9 hz
  go_enter Tryz.func43, Tryz.ntmps43
  go_wp2_with fail
  refine (libEqS _ _ p q _ (H0.out.on HB.out) (G0.out.on HB.out) (by omega) (by omega)).mono ?_
  rintro e w1 ⟨rfl, hb⟩
  replace HB := Lib.hid (HB.out.trans (hb.mono HB.out.size)); clear hb
  have HE : Hid (eqB p q = z) := Lib.hid HZ.out
  rw [HE.out]
  go_wp2_with fail
  go_ret
  exact ⟨rfl, HB.out⟩
set_option maxHeartbeats 2000000 in
theorem implEqualRules (V U : Value) (x y : Rlt) (w : World) (z : Bool) (hz : decide (x = y) = z) (h : kRl.At w V x) (g : kRl.At w U y) (hp : adRl x ≤ 9000000) (hy : adRl y ≤ 9000000) :
    Calls Tryz.prog 20 #[V, U] w fun e w' => e = .returned (.bool z) ∧ Below w.heap.size w w' := by
  obtain ⟨x0, n0, c0, x1, n1, c1, rfl, g0, g1⟩ := kRl_at h
  obtain ⟨y0, m0, d0, y1, m1, d1, rfl, k0, k1⟩ := kRl_at g
  obtain ⟨p, q⟩ := x
  obtain ⟨r, s⟩ := y
  have hp9 : p.length + q.length ≤ 9000000 := hp
  have hy9 : r.length + s.length ≤ 9000000 := hy
  have HB := Lib.hid (((Below.refl w.heap.size w).alloc (Nat.le_refl _) (.cells #[.slice x0 n0 c0, .slice x1 n1 c1] 28)).alloc (by simp) (.cells #[.slice y0 m0 d0, .slice y1 m1 d1] 28))
  have HX := Lib.hid ((Ret.Blk.new w #[.slice x0 n0 c0, .slice x1 n1 c1] 28).on ((Below.refl _ _).alloc (Nat.le_refl _) (.cells #[.slice y0 m0 d0, .slice y1 m1 d1] 28)))
  have HY := Lib.hid (Ret.Blk.new' (w := w.alloc (.cells #[.slice x0 n0 c0, .slice x1 n1 c1] 28)) (n := w.heap.size + 1) #[.slice y0 m0 d0, .slice y1 m1 d1] 28 (by simp))
  have G0 := Lib.hid g0; have G1 := Lib.hid g1; have K0 := Lib.hid k0; have K1 := Lib.hid k1; have HZ := Lib.hid hz
  dsimp only at G0 G1 K0 K1
  clear h g hz hp hy g0 g1 k0 k1
  go_enter Tryz.func20, Tryz.ntmps20
  go_wp2_with fail
  by_cases e1 : p = r
  · refine (equalPatterns _ _ p r _ true (decide_eq_true e1) (G0.out.on HB.out) (K0.out.on HB.out) (by omega) (by omega)).mono ?_
    rintro e w1 ⟨rfl, hb⟩
    replace HX := Lib.hid (HX.out.on hb); replace HY := Lib.hid (HY.out.on hb)
    replace HB := Lib.hid (HB.out.trans (hb.mono HB.out.size)); clear hb
    have q1 : w1.cell? ⟨w.heap.size, 1, none⟩ = some (.slice x1 n1 c1) := HX.out.cell 1
    have q2 : w1.cell? ⟨w.heap.size + 1, 1, none⟩ = some (.slice y1 m1 d1) := HY.out.cell 1
    go_wp2_with fail
    clear q1 q2
    obtain ⟨c, hc⟩ : ∃ a, decide (q = s) = a := ⟨_, rfl⟩
    have HE : Hid (z = c) := Lib.hid (by rw [← HZ.out, ← hc]; simp [e1])
    refine (equalPatterns _ _ q s _ c hc (G1.out.on HB.out) (K1.out.on HB.out) (by omega) (by omega)).mono ?_
    rintro e w2 ⟨rfl, hb⟩
    replace HB := Lib.hid (HB.out.trans (hb.mono HB.out.size)); clear hb hc e1
    cases c <;> (go_wp2_with fail; go_ret; exact ⟨ret_bool HE.out.symm, HB.out⟩)
  · refine (equalPatterns _ _ p r _ false (decide_eq_false e1) (G0.out.on HB.out) (K0.out.on HB.out) (by omega) (by omega)).mono ?_
    rintro e w1 ⟨rfl, hb⟩
    replace HB := Lib.hid (HB.out.trans (hb.mono HB.out.size)); clear hb
    have HE : Hid (z = false) := Lib.hid (by rw [← HZ.out]; simp [e1])
    clear e1
    go_wp2_with fail
    go_ret
    exact ⟨ret_bool HE.out.symm, HB.out⟩
end Go.Proofs.YtkojeajjappchaaGreat.Row
