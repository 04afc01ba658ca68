/- Contracts and mathematics, joined: FindK, TrustMath, RuleP, TrustP. No conditions but those that each states. -/
import Derived.Test.YtcidfmmeonhkhaaGreatDoorB4
import Derived.Test.YtcidfmmeonhkhaaGreatDoorB9
import Derived.Test.YtcidfmmeonhkhaaGreatDoorB17
import Derived.Test.YtcidfmmeonhkhaaGreatDoorB20
import Derived.WalkKit
import Derived.Deep.RegionHeld3
/- Searching a list for the first element of which something holds; what is asked of a closure that is handed to the library. For any kind. No conditions. -/
namespace Go.Proofs.YtcidfmmeonhkhaaGreatDoor.Row
open Go.ChangeShapes Go.WideShapes Go.ChangeAt Go.RowKit Go.Instr
set_option linter.unusedVariables false
set_option maxRecDepth 100000

section
variable {α : Type} [Inhabited α] {p : α → Bool} {l : List α} {k : Nat}
/-- The place of the first element of which p is true; -1 if there is none. -/
def ixL (p : α → Bool) (l : List α) : Int := if l.findIdx p < l.length then (l.findIdx p : Int) else -1
def noL (p : α → Bool) (l : List α) (k : Nat) : Prop := ∀ j, j < k → p (nth l j) = false
theorem noL_zero (p : α → Bool) (l : List α) : noL p l 0 := fun j h => absurd h (by omega)
theorem noL_succ (h : noL p l k) (hc : p (nth l k) = false) : noL p l (k + 1) := fun j h1 => by
  by_cases e : j = k
  · subst e; exact hc
  · exact h j (by omega)
theorem ixL_at (hk : k < l.length) (h : noL p l k) (hc : p (nth l k) = true) : ixL p l = k := by
  have e : l.findIdx p = k := by
    rw [List.findIdx_eq hk]
    exact ⟨by rw [← nth_eq hk]; exact hc, fun j hj => by rw [← nth_eq (Nat.lt_trans hj hk)]; exact h j hj⟩
  unfold ixL; rw [e, if_pos hk]
theorem ixL_none (h : noL p l l.length) : ixL p l = -1 := by
  have e : l.findIdx p = l.length := by
    rw [List.findIdx_eq_length]
    intro x hx
    obtain ⟨j, hj, rfl⟩ := List.getElem_of_mem hx
    rw [← nth_eq hj]; exact h j hj
  unfold ixL; rw [e, if_neg (by omega)]
theorem ixL_cases (p : α → Bool) (l : List α) : (ixL p l = -1 ∧ noL p l l.length) ∨ ∃ k, k < l.length ∧ ixL p l = (k : Int) ∧ p (nth l k) = true ∧ noL p l k := by
  by_cases h : l.findIdx p < l.length
  · refine Or.inr ⟨l.findIdx p, h, by unfold ixL; rw [if_pos h], ?_, ?_⟩
    · rw [nth_eq h]; exact List.findIdx_getElem
    · intro j hj
      rw [nth_eq (Nat.lt_trans hj h)]
      have := List.not_of_lt_findIdx hj
      simpa using this
  · have e : l.findIdx p = l.length := Nat.le_antisymm List.findIdx_le_length (by omega)
    refine Or.inl ⟨by unfold ixL; rw [if_neg h], fun j hj => ?_⟩
    rw [nth_eq hj]
    have := List.not_of_lt_findIdx (p := p) (xs := l) (i := j) (by omega)
    simpa using this
theorem any_of_noL (h : noL p l l.length) : l.any p = false := by
  rw [List.any_eq_false]
  intro x hx
  obtain ⟨j, hj, rfl⟩ := List.getElem_of_mem hx
  rw [← nth_eq hj, h j hj]
  simp
theorem any_of_at (hk : k < l.length) (hc : p (nth l k) = true) : l.any p = true := List.any_eq_true.2 ⟨_, nth_mem hk, hc⟩
theorem any_ixL (p : α → Bool) (l : List α) : l.any p = decide (0 ≤ ixL p l) := by
  rcases ixL_cases p l with ⟨e, h⟩ | ⟨k, hk, e, hc, -⟩
  · rw [e, any_of_noL h]; rfl
  · rw [e, any_of_at hk hc]; simp
theorem ixL_lt (p : α → Bool) (l : List α) : -1 ≤ ixL p l ∧ ixL p l < l.length ∨ ixL p l = -1 := by
  rcases ixL_cases p l with ⟨e, h⟩ | ⟨k, hk, e, hc, -⟩
  · exact Or.inr e
  · exact Or.inl ⟨by omega, by omega⟩
end
/-- What is asked of a closure that is handed to the library: it answers p, for each element that fits, and leaves what was there. -/
def ClosK {α M : Type} (P : Program) (k : Kd α M) (fid : FuncId) (cap : Array Value) (p : α → Bool) (ok : α → Prop) (w : World) : Prop :=
  ∀ (x : α) (V : Value) (W : World), Below w.heap.size w W → k.At W V x → ok x → Calls P fid (#[V] ++ cap) W fun e w' => e = .returned (.bool (p x)) ∧ Below W.heap.size W w'
theorem ClosK.on {α M : Type} {P : Program} {k : Kd α M} {fid : FuncId} {cap : Array Value} {p : α → Bool} {ok : α → Prop} {w w' : World} (h : ClosK P k fid cap p ok w) (hb : Below w.heap.size w w') : ClosK P k fid cap p ok w' := fun x V W hW => h x V W (hb.trans (hW.mono hb.size))
end Go.Proofs.YtcidfmmeonhkhaaGreatDoor.Row
/- Chapter 11's answers as functions of lists, in the words of kinds; what fits. No conditions. -/
namespace Go.Proofs.YtcidfmmeonhkhaaGreatDoor.Row
open Go.ChangeShapes Go.WideShapes Go.ChangeAt Go.RowKit Go.Instr
set_option linter.unusedVariables false
set_option maxRecDepth 100000

/-! ### sizes -/
theorem bulkT_K (T : List Kyt) : Ring.bulkT T = bulkK wtKy T := rfl
structure FitT (t : Tpt) : Prop where
  wt : wtTp t ≤ 1200000
  ok : inTp t
structure FitD (x : Dzt) : Prop where
  wt : wtDz x ≤ 1200000
  ok : inDz x
section
variable {t : Tpt} {x : Dzt}
theorem FitT.sum (h : FitT t) : bulkK wtKy t.1 + bulkK wtRl t.2.1 + bulkK wtNn t.2.2.1 + bulkK wtDz t.2.2.2 ≤ 1200000 := h.wt
theorem FitT.keys (h : FitT t) : Ring.bulkT t.1 ≤ 1200000 := by have := h.sum; rw [bulkT_K]; omega
theorem FitT.ruleLen (h : FitT t) : t.2.1.length ≤ 9000000 := by have := h.sum; have := bulkK_len wtRl t.2.1; omega
theorem FitT.ruleWt (h : FitT t) : ∀ y ∈ t.2.1, wtRl y ≤ 9000000 := fun y hy => by have := h.sum; have := bulkK_mem (f := wtRl) hy; omega
theorem FitT.nameLen (h : FitT t) : t.2.2.1.length ≤ 9000000 := by have := h.sum; have := bulkK_len wtNn t.2.2.1; omega
theorem FitT.nameWt (h : FitT t) : ∀ y ∈ t.2.2.1, bulk y ≤ 1200000 := fun y hy => by have := h.sum; have := bulkK_mem (f := wtNn) hy; have : wtNn y = bulk y := rfl; omega
theorem FitT.nameWt9 (h : FitT t) : ∀ y ∈ t.2.2.1, bulk y ≤ 9000000 := fun y hy => Nat.le_trans (h.nameWt y hy) (by decide)
theorem FitT.certLen (h : FitT t) : t.2.2.2.length ≤ 9000000 := by have := h.sum; have := bulkK_len wtDz t.2.2.2; omega
theorem FitT.certs (h : FitT t) : ∀ y ∈ t.2.2.2, FitD y := fun y hy => ⟨by have := h.sum; have := bulkK_mem (f := wtDz) hy; omega, h.ok.2.2.2.2 y hy⟩
theorem FitD.bulk (h : FitD x) : bulkD x ≤ 1200000 := h.wt
theorem FitD.bulk9 (h : FitD x) : bulkD x ≤ 9000000 := Nat.le_trans h.wt (by decide)
theorem FitD.wf (h : FitD x) : WfD x := ⟨h.ok.1.2, h.ok.2.1.2, h.ok.2.2.1.2, h.ok.2.2.2.1, h.ok.2.2.2.2⟩
theorem FitD.name (h : FitD x) : Row.bulk x.1 ≤ 1200000 := by have : Row.bulk x.1 + x.2.1.length + Row.bulk x.2.2.1 ≤ 1200000 := h.wt; omega
theorem FitD.bytes (h : FitD x) : x.2.1.length ≤ 1200000 := by have : Row.bulk x.1 + x.2.1.length + Row.bulk x.2.2.1 ≤ 1200000 := h.wt; omega
theorem FitD.key (h : FitD x) : Row.bulk x.2.2.1 ≤ 1200000 := by have : Row.bulk x.1 + x.2.1.length + Row.bulk x.2.2.1 ≤ 1200000 := h.wt; omega
end

/-! ### the answers -/
/-- The list has a key with this name. -/
def hasK (T : List Kyt) (m : List ByteArray) : Bool := decide (0 ≤ Ring.ixT (Ring.isN m) T)
def validT (t : Tpt) : Bool := Ring.validK t.1 && validRs t.2.1 && decide (t.2.2.1.length ≤ 8) && decide (t.2.2.2.length ≤ 8) && t.2.2.1.all (hasK t.1) && t.2.2.2.all validD
/-- The packet is a certificate of the name that serves. -/
def certP (T : List Kyt) (n : List ByteArray) (now : Int) (x : Dzt) : Bool := decide (x.1 = n) && decide (now ≤ x.2.2.2.1) && decide (x.2.1 = digK T n) && verD (Ring.lkN T x.2.2.1) x
def findC (t : Tpt) (n : List ByteArray) (now : Int) : Int := if Ring.lkN t.1 n = 0 then -1 else ixL (certP t.1 n now) t.2.2.2
/-- Signed by a key that may. -/
def sigT (t : Tpt) (x : Dzt) : Bool := verD (Ring.lkN t.1 x.2.2.1) x && decide (0 ≤ firstR t.2.1 x.1 x.2.2.1)
/-- The chain of keys, at most k of them. -/
def chainT (t : Tpt) (now : Int) : Nat → Dzt → Option (List Nnt)
  | 0, _ => none
  | k + 1, x => if sigT t x = true then (if anchorT t.2.2.1 x.2.2.1 = true then some [x.2.2.1] else if findC t x.2.2.1 now < 0 then none else (chainT t now k (nth t.2.2.2 (findC t x.2.2.1 now).toNat)).map (x.2.2.1 :: ·)) else none
def chT (t : Tpt) (x : Dzt) (now : Int) : List Nnt := (chainT t now 4 x).getD []
def chOk (t : Tpt) (x : Dzt) (now : Int) : Bool := (chainT t now 4 x).isSome
def trusted (t : Tpt) (x : Dzt) (now : Int) : Bool := chOk t x now && validD x
theorem findC_lt (t : Tpt) (n : List ByteArray) (now : Int) : findC t n now < 0 ∨ (findC t n now).toNat < t.2.2.2.length := by
  unfold findC
  split
  · left; decide
  · rcases ixL_lt (certP t.1 n now) t.2.2.2 with h | h <;> omega
end Go.Proofs.YtcidfmmeonhkhaaGreatDoor.Row
/- The program's chapter 10, its first part: ValidRule, ValidRules, FormatRule, EqualRules. No conditions but that lengths fit. -/
namespace Go.Proofs.YtcidfmmeonhkhaaGreatDoor.Row
open Go.ChangeShapes Go.WideShapes Go.ChangeAt Go.RowKit Go.Instr
set_option linter.unusedVariables false
set_option maxRecDepth 100000

set_option maxHeartbeats 1000000 in
theorem indexS (v : Value) (l : List ByteArray) (s : ByteArray) (w : World) (h : Holds Value.string w v l) (hl : bulk l ≤ 100000000) :
    Calls Tryz.prog 228 #[v, .string s] w fun e w' => ((hasP l s = true ∧ ∃ k : Nat, e = .returned (.int .i64 k)) ∨ (hasP l s = false ∧ e = .returned (.int .i64 (-1)))) ∧ w = w' := by
  obtain ⟨x, n, cap, rfl, hn, hcap, hh⟩ := h.shapeN
  have hll := bigLen hl
  rw [← hn] at hll
  have HN := Lib.hid hn
  have HH := Lib.hid hh
  clear hn h hh hl
  go_enter Tryz.func228, Tryz.ntmps228
  go_wp2
  go_loop [8] (fun iv => ∃ k : Nat, k ≤ n ∧ iv = .int .i64 k ∧ Hid (∀ j, j < k → ¬ nth l j = s)) (fun iv => n - (intOf iv).toNat)
  case atStart => exact ⟨0, Nat.zero_le _, rfl, Lib.hid (fun j hj => absurd hj (by omega))⟩
  case round =>
    obtain ⟨k, hk, rfl, ha⟩ := hrel
    by_cases hlt : k < n
    · have hlen := HN.out
      obtain ⟨b, off, rfl, hd⟩ := HH.out.at (j := k) (by omega)
      by_cases hq : nth l k = s
      · have HE : Hid (hasP l s = true) := Lib.hid (hasP_iff.2 (hq ▸ nth_mem (by omega)))
        have HQ := Lib.hid (tlB_true hq); have HQ2 := Lib.hid (tlB_true hq.symm)
        clear hlen hq
        have hq := HQ.out; have hq2 := HQ2.out
        go_wp2
        go_ret
        exact ⟨Or.inl ⟨HE.out, k, rfl⟩, rfl⟩
      · have HA := Lib.hid (show ∀ j, j < k + 1 → ¬ nth l j = s from fun j hj => by rcases Nat.lt_succ_iff_lt_or_eq.1 hj with h5 | h5; exact ha.out j h5; exact h5 ▸ hq)
        have HQ := Lib.hid (tlB_false hq); have HQ2 := Lib.hid (tlB_false (fun e => hq e.symm))
        clear hlen hq
        have hq := HQ.out; have hq2 := HQ2.out
        go_wp2
        go_round
        case rel => exact ⟨k + 1, by omega, by go_num, HA⟩
        case measure => simp [intOf]; omega
    · obtain rfl : k = n := by omega
      have HE : Hid (hasP l s = false) := Lib.hid (by
        refine hasP_no.2 fun hm => ?_
        obtain ⟨j, hj, e⟩ := List.getElem_of_mem hm
        exact ha.out j (by have := HN.out; omega) (by rw [nth_eq hj]; exact e))
      clear hlt
      go_wp2
      go_ret
      exact ⟨Or.inr ⟨HE.out, rfl⟩, rfl⟩

set_option maxHeartbeats 1000000 in
theorem containsS (v : Value) (l : List ByteArray) (s : ByteArray) (w : World) (z : Bool) (hz : hasP l s = z) (h : Holds Value.string w v l) (hl : bulk l ≤ 100000000) :
    Calls Tryz.prog 217 #[v, .string s] w fun e w' => e = .returned (.bool z) ∧ w = w' := by
  obtain ⟨x, n, cap, rfl, hn, hcap, hh⟩ := h.shapeN
  have HZ := Lib.hid hz; have HH := Lib.hid hh; have HL := Lib.hid hl
  clear hn h hh hz hl
  go_enter Tryz.func217, Tryz.ntmps217
  go_wp2_with fail
  refine (indexS _ l s _ HH.out HL.out).mono ?_
  rintro e w1 ⟨⟨hh, k, rfl⟩ | ⟨hh, rfl⟩, rfl⟩
  · have HE : Hid (z = true) := Lib.hid (HZ.out.symm.trans hh)
    clear hh
    go_wp2
    go_ret
    exact ⟨ret_bool HE.out.symm, rfl⟩
  · have HE : Hid (z = false) := Lib.hid (HZ.out.symm.trans hh)
    clear hh
    go_wp2
    go_ret
    exact ⟨ret_bool HE.out.symm, rfl⟩

theorem iPatV {v : Value} {l : List ByteArray} {w : World} (z : Bool) (hz : validPat l = z) (h : Holds Value.string w v l) (hl : bulk l ≤ 100000000) :
    Calls Tryz.prog 192 #[.agg #[v]] w fun e w' => e = .returned (.bool z) ∧ Below w.heap.size w w' := hz ▸ implValidPattern v l w h hl
/-- The text s is a letter that does not stand in p. -/
def freeL (p : List ByteArray) (s : ByteArray) : Bool := letterP s && !hasP p s
theorem letters_free (p q : List ByteArray) : lettersIn p q = !(q.any (freeL p)) := by
  unfold lettersIn freeL
  induction q with
  | nil => rfl
  | cons a r ih => rw [List.all_cons, List.any_cons, ih]; cases letterP a <;> cases hasP p a <;> simp
set_option maxHeartbeats 1000000 in
theorem freeClos (s : ByteArray) (g : Nat) (x0 x1 : Option Addr) (n0 c0 n1 c1 : Nat) (p : List ByteArray) (w : World) (z : Bool) (hz : freeL p s = z) (hx : Ret.Blk w g #[.slice x0 n0 c0, .slice x1 n1 c1] 168) (h : Holds Value.string w (.slice x0 n0 c0) p) (hl : bulk p ≤ 100000000) (hs : s.size ≤ 140737488351232) :
    Calls Tryz.prog 215 #[.string s, .pointer (some ⟨g, 0, none⟩)] w fun e w' => e = .returned (.bool z) ∧ w = w' := by
  have HZ := Lib.hid hz; have HH := Lib.hid h; have HL := Lib.hid hl; have HX := Lib.hid hx
  clear hz h hl hx
  have q0 : w.cell? ⟨g, 0, none⟩ = some (.slice x0 n0 c0) := HX.out.cell 0
  go_enter Tryz.func215, Tryz.ntmps215
  go_wp2_with fail
  refine (isVariable s _ hs).mono ?_
  rintro e w1 ⟨rfl, rfl⟩
  cases ha : letterP s with
  | false =>
    have HE : Hid (z = false) := Lib.hid (by rw [← HZ.out]; unfold freeL; rw [ha]; rfl)
    clear ha
    go_wp2_with fail
    go_ret
    exact ⟨ret_bool HE.out.symm, rfl⟩
  | true =>
    obtain ⟨c, hc⟩ : ∃ c, hasP p s = c := ⟨_, rfl⟩
    have HE : Hid (z = !c) := Lib.hid (by rw [← HZ.out]; unfold freeL; rw [ha, hc]; rfl)
    have HC := Lib.hid hc
    clear ha hc
    go_wp2_with fail
    refine (containsS _ p s _ c HC.out HH.out HL.out).mono ?_
    rintro e w1 ⟨rfl, rfl⟩
    cases c <;> (go_wp2_with fail; go_ret; exact ⟨ret_bool HE.out.symm, rfl⟩)

set_option maxHeartbeats 1000000 in
theorem indexFree (v : Value) (q : List ByteArray) (g : Nat) (x0 x1 : Option Addr) (n0 c0 n1 c1 : Nat) (p : List ByteArray) (w : World) (z : Bool) (hz : q.any (freeL p) = z) (hx : Ret.Blk w g #[.slice x0 n0 c0, .slice x1 n1 c1] 168) (h : Holds Value.string w (.slice x0 n0 c0) p) (hq : Holds Value.string w v q) (hl : bulk p ≤ 100000000) (hql : bulk q ≤ 100000000) :
    Calls Tryz.prog 227 #[v, .func (.func 215) #[] #[.pointer (some ⟨g, 0, none⟩)]] w fun e w' => ((z = true ∧ ∃ k : Nat, e = .returned (.int .i64 k)) ∨ (z = false ∧ e = .returned (.int .i64 (-1)))) ∧ w = w' := by
  obtain ⟨x, n, cap, rfl, hn, hcap, hh⟩ := hq.shapeN
  have hll := bigLen hql
  rw [← hn] at hll
  have HSZ := Lib.hid (fun k (hk : k < q.length) => size_nth hql hk)
  have HN := Lib.hid hn; have HH := Lib.hid hh; have HX := Lib.hid hx; have HP := Lib.hid h; have HL := Lib.hid hl; have HZ := Lib.hid hz
  clear hn h hh hx hl hql hq hz
  go_enter Tryz.func227, Tryz.ntmps227
  go_wp2
  go_loop [8] (fun iv => ∃ k : Nat, k ≤ n ∧ iv = .int .i64 k ∧ Hid (∀ j, j < k → freeL p (nth q j) = false)) (fun iv => n - (intOf iv).toNat)
  case atStart => exact ⟨0, Nat.zero_le _, rfl, Lib.hid (fun j hj => absurd hj (by omega))⟩
  case round =>
    obtain ⟨k, hk, rfl, ha⟩ := hrel
    by_cases hlt : k < n
    · have hlen := HN.out
      obtain ⟨b, off, rfl, hd⟩ := HH.out.at (j := k) (by omega)
      have hsz := HSZ.out k (by omega)
      obtain ⟨c, hc⟩ : ∃ c, freeL p (nth q k) = c := ⟨_, rfl⟩
      have HC := Lib.hid hc
      have HCL := Lib.hid (freeClos (nth q k) g x0 x1 n0 c0 n1 c1 p w c hc HX.out HP.out HL.out (by omega))
      clear hlen hc
      go_wp2_with fail
      refine HCL.out.mono ?_
      rintro e w2 ⟨rfl, rfl⟩
      clear hd
      cases c with
      | true =>
        have HE : Hid (z = true) := Lib.hid (HZ.out ▸ List.any_eq_true.2 ⟨_, nth_mem (by have := HN.out; omega), HC.out⟩)
        go_wp2
        go_ret
        exact ⟨Or.inl ⟨HE.out, k, rfl⟩, rfl⟩
      | false =>
        have HA := Lib.hid (show ∀ j, j < k + 1 → freeL p (nth q j) = false from fun j hj => by rcases Nat.lt_succ_iff_lt_or_eq.1 hj with h5 | h5; exact ha.out j h5; exact h5 ▸ HC.out)
        go_wp2
        go_round
        case rel => exact ⟨k + 1, by omega, by go_num, HA⟩
        case measure => simp [intOf]; omega
    · obtain rfl : k = n := by omega
      have HE : Hid (z = false) := Lib.hid (by
        rw [← HZ.out, List.any_eq_false]
        intro s hs
        obtain ⟨j, hj, rfl⟩ := List.getElem_of_mem hs
        rw [← nth_eq hj, ha.out j (by have := HN.out; omega)]
        simp)
      clear hlt
      go_wp2
      go_ret
      exact ⟨Or.inr ⟨HE.out, rfl⟩, rfl⟩

set_option maxHeartbeats 1000000 in
theorem containsFree (v : Value) (q : List ByteArray) (g : Nat) (x0 x1 : Option Addr) (n0 c0 n1 c1 : Nat) (p : List ByteArray) (w : World) (z : Bool) (hz : q.any (freeL p) = z) (hx : Ret.Blk w g #[.slice x0 n0 c0, .slice x1 n1 c1] 168) (h : Holds Value.string w (.slice x0 n0 c0) p) (hq : Holds Value.string w v q) (hl : bulk p ≤ 100000000) (hql : bulk q ≤ 100000000) :
    Calls Tryz.prog 214 #[v, .func (.func 215) #[] #[.pointer (some ⟨g, 0, none⟩)]] w fun e w' => e = .returned (.bool z) ∧ w = w' := by
  obtain ⟨x, n, cap, rfl, hn, hcap, hh⟩ := hq.shapeN
  have HN := Lib.hid hn; have HH := Lib.hid hh; have HX := Lib.hid hx; have HP := Lib.hid h; have HL := Lib.hid hl; have HQ := Lib.hid hql; have HZ := Lib.hid hz
  clear hn h hh hx hl hql hq hz
  go_enter Tryz.func214, Tryz.ntmps214
  go_wp2_with fail
  refine (indexFree _ q g x0 x1 n0 c0 n1 c1 p _ z HZ.out HX.out HP.out HH.out HL.out HQ.out).mono ?_
  rintro e w1 ⟨⟨hh, k, rfl⟩ | ⟨hh, rfl⟩, rfl⟩
  · have HE := Lib.hid hh
    clear hh
    go_wp2
    go_ret
    exact ⟨ret_bool HE.out.symm, rfl⟩
  · have HE := Lib.hid hh
    clear hh
    go_wp2
    go_ret
    exact ⟨ret_bool HE.out.symm, rfl⟩

set_option maxHeartbeats 2000000 in
theorem hasFree (V : Value) (x : Rlt) (w : World) (z : Bool) (hz : lettersIn x.1 x.2 = !z) (h : kRl.At w V x) (hp : wtRl x ≤ 9000000) :
    Calls Tryz.prog 193 #[V] w fun e w' => e = .returned (.bool z) ∧ Below w.heap.size w w' := by
  obtain ⟨x0, n0, c0, x1, n1, c1, rfl, g0, g1⟩ := kRl_at h
  obtain ⟨p, q⟩ := x
  obtain ⟨p0, p1⟩ := fitR hp
  dsimp only at g0 g1 p0 p1
  obtain ⟨v0, e0, g0⟩ := kN_at g0
  obtain ⟨v1, e1, g1⟩ := kN_at g1
  obtain rfl : v0 = .slice x0 n0 c0 := by injection e0 with e; have := congrArg (fun z : Array Value => z[0]?) e; simpa using this.symm
  obtain rfl : v1 = .slice x1 n1 c1 := by injection e1 with e; have := congrArg (fun z : Array Value => z[0]?) e; simpa using this.symm
  have HB := Lib.hid ((Below.refl w.heap.size w).alloc (Nat.le_refl _) (.cells #[.slice x0 n0 c0, .slice x1 n1 c1] 168))
  have HX := Lib.hid (Ret.Blk.new w #[.slice x0 n0 c0, .slice x1 n1 c1] 168)
  have G0 := Lib.hid g0; have G1 := Lib.hid g1
  have HE : Hid (q.any (freeL p) = z) := Lib.hid (by have := letters_free p q; dsimp only at hz; rw [this] at hz; cases hq : q.any (freeL p) <;> cases z <;> simp [hq] at hz ⊢)
  have hmf : ∀ (fn : Fn) (first cap : Array Value) (w : World), (Instr.makeFunc fn first cap).run Tryz.prog w = .ok (.func fn first cap) w := fun _ _ _ _ => rfl
  clear h hp hz g0 g1 e0 e1
  go_enter Tryz.func193, Tryz.ntmps193
  go_wp2_with fail
  refine (containsFree _ q w.heap.size x0 x1 n0 c0 n1 c1 p _ z HE.out HX.out (G0.out.on HB.out) (G1.out.on HB.out) (by omega) (by omega)).mono ?_
  rintro e w1 ⟨rfl, rfl⟩
  go_wp2_with fail
  go_ret
  exact ⟨rfl, HB.out⟩

set_option maxHeartbeats 4000000 in
theorem implValidRule (V : Value) (x : Rlt) (w : World) (z : Bool) (hz : validR x = z) (h : kRl.At w V x) (hp : wtRl x ≤ 9000000) :
    Calls Tryz.prog 142 #[V] w fun e w' => e = .returned (.bool z) ∧ Below w.heap.size w w' := by
  have h9 := h; have hp9 := hp
  obtain ⟨x0, n0, c0, x1, n1, c1, rfl, g0, g1⟩ := kRl_at h
  obtain ⟨p, q⟩ := x
  obtain ⟨p0, p1⟩ := fitR hp
  dsimp only at g0 g1 p0 p1
  obtain ⟨v0, e0, g0⟩ := kN_at g0
  obtain ⟨v1, e1, g1⟩ := kN_at g1
  obtain rfl : v0 = .slice x0 n0 c0 := by injection e0 with e; have := congrArg (fun z : Array Value => z[0]?) e; simpa using this.symm
  obtain rfl : v1 = .slice x1 n1 c1 := by injection e1 with e; have := congrArg (fun z : Array Value => z[0]?) e; simpa using this.symm
  have HB := Lib.hid ((Below.refl w.heap.size w).alloc (Nat.le_refl _) (.cells #[.slice x0 n0 c0, .slice x1 n1 c1] 168))
  have HX := Lib.hid (Ret.Blk.new w #[.slice x0 n0 c0, .slice x1 n1 c1] 168)
  have G0 := Lib.hid g0; have G1 := Lib.hid g1; have HZ := Lib.hid hz; have H9 := Lib.hid h9; have HP9 := Lib.hid hp9
  clear h hp hz g0 g1 e0 e1 h9 hp9
  go_enter Tryz.func142, Tryz.ntmps142
  go_wp2_with fail
  obtain ⟨a, ha⟩ : ∃ a, validPat p = a := ⟨_, rfl⟩
  have HA := Lib.hid ha; clear ha
  refine (iPatV a HA.out (G0.out.on HB.out) (by omega)).mono ?_
  rintro e w1 ⟨rfl, hb⟩
  replace HX := Lib.hid (HX.out.on hb); replace HB := Lib.hid (HB.out.trans (hb.mono HB.out.size)); clear hb
  have q0 : w1.cell? ⟨w.heap.size, 0, none⟩ = some (.slice x0 n0 c0) := HX.out.cell 0
  have q1 : w1.cell? ⟨w.heap.size, 1, none⟩ = some (.slice x1 n1 c1) := HX.out.cell 1
  cases a with
  | false =>
    have HE : Hid (z = false) := Lib.hid (by rw [← HZ.out]; show (validPat p && validPat q && lettersIn p q) = false; rw [HA.out]; rfl)
    go_wp2_with fail
    go_ret
    exact ⟨ret_bool HE.out.symm, HB.out⟩
  | true =>
    go_wp2_with fail
    clear q0 q1
    obtain ⟨c, hc⟩ : ∃ a, validPat q = a := ⟨_, rfl⟩
    have HC := Lib.hid hc; clear hc
    refine (iPatV c HC.out (G1.out.on HB.out) (by omega)).mono ?_
    rintro e w2 ⟨rfl, hb⟩
    replace HX := Lib.hid (HX.out.on hb); replace HB := Lib.hid (HB.out.trans (hb.mono HB.out.size)); clear hb
    have q0 : w2.cell? ⟨w.heap.size, 0, none⟩ = some (.slice x0 n0 c0) := HX.out.cell 0
    have q1 : w2.cell? ⟨w.heap.size, 1, none⟩ = some (.slice x1 n1 c1) := HX.out.cell 1
    cases c with
    | false =>
      have HE : Hid (z = false) := Lib.hid (by rw [← HZ.out]; show (validPat p && validPat q && lettersIn p q) = false; rw [HA.out, HC.out]; rfl)
      go_wp2_with fail
      go_ret
      exact ⟨ret_bool HE.out.symm, HB.out⟩
    | true =>
      obtain ⟨d, hd⟩ : ∃ a, lettersIn p q = !a := ⟨!lettersIn p q, by simp⟩
      have HE : Hid (z = !d) := Lib.hid (by rw [← HZ.out]; show (validPat p && validPat q && lettersIn p q) = _; rw [HA.out, HC.out, hd]; simp)
      have HD := Lib.hid hd; clear hd
      go_wp2_with fail
      clear q0 q1
      refine (hasFree _ (p, q) _ d HD.out (H9.out.on HB.out) HP9.out).mono ?_
      rintro e w3 ⟨rfl, hb⟩
      replace HB := Lib.hid (HB.out.trans (hb.mono HB.out.size)); clear hb
      cases d <;> (go_wp2_with fail; go_ret; exact ⟨ret_bool HE.out.symm, HB.out⟩)

end Go.Proofs.YtcidfmmeonhkhaaGreatDoor.Row
/- The program's chapter 11, its first part: IsAnchor, KeyDigest, ValidTrust. No conditions but that lengths fit. -/
namespace Go.Proofs.YtcidfmmeonhkhaaGreatDoor.Row
open Go.ChangeShapes Go.WideShapes Go.ChangeAt Go.RowKit Go.Instr
set_option linter.unusedVariables false
set_option maxRecDepth 100000

theorem iEqN {w : World} {V U : Value} {l m : List ByteArray} (z : Bool) (hz : decide (l = m) = z) (h : kN.At w V l) (g : kN.At w U m) (hl : bulk l ≤ 9000000) (hm : bulk m ≤ 9000000) :
    Calls Tryz.prog 66 #[V, U] w fun e w' => e = .returned (.bool z) ∧ Below w.heap.size w w' := by
  obtain ⟨v, rfl, h9⟩ := kN_at h
  obtain ⟨u, rfl, g9⟩ := kN_at g
  exact hz ▸ implEqualNames v u l m w h9 g9 (by have := bulk_len l; omega) (by have := bulk_len m; omega)

/-! ### IsAnchor -/
set_option maxHeartbeats 1000000 in
theorem anchorClos (g : Nat) (V : Value) (a m : List ByteArray) (xn : Option Addr) (nn cn : Nat) (w : World) (z : Bool) (hz : decide (a = m) = z) (hx : Ret.Blk w g #[.slice xn nn cn] 32) (ha : kN.At w V a) (hm : kN.At w (.agg #[.slice xn nn cn]) m) (hl : bulk a ≤ 9000000) (hl' : bulk m ≤ 9000000) :
    Calls Tryz.prog 81 #[V, .pointer (some ⟨g, 0, none⟩)] w fun e w' => e = .returned (.bool z) ∧ Below w.heap.size w w' := by
  obtain ⟨xa, na, ca, rfl, ha⟩ := kN_shapeA ha
  have hal := (Below.refl w.heap.size w).alloc (Nat.le_refl _) (.cells #[.slice xa na ca] 32)
  have HB := Lib.hid hal; have HX := Lib.hid (hx.on hal); have HA := Lib.hid (ha.on hal); have HM := Lib.hid (hm.on hal); have HZ := Lib.hid hz
  have HY := Lib.hid (Ret.Blk.new w #[.slice xa na ca] 32)
  clear hal hx ha hm hz
  have q0 : (w.alloc (.cells #[.slice xa na ca] 32)).cell? ⟨g, 0, none⟩ = some (.slice xn nn cn) := HX.out.cell 0
  have q1 : (w.alloc (.cells #[.slice xa na ca] 32)).cell? ⟨w.heap.size, 0, none⟩ = some (.slice xa na ca) := HY.out.cell 0
  go_enter Tryz.func81, Tryz.ntmps81
  go_wp2_with fail
  refine (iEqN z HZ.out HA.out HM.out hl hl').mono ?_
  rintro e w1 ⟨rfl, hb⟩
  replace HB := Lib.hid (HB.out.trans (hb.mono HB.out.size))
  clear hb
  go_wp2_with fail
  go_ret
  exact ⟨rfl, HB.out⟩

set_option maxHeartbeats 2000000 in
theorem indexAnc (b0 : Addr) (p : Nnt → Bool) (ok : Nnt → Prop) (v : Value) (l : List Nnt) (w : World) (z : Int) (hz : ixL p l = z) (h : kLNn.At w v l) (hl : l.length ≤ 9000000) (hp : ∀ x ∈ l, ok x) (hc : ClosK Tryz.prog kNn 81 #[.pointer (some b0)] p ok w) :
    Calls Tryz.prog 148 #[v, .func (.func 81) #[] #[.pointer (some b0)]] w fun e w' => e = .returned (.int .i64 z) ∧ Below w.heap.size w w' := by
  obtain ⟨x, n, cx, L, rfl, hn, ht, hh, hel⟩ := kLNn_at h
  have hlen : l.length = n := by rw [← ht, List.length_map]; exact hn.symm
  rw [hlen] at hl
  have hcap : n ≤ cx := by obtain ⟨x', n', cap', hv, hn', hc', -⟩ := hh.shapeN; cases hv; exact hc'
  have HN := Lib.hid hn; have HT := Lib.hid ht; have HH := Lib.hid hh; have HEL := Lib.hid hel; have HLEN := Lib.hid hlen; have HP := Lib.hid hp; have HC := Lib.hid hc; have HZ := Lib.hid hz
  clear hn h hh hc hp ht hel hlen hz
  go_enter Tryz.func148, Tryz.ntmps148
  go_wp2
  go_loopw [8] (fun iv wr => ∃ i : Nat, i ≤ n ∧ iv = .int .i64 i ∧ Hid (noL p l i) ∧ Hid (Below w.heap.size w wr)) (fun iv _ => n - (intOf iv).toNat)
  case atStart => exact ⟨0, Nat.zero_le _, rfl, Lib.hid (noL_zero _ _), Lib.hid (Below.refl _ _)⟩
  case round =>
    obtain ⟨k, hk, rfl, ha, hb⟩ := hrel
    by_cases hlt : k < n
    · have hlen := HN.out
      obtain ⟨b, off, y0, m0, d0, rfl, -, hc0, hA⟩ := kLNn_elem (HH.out.on hb.out) (fun y hy => kNn.holds_on (HEL.out y hy) hb.out) (j := k) (by omega)
      have hpt : nth l k = kNn.strip (nth L k) := by rw [← HT.out, nth_map _ (by omega)]
      have hps := HP.out (nth l k) (nth_mem (by have := HLEN.out; omega))
      rw [hpt] at hps
      obtain ⟨q, hq⟩ : ∃ q, p (kNn.strip (nth L k)) = q := ⟨_, rfl⟩
      have HCL := HC.out _ _ wr hb.out hA hps
      rw [hq] at HCL
      rw [← hpt] at hq
      replace HCL := Lib.hid HCL
      have HQ := Lib.hid hq
      clear hlen hpt hps hA hq
      go_wp2_with fail
      refine HCL.out.mono ?_
      rintro e w2 ⟨rfl, hb2⟩
      have HB2 := Lib.hid (hb.out.trans (hb2.mono hb.out.size))
      clear hb2 hc0 HCL
      cases q with
      | true =>
        have HV := Lib.hid (show z = (k : Int) from HZ.out.symm.trans (ixL_at (by have := HLEN.out; omega) ha.out HQ.out))
        go_wp2
        go_ret
        exact ⟨ret_int HV.out.symm, HB2.out⟩
      | false =>
        have HA := Lib.hid (noL_succ ha.out HQ.out)
        go_wp2
        go_roundw
        case rel => exact ⟨k + 1, by omega, by go_num, HA, HB2⟩
        case measure => simp [intOf]; omega
    · obtain rfl : k = n := by omega
      have HV := Lib.hid (show z = -1 from HZ.out.symm.trans (ixL_none (by rw [HLEN.out]; exact ha.out)))
      clear hlt
      go_wp2
      go_ret
      exact ⟨ret_int HV.out.symm, hb.out⟩

set_option maxHeartbeats 2000000 in
theorem containsAnc (b0 : Addr) (p : Nnt → Bool) (ok : Nnt → Prop) (v : Value) (l : List Nnt) (w : World) (z : Bool) (hz : l.any p = z) (h : kLNn.At w v l) (hl : l.length ≤ 9000000) (hp : ∀ x ∈ l, ok x) (hc : ClosK Tryz.prog kNn 81 #[.pointer (some b0)] p ok w) :
    Calls Tryz.prog 80 #[v, .func (.func 81) #[] #[.pointer (some b0)]] w fun e w' => e = .returned (.bool z) ∧ Below w.heap.size w w' := by
  obtain ⟨x, n, cx, rfl, h⟩ := kLNn_shapeA h
  obtain ⟨i, hi⟩ : ∃ i, ixL p l = i := ⟨_, rfl⟩
  have hr : -1 ≤ i := by rw [← hi]; rcases ixL_lt p l with h5 | h5 <;> omega
  rw [any_ixL, hi] at hz
  have HI := Lib.hid hi; have HH := Lib.hid h; have HP := Lib.hid hp; have HC := Lib.hid hc; have HZ := Lib.hid hz
  clear hi h hp hc hz
  go_enter Tryz.func80, Tryz.ntmps80
  go_wp2_with fail
  refine (indexAnc b0 p ok _ l _ i HI.out HH.out hl HP.out HC.out).mono ?_
  rintro e w1 ⟨rfl, hb⟩
  have HB := Lib.hid hb
  clear hb
  go_wp2
  go_ret
  exact ⟨ret_bool (by rw [← HZ.out]), HB.out⟩

set_option maxHeartbeats 2000000 in
theorem implIsAnchor (V U : Value) (t : Tpt) (m : List ByteArray) (w : World) (z : Bool) (hz : anchorT t.2.2.1 m = z) (h : kTp.At w V t) (g : kN.At w U m) (hl : t.2.2.1.length ≤ 9000000) (hp : ∀ a ∈ t.2.2.1, bulk a ≤ 9000000) (hm : bulk m ≤ 9000000) :
    Calls Tryz.prog 25 #[V, U] w fun e w' => e = .returned (.bool z) ∧ Below w.heap.size w w' := by
  obtain ⟨x0, n0, c0, x1, n1, c1, x2, n2, c2, x3, n3, c3, rfl, g0, g1, g2, g3⟩ := kTp_at h
  obtain ⟨xn, nn, cn, rfl, g⟩ := kN_shapeA g
  have b1 := (Below.refl w.heap.size w).alloc (Nat.le_refl _) (.cells #[.slice x0 n0 c0, .slice x1 n1 c1, .slice x2 n2 c2, .slice x3 n3 c3] 29)
  have b2 := (Below.refl (w.alloc (.cells #[.slice x0 n0 c0, .slice x1 n1 c1, .slice x2 n2 c2, .slice x3 n3 c3] 29)).heap.size (w.alloc (.cells #[.slice x0 n0 c0, .slice x1 n1 c1, .slice x2 n2 c2, .slice x3 n3 c3] 29))).alloc (Nat.le_refl _) (.cells #[.slice xn nn cn] 32)
  have HB := Lib.hid (b1.trans (b2.mono b1.size))
  have HX := Lib.hid ((Ret.Blk.new w #[.slice x0 n0 c0, .slice x1 n1 c1, .slice x2 n2 c2, .slice x3 n3 c3] 29).on b2)
  have HY := Lib.hid (Ret.Blk.new' (w := w.alloc (.cells #[.slice x0 n0 c0, .slice x1 n1 c1, .slice x2 n2 c2, .slice x3 n3 c3] 29)) (n := w.heap.size + 1) #[.slice xn nn cn] 32 (by simp))
  have G2 := Lib.hid (g2.on HB.out)
  have HC := Lib.hid (show ClosK Tryz.prog kNn 81 #[.pointer (some ⟨w.heap.size + 1, 0, none⟩)] (fun a => decide (a = m)) (fun a => bulk a ≤ 9000000) ((w.alloc (.cells #[.slice x0 n0 c0, .slice x1 n1 c1, .slice x2 n2 c2, .slice x3 n3 c3] 29)).alloc (.cells #[.slice xn nn cn] 32)) from
    fun a W0 W hW ha hk => anchorClos _ W0 a m xn nn cn W _ rfl (HY.out.on hW) ha ((g.on HB.out).on hW) hk hm)
  have HZ := Lib.hid hz; have HP := Lib.hid hp
  clear b1 b2 g0 g1 g2 g3 g h hz hp
  have q2 : ((w.alloc (.cells #[.slice x0 n0 c0, .slice x1 n1 c1, .slice x2 n2 c2, .slice x3 n3 c3] 29)).alloc (.cells #[.slice xn nn cn] 32)).cell? ⟨w.heap.size, 2, none⟩ = some (.slice x2 n2 c2) := HX.out.cell 2
  go_enter Tryz.func25, Tryz.ntmps25
  go_wp2_with fail
  refine (containsAnc _ (fun a => decide (a = m)) (fun a => bulk a ≤ 9000000) _ t.2.2.1 _ z HZ.out G2.out hl HP.out HC.out).mono ?_
  rintro e w1 ⟨rfl, hb⟩
  replace HB := Lib.hid (HB.out.trans (hb.mono HB.out.size))
  clear hb
  go_wp2_with fail
  go_ret
  exact ⟨rfl, HB.out⟩

/-! ### KeyDigest -/
set_option maxHeartbeats 4000000 in
theorem implKeyDigest (V U : Value) (T : Ring.Kt) (m : List ByteArray) (w : World) (z : List Int) (hz : digK T m = z) (h : Ring.kK.At w V T) (g : kN.At w U m) (hl : Ring.bulkT T ≤ 1200000) (hm : bulk m ≤ 1200000) :
    Calls Tryz.prog 29 #[V, U] w (Sl.GivesB w z) := by
  obtain ⟨x, n, c, rfl, h⟩ := Ring.kK_shapeA h
  obtain ⟨xn, nn, cn, rfl, g⟩ := kN_shapeA g
  have hal := (Below.refl w.heap.size w).alloc (Nat.le_refl _) (.cells #[.slice xn nn cn] 32)
  have HB := Lib.hid hal
  have HC := Lib.hid (Ret.Box.new w (.slice xn nn cn) 32)
  have HS := Lib.hid (Ring.implSecretOfK _ _ T m _ (h.on hal) (g.on hal) hl hm)
  have HZ := Lib.hid hz
  clear h g hal hz hl hm
  go_enter Tryz.func29, Tryz.ntmps29
  have c0 := HC.out.cell
  go_wp2_with fail
  refine HS.out.mono ?_
  rintro e w1 ⟨rfl, hb⟩
  replace HB := Lib.hid (HB.out.trans (hb.mono HB.out.size))
  clear hb c0 HS HC
  obtain ⟨s, hs⟩ : ∃ s, Ring.lkN T m = s := ⟨_, rfl⟩
  rw [hs]
  have HK := Lib.hid hs
  clear hs
  by_cases h0 : s = 0
  · subst h0
    have HE := Lib.hid (show z = [] by rw [← HZ.out]; unfold digK; rw [if_pos HK.out])
    have HO := Lib.hid (Sl.own_empty .u8 5 w1)
    go_wp2_with fail
    go_ret
    exact ⟨_, rfl, by rw [HE.out]; exact Sl.Own.mono HO.out HB.out.size, HB.out.alloc HB.out.size _⟩
  · have HE := Lib.hid (show z = [] ++ Var.var (Seal.digest [s]) by rw [← HZ.out]; unfold digK; rw [HK.out, if_neg h0]; rfl)
    have hb2 := (Below.refl w1.heap.size w1).alloc (Nat.le_refl _) (.cells #[.int .i64 s] 3)
    have HO := Lib.hid (show Sl.Holds .u8 (w1.alloc (.cells #[.int .i64 s] 3)) (.slice none 0 0) [] from ⟨none, 0, rfl, Nat.le_refl _, Or.inl rfl⟩)
    have HI := Lib.hid (Sl.holds_one .i64 3 w1 s)
    have HBB := Lib.hid (HB.out.trans (hb2.mono HB.out.size))
    clear hb2
    go_wp2_with fail
    refine (Sl.implDigest _ [s] _ HI.out (by simp)).mono ?_
    rintro e w2 ⟨rfl, rfl⟩
    go_wp2_with fail
    refine (Sl.implAppendVarint _ [] _ _ HO.out (by decide)).mono ?_
    rintro e w3 ⟨v, rfl, ho, hb⟩
    have HV := Lib.hid (Sl.Own.mono ho HBB.out.size); have HB3 := Lib.hid (HBB.out.trans (hb.mono HBB.out.size))
    clear ho hb
    go_wp2_with fail
    go_ret
    exact ⟨_, rfl, by rw [HE.out]; exact HV.out, HB3.out⟩

/-! ### ValidTrust -/
end Go.Proofs.YtcidfmmeonhkhaaGreatDoor.Row
