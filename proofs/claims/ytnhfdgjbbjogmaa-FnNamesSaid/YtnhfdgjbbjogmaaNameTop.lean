/- Plain mathematics of names in order, and the contracts in the words of the drawn laws: comparing the other way round gives the opposite; a prefix is not greater; a cut name is a prefix. No conditions but that lengths fit. -/
import Derived.Test.YtnhfdgjbbjogmaaDrawTwo
import Derived.Test.YtnhfdgjbbjogmaaPref
import Derived.Test.YtnhfdgjbbjogmaaNameLaw
namespace Go.Proofs.Ytnhfdgjbbjogmaa.Row
open Go.ChangeShapes Go.WideShapes Go.ChangeAt Go.RowKit Go.Instr
set_option linter.unusedVariables false

theorem less_asymm : ∀ {x y : List UInt8}, Op.bytesLess x y = true → Op.bytesLess y x = false
  | [], [], h => by simp [Op.bytesLess] at h
  | [], _ :: _, _ => by simp [Op.bytesLess]
  | _ :: _, [], h => by simp [Op.bytesLess] at h
  | a :: x, b :: y, h => by
    simp only [Op.bytesLess, Bool.or_eq_true, Bool.and_eq_true, decide_eq_true_eq, beq_iff_eq] at h
    rcases h with h | ⟨rfl, h⟩
    · have h1 : ¬ b < a := fun e => absurd (UInt8.lt_trans h e) (UInt8.lt_irrefl a)
      have h2 : ¬ b = a := fun e => by subst e; exact absurd h (UInt8.lt_irrefl b)
      simp [Op.bytesLess, h1, h2]
    · simp [Op.bytesLess, less_asymm h]
theorem less_total : ∀ {x y : List UInt8}, Op.bytesLess x y = false → x ≠ y → Op.bytesLess y x = true
  | [], [], _, h => absurd rfl h
  | [], _ :: _, h, _ => by simp [Op.bytesLess] at h
  | _ :: _, [], _, _ => by simp [Op.bytesLess]
  | a :: x, b :: y, h, hne => by
    simp only [Op.bytesLess, Bool.or_eq_false_iff, decide_eq_false_iff_not] at h
    by_cases e : a = b
    · subst e
      have h2 : Op.bytesLess x y = false := by simpa using h.2
      have h3 := less_total h2 (fun e => hne (by rw [e]))
      simp [Op.bytesLess, h3]
    · have h4 : b < a := by
        rcases UInt8.lt_or_lt_of_ne e with h5 | h5
        · exact absurd h5 h.1
        · exact h5
      simp [Op.bytesLess, h4]
theorem cmpS_swap (a b : ByteArray) : cmpS b a = -cmpS a b := by
  by_cases he : a.toList = b.toList
  · have : a = b := toList_inj he
    subst this
    rw [cmpS_zero.2 rfl]; rfl
  · cases h : Op.bytesLess a.toList b.toList with
    | true => simp [cmpS, h, less_asymm h, Ne.symm he]
    | false => simp [cmpS, h, he, less_total h he]
theorem cmpL_swap : ∀ a b : List ByteArray, cmpL b a = -cmpL a b
  | [], [] => by simp [cmpL]
  | [], _ :: _ => by simp [cmpL]
  | _ :: _, [] => by simp [cmpL]
  | a :: x, b :: y => by
    unfold cmpL
    rw [cmpS_swap a b]
    by_cases h : cmpS a b = 0
    · simp [h, cmpL_swap x y]
    · rw [if_neg (by omega), if_neg h]
theorem cmpL_take : ∀ (a : List ByteArray) (k : Nat), cmpL (a.take k) a ≤ 0
  | [], k => by simp [cmpL]
  | x :: a, 0 => by simp [cmpL]
  | x :: a, k + 1 => by
    rw [List.take_succ_cons]
    unfold cmpL
    rw [if_pos (cmpS_zero.2 rfl)]
    exact cmpL_take a k
theorem hp_le {a b : List ByteArray} (h : hpB a b = true) : cmpL b a ≤ 0 := by
  unfold hpB at h
  have h := of_decide_eq_true h
  rw [← h.2]; exact cmpL_take a _
theorem hp_trN (m : List ByteArray) (k : Int) : hpB m (trN m k) = true := by
  unfold hpB trN
  refine decide_eq_true ⟨by rw [List.length_take]; omega, ?_⟩
  have := trI_le m k
  rw [List.length_take, Nat.min_eq_left this]
theorem hp_app (m : List ByteArray) (s : ByteArray) : hpB (m ++ [s]) m = true := by
  unfold hpB
  exact decide_eq_true ⟨by simp, by simp⟩
theorem hp_not (m : List ByteArray) (s : ByteArray) : hpB m (m ++ [s]) = false := by
  unfold hpB
  refine decide_eq_false (fun h => ?_)
  have := h.1
  rw [List.length_append, List.length_singleton] at this
  omega
theorem trN_app (m : List ByteArray) (s : ByteArray) : trN (m ++ [s]) (m.length : Int) = m := by
  rw [trN_take (by simp)]; simp
theorem trN_hp {a b : List ByteArray} (h : hpB a b = true) : trN a (b.length : Int) = b := by
  unfold hpB at h
  have h := of_decide_eq_true h
  rw [trN_take h.1]; exact h.2

/-! ### the contracts in these words -/
section
variable {v u : Value} {l m : List ByteArray} {w : World}
theorem cmpV (c : Int) (h : Holds Value.string w v l) (g : Holds Value.string w u m) (hl : l.length ≤ 140737488351232) (hm : m.length ≤ 140737488351232) (hc : cmpL l m = c) :
    Calls Try.prog 25 #[.agg #[v], .agg #[u]] w fun e w' => e = .returned (.int .i64 c) ∧ Below w.heap.size w w' := hc ▸ implCompareNames _ _ l m _ h g hl hm
theorem sameV (b : Bool) (h : Holds Value.string w v l) (g : Holds Value.string w u m) (hl : l.length ≤ 140737488351232) (hm : m.length ≤ 140737488351232) (hb : eqB l m = b) :
    Calls Try.prog 24 #[.agg #[v], .agg #[u]] w fun e w' => e = .returned (.bool b) ∧ Below w.heap.size w w' := hb ▸ sameName _ _ l m _ h g hl hm
theorem hpV (b : Bool) (h : Holds Value.string w v l) (g : Holds Value.string w u m) (hl : l.length ≤ 10000000) (hm : m.length ≤ 10000000) (hb : hpB l m = b) :
    Calls Try.prog 33 #[.agg #[v], .agg #[u]] w fun e w' => e = .returned (.bool b) ∧ Below w.heap.size w w' := hb ▸ implHasPrefix _ _ l m _ h g hl hm
theorem fmtV (s : ByteArray) (h : Holds Value.string w v l) (hl : bulk l ≤ 100000000) (hs : fmtS l = s) :
    Calls Try.prog 18 #[.agg #[v]] w fun e w' => e = .returned (.string s) ∧ Below w.heap.size w w' := hs ▸ implFormatName _ l _ h hl
theorem validV (b : Bool) (h : Holds Value.string w v l) (hl : bulk l ≤ 100000000) (hb : validN l = b) :
    Calls Try.prog 31 #[.agg #[v]] w fun e w' => e = .returned (.bool b) ∧ Below w.heap.size w w' := hb ▸ implValidName _ l _ h hl
theorem truncV (k : Int) (n : List ByteArray) (h : Holds Value.string w v l) (hl : l.length ≤ 10000000) (hn : trN l k = n) :
    Calls Try.prog 27 #[.agg #[v], .int .i64 k] w (GivesN w n) := hn ▸ implTruncate _ l k _ h hl
end
theorem bulk_valid {l : List ByteArray} (h : validN l = true) : bulk l ≤ 60 := by
  obtain ⟨h1, h2⟩ := validN_iff.1 h
  have key : ∀ l : List ByteArray, (∀ x ∈ l, validP x = true) → bulk l ≤ 9 * l.length := by
    intro l
    induction l with
    | nil => intro _; rw [bulk_nil]; simp
    | cons x r ih =>
      intro hx
      have h3 := ih (fun y hy => hx y (by simp [hy]))
      have h4 := (validP_iff.1 (hx x (by simp))).2.1
      rw [bulk_cons, List.length_cons]; omega
  have := key l h2
  omega

end Go.Proofs.Ytnhfdgjbbjogmaa.Row
