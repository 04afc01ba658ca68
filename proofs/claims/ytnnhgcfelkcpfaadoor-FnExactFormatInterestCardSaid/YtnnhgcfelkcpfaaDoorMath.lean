/- Plain mathematics of decimal numerals, no program in sight: a number's numeral spells the number; a numeral of a number from 0 to 10^12 is read back by Atoi's rule; two numbers with one numeral are equal. No conditions. -/
import Derived.Lib.Atoi
import Derived.Lib.AtoiTie
import Derived.Lib.AtoiAll
import Derived.Lib.ItoaNum
namespace Go.Proofs.YtnnhgcfelkcpfaaDoor.Dec
open Go.Lib

theorem decFrom_append : ∀ (l : List UInt8) (acc : Nat) (c : UInt8), decFrom acc (l ++ [c]) = (decFrom acc l).bind fun n => (digitVal c).map fun d => n * 10 + d
  | [], acc, c => by cases h : digitVal c <;> simp [decFrom, h]
  | a :: t, acc, c => by
    simp only [List.cons_append, decFrom]
    cases h : digitVal a with
    | none => simp
    | some e => simpa using decFrom_append t (acc * 10 + e) c

theorem digitVal_dig (d : Nat) (h : d < 10) : digitVal (UInt8.ofNat (48 + d)) = some d := by
  have e : (UInt8.ofNat (48 + d)).toNat = 48 + d := by simp; omega
  unfold digitVal
  rw [if_pos (by rw [e]; omega), e]
  simp

theorem decFrom_decDigits : ∀ (u : Nat), decFrom 0 (decDigits u) = some u := by
  intro u
  induction u using Nat.strongRecOn with
  | ind u ih =>
    rw [decDigits]
    by_cases h : u < 10
    · rw [dif_pos h]
      have e : ∀ c d, digitVal c = some d → decFrom 0 [c] = some d := fun c d hc => by simp [decFrom, hc]
      exact e _ _ (digitVal_dig u h)
    · rw [dif_neg h, decFrom_append, ih (u / 10) (by omega)]
      have e : ∀ c d, digitVal c = some d → ((some (u / 10)).bind fun n => (digitVal c).map fun d => n * 10 + d) = some (u / 10 * 10 + d) := fun c d hc => by simp [hc]
      rw [e _ _ (digitVal_dig (u % 10) (by omega))]
      congr 1; omega

theorem decDigits_ne (u : Nat) : decDigits u ≠ [] := by
  rw [decDigits]; split <;> simp

theorem decNat_decDigits (u : Nat) : decNat (decDigits u) = some u := by
  unfold decNat
  rw [if_neg (by simpa using decDigits_ne u), decFrom_decDigits]

theorem decDigits_digit (u : Nat) : ∀ c ∈ decDigits u, 48 ≤ c.toNat ∧ c.toNat ≤ 57 := by
  induction u using Nat.strongRecOn with
  | ind u ih =>
    intro c hc
    rw [decDigits] at hc
    by_cases h : u < 10
    · rw [dif_pos h] at hc
      simp only [List.mem_singleton] at hc
      subst hc
      have e : (UInt8.ofNat (48 + u)).toNat = 48 + u := by simp; omega
      omega
    · rw [dif_neg h] at hc
      rcases List.mem_append.1 hc with h1 | h1
      · exact ih (u / 10) (by omega) c h1
      · simp only [List.mem_singleton] at h1
        subst h1
        have e : (UInt8.ofNat (48 + u % 10)).toNat = 48 + u % 10 := by simp; omega
        omega

theorem decDigits_inj {u v : Nat} (h : decDigits u = decDigits v) : u = v := by
  have h1 := decFrom_decDigits u
  rw [h, decFrom_decDigits v] at h1
  exact (Option.some.inj h1).symm

theorem itoa_pos {v : Int} (h : 0 ≤ v) : itoa v = decDigits v.toNat := by
  unfold itoa; rw [if_neg (by omega)]

theorem itoa_inj {u v : Int} (h : itoa u = itoa v) : u = v := by
  unfold itoa at h
  have hd : ∀ n : Nat, decDigits n ≠ 45 :: decDigits 0 → True := fun _ _ => trivial
  have hne : ∀ (n : Nat) (r : List UInt8), decDigits n ≠ 45 :: r := by
    intro n r hh
    have := decDigits_digit n 45 (by rw [hh]; simp)
    simp at this
  split at h <;> split at h
  · simp only [List.cons.injEq, true_and] at h
    have := decDigits_inj h; omega
  · exact absurd h.symm (hne _ _)
  · exact absurd h (hne _ _)
  · have := decDigits_inj h; omega

theorem nDigits_le : ∀ (k u : Nat), u < 10 ^ (k + 1) → nDigits u ≤ k + 1
  | 0, u, h => by rw [nDigits_small (by simpa using h)]; omega
  | k + 1, u, h => by
    by_cases hu : u < 10
    · rw [nDigits_small hu]; omega
    · rw [nDigits_big hu]
      have := nDigits_le k (u / 10) (by rw [Nat.pow_succ] at h; omega)
      omega
theorem nDigits_le13 {u : Nat} (h : u ≤ 1000000000000) : nDigits u ≤ 13 :=
  nDigits_le 12 u (by have e : (10 : Nat) ^ (12 + 1) = 10000000000000 := by decide
                      omega)
theorem nDigits_le20 {u : Nat} (h : u ≤ 9223372036854775808) : nDigits u ≤ 20 :=
  nDigits_le 19 u (by have e : (10 : Nat) ^ (19 + 1) = 100000000000000000000 := by decide
                      omega)

/-- A text is a number's text: the number is from 0 to 10^12 and its numeral is the text. -/
def IsNum (v : Int) (l : List UInt8) : Prop := 0 ≤ v ∧ v ≤ 1000000000000 ∧ itoa v = l

theorem IsNum.len {v : Int} {l : List UInt8} (h : IsNum v l) : 1 ≤ l.length ∧ l.length ≤ 13 := by
  obtain ⟨h0, h1, rfl⟩ := h
  rw [itoa_pos h0, decDigits_length]
  exact ⟨nDigits_pos _, nDigits_le13 (by omega)⟩

theorem IsNum.dec {v : Int} {l : List UInt8} (h : IsNum v l) : decFrom 0 l = some v.toNat := by
  obtain ⟨h0, h1, rfl⟩ := h
  rw [itoa_pos h0, decFrom_decDigits]

theorem IsNum.digit {v : Int} {l : List UInt8} (h : IsNum v l) : ∀ c ∈ l, 48 ≤ c.toNat ∧ c.toNat ≤ 57 := by
  obtain ⟨h0, h1, rfl⟩ := h
  rw [itoa_pos h0]
  exact decDigits_digit _

theorem IsNum.uniq {u v : Int} {l : List UInt8} (h : IsNum u l) (k : IsNum v l) : u = v := itoa_inj (h.2.2.trans k.2.2.symm)

theorem IsNum.atoi {v : Int} {l : List UInt8} (h : IsNum v l) : atoiAll l = .ok v := by
  have hl := h.len
  rw [atoiAll_short l (by omega)]
  obtain ⟨h0, h1, rfl⟩ := h
  rw [itoa_pos h0] at *
  have hd := decDigits_digit v.toNat
  have hn := decNat_decDigits v.toNat
  have e : Lib.atoi (decDigits v.toNat) = some v := by
    cases hc : decDigits v.toNat with
    | nil => exact absurd hc (decDigits_ne _)
    | cons b r =>
      rw [hc] at hd hn
      have hb := hd b (by simp)
      have n1 : (b == 45) = false := by
        rw [beq_eq_false_iff_ne]; rintro rfl; simp at hb
      have n2 : (b == 43) = false := by
        rw [beq_eq_false_iff_ne]; rintro rfl; simp at hb
      simp only [Lib.atoi, n1, n2, hn]
      simp; omega
  rw [e]; rfl

/-- The digits of the spec's loop: x is what is left, l what has been written. -/
def rest (u : Nat) : List UInt8 := if u = 0 then [] else decDigits u

theorem rest_step {u : Nat} (h : u ≠ 0) : rest u = rest (u / 10) ++ [UInt8.ofNat (48 + u % 10)] := by
  unfold rest
  rw [if_neg h]
  by_cases h1 : u < 10
  · rw [if_pos (by omega), decDigits, dif_pos h1, Nat.mod_eq_of_lt h1]; simp
  · rw [if_neg (by omega), decDigits, dif_neg h1]
theorem rest_length {u : Nat} (h : u ≤ 9223372036854775808) : (rest u).length ≤ 20 := by
  unfold rest
  split
  · simp
  · rw [decDigits_length]; exact nDigits_le20 h
theorem rest_zero : rest 0 = [] := rfl
theorem rest_pos {u : Nat} (h : u ≠ 0) : rest u = decDigits u := by unfold rest; rw [if_neg h]

end Go.Proofs.YtnnhgcfelkcpfaaDoor.Dec
