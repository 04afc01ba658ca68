/- Plain mathematics of the base-128 encoding, no program in sight: the encoding's bytes, how they are read back, how long they are. No conditions. -/
import Derived.Laws.BitsLemmas
import Derived.Laws.Bits128
namespace Go.Proofs.YtnnhgcfelkcpfaaDoor.Var

/-- The bytes of a number: groups of seven bits, the least one first, 128 added to all but the last. -/
def enc (n : Nat) : List Int := if h : n < 128 then [(n : Int)] else (((n % 128 : Nat) : Int) + 128) :: enc (n / 128)
  termination_by n
  decreasing_by omega

theorem enc_small {n : Nat} (h : n < 128) : enc n = [(n : Int)] := by rw [enc, dif_pos h]
theorem enc_big {n : Nat} (h : ¬ n < 128) : enc n = (((n % 128 : Nat) : Int) + 128) :: enc (n / 128) := by rw [enc, dif_neg h]
theorem enc_len : ∀ (k n : Nat), n < 128 ^ (k + 1) → (enc n).length ≤ k + 1
  | 0, n, h => by rw [enc_small (by simpa using h)]; simp
  | k + 1, n, h => by
    by_cases hn : n < 128
    · rw [enc_small hn]; simp
    · rw [enc_big hn]
      have := enc_len k (n / 128) (by rw [Nat.pow_succ] at h; omega)
      simp; omega
theorem enc_len6 {n : Nat} (h : n ≤ 1000000000000) : (enc n).length ≤ 6 :=
  enc_len 5 n (by have e : (128 : Nat) ^ (5 + 1) = 4398046511104 := by decide
                  omega)
theorem enc_ne (n : Nat) : enc n ≠ [] := by
  rw [enc]; split <;> simp
theorem enc_pos (n : Nat) : 1 ≤ (enc n).length := by
  have := enc_ne n
  cases h : enc n with
  | nil => exact absurd h this
  | cons _ _ => simp
theorem enc_byte : ∀ (n : Nat), ∀ x ∈ enc n, 0 ≤ x ∧ x ≤ 255 := by
  intro n
  induction n using Nat.strongRecOn with
  | ind n ih =>
    intro x hx
    by_cases h : n < 128
    · rw [enc_small h] at hx
      simp only [List.mem_singleton] at hx
      omega
    · rw [enc_big h] at hx
      rcases List.mem_cons.1 hx with h1 | h1
      · omega
      · exact ih (n / 128) (by omega) x h1

/-- What AppendVarint appends. -/
def var (n : Int) : List Int := if 0 ≤ n ∧ n ≤ 1000000000000 then enc n.toNat else []
theorem var_in {n : Int} (h0 : 0 ≤ n) (h1 : n ≤ 1000000000000) : var n = enc n.toNat := by simp [var, h0, h1]
theorem var_out {n : Int} (h : ¬ (0 ≤ n ∧ n ≤ 1000000000000)) : var n = [] := by simp [var, h]
theorem var_len (n : Int) : (var n).length ≤ 6 := by
  unfold var
  split
  · exact enc_len6 (by omega)
  · simp

/-- One step of the encoding, in the integers of the walk. -/
theorem enc_step {n : Int} (h : 128 ≤ n) : enc n.toNat = (n % 128 + 128) :: enc (n / 128).toNat := by
  rw [enc_big (by omega)]
  congr 1
  · omega
  · congr 1; omega
theorem enc_last {n : Int} (h0 : 0 ≤ n) (h : n < 128) : enc n.toNat = [n] := by
  rw [enc_small (by omega)]
  congr 1; omega

/-- Reading: the groups that are left, how many have been read, what they make. -/
def dec : Nat → List Int → Nat → Int → Option (Int × Nat)
  | 0, _, _, _ => none
  | _ + 1, [], _, _ => none
  | f + 1, x :: r, k, n =>
    if x < 128 then (if (x = 0 ∧ 0 < k) ∨ 1000000000000 < n + x * 128 ^ k then none else some (n + x * 128 ^ k, k + 1))
    else dec f r (k + 1) (n + x % 128 * 128 ^ k)

def okAt (l : List Int) (i : Int) : Prop := 0 ≤ i ∧ i ≤ l.length
def res (i : Int) : Option (Int × Nat) → Int × Int × Bool
  | none => (0, 0, false)
  | some (n, c) => (n, i + c, true)
/-- What ReadVarint returns. -/
def readV (l : List Int) (i : Int) : Int × Int × Bool := if 0 ≤ i ∧ i ≤ l.length then res i (dec 6 (l.drop i.toNat) 0 0) else (0, 0, false)

theorem drop_at {l : List Int} {i : Nat} (h : i < l.length) : l.drop i = l.getD i 0 :: l.drop (i + 1) := by
  rw [List.drop_eq_getElem_cons h]
  simp [List.getD, List.getElem?_eq_getElem h]
theorem dec_end {l : List Int} {a k : Nat} {n : Int} (h : ¬ a + k < l.length) : dec (6 - k) (l.drop (a + k)) k n = none := by
  rw [List.drop_eq_nil_of_le (by omega)]
  cases h : 6 - k <;> rfl
theorem dec_full {l : List Int} {a : Nat} {n : Int} : dec (6 - 6) (l.drop (a + 6)) 6 n = none := rfl
theorem dec_more {l : List Int} {a : Nat} {n x : Int} (k : Nat) (C : Int) (hC : C = 128 ^ k) (h : a + k < l.length) (hk : k < 6) (hx : x = l.getD (a + k) 0) (h1 : ¬ x < 128) :
    dec (6 - k) (l.drop (a + k)) k n = dec (6 - (k + 1)) (l.drop (a + (k + 1))) (k + 1) (n + x % 128 * C) := by
  subst hC
  rw [drop_at h, ← hx, show 6 - k = (6 - (k + 1)) + 1 by omega]
  simp only [dec, if_neg h1]
  rfl
theorem dec_bad {l : List Int} {a : Nat} {n x : Int} (k : Nat) (C : Int) (hC : C = 128 ^ k) (h : a + k < l.length) (hk : k < 6) (hx : x = l.getD (a + k) 0) (h1 : x < 128) (h2 : (x = 0 ∧ 0 < k) ∨ 1000000000000 < n + x * C) :
    dec (6 - k) (l.drop (a + k)) k n = none := by
  subst hC
  rw [drop_at h, ← hx, show 6 - k = (6 - (k + 1)) + 1 by omega]
  simp only [dec, if_pos h1, if_pos h2]
theorem dec_ok {l : List Int} {a : Nat} {n x : Int} (k : Nat) (C : Int) (hC : C = 128 ^ k) (h : a + k < l.length) (hk : k < 6) (hx : x = l.getD (a + k) 0) (h1 : x < 128) (h2 : ¬ ((x = 0 ∧ 0 < k) ∨ 1000000000000 < n + x * C)) :
    dec (6 - k) (l.drop (a + k)) k n = some (n + x * C, k + 1) := by
  subst hC
  rw [drop_at h, ← hx, show 6 - k = (6 - (k + 1)) + 1 by omega]
  simp only [dec, if_pos h1, if_neg h2]
theorem readV_none {l : List Int} {i : Int} (h : 0 ≤ i → i ≤ l.length → dec 6 (l.drop i.toNat) 0 0 = none) : readV l i = (0, 0, false) := by
  unfold readV
  split
  · rename_i hh
    rw [h hh.1 hh.2]; rfl
  · rfl
theorem readV_some {l : List Int} {i n : Int} {c : Nat} (h0 : 0 ≤ i) (h1 : i ≤ l.length) (h : dec 6 (l.drop i.toNat) 0 0 = some (n, c)) : readV l i = (n, i + c, true) := by
  unfold readV
  rw [if_pos ⟨h0, h1⟩, h]; rfl
end Go.Proofs.YtnnhgcfelkcpfaaDoor.Var
