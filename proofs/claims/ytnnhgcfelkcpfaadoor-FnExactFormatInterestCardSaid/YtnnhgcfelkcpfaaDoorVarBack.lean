/- Plain mathematics: what the encoding writes is read back, and what is read is what the encoding writes. No program in sight. -/
import Derived.Test.YtnnhgcfelkcpfaaDoorDecI
namespace Go.Proofs.YtnnhgcfelkcpfaaDoor.Var
open Sl (Byt)

theorem dec_enc : ∀ (f m k : Nat) (n : Int) (rest : List Int), (enc m).length ≤ f → 0 ≤ n → n + m * 128 ^ k ≤ 1000000000000 → (0 < m ∨ k = 0) → dec f (enc m ++ rest) k n = some (n + m * 128 ^ k, k + (enc m).length) := by
  intro f
  induction f with
  | zero => intro m k n rest h; have := enc_pos m; omega
  | succ f ih =>
    intro m k n rest hl hn hb hk
    have hp : (0 : Int) < 128 ^ k := by
      have := Nat.pow_pos (n := k) (show 0 < 128 by decide)
      exact_mod_cast this
    by_cases h : m < 128
    · rw [enc_small h]
      simp only [List.singleton_append, dec, List.length_singleton]
      rw [if_pos (by omega), if_neg]
      rintro (⟨h1, h2⟩ | h1)
      · omega
      · omega
    · rw [enc_big h] at hl ⊢
      simp only [List.cons_append, dec, List.length_cons] at hl ⊢
      rw [if_neg (by omega)]
      have e1 : (((m % 128 : Nat) : Int) + 128) % 128 = ((m % 128 : Nat) : Int) := by omega
      have e2 : n + ((m % 128 : Nat) : Int) * 128 ^ k + ((m / 128 : Nat) : Int) * 128 ^ (k + 1) = n + (m : Int) * 128 ^ k := by
        have hm : (m : Int) = ((m % 128 : Nat) : Int) + 128 * ((m / 128 : Nat) : Int) := by omega
        rw [Int.pow_succ]
        conv => rhs; rw [hm]
        rw [Int.add_mul, Int.mul_assoc 128, Int.mul_comm (128 ^ k) 128, ← Int.mul_assoc, Int.mul_comm ((m / 128 : Nat) : Int) 128, Int.mul_assoc 128]
        omega
      have h3 : 0 ≤ ((m % 128 : Nat) : Int) * 128 ^ k := Int.mul_nonneg (by omega) (by omega)
      rw [e1, ih (m / 128) (k + 1) _ rest (by omega) (by omega) (by rw [e2]; exact hb) (by omega), e2]
      congr 2; omega

theorem enc_dec : ∀ (f : Nat) (r : List Int) (k : Nat) (n v : Int) (c : Nat), Byt r → dec f r k n = some (v, c) → ∃ m : Nat, v = n + m * 128 ^ k ∧ k < c ∧ r.take (c - k) = enc m ∧ (0 < k → 0 < m)
  | 0, _, _, _, _, _, _, h => by simp [dec] at h
  | _ + 1, [], _, _, _, _, _, h => by simp [dec] at h
  | f + 1, x :: r, k, n, v, c, hb, h => by
    have hx := hb x (by simp)
    simp only [dec] at h
    split at h
    · rename_i h1
      split at h
      · cases h
      · rename_i h2
        simp only [Option.some.injEq, Prod.mk.injEq] at h
        obtain ⟨rfl, rfl⟩ := h
        refine ⟨x.toNat, by rw [Int.toNat_of_nonneg hx.1], by omega, ?_, fun hk => ?_⟩
        · rw [show k + 1 - k = 1 by omega, enc_last hx.1 h1]; rfl
        · have : ¬ (x = 0 ∧ 0 < k) := fun h3 => h2 (Or.inl h3)
          omega
    · rename_i h1
      obtain ⟨m, hv, hc, ht, hm⟩ := enc_dec f r (k + 1) _ v c (fun y hy => hb y (by simp [hy])) h
      have hm := hm (by omega)
      refine ⟨(x % 128).toNat + 128 * m, ?_, by omega, ?_, fun _ => by omega⟩
      · rw [hv, Int.pow_succ]
        have h5 : (((x % 128).toNat + 128 * m : Nat) : Int) = x % 128 + 128 * (m : Int) := by omega
        rw [h5, Int.add_mul, Int.mul_assoc 128, ← Int.mul_assoc (m : Int), Int.mul_comm ((m : Int) * 128 ^ k) 128]
        omega
      · rw [show c - k = (c - (k + 1)) + 1 by omega, List.take_succ_cons, ht, enc_big (n := (x % 128).toNat + 128 * m) (by omega)]
        congr 1
        · omega
        · congr 1; omega

/-- What is encoded is read back, whatever stands before and behind. -/
theorem readV_enc (a b : List Int) {n : Int} (h0 : 0 ≤ n) (h1 : n ≤ 1000000000000) : readV (a ++ var n ++ b) a.length = (n, (a.length : Int) + (var n).length, true) := by
  have e1 := var_in h0 h1
  have e2 := dec_enc 6 n.toNat 0 0 b (enc_len6 (by omega)) (by omega) (by simp; omega) (Or.inr rfl)
  have e3 : dec 6 ((a ++ var n ++ b).drop (a.length : Int).toNat) 0 0 = some (n, (var n).length) := by
    rw [Int.toNat_natCast, List.append_assoc, List.drop_left, e1, e2]
    simp; omega
  exact readV_some (by omega) (by simp; omega) e3

/-- What is read is what is encoded. -/
theorem enc_readV {l : List Int} {i : Int} (hB : Byt l) (h : (readV l i).2.2 = true) : 0 ≤ i ∧ i ≤ (readV l i).2.1 ∧ (readV l i).2.1 ≤ l.length ∧ l.take i.toNat ++ var (readV l i).1 = l.take (readV l i).2.1.toNat := by
  have hbd := Sl.readV_bounds hB h
  refine ⟨hbd.2.2.2.2, by omega, hbd.2.2.2.1, ?_⟩
  unfold readV at h ⊢
  by_cases hi : 0 ≤ i ∧ i ≤ l.length
  · rw [if_pos hi] at h ⊢
    have hb2 : 0 ≤ (readV l i).1 ∧ (readV l i).1 ≤ 1000000000000 := ⟨hbd.1, hbd.2.1⟩
    unfold readV at hb2
    rw [if_pos hi] at hb2
    cases hd : dec 6 (l.drop i.toNat) 0 0 with
    | none => rw [hd] at h; simp [res] at h
    | some p =>
      obtain ⟨v, c⟩ := p
      rw [hd] at hb2
      simp only [res] at hb2 ⊢
      obtain ⟨m, hv, hc, ht, _⟩ := enc_dec 6 _ 0 0 v c (fun x hx => hB x (List.mem_of_mem_drop hx)) hd
      have hm : v.toNat = m := by rw [hv]; simp
      rw [var_in hb2.1 hb2.2, hm, ← ht, show (i + (c : Int)).toNat = i.toNat + c by omega, List.take_add, Nat.sub_zero]
  · rw [if_neg hi] at h; simp at h

/-- A byte slice that AppendBytes wrote is read back. -/
theorem readB_app (a s : List Int) (hs : s.length ≤ 1000000000000) : Sl.readB (a ++ var s.length ++ s) a.length s.length = (s, ((a ++ var s.length ++ s).length : Int), true) := by
  have e := readV_enc a s (n := (s.length : Int)) (by omega) (by omega)
  rw [Sl.readB_yes (by rw [e]; simp; omega), e]
  simp only [Prod.mk.injEq, and_true]
  refine ⟨?_, by simp; omega⟩
  rw [show ((a.length : Int) + ((var (s.length : Int)).length : Int)).toNat = (a ++ var s.length).length by rw [List.length_append]; omega, List.drop_left, Int.toNat_natCast, List.take_length]

/-- Integers that EncodeInts wrote are read back. -/
theorem decA_encs (l : List Int) (hl : ∀ x ∈ l, 0 ≤ x ∧ x ≤ 1000000000000) : ∀ (k : Nat) (j : Nat), j + k = l.length → Sl.decA k (Sl.encs l) ((Sl.encs (l.take j)).length) (l.take j) = (l, ((Sl.encs l).length : Int), true)
  | 0, j, h => by
    have : l.take j = l := List.take_of_length_le (by omega)
    rw [this]; rfl
  | k + 1, j, h => by
    have hj : j < l.length := by omega
    have hin := hl _ (List.getElem_mem hj)
    have hsplit : Sl.encs l = Sl.encs (l.take j) ++ var l[j] ++ Sl.encs (l.drop (j + 1)) := by
      unfold Sl.encs
      conv => lhs; rw [← List.take_append_drop j l, List.drop_eq_getElem_cons hj]
      rw [List.flatMap_append, List.flatMap_cons, List.append_assoc]
    have e := readV_enc (Sl.encs (l.take j)) (Sl.encs (l.drop (j + 1))) hin.1 hin.2
    rw [← hsplit] at e
    have hstep := Sl.encs_step hj
    rw [Sl.nth_eq hj] at hstep
    have ih := decA_encs l hl k (j + 1) (by omega)
    simp only [Sl.decA]
    rw [if_pos (by rw [e]), e]
    rw [hstep, List.length_append, List.take_succ_eq_append_getElem hj] at ih
    simpa using ih
theorem decA_all {l : List Int} (hl : ∀ x ∈ l, 0 ≤ x ∧ x ≤ 1000000000000) : Sl.decA l.length (Sl.encs l) 0 [] = (l, ((Sl.encs l).length : Int), true) := by
  have := decA_encs l hl l.length 0 (by omega)
  simpa [Sl.encs] using this
theorem readIs_all {l : List Int} (hl : ∀ x ∈ l, 0 ≤ x ∧ x ≤ 1000000000000) (hn : l.length ≤ 100) : Sl.readIs (Sl.encs l) 0 l.length = (l, ((Sl.encs l).length : Int), true) := by
  rw [Sl.readIs_yes ⟨⟨by omega, by omega⟩, by omega, by omega⟩, Int.toNat_natCast, decA_all hl]
theorem decA_full : ∀ (k : Nat) (l : List Int) (i : Int) (acc : List Int), (Sl.decA k l i acc).2.2 = true → (Sl.decA k l i acc).1.length = acc.length + k
  | 0, l, i, acc, _ => by simp [Sl.decA]
  | k + 1, l, i, acc, h => by
    simp only [Sl.decA] at h ⊢
    split at h
    · rename_i h1
      rw [if_pos h1, decA_full k l _ _ h, List.length_append, List.length_singleton]; omega
    · simp at h
theorem readIs_full {l : List Int} {i n : Int} (h : (Sl.readIs l i n).2.2 = true) : ((Sl.readIs l i n).1.length : Int) = n := by
  by_cases hc : (0 ≤ n ∧ n ≤ 100) ∧ 0 ≤ i ∧ i ≤ l.length
  · rw [Sl.readIs_yes hc] at h ⊢
    have := decA_full _ _ _ _ h
    rw [this]; simp; omega
  · rw [Sl.readIs_no hc] at h; simp at h
end Go.Proofs.YtnnhgcfelkcpfaaDoor.Var
