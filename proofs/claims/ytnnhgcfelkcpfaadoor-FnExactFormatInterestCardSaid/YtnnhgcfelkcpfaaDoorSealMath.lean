/- What chapter 3 computes, on lists of numbers: digest, MAC, the bytes of a slice as numbers, enciphered and deciphered bytes. No conditions. -/
import Derived.Test.YtnnhgcfelkcpfaaDoorSlice
namespace Go.Proofs.YtnnhgcfelkcpfaaDoor.Seal
open Sl (nth nth_eq)

def dstep (d x : Int) : Int := (d * 1000003 + x % 2147483647 + 13) % 2147483647
def digest (l : List Int) : Int := l.foldl dstep 11
def mac (s : Int) (l : List Int) : Int := digest ([s] ++ l ++ [s])
def b2i (l : List Int) : List Int := (l.length : Int) :: l
def derive (s : Int) (l : List Int) : Int := if mac s (b2i l) = 0 then 1 else mac s (b2i l)
def chg (f : Nat → Int → Int) (l : List Int) : List Int := l.mapIdx f
def encF (s : Int) (i : Nat) (x : Int) : Int := (x + mac s [(i : Int)]) % 256
def decF (s : Int) (i : Nat) (x : Int) : Int := (x - mac s [(i : Int)]) % 256
def enc (s : Int) (l : List Int) : List Int := chg (encF s) l
def dec (s : Int) (l : List Int) : List Int := chg (decF s) l

theorem dstep_in (d x : Int) : 0 ≤ dstep d x ∧ dstep d x < 2147483647 := by unfold dstep; omega
theorem foldl_in (l : List Int) : ∀ d : Int, 0 ≤ d → d < 2147483647 → 0 ≤ l.foldl dstep d ∧ l.foldl dstep d < 2147483647 := by
  induction l with
  | nil => intro d h0 h1; exact ⟨h0, h1⟩
  | cons x r ih => intro d h0 h1; exact ih _ (dstep_in d x).1 (dstep_in d x).2
theorem digest_in (l : List Int) : 0 ≤ digest l ∧ digest l < 2147483647 := foldl_in l 11 (by decide) (by decide)
theorem mac_in (s : Int) (l : List Int) : 0 ≤ mac s l ∧ mac s l < 2147483647 := digest_in _
theorem digest_zero (l : List Int) : digest (l.take 0) = 11 := by simp [digest]
theorem digest_step {l : List Int} {k : Nat} (h : k < l.length) : digest (l.take (k + 1)) = dstep (digest (l.take k)) (nth l k) := by
  unfold digest
  rw [List.take_succ_eq_append_getElem h, List.foldl_append, nth_eq h]; rfl
theorem b2i_length (l : List Int) : (b2i l).length = l.length + 1 := rfl
theorem b2i_step {l : List Int} {k : Nat} (h : k < l.length) : (l.length : Int) :: l.take (k + 1) = ((l.length : Int) :: l.take k) ++ [nth l k] := by
  rw [List.take_succ_eq_append_getElem h, nth_eq h]; rfl
theorem chg_length (f : Nat → Int → Int) (l : List Int) : (chg f l).length = l.length := by simp [chg]
theorem chg_take_length (f : Nat → Int → Int) (l : List Int) (k : Nat) (hk : k ≤ l.length) : (chg f (l.take k)).length = k := by rw [chg_length, List.length_take]; omega
theorem chg_step (f : Nat → Int → Int) {l : List Int} {k : Nat} (h : k < l.length) : chg f (l.take (k + 1)) = chg f (l.take k) ++ [f k (nth l k)] := by
  unfold chg
  rw [List.take_succ_eq_append_getElem h, List.mapIdx_append, nth_eq h, List.length_take]
  simp [Nat.min_eq_left (Nat.le_of_lt h)]
theorem chg_nth (f : Nat → Int → Int) {l : List Int} {k : Nat} (h : k < l.length) : nth (chg f l) k = f k (nth l k) := by
  rw [nth_eq (by rw [chg_length]; exact h), nth_eq h]
  simp [chg]
theorem enc_length (s : Int) (l : List Int) : (enc s l).length = l.length := chg_length _ _
theorem dec_length (s : Int) (l : List Int) : (dec s l).length = l.length := chg_length _ _
theorem chg_in (f : Nat → Int → Int) (hf : ∀ i x, 0 ≤ f i x ∧ f i x ≤ 255) (l : List Int) : ∀ x ∈ chg f l, 0 ≤ x ∧ x ≤ 255 := by
  intro x hx
  unfold chg at hx
  obtain ⟨i, hi, rfl⟩ := List.mem_mapIdx.1 hx
  exact hf _ _
theorem encF_in (s : Int) (i : Nat) (x : Int) : 0 ≤ encF s i x ∧ encF s i x ≤ 255 := by unfold encF; omega
theorem decF_in (s : Int) (i : Nat) (x : Int) : 0 ≤ decF s i x ∧ decF s i x ≤ 255 := by unfold decF; omega
theorem enc_in (s : Int) (l : List Int) : ∀ x ∈ enc s l, 0 ≤ x ∧ x ≤ 255 := chg_in _ (encF_in s) l
theorem dec_in (s : Int) (l : List Int) : ∀ x ∈ dec s l, 0 ≤ x ∧ x ≤ 255 := chg_in _ (decF_in s) l
theorem dec_enc {s : Int} {l : List Int} (h : ∀ x ∈ l, 0 ≤ x ∧ x ≤ 255) : dec s (enc s l) = l := by
  apply List.ext_getElem
  · rw [dec_length, enc_length]
  · intro i h1 h2
    have := h _ (List.getElem_mem h2)
    simp only [dec, enc, chg, List.getElem_mapIdx, decF, encF]
    omega
theorem enc_dec {s : Int} {l : List Int} (h : ∀ x ∈ l, 0 ≤ x ∧ x ≤ 255) : enc s (dec s l) = l := by
  apply List.ext_getElem
  · rw [enc_length, dec_length]
  · intro i h1 h2
    have := h _ (List.getElem_mem h2)
    simp only [dec, enc, chg, List.getElem_mapIdx, decF, encF]
    omega
theorem derive_in (s : Int) (l : List Int) : 1 ≤ derive s l ∧ derive s l ≤ 2147483646 := by
  have := mac_in s (b2i l)
  unfold derive; split <;> omega

/-- A step keeps numbers apart: 1000003 is invertible modulo 2147483647. -/
theorem back (a : Int) : a * 1000003 % 2147483647 * 1523789695 % 2147483647 = a % 2147483647 := by
  rw [Int.mul_emod, Int.emod_emod, ← Int.mul_emod, Int.mul_assoc, show (1000003 * 1523789695 : Int) = 1 + 709572 * 2147483647 by decide, Int.mul_add, Int.mul_one, ← Int.mul_assoc, Int.add_mul_emod_self_right]
theorem fac {a b : Int} (h : a * 1000003 % 2147483647 = b * 1000003 % 2147483647) : a % 2147483647 = b % 2147483647 := by
  rw [← back a, ← back b, h]
theorem shift {A B r : Int} (h : (A + r + 13) % 2147483647 = (B + r + 13) % 2147483647) : A % 2147483647 = B % 2147483647 := by omega
theorem dstep_left {a b : Int} (x : Int) (ha : 0 ≤ a) (ha' : a < 2147483647) (hb : 0 ≤ b) (hb' : b < 2147483647) (h : dstep a x = dstep b x) : a = b := by
  unfold dstep at h
  have h2 := fac (shift h)
  rwa [Int.emod_eq_of_lt ha ha', Int.emod_eq_of_lt hb hb'] at h2
theorem foldl_inj (l : List Int) : ∀ a b : Int, 0 ≤ a → a < 2147483647 → 0 ≤ b → b < 2147483647 → l.foldl dstep a = l.foldl dstep b → a = b := by
  induction l with
  | nil => intro a b _ _ _ _ h; exact h
  | cons x r ih =>
    intro a b a0 a1 b0 b1 h
    exact dstep_left x a0 a1 b0 b1 (ih _ _ (dstep_in a x).1 (dstep_in a x).2 (dstep_in b x).1 (dstep_in b x).2 h)
theorem dstep_right {d x y : Int} (h : dstep d x = dstep d y) : x % 2147483647 = y % 2147483647 := by
  unfold dstep at h; omega
/-- A MAC with one number moved by one, modulo the prime, is another one. -/
theorem mac_moved (s : Int) {l : List Int} {i : Nat} (hi : i < l.length) : mac s (l.set i (nth l i % 2147483647 + 1)) ≠ mac s l := by
  intro h
  have e1 : l = l.take i ++ [nth l i] ++ l.drop (i + 1) := by
    rw [nth_eq hi]; simp
  have e2 : l.set i (nth l i % 2147483647 + 1) = l.take i ++ [nth l i % 2147483647 + 1] ++ l.drop (i + 1) := by
    rw [List.set_eq_take_append_cons_drop, if_pos hi]; simp
  generalize nth l i = x at *
  rw [e2] at h
  conv at h => rhs; rw [e1]
  unfold mac digest at h
  simp only [List.foldl_append, List.foldl_cons, List.foldl_nil] at h
  have p0 := dstep_in 11 s
  have p1 := foldl_in (l.take i) _ p0.1 p0.2
  have q := fun y => dstep_in (List.foldl dstep (dstep 11 s) (l.take i)) y
  have r := fun y => foldl_in (l.drop (i + 1)) _ (q y).1 (q y).2
  have h1 := dstep_left s (r _).1 (r _).2 (r _).1 (r _).2 h
  have h2 := foldl_inj _ _ _ (q _).1 (q _).2 (q _).1 (q _).2 h1
  have h3 := dstep_right h2
  omega
end Go.Proofs.YtnnhgcfelkcpfaaDoor.Seal
