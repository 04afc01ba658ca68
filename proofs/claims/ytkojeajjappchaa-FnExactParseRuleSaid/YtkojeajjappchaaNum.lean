/- Contracts of the integer functions of chapter 1 (without the texts): each returns the plain integer that its definition below says. The functions that only compute leave the world alone; Min and Max make one new block. No conditions but that the arguments fit their kind where sums are formed. -/
import Derived.Test.YtkojeajjappchaaRows
import Derived.WalkKit
import Derived.ProofKit
import Derived.WalkLawsBesides
import Derived.Lib.Hide
import Derived.LoopTactic
import Derived.Lib.SmallJoins
namespace Go.Proofs.Ytkojeajjappchaa.Num
open Go.ChangeShapes Go.WideShapes Go.ChangeAt Go.RowKit
set_option linter.unusedVariables false
set_option maxRecDepth 100000

def inB (n a b : Int) : Bool := decide (a ≤ n ∧ n ≤ b)

theorem inB_true {n a b : Int} (h1 : a ≤ n) (h2 : n ≤ b) : inB n a b = true := by simp [inB, h1, h2]
theorem inB_false1 {n a b : Int} (h1 : ¬ a ≤ n) : inB n a b = false := by simp [inB, h1]
theorem inB_false2 {n a b : Int} (h2 : ¬ n ≤ b) : inB n a b = false := by simp [inB, h2]

theorem implInRange (n a b : Int) (w : World) :
    Calls Try.prog 105 #[.int .i64 n, .int .i64 a, .int .i64 b] w fun e w' => e = .returned (.bool (inB n a b)) ∧ w = w' := by
  by_cases h1 : a ≤ n
  · by_cases h2 : n ≤ b
    · rw [inB_true h1 h2]
      go_enter Try.func105, Try.ntmps105
      go_wp2
      go_ret
      exact ⟨rfl, rfl⟩
    · rw [inB_false2 h2]
      go_enter Try.func105, Try.ntmps105
      go_wp2
      go_ret
      exact ⟨rfl, rfl⟩
  · rw [inB_false1 h1]
    go_enter Try.func105, Try.ntmps105
    go_wp2
    go_ret
    exact ⟨rfl, rfl⟩

theorem specIn (n a b : Int) (w : World) :
    Calls Try.prog 64 #[.int .i64 n, .int .i64 a, .int .i64 b] w fun e w' => e = .returned (.bool (inB n a b)) ∧ w = w' := by
  by_cases h1 : a ≤ n
  · by_cases h2 : n ≤ b
    · rw [inB_true h1 h2]
      go_enter Try.func64, Try.ntmps64
      go_wp2
      go_ret
      exact ⟨rfl, rfl⟩
    · rw [inB_false2 h2]
      go_enter Try.func64, Try.ntmps64
      go_wp2
      go_ret
      exact ⟨rfl, rfl⟩
  · rw [inB_false1 h1]
    go_enter Try.func64, Try.ntmps64
    go_wp2
    go_ret
    exact ⟨rfl, rfl⟩

theorem specIn_true {n a b : Int} (h1 : a ≤ n) (h2 : n ≤ b) (w : World) :
    Calls Try.prog 64 #[.int .i64 n, .int .i64 a, .int .i64 b] w fun e w' => e = .returned (.bool true) ∧ w = w' := by
  have := specIn n a b w
  rwa [inB_true h1 h2] at this
theorem specIn_false {n a b : Int} (h : ¬ (a ≤ n ∧ n ≤ b)) (w : World) :
    Calls Try.prog 64 #[.int .i64 n, .int .i64 a, .int .i64 b] w fun e w' => e = .returned (.bool false) ∧ w = w' := by
  have := specIn n a b w
  have e : inB n a b = false := by simpa [inB] using h
  rwa [e] at this
theorem implIn_true {n a b : Int} (h1 : a ≤ n) (h2 : n ≤ b) (w : World) :
    Calls Try.prog 105 #[.int .i64 n, .int .i64 a, .int .i64 b] w fun e w' => e = .returned (.bool true) ∧ w = w' := by
  have := implInRange n a b w
  rwa [inB_true h1 h2] at this
theorem implIn_false {n a b : Int} (h : ¬ (a ≤ n ∧ n ≤ b)) (w : World) :
    Calls Try.prog 105 #[.int .i64 n, .int .i64 a, .int .i64 b] w fun e w' => e = .returned (.bool false) ∧ w = w' := by
  have := implInRange n a b w
  have e : inB n a b = false := by simpa [inB] using h
  rwa [e] at this

def minI (a b : Int) : Int := if b < a then b else a
def maxI (a b : Int) : Int := if a < b then b else a

theorem minI_yes {a b : Int} (h : b < a) : minI a b = b := by simp [minI, h]
theorem minI_no {a b : Int} (h : ¬ b < a) : minI a b = a := by simp [minI, h]
theorem maxI_yes {a b : Int} (h : a < b) : maxI a b = b := by simp [maxI, h]
theorem maxI_no {a b : Int} (h : ¬ a < b) : maxI a b = a := by simp [maxI, h]

theorem minI_le (a b : Int) : minI a b ≤ a := by unfold minI; split <;> omega
theorem le_maxI (a b : Int) : a ≤ maxI a b := by unfold maxI; split <;> omega

theorem new1 (w : World) (v : Value) (t : TypeId) : (w.alloc (.cells #[v] t)).cell? ⟨w.heap.size, 0, none⟩ = some v := by
  go_simp

def ceilI (a b : Int) : Int := if 0 ≤ a ∧ a ≤ 1000000000000 ∧ 1 ≤ b ∧ b ≤ 1000000000000 then (a + b - 1) / b else 0
theorem ceilI_in {a b : Int} (h1 : 0 ≤ a) (h2 : a ≤ 1000000000000) (h3 : 1 ≤ b) (h4 : b ≤ 1000000000000) : ceilI a b = (a + b - 1) / b := by
  unfold ceilI; rw [if_pos ⟨h1, h2, h3, h4⟩]
theorem ceilI_out {a b : Int} (h : ¬ (0 ≤ a ∧ a ≤ 1000000000000 ∧ 1 ≤ b ∧ b ≤ 1000000000000)) : ceilI a b = 0 := by
  unfold ceilI; rw [if_neg h]

def modI (n m : Int) : Int := if 1 ≤ m ∧ m ≤ 1000000000000 then n % m else 0
theorem modI_out {n m : Int} (h : ¬ (1 ≤ m ∧ m ≤ 1000000000000)) : modI n m = 0 := by
  unfold modI; rw [if_neg h]
theorem tmod_hi (n m : Int) (h : 1 ≤ m) : n.tmod m < m := Int.tmod_lt_of_pos n (by omega)
theorem tmod_lo (n m : Int) (h : 1 ≤ m) : -m < n.tmod m := by
  have := Int.lt_tmod_of_pos n (b := m) (by omega)
  omega
theorem modI_pos {n m : Int} (h1 : 1 ≤ m) (h2 : m ≤ 1000000000000) (h : ¬ n.tmod m < 0) : modI n m = n.tmod m := by
  unfold modI; rw [if_pos ⟨h1, h2⟩]
  have e := Int.tmod_add_mul_tdiv n m
  have hh := tmod_hi n m h1
  have : n.tmod m = n % m := by
    rw [← Int.emod_eq_of_lt (a := n.tmod m) (b := m) (by omega) hh]
    have e2 : n = n.tmod m + m * n.tdiv m := e.symm
    conv => rhs; rw [e2]
    rw [Int.add_mul_emod_self_left]
  omega
theorem modI_neg {n m : Int} (h1 : 1 ≤ m) (h2 : m ≤ 1000000000000) (h : n.tmod m < 0) : modI n m = n.tmod m + m := by
  unfold modI; rw [if_pos ⟨h1, h2⟩]
  have e := Int.tmod_add_mul_tdiv n m
  have hl := tmod_lo n m h1
  have : n.tmod m + m = n % m := by
    rw [← Int.emod_eq_of_lt (a := n.tmod m + m) (b := m) (by omega) (by omega)]
    have e2 : n = n.tmod m + m * n.tdiv m := e.symm
    conv => rhs; rw [e2]
    rw [Int.add_mul_emod_self_left, Int.add_emod_right]
  omega
theorem modI_spec {n m : Int} (h1 : 1 ≤ m) (h2 : m ≤ 1000000000000) : modI n m = (n.tmod m + m) % m := by
  rw [Int.add_emod_right]
  unfold modI; rw [if_pos ⟨h1, h2⟩]
  have e := Int.tmod_add_mul_tdiv n m
  have e2 : n = n.tmod m + m * n.tdiv m := e.symm
  conv => lhs; rw [e2]
  rw [Int.add_mul_emod_self_left]

theorem modI_nonneg (p : Int) {q : Int} (h : 1 ≤ q) : 0 ≤ modI p q := by
  unfold modI; split
  · exact Int.emod_nonneg _ (by omega)
  · omega
theorem modI_lt (p : Int) {q : Int} (h : 1 ≤ q) : modI p q < q := by
  unfold modI; split
  · exact Int.emod_lt_of_pos _ (by omega)
  · omega

end Go.Proofs.Ytkojeajjappchaa.Num
