/- What a pattern's parts are: a variable (a question mark and a letter), the program's and the model's test of it; the texts * and **; which parts are right. No conditions but that lengths fit. -/
import Derived.Test.YtkojeajjappchaaValid
import Derived.Test.YtkojeajjappchaaNameMath
namespace Go.Proofs.Ytkojeajjappchaa.Row
open Go.ChangeShapes Go.WideShapes Go.ChangeAt Go.RowKit Go.Instr
set_option linter.unusedVariables false
set_option maxRecDepth 100000

def letterP (s : ByteArray) : Bool := decide (∃ h : s.size = 2, (s[0]'(by omega)).toNat = 63 ∧ 97 ≤ (s[1]'(by omega)).toNat ∧ (s[1]'(by omega)).toNat ≤ 122)
theorem letterP_size {s : ByteArray} (h : ¬ s.size = 2) : letterP s = false := decide_eq_false fun ⟨e, _⟩ => h e
theorem letterP_0 {s : ByteArray} (h : s.size = 2) (h0 : ¬ (s[0]'(by omega)).toNat = 63) : letterP s = false := decide_eq_false fun ⟨e, h1, _⟩ => h0 h1
theorem letterP_1 {s : ByteArray} (h : s.size = 2) (h0 : ¬ (97 ≤ (s[1]'(by omega)).toNat ∧ (s[1]'(by omega)).toNat ≤ 122)) : letterP s = false := decide_eq_false fun ⟨e, _, h1⟩ => h0 h1
theorem letterP_yes {s : ByteArray} (h : s.size = 2) (h0 : (s[0]'(by omega)).toNat = 63) (h1 : 97 ≤ (s[1]'(by omega)).toNat ∧ (s[1]'(by omega)).toNat ≤ 122) : letterP s = true := decide_eq_true ⟨h, h0, h1⟩
theorem letterP_iff {s : ByteArray} : letterP s = true ↔ ∃ h : s.size = 2, (s[0]'(by omega)).toNat = 63 ∧ 97 ≤ (s[1]'(by omega)).toNat ∧ (s[1]'(by omega)).toNat ≤ 122 := by unfold letterP; exact decide_eq_true_iff

set_option maxHeartbeats 1000000 in
theorem isVariable (s : ByteArray) (w : World) (hl : s.size ≤ 140737488351232) :
    Calls Try.prog 68 #[.string s] w fun e w' => e = .returned (.bool (letterP s)) ∧ w = w' := by
  by_cases h2 : s.size = 2
  · have hb0 := (s[0]'(by omega)).toNat_lt
    have hb1 := (s[1]'(by omega)).toNat_lt
    by_cases h0 : (s[0]'(by omega)).toNat = 63
    · by_cases ha : 97 ≤ (s[1]'(by omega)).toNat
      · by_cases hz : (s[1]'(by omega)).toNat ≤ 122
        · have HV := Lib.hid (letterP_yes h2 h0 ⟨ha, hz⟩)
          have t0 : (((s[0]'(by omega)).toNat : Int) == 63) = true := by simp [h0]
          clear h0
          go_enter Try.func68, Try.ntmps68
          go_wp2
          go_ret
          refine ⟨ret_bool ?_, rfl⟩
          rw [HV.out]; exact decide_eq_true (by omega)
        · have HV := Lib.hid (letterP_1 h2 (fun e => hz e.2))
          have t0 : (((s[0]'(by omega)).toNat : Int) == 63) = true := by simp [h0]
          clear h0
          go_enter Try.func68, Try.ntmps68
          go_wp2
          go_ret
          refine ⟨ret_bool ?_, rfl⟩
          rw [HV.out]; exact decide_eq_false (by omega)
      · have HV := Lib.hid (letterP_1 h2 (fun e => ha e.1))
        have t0 : (((s[0]'(by omega)).toNat : Int) == 63) = true := by simp [h0]
        clear h0
        go_enter Try.func68, Try.ntmps68
        go_wp2
        go_ret
        exact ⟨ret_bool HV.out.symm, rfl⟩
    · have HV := Lib.hid (letterP_0 h2 h0)
      have t0 : (((s[0]'(by omega)).toNat : Int) == 63) = false := by simp; omega
      clear h0
      go_enter Try.func68, Try.ntmps68
      go_wp2
      go_ret
      exact ⟨ret_bool HV.out.symm, rfl⟩
  · have HV := Lib.hid (letterP_size h2)
    have t0 : (((s.size : Nat) : Int) == 2) = false := by simp; omega
    clear h2
    go_enter Try.func68, Try.ntmps68
    go_wp2
    go_ret
    exact ⟨ret_bool HV.out.symm, rfl⟩

set_option maxHeartbeats 1000000 in
theorem l5Letter (s : ByteArray) (w : World) (hl : s.size ≤ 140737488351232) :
    Calls Try.prog 40 #[.string s] w fun e w' => e = .returned (.bool (letterP s)) ∧ w = w' := by
  by_cases h2 : s.size = 2
  · have hb0 := (s[0]'(by omega)).toNat_lt
    have hb1 := (s[1]'(by omega)).toNat_lt
    by_cases h0 : (s[0]'(by omega)).toNat = 63
    · have t0 : (((s[0]'(by omega)).toNat : Int) == 63) = true := by simp [h0]
      by_cases ha : 97 ≤ (s[1]'(by omega)).toNat ∧ (s[1]'(by omega)).toNat ≤ 122
      · have HV := Lib.hid (letterP_yes h2 h0 ha)
        have ha1 : (97 : Int) ≤ ((s[1]'(by omega)).toNat : Int) := by omega
        have ha2 : ((s[1]'(by omega)).toNat : Int) ≤ 122 := by omega
        clear h0 ha
        go_enter Try.func40, Try.ntmps40
        go_wp2_with fail
        refine (Num.specIn_true ha1 ha2 _).mono ?_
        rintro e w2 ⟨rfl, rfl⟩
        go_wp2
        go_ret
        exact ⟨ret_bool HV.out.symm, rfl⟩
      · have HV := Lib.hid (letterP_1 h2 ha)
        have hn : ¬ ((97 : Int) ≤ ((s[1]'(by omega)).toNat : Int) ∧ ((s[1]'(by omega)).toNat : Int) ≤ 122) := by omega
        have HNN := Lib.hid hn
        clear h0 ha hn
        go_enter Try.func40, Try.ntmps40
        go_wp2_with fail
        refine (Num.specIn_false HNN.out _).mono ?_
        rintro e w2 ⟨rfl, rfl⟩
        go_wp2
        go_ret
        exact ⟨ret_bool HV.out.symm, rfl⟩
    · have HV := Lib.hid (letterP_0 h2 h0)
      have t0 : (((s[0]'(by omega)).toNat : Int) == 63) = false := by simp; omega
      clear h0
      go_enter Try.func40, Try.ntmps40
      go_wp2
      go_ret
      exact ⟨ret_bool HV.out.symm, rfl⟩
  · have HV := Lib.hid (letterP_size h2)
    have t0 : (((s.size : Nat) : Int) == 2) = false := by simp; omega
    clear h2
    go_enter Try.func40, Try.ntmps40
    go_wp2
    go_ret
    exact ⟨ret_bool HV.out.symm, rfl⟩

end Go.Proofs.Ytkojeajjappchaa.Row
