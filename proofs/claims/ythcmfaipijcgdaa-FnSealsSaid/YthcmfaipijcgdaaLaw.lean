/- Contracts of the laws' own helpers over the drawn bytes: at gives a number from 0 to 255. Nothing in memory turns. No conditions. -/
import Derived.Test.YthcmfaipijcgdaaDraw
namespace Go.Proofs.Ythcmfaipijcgdaa.Draw
open Go.ChangeShapes Go.WideShapes Go.ChangeAt Go.RowKit Go.Instr
set_option linter.unusedVariables false

set_option maxHeartbeats 1000000 in
theorem lawAt (x : Option Addr) (n cap k : Nat) (l : List UInt8) (w : World) (hq : Frame.Bytes w (.slice x n cap) l) (hn : n = l.length) (hk : k ≤ 1000) :
    Calls Try.prog 37 #[.slice x n cap, .int .i64 k] w fun e w' => (∃ r : Int, e = .returned (.int .i64 r) ∧ 0 ≤ r ∧ r ≤ 255) ∧ w = w' := by
  have hle := bytes_le hq
  rw [← hn] at hle
  obtain ⟨x', cap', hv, hat⟩ := bytes_at hq
  have hx : x = x' := by cases hv; rfl
  subst hx; clear hv
  by_cases hlt : k < n
  · obtain ⟨b, off, hx, hc⟩ := hat k (by omega)
    subst hx
    have hu := l[k].toNat_lt
    obtain ⟨u, hu2⟩ : ∃ u, u = l[k].toNat := ⟨_, rfl⟩
    rw [← hu2] at hc hu
    have hlti : (k : Int) < (n : Int) := by omega
    have hu0 : (0 : Int) ≤ (u : Int) := by omega
    have hu1 : (u : Int) ≤ 255 := by omega
    clear hat hq hn hu2
    go_enter Try.func37, Try.ntmps37
    go_wp2_with fail
    go_ret
    exact ⟨⟨_, rfl, hu0, hu1⟩, rfl⟩
  · have hlti : decide ((k : Int) < (n : Int)) = false := by simp; omega
    clear hat hq hn
    go_enter Try.func37, Try.ntmps37
    go_wp2_with fail
    go_ret
    exact ⟨⟨_, rfl, by omega, by omega⟩, rfl⟩
end Go.Proofs.Ythcmfaipijcgdaa.Draw
