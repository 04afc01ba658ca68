/- Contracts and mathematics, joined: SeenB, RegS8. No conditions but those that each states. -/
import Derived.WalkKit
import Derived.Deep.RegionHeld3
import Derived.Test.YtdaahcaafdleaaaB2
/- FnSeens: laws.sameSeen over equal lists; chapter 13's contracts in the law's words; what the answer says. No conditions but that lengths fit. -/
namespace Go.Proofs.Ytdaahcaafdleaaa.Row
open Go.ChangeShapes Go.WideShapes Go.ChangeAt Go.RowKit Go.Instr
set_option linter.unusedVariables false
set_option maxRecDepth 100000
theorem seen_last {x : List Snt} {m : List ByteArray} {k : Int} : ∃ pre, seenS x m k = pre ++ [(m, k)] := by
  unfold seenS
  split
  · rename_i h
    rw [List.length_append, List.length_singleton] at h
    exact ⟨x.drop 1, by rw [List.drop_append_of_le_length (by omega)]⟩
  · exact ⟨x, rfl⟩
theorem seen_sm {x : List Snt} {m : List ByteArray} {k : Int} (h : smS9 24 x) (hm : bulk m ≤ 1000) (h0 : 0 ≤ k) (h1 : k ≤ 100) : smS9 24 (seenS x m k) := by
  have h2 := smS9_snoc h hm (a := k) (by omega) (by omega)
  have h3 := h.1
  unfold seenS
  split
  · rename_i h4
    exact ⟨by rw [List.length_drop, List.length_append, List.length_singleton]; omega, fun e he => h2.2 e (List.mem_of_mem_drop he)⟩
  · rename_i h4
    exact ⟨by omega, h2.2⟩
theorem seen_loop {x : List Snt} {m : List ByteArray} {k a b : Int} : loopP [] (seenS x m k) (m, k, a, b) = true := by
  obtain ⟨pre, e⟩ := seen_last (x := x) (m := m) (k := k)
  unfold loopP
  rw [e, List.any_append]
  simp [isS]
section
variable {w : World} {V U T : Value} {x : List Snt} {m : List ByteArray} {k : Int}
end
end Go.Proofs.Ytdaahcaafdleaaa.Row
/- FnSeens: its region that draws. No conditions. -/
namespace Go.Proofs.Ytdaahcaafdleaaa.Row
open Go.ChangeShapes Go.WideShapes Go.ChangeAt Go.RowKit Go.Instr
set_option linter.unusedVariables false
set_option maxRecDepth 100000
end Go.Proofs.Ytdaahcaafdleaaa.Row
