/- Contracts of the laws' own comparisons of slices of numbers: whether they hold equal lists. Nothing in memory turns but the count of draws. No conditions but that lengths fit. -/
import Derived.Test.YtnnhgcfelkcpfaaExact
import Derived.Deep.RegionHeld3
namespace Go.Proofs.Ytnnhgcfelkcpfaa.Sl
open Go.ChangeShapes Go.WideShapes Go.ChangeAt Go.RowKit Go.Instr
set_option linter.unusedVariables false
set_option maxRecDepth 100000

theorem Holds.upto {k : IntKind} {w : World} {x : Option Addr} {n cap : Nat} {l : List Int} (h : Holds k w (.slice x n cap) l) {j : Nat} (hj : j ≤ n) : Holds k w (.slice x j cap) (l.take j) := by
  obtain ⟨x', cap', hv, hc, hh⟩ := h
  cases hv
  have hl : (l.take j).length = j := by simp; omega
  refine ⟨x, cap, by rw [hl], by omega, ?_⟩
  rcases hh with rfl | ⟨b, off, hx, hh⟩
  · left; simp
  · right
    refine ⟨b, off, hx, fun i hi => ?_⟩
    rw [hl] at hi
    rw [hh i (by omega)]
    simp only [nth, List.getD, List.getElem?_take, if_pos hi]
end Go.Proofs.Ytnnhgcfelkcpfaa.Sl
