/- A value that reads as something, in memory that nothing writes any more (a model's result that is no row of its own): at, on, wrote. For any kind. -/
import Derived.Test.YtkojeajjappchaaKLaw
namespace Go.Proofs.Ytkojeajjappchaa.Row
open Go.ChangeShapes Go.WideShapes Go.ChangeAt Go.RowKit Go.Instr
set_option linter.unusedVariables false

section
variable {α M : Type} {k : Kd α M} {N B E : Nat} {w w' : World} {v : Value} {a : α}
/-- The value v reads as a in the world w, and did when N blocks were there, none of which is written since. -/
def Kd.Far (k : Kd α M) (N : Nat) (w : World) (v : Value) (a : α) : Prop := ∃ w0, w0.heap.size = N ∧ k.At w0 v a ∧ Below N w0 w
theorem Kd.At.far (h : k.At w v a) : k.Far w.heap.size w v a := ⟨w, rfl, h, Below.refl _ _⟩
theorem Kd.Far.at (h : k.Far N w v a) : k.At w v a := by
  obtain ⟨w0, rfl, h, hb⟩ := h
  exact h.on hb
theorem Kd.Far.le (h : k.Far N w v a) : N ≤ w.heap.size := by
  obtain ⟨w0, rfl, -, hb⟩ := h
  exact hb.size
theorem Kd.Far.on (h : k.Far N w v a) (hb : Below w.heap.size w w') : k.Far N w' v a := by
  have hl := h.le
  obtain ⟨w0, e, h, h0⟩ := h
  exact ⟨w0, e, h, h0.trans (hb.mono hl)⟩
theorem Kd.Far.wrote (h : k.Far N w v a) (hw : Wrote B E w w') (hn : N ≤ B) : k.Far N w' v a := by
  have hl := h.le
  obtain ⟨w0, e, h, h0⟩ := h
  exact ⟨w0, e, h, hw.below h0 hl hn⟩
end

end Go.Proofs.Ytkojeajjappchaa.Row
