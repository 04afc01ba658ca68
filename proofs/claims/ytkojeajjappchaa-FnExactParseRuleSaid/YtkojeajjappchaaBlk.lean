/- A variable of several cells (a struct): its block, whole; what keeps it; its cells written; it is given back. For any program. -/
import Derived.Test.YtkojeajjappchaaKd
namespace Go.Proofs.Ytkojeajjappchaa.Ret
open Go.RowKit
set_option linter.unusedVariables false
/-- Block g is a variable of type t, and holds the cells cs. -/
def Blk (w : World) (g : Nat) (cs : Array Value) (t : TypeId) : Prop := w.heap[g]? = some (.cells cs t)
section
variable {w w' : World} {g : Nat} {cs : Array Value} {t : TypeId}
theorem Blk.lt (h : Blk w g cs t) : g < w.heap.size := (Array.getElem?_eq_some_iff.1 h).1
theorem Blk.cell (h : Blk w g cs t) (i : Nat) : w.cell? ⟨g, i, none⟩ = cs[i]? := cell_of_row w g i cs t _ h
theorem Blk.frozen (h : Blk w g cs t) (i : Nat) : w.frozen? ⟨g, i, none⟩ = false := by simp [World.frozen?, show w.heap[g]? = some (.cells cs t) from h]
theorem Blk.on (h : Blk w g cs t) (hb : Below w.heap.size w w') : Blk w' g cs t := (hb.block g h.lt).trans h
theorem Blk.grown (h : Blk w g cs t) {row : Option Nat} (hg : w.grownBy w' row) (hne : some g ≠ row) : Blk w' g cs t := (hg.block g h.lt hne).trans h
theorem Blk.new (w : World) (cs : Array Value) (t : TypeId) : Blk (w.alloc (.cells cs t)) w.heap.size cs t := heap_alloc_new w _
theorem Blk.new' {w : World} (cs : Array Value) (t : TypeId) {n : Nat} (h : n = w.heap.size) : Blk (w.alloc (.cells cs t)) n cs t := by subst h; exact Blk.new w cs t
theorem Blk.other (h : Blk w g cs t) {a : Addr} (hne : a.block ≠ g) (v : Value) : Blk (w.setCell a v) g cs t := h.grown (grownBy_set w a v) (fun e => hne (by cases e; rfl))
theorem Blk.set (h : Blk w g cs t) (i : Nat) (v : Value) : Blk (w.setCell ⟨g, i, none⟩ v) g (cs.setIfInBounds i v) t := by
  have h' : w.heap[g]? = some (.cells cs t) := h
  unfold Blk
  simp only [World.setCell, Array.getElem?_modify, h']
  simp
theorem Blk.cells (h : Blk w g cs t) : ∀ j v, cs.toList[j]? = some v → w.cell? ⟨g, j, none⟩ = some v := fun j v e => by rw [h.cell]; simpa using e
end
end Go.Proofs.Ytkojeajjappchaa.Ret
