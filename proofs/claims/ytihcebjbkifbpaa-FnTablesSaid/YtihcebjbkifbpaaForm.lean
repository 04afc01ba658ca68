/- Contracts of FormatName, the program's and the reference model's: each part behind a slash; a slash alone where there is none. No conditions but that lengths fit. -/
import Derived.Test.YtihcebjbkifbpaaNameMath
import Derived.Test.YtihcebjbkifbpaaShelf
namespace Go.Proofs.Ytihcebjbkifbpaa.Row
open Go.ChangeShapes Go.WideShapes Go.ChangeAt Go.RowKit Go.Instr
set_option linter.unusedVariables false
set_option maxRecDepth 100000

/-- The text behind the first k parts. -/
def fT (l : List ByteArray) (k : Nat) : ByteArray := mk (Lib.joinTail [47] ((l.map bl).take k))
theorem fT_zero (l : List ByteArray) : fT l 0 = mk [] := by simp [fT, Lib.joinTail]
theorem fT_succ (l : List ByteArray) {k : Nat} (h : k < l.length) : fT l (k + 1) = fT l k ++ mk [47] ++ nth l k := by
  unfold fT
  rw [Lib.joinTail_take_succ [47] _ k (bl (nth l k)) (by rw [List.getElem?_map, nth_eq h, List.getElem?_eq_getElem h]; rfl), ← mk_append, ← mk_append, mk_bl]
theorem fT_size (l : List ByteArray) : ∀ k, k ≤ l.length → (fT l k).size + l.length = bulkTo l k + k
  | 0, _ => by rw [fT_zero, mk_size, bulkTo_zero]; simp
  | k + 1, h => by
    have ih := fT_size l k (by omega)
    rw [fT_succ l (by omega), ByteArray.size_append, ByteArray.size_append, mk_size, bulkTo_succ l (by omega)]
    simp; omega
theorem fT_le (l : List ByteArray) {k : Nat} (h : k ≤ l.length) : (fT l k).size ≤ bulk l := by
  have h1 := fT_size l k h
  have h2 := bulkTo_le l k
  omega
theorem fT_all {l : List ByteArray} (h : l ≠ []) : fT l l.length = fmtS l := by
  unfold fT fmtS fmtL
  rw [List.take_of_length_le (by simp)]
  obtain ⟨x, r, rfl⟩ : ∃ x r, l = x :: r := by
    cases l with
    | nil => exact absurd rfl h
    | cons x r => exact ⟨x, r, rfl⟩
  rw [List.map_cons, Lib.join_cons]
  congr 1
theorem join_size (l : List ByteArray) : (Lib.join (l.map bl) [47]).length ≤ bulk l := by
  by_cases h : l = []
  · subst h; simp [Lib.join_nil]
  · have h1 := congrArg ByteArray.size (fT_all h)
    have h2 := fT_le l (Nat.le_refl l.length)
    rw [h1] at h2
    unfold fmtS fmtL at h2
    rw [mk_size] at h2
    simp at h2; omega

end Go.Proofs.Ytihcebjbkifbpaa.Row
