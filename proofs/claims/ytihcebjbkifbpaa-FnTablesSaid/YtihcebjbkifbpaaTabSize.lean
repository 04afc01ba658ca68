/- Sizes of the results of the table functions. No conditions. -/
import Derived.Test.YtihcebjbkifbpaaTabPutS
import Derived.Test.YtihcebjbkifbpaaTabDel
namespace Go.Proofs.Ytihcebjbkifbpaa.Row
open Go.ChangeShapes Go.WideShapes Go.ChangeAt Go.RowKit Go.Instr
set_option linter.unusedVariables false

theorem adv_filter (p : List ByteArray × Int → Bool) : ∀ T : List (List ByteArray × Int), adv (T.filter p) ≤ adv T
  | [] => by simp [adv]
  | x :: r => by
    have := adv_filter p r
    simp only [List.filter_cons, adv]
    split
    · simp only [adv]; omega
    · omega
theorem smT_filter {p : List ByteArray × Int → Bool} {T : List (List ByteArray × Int)} (h : smT T) : smT (T.filter p) := fun t ht => h t (List.mem_filter.1 ht).1
theorem rmT_facts {T : List (List ByteArray × Int)} {n : List ByteArray} (h : smT T) : smT (rmT T n) ∧ (rmT T n).length ≤ T.length ∧ adv (rmT T n) ≤ adv T := ⟨smT_filter h, List.length_filter_le _ _, adv_filter _ _⟩
theorem unT_facts {T : List (List ByteArray × Int)} {n : List ByteArray} (h : smT T) : smT (unT T n) ∧ (unT T n).length ≤ T.length ∧ adv (unT T n) ≤ adv T := ⟨smT_filter h, List.length_filter_le _ _, adv_filter _ _⟩
theorem adv_set : ∀ (T : List (List ByteArray × Int)) (i : Nat) (v : Int), adv (T.set i ((nth T i).1, v)) = adv T
  | [], i, v => by simp [adv]
  | x :: r, 0, v => by simp [adv, nth]
  | x :: r, i + 1, v => by
    have := adv_set r i v
    simp only [List.set_cons_succ, adv]
    rw [show nth (x :: r) (i + 1) = nth r i by simp [nth]]
    omega
theorem adv_insT (T : List (List ByteArray × Int)) (n : List ByteArray) (v : Int) : adv (insT T n v) = adv T + n.length + 1 := by
  have h := adv_append (T.take (T.findIdx (gtN n))) (T.drop (T.findIdx (gtN n)))
  rw [List.take_append_drop] at h
  unfold insT
  rw [adv_append]
  simp only [adv]
  omega
theorem adv_putT (T : List (List ByteArray × Int)) (n : List ByteArray) (v : Int) : adv (putT T n v) ≤ adv T + n.length + 1 := by
  unfold putT
  split
  · unfold putRaw
    split
    · rw [adv_set]; omega
    · rw [adv_insT]; omega
  · omega
theorem putT_facts {T : List (List ByteArray × Int)} {n : List ByteArray} (v : Int) (h : smT T) (hn : bulk n ≤ 9000000) : smT (putT T n v) ∧ (putT T n v).length ≤ T.length + 1 ∧ adv (putT T n v) ≤ adv T + n.length + 1 := ⟨smT_putT h hn, putT_length T n v, adv_putT T n v⟩
end Go.Proofs.Ytihcebjbkifbpaa.Row
