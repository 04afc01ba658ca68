/- Contracts of ParseName, the program's and the reference model's. No conditions but that lengths fit. -/
import Derived.Test.YtkojeajjappchaaSplit
import Derived.Test.YtkojeajjappchaaNameMath
import Derived.Test.YtkojeajjappchaaForm
import Derived.Test.YtkojeajjappchaaAppP
namespace Go.Proofs.Ytkojeajjappchaa.Row
open Go.ChangeShapes Go.WideShapes Go.ChangeAt Go.RowKit Go.Instr
set_option linter.unusedVariables false
set_option maxRecDepth 100000

theorem bulk_filter (p : ByteArray → Bool) : ∀ l : List ByteArray, bulk (l.filter p) ≤ bulk l
  | [] => by simp
  | x :: l => by
    have := bulk_filter p l
    rw [List.filter_cons]
    split
    · rw [bulk_cons, bulk_cons]; omega
    · rw [bulk_cons]; omega
theorem bulk_goS : ∀ (t cur : List UInt8), bulk ((goS cur t).map mk) = cur.length + t.length + 1
  | [], cur => by simp [goS, bulk_one, mk_size]; omega
  | c :: t, cur => by
    unfold goS
    split
    · rw [List.map_cons, bulk_cons, bulk_goS t, mk_size]; simp; omega
    · rw [bulk_goS t]; simp; omega
theorem bulk_split (s : ByteArray) : bulk (splitB s) = s.size + 1 := by
  unfold splitB; rw [bulk_goS, bl_length]; simp
theorem bulk_parts (s : ByteArray) : bulk (partsB s) ≤ s.size + 1 := by
  have := bulk_filter fullB (splitB s)
  rw [bulk_split] at this
  exact this
theorem split_pos (s : ByteArray) : 0 < (splitB s).length := by
  unfold splitB; rw [List.length_map]
  exact List.length_pos_iff.2 (goS_ne _ _)

theorem pN_len (s : ByteArray) : (pN s).length ≤ 6 := (validN_iff.1 (valid_pN s)).1
theorem tl47 : (mk [47]).toList = [47] := ByteArray.toList_mk [47]
theorem tl0 : (mk []).toList = [] := ByteArray.toList_mk []

end Go.Proofs.Ytkojeajjappchaa.Row
