/- Plain mathematics of tables, and the contracts in the words of the drawn law: a stored entry is found, a removed one is not. No conditions but that lengths fit. -/
import Derived.Test.YtihcebjbkifbpaaDrawTabs
import Derived.Test.YtihcebjbkifbpaaTabPre
import Derived.Test.YtihcebjbkifbpaaTabEq
import Derived.Test.YtihcebjbkifbpaaTabOpen
namespace Go.Proofs.Ytihcebjbkifbpaa.Row
open Go.ChangeShapes Go.WideShapes Go.ChangeAt Go.RowKit Go.Instr
set_option linter.unusedVariables false
set_option maxRecDepth 100000

theorem putT_yes {T : List (List ByteArray × Int)} {n : List ByteArray} {a : Int} (h : putOk T n a = true) : putT T n a = putRaw T n a := if_pos h
theorem putT_no {T : List (List ByteArray × Int)} {n : List ByteArray} {a : Int} (h : putOk T n a = false) : putT T n a = T := if_neg (by simp [h])
theorem valid_putT {T : List (List ByteArray × Int)} {n : List ByteArray} {a : Int} (h : putOk T n a = true) : validT (putT T n a) = true := by rw [putT_yes h]; exact h
theorem isN_self (n : List ByteArray) (a : Int) : isN n (n, a) = true := by
  unfold isN; rw [eqB_cmp]; simp [cmpL_zero.2 rfl]
/-- A stored entry is found. -/
theorem lk_put {T : List (List ByteArray × Int)} {n : List ByteArray} {a : Int} (h : putOk T n a = true) : lkN (putT T n a) n = a ∧ lkOk (putT T n a) n = true := by
  rw [putT_yes h]
  have key : ∃ i, i < (putRaw T n a).length ∧ (putRaw T n a).findIdx (isN n) = i ∧ (nth (putRaw T n a) i).2 = a := by
    unfold putRaw
    split
    · rename_i hi
      have hy := List.findIdx_getElem (xs := T) (p := isN n) (w := hi)
      refine ⟨T.findIdx (isN n), by simpa using hi, ?_, by rw [nth_set hi]⟩
      refine fp_at (by simpa using hi) (fun j hj => ?_) ?_
      · have h1 := List.not_of_lt_findIdx hj
        have e : nth (T.set (T.findIdx (isN n)) ((nth T (T.findIdx (isN n))).1, a)) j = nth T j := by
          simp only [nth, List.getD]
          rw [List.getElem?_set_ne (by omega)]
        rw [e, nth_eq (by omega)]
        simpa using h1
      · rw [nth_set hi]
        rw [← nth_eq hi] at hy
        exact hy
    · rename_i hi
      have hall : ∀ x ∈ T, isN n x = false := by
        intro x hx
        by_cases e : isN n x = true
        · exact absurd (List.findIdx_lt_length_of_exists ⟨x, hx, e⟩) hi
        · simpa using e
      have hl : (T.take (T.findIdx (gtN n))).length = T.findIdx (gtN n) := by
        rw [List.length_take]
        have := List.findIdx_le_length (p := gtN n) (xs := T)
        omega
      have hlt : T.findIdx (gtN n) < (insT T n a).length := by
        rw [insT_length]
        have := List.findIdx_le_length (p := gtN n) (xs := T)
        omega
      have hat : nth (insT T n a) (T.findIdx (gtN n)) = (n, a) := by
        unfold insT
        simp only [nth, List.getD]
        rw [List.getElem?_append_right (by omega), hl]
        simp
      refine ⟨T.findIdx (gtN n), hlt, ?_, by rw [hat]⟩
      refine fp_at hlt (fun j hj => ?_) (by rw [hat]; exact isN_self n a)
      have hm : nth (insT T n a) j ∈ T := by
        unfold insT
        simp only [nth, List.getD]
        rw [List.getElem?_append_left (by omega)]
        have hj2 : j < (T.take (T.findIdx (gtN n))).length := by omega
        rw [List.getElem?_eq_getElem hj2]
        exact List.mem_of_mem_take (List.getElem_mem hj2)
      exact hall _ hm
  obtain ⟨i, h1, h2, h3⟩ := key
  exact ⟨by unfold lkN; rw [h2, if_pos h1]; exact h3, by unfold lkOk; rw [h2]; exact decide_eq_true h1⟩
/-- A removed entry is not found. -/
theorem lk_rm (T : List (List ByteArray × Int)) (n : List ByteArray) : lkOk (rmT T n) n = false := by
  unfold lkOk
  have h : (rmT T n).findIdx (isN n) = (rmT T n).length := by
    rw [List.findIdx_eq_length]
    intro x hx
    have := (List.mem_filter.1 hx).2
    simpa using this
  rw [h]; simp
theorem lp_cases (T : List (List ByteArray × Int)) (m : List ByteArray) : lpT T m = -1 ∨ ∃ k : Nat, lpT T m = (k : Int) ∧ k < T.length ∧ hpB m (nth T k).1 = true := by
  have h1 := lpTo_in T m T.length
  have h2 := (lpTo_spec T m T.length).1
  unfold lpT
  by_cases h : 0 ≤ lpTo T m T.length
  · refine Or.inr ⟨(lpTo T m T.length).toNat, by omega, by omega, h2 h⟩
  · exact Or.inl (by omega)
theorem lp_max {T : List (List ByteArray × Int)} {m : List ByteArray} {j : Nat} (hj : j < T.length) (hp : hpB m (nth T j).1 = true) : ∃ k : Nat, lpT T m = (k : Int) ∧ k < T.length ∧ (nth T j).1.length ≤ (nth T k).1.length := by
  have h1 := lpTo_in T m T.length
  obtain ⟨h2, h3⟩ := (lpTo_spec T m T.length).2 j hj hp
  exact ⟨(lpT T m).toNat, by unfold lpT; omega, by unfold lpT; omega, by unfold lpT; exact h3⟩

section
variable {v u : Value} {T U : List (List ByteArray × Int)} {m : List ByteArray} {w : World}
theorem sameRowsT (h : TabHolds w v T) (g : TabHolds w u T) (hl : T.length ≤ 1000) (hT : smT T) :
    Calls Try.prog 23 #[v, u] w fun e w' => e = .returned (.bool true) ∧ Below w.heap.size w w' := by
  have := sameRows v u T T w h g (by omega) (by omega) hT hT
  rwa [eqT_self] at this
theorem sRowsV (q : Bool) (hq : eqT T U = q) (h : TabHolds w v T) (g : TabHolds w u U) (hl : T.length ≤ 1000) (hm : U.length ≤ 1000) (hT : smT T) (hU : smT U) :
    Calls Try.prog 23 #[v, u] w fun e w' => e = .returned (.bool q) ∧ Below w.heap.size w w' := hq ▸ sameRows v u T U w h g (by omega) (by omega) hT hU
theorem iEqTV (q : Bool) (hq : eqT T U = q) (h : TabHolds w v T) (g : TabHolds w u U) (hl : T.length ≤ 1000) (hm : U.length ≤ 1000) (hT : smT T) (hU : smT U) :
    Calls Try.prog 29 #[v, u] w fun e w' => e = .returned (.bool q) ∧ Below w.heap.size w w' := hq ▸ implEqualTables v u T U w h g (by omega) (by omega) hT hU
theorem sLpV (k : Int) (hk : lpT T m = k) (h : TabHolds w v T) (g : Holds Value.string w u m) (hl : T.length ≤ 1000) (hT : smT T) (hm : m.length ≤ 9000000) :
    Calls Try.prog 24 #[v, .agg #[u]] w fun e w' => e = .returned (.int .i64 k) ∧ Below w.heap.size w w' := hk ▸ specLongestPrefix v u T m w h g (by omega) hT hm
theorem iLpV (k : Int) (hk : lpT T m = k) (h : TabHolds w v T) (g : Holds Value.string w u m) (hl : T.length ≤ 1000) (hT : smT T) (hm : m.length ≤ 9000000) :
    Calls Try.prog 22 #[v, .agg #[u]] w fun e w' => e = .returned (.int .i64 k) ∧ Below w.heap.size w w' := hk ▸ implLongestPrefix v u T m w h g (by omega) hT hm
theorem iValTV (z : Bool) (hz : validT T = z) (h : TabHolds w v T) (hl : T.length ≤ 1000) (hT : smT T) :
    Calls Try.prog 30 #[v] w fun e w' => e = .returned (.bool z) ∧ Below w.heap.size w w' := hz ▸ implValidTable v T w h (by omega) hT
theorem sValTV (z : Bool) (hz : validT T = z) (h : TabHolds w v T) (hl : T.length ≤ 1000) (hT : smT T) :
    Calls Try.prog 31 #[v] w fun e w' => e = .returned (.bool z) ∧ Below w.heap.size w w' := hz ▸ specValidTable v T w h (by omega) hT
theorem iLkV (i : Int) (b : Bool) (hi : lkN T m = i) (hb : lkOk T m = b) (h : TabHolds w v T) (g : Holds Value.string w u m) (hl : T.length ≤ 1000) (hT : smT T) (hm : m.length ≤ 9000000) :
    Calls Try.prog 20 #[v, .agg #[u]] w fun e w' => e = .returned (.tuple #[.int .i64 i, .bool b]) ∧ Below w.heap.size w w' := hi ▸ hb ▸ implLookupEntry v u T m w h g (by omega) hT hm
theorem sLkV (i : Int) (b : Bool) (hi : lkN T m = i) (hb : lkOk T m = b) (h : TabHolds w v T) (g : Holds Value.string w u m) (hl : T.length ≤ 1000) (hT : smT T) (hm : m.length ≤ 9000000) :
    Calls Try.prog 21 #[v, .agg #[u]] w fun e w' => e = .returned (.tuple #[.int .i64 i, .bool b]) ∧ Below w.heap.size w w' := hi ▸ hb ▸ specLookupEntry v u T m w h g (by omega) hT hm
end
end Go.Proofs.Ytihcebjbkifbpaa.Row
