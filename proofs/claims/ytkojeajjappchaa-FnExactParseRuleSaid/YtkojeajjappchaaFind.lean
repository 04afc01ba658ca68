/- Contracts of the search for a binding, the program's (by a closure handed to slices.IndexFunc) and the model's, and of BindingValue. No conditions but that lengths fit. -/
import Derived.Test.YtkojeajjappchaaBind
namespace Go.Proofs.Ytkojeajjappchaa.Row
open Go.ChangeShapes Go.WideShapes Go.ChangeAt Go.RowKit Go.Instr
set_option linter.unusedVariables false
set_option maxRecDepth 100000

def isK (k : ByteArray) (x : ByteArray × ByteArray) : Bool := decide (x.1 = k)
/-- The place of the first binding of k; how many there are, if there is none. -/
def fi (l : List (ByteArray × ByteArray)) (k : ByteArray) : Nat := l.findIdx (isK k)
def ixB (l : List (ByteArray × ByteArray)) (k : ByteArray) : Int := if fi l k < l.length then (fi l k : Int) else -1
def bvB (l : List (ByteArray × ByteArray)) (k : ByteArray) : ByteArray := if fi l k < l.length then (nth l (fi l k)).2 else ByteArray.empty
def noK (l : List (ByteArray × ByteArray)) (k : ByteArray) (i : Nat) : Prop := ∀ j, j < i → ¬ (nth l j).1 = k
theorem noK_zero (l : List (ByteArray × ByteArray)) (k : ByteArray) : noK l k 0 := fun j h => absurd h (by omega)
theorem noK_succ {l : List (ByteArray × ByteArray)} {k : ByteArray} {i : Nat} (h : noK l k i) (hc : ¬ (nth l i).1 = k) : noK l k (i + 1) := fun j h1 => by
  by_cases e : j = i
  · subst e; exact hc
  · exact h j (by omega)
theorem fi_at {l : List (ByteArray × ByteArray)} {k : ByteArray} {i : Nat} (hi : i < l.length) (h : noK l k i) (hc : (nth l i).1 = k) : fi l k = i := by
  unfold fi
  rw [List.findIdx_eq hi]
  refine ⟨?_, fun j hj => ?_⟩
  · unfold isK; rw [← nth_eq hi]; exact decide_eq_true hc
  · unfold isK; rw [← nth_eq (Nat.lt_trans hj hi)]; exact decide_eq_false (h j hj)
theorem fi_none {l : List (ByteArray × ByteArray)} {k : ByteArray} (h : noK l k l.length) : fi l k = l.length := by
  unfold fi
  rw [List.findIdx_eq_length]
  intro x hx
  obtain ⟨j, hj, rfl⟩ := List.getElem_of_mem hx
  unfold isK; rw [← nth_eq hj]; exact decide_eq_false (h j hj)
theorem ixB_at {l : List (ByteArray × ByteArray)} {k : ByteArray} {i : Nat} (hi : i < l.length) (h : noK l k i) (hc : (nth l i).1 = k) : ixB l k = i := by
  unfold ixB; rw [fi_at hi h hc, if_pos hi]
theorem ixB_none {l : List (ByteArray × ByteArray)} {k : ByteArray} (h : noK l k l.length) : ixB l k = -1 := by
  unfold ixB; rw [fi_none h, if_neg (by omega)]
/-- There is none, or there is a place. -/
theorem ixB_cases (l : List (ByteArray × ByteArray)) (k : ByteArray) : (ixB l k = -1 ∧ bvB l k = ByteArray.empty ∧ ¬ fi l k < l.length) ∨ ∃ i, i < l.length ∧ ixB l k = (i : Int) ∧ fi l k = i ∧ bvB l k = (nth l i).2 := by
  by_cases h : fi l k < l.length
  · exact Or.inr ⟨fi l k, h, by unfold ixB; rw [if_pos h], rfl, by unfold bvB; rw [if_pos h]⟩
  · exact Or.inl ⟨by unfold ixB; rw [if_neg h], by unfold bvB; rw [if_neg h], h⟩
theorem tle_yes {a b : ByteArray} (h : a = b) : (a.toList == b.toList) = true := by subst h; simp
theorem tle_no {a b : ByteArray} (h : ¬ a = b) : (a.toList == b.toList) = false := by
  have : a.toList ≠ b.toList := fun e => h (toList_inj e)
  simpa using this

set_option maxHeartbeats 1000000 in
theorem l5Find (v : Value) (l : List (ByteArray × ByteArray)) (k : ByteArray) (w : World) (h : HoldsK encBd 2 w v l) (hl : l.length ≤ 140737488351232) :
    Calls Try.prog 71 #[v, .string k] w fun e w' => e = .returned (.int .i64 (ixB l k)) ∧ w = w' := by
  obtain ⟨x, n, cap, rfl, hn, hcap, hh⟩ := h.shapeN
  rw [← hn] at hl
  have HN := Lib.hid hn
  have HH := Lib.hid hh
  clear hn h hh
  go_enter Try.func71, Try.ntmps71
  go_wp2
  go_loop [5] (fun iv => ∃ i : Nat, i ≤ n ∧ iv = .int .i64 i ∧ Hid (noK l k i)) (fun iv => n - (intOf iv).toNat)
  case atStart => exact ⟨0, Nat.zero_le _, rfl, Lib.hid (noK_zero l k)⟩
  case round =>
    obtain ⟨i, hi, rfl, ha⟩ := hrel
    by_cases hlt : i < n
    · have hlen := HN.out
      obtain ⟨b, off, rfl, hc, -⟩ := bdAt HH.out (k := i) (by omega)
      by_cases he : (nth l i).1 = k
      · have HV := Lib.hid (ixB_at (by omega) ha.out he)
        have ht := tle_yes he
        clear hlen he
        go_wp2
        go_ret
        exact ⟨ret_int HV.out.symm, rfl⟩
      · have HA := Lib.hid (noK_succ ha.out he)
        have ht := tle_no he
        clear hlen he
        go_wp2
        go_round
        case rel => exact ⟨i + 1, by omega, by go_num, HA⟩
        case measure => simp [intOf]; omega
    · obtain rfl : i = n := by omega
      have HV := Lib.hid (ixB_none (HN.out ▸ ha.out))
      clear hlt
      go_wp2
      go_ret
      exact ⟨ret_int HV.out.symm, rfl⟩

set_option maxHeartbeats 1000000 in
theorem findClos (a b k : ByteArray) (p : Nat) (w : World) (hc : w.cell? ⟨p, 0, none⟩ = some (.string k)) :
    Calls Try.prog 112 #[.agg #[.string a, .string b], .pointer (some ⟨p, 0, none⟩)] w fun e w' => e = .returned (.bool (isK k (a, b))) ∧ Below w.heap.size w w' := by
  have hca : (w.alloc (.cells #[.string a, .string b] 92)).cell? ⟨p, 0, none⟩ = some (.string k) := by rw [World.cell?_alloc_past _ _ _ (cell_lt hc)]; exact hc
  clear hc
  by_cases he : a = k
  · have ht := tle_yes he
    have HV := Lib.hid (show isK k (a, b) = true from decide_eq_true he)
    clear he
    go_enter Try.func112, Try.ntmps112
    go_wp2
    go_ret
    exact ⟨ret_bool HV.out.symm, (Below.refl _ _).alloc (Nat.le_refl _) _⟩
  · have ht := tle_no he
    have HV := Lib.hid (show isK k (a, b) = false from decide_eq_false he)
    clear he
    go_enter Try.func112, Try.ntmps112
    go_wp2
    go_ret
    exact ⟨ret_bool HV.out.symm, (Below.refl _ _).alloc (Nat.le_refl _) _⟩

set_option maxHeartbeats 1000000 in
theorem indexFunc (v : Value) (l : List (ByteArray × ByteArray)) (k : ByteArray) (p : Nat) (w : World) (h : HoldsK encBd 2 w v l) (hl : l.length ≤ 140737488351232) (hc : w.cell? ⟨p, 0, none⟩ = some (.string k)) :
    Calls Try.prog 111 #[v, .func (.func 112) #[] #[.pointer (some ⟨p, 0, none⟩)]] w fun e w' => e = .returned (.int .i64 (ixB l k)) ∧ Below w.heap.size w w' := by
  obtain ⟨x, n, cap, rfl, hn, hcap, hh⟩ := h.shapeN
  rw [← hn] at hl
  have HN := Lib.hid hn
  have HH := Lib.hid hh
  have HC := Lib.hid hc
  clear hn h hh hc
  go_enter Try.func111, Try.ntmps111
  go_wp2
  go_loopw [8] (fun iv wr => ∃ i : Nat, i ≤ n ∧ iv = .int .i64 i ∧ Hid (noK l k i) ∧ Hid (Below w.heap.size w wr)) (fun iv _ => n - (intOf iv).toNat)
  case atStart => exact ⟨0, Nat.zero_le _, rfl, Lib.hid (noK_zero l k), Lib.hid (Below.refl _ _)⟩
  case round =>
    obtain ⟨i, hi, rfl, ha, hb⟩ := hrel
    by_cases hlt : i < n
    · have hlen := HN.out
      obtain ⟨b, off, rfl, hc1, hc2⟩ := bdAt (HH.out.on hb.out) (k := i) (by omega)
      have hcp : wr.cell? ⟨p, 0, none⟩ = some (.string k) := by rw [hb.out.cell (cell_lt HC.out)]; exact HC.out
      have HCL := Lib.hid (findClos (nth l i).1 (nth l i).2 k p wr hcp)
      clear hlen hcp
      go_wp2_with fail
      refine HCL.out.mono ?_
      rintro e w2 ⟨rfl, hb2⟩
      have HB2 := Lib.hid (hb.out.trans (hb2.mono hb.out.size))
      clear hb2 hc1 hc2
      by_cases he : (nth l i).1 = k
      · have HV := Lib.hid (ixB_at (by have := HN.out; omega) ha.out he)
        rw [show isK k ((nth l i).1, (nth l i).2) = true from decide_eq_true he]
        clear he
        go_wp2
        go_ret
        exact ⟨ret_int HV.out.symm, HB2.out⟩
      · have HA := Lib.hid (noK_succ ha.out he)
        rw [show isK k ((nth l i).1, (nth l i).2) = false from decide_eq_false he]
        clear he
        go_wp2
        go_roundw
        case rel => exact ⟨i + 1, by omega, by go_num, HA, HB2⟩
        case measure => simp [intOf]; omega
    · obtain rfl : i = n := by omega
      have HV := Lib.hid (ixB_none (HN.out ▸ ha.out))
      clear hlt
      go_wp2
      go_ret
      exact ⟨ret_int HV.out.symm, hb.out⟩

set_option maxHeartbeats 1000000 in
theorem bindingIndex (v : Value) (l : List (ByteArray × ByteArray)) (k : ByteArray) (w : World) (h : HoldsK encBd 2 w v l) (hl : l.length ≤ 140737488351232) :
    Calls Try.prog 106 #[v, .string k] w fun e w' => e = .returned (.int .i64 (ixB l k)) ∧ Below w.heap.size w w' := by
  have hb0 := (Below.refl w.heap.size w).alloc (Nat.le_refl _) (.cells #[.string k] 9)
  have HC := Lib.hid (indexFunc v l k w.heap.size _ (h.on hb0) hl (Ret.cell_at rfl))
  have HB0 := Lib.hid hb0
  obtain ⟨x, n, cap, rfl, -, -, -⟩ := h.shapeN
  clear h hb0
  have hmf : ∀ (fn : Fn) (first cap : Array Value) (w : World), (Instr.makeFunc fn first cap).run Try.prog w = .ok (.func fn first cap) w := fun _ _ _ _ => rfl
  go_enter Try.func106, Try.ntmps106
  go_wp2_with fail
  refine HC.out.mono ?_
  rintro e w1 ⟨rfl, hb⟩
  have HB := Lib.hid (HB0.out.trans (hb.mono HB0.out.size))
  clear hb
  go_wp2_with fail
  go_ret
  exact ⟨rfl, HB.out⟩

end Go.Proofs.Ytkojeajjappchaa.Row
