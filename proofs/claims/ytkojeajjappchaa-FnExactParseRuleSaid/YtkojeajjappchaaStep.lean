/- Contracts of slices.Clone on bindings and of matchPart (one part of a pattern against one part of a name). No conditions but that lengths fit. -/
import Derived.Test.YtkojeajjappchaaVPat2
import Derived.Test.YtkojeajjappchaaFind
import Derived.Test.YtkojeajjappchaaLibS
namespace Go.Proofs.Ytkojeajjappchaa.Row
open Go.ChangeShapes Go.WideShapes Go.ChangeAt Go.RowKit Go.Instr
set_option linter.unusedVariables false
set_option maxRecDepth 100000

/-- A result that is a slice of bindings of the call's own. -/
def GivesBd (w : World) (l : List (ByteArray × ByteArray)) (e : Ending) (w' : World) : Prop := ∃ v, e = .returned v ∧ OwnK 92 encBd 2 w.heap.size w' v l ∧ Below w.heap.size w w'

set_option maxHeartbeats 1000000 in
theorem cloneBd (v : Value) (l : List (ByteArray × ByteArray)) (w : World) (h : HoldsK encBd 2 w v l) (hl : l.length ≤ 10000000) :
    Calls Try.prog 88 #[v] w (GivesBd w l) := by
  obtain ⟨x, cx, rfl, hcx, hh⟩ := h.shape
  cases x with
  | none =>
    have hl0 : l = [] := by
      obtain ⟨x', cap', hv, hc', hh'⟩ := hh
      cases hv
      rcases hh' with h1 | ⟨b, off, h1, _⟩
      · exact h1
      · cases h1
    subst hl0
    have hq : ∀ w : World, (binOp .eql 64 (.slice none 0 cx) (.slice none 0 0)).run Try.prog w = .ok (.bool true) w := fun w => by
      exact Lib.run_eql_slice_nil w _ _ _ _ _ _ _ Try.underlying64
    clear hh h
    simp only [List.length_nil]
    go_enter Try.func88, Try.ntmps88
    go_wp2
    go_ret
    exact ⟨_, rfl, OwnK.nil _ _ _ _ _, Below.refl _ _⟩
  | some ad =>
    have HB := Lib.hid ((Below.refl w.heap.size w).alloc (Nat.le_refl _) (.cells #[] 92))
    have HH := Lib.hid (hh.on HB.out)
    have HO := Lib.hid (ownK_empty encBd 2 92 w)
    have hq : ∀ w : World, (binOp .eql 64 (.slice (some ad) l.length cx) (.slice none 0 0)).run Try.prog w = .ok (.bool false) w := fun w => by
      exact Lib.run_eql_slice_nil w _ _ _ _ _ _ _ Try.underlying64
    clear hh h
    go_enter Try.func88, Try.ntmps88
    go_wp2_with (at_builtin; refine wpList_appK kindBd (B := w.heap.size) (l := []) (m := l) rfl _ _ rfl Try.underlying64 rfl rfl HO.out HH.out (by simp; omega) (by unfold maxLen; simp; omega) (by simp) ?_)
    intro v2 w2 ho hg
    have HO2 := Lib.hid ho; have HB2 := Lib.hid (HB.out.grown hg (by simp) (fun g hh => (HO.out.lt g hh).1))
    clear ho hg
    go_wp2_with fail
    go_ret
    exact ⟨_, rfl, HO2.out, HB2.out⟩

/-- One part of a pattern against one part of a name, with the bindings so far. -/
def stepM (s t : ByteArray) (l : List (ByteArray × ByteArray)) : Option (List (ByteArray × ByteArray)) :=
  if s = starB then some l else if letterP s = true then (if fi l s < l.length then (if (nth l (fi l s)).2 = t then some l else none) else some (l ++ [(s, t)])) else (if s = t then some l else none)
theorem stepM_lit {s t : ByteArray} {l : List (ByteArray × ByteArray)} (h : validP s = true) : stepM s t l = if s = t then some l else none := by
  unfold stepM; rw [if_neg (valid_ne h).1, if_neg (by rw [valid_letterP h]; simp)]
theorem stepM_any {s t : ByteArray} {l : List (ByteArray × ByteArray)} (h : s = starB) : stepM s t l = some l := by
  unfold stepM; rw [if_pos h]
theorem stepM_var {s t : ByteArray} {l : List (ByteArray × ByteArray)} (h : letterP s = true) : stepM s t l = if fi l s < l.length then (if (nth l (fi l s)).2 = t then some l else none) else some (l ++ [(s, t)]) := by
  unfold stepM; rw [if_neg (letter_ne h).1, if_pos h]
def stepM' (s t : ByteArray) (l : List (ByteArray × ByteArray)) : Option (List (ByteArray × ByteArray)) := if fi l s < l.length then (if (nth l (fi l s)).2 = t then some l else none) else some (l ++ [(s, t)])
theorem stepM_len {s t : ByteArray} {l m : List (ByteArray × ByteArray)} (h : stepM s t l = some m) : m.length ≤ l.length + 1 := by
  unfold stepM at h
  repeat' split at h
  all_goals first | (cases h; simp) | cases h
/-- What matchPart answers: a slice of its own and whether it matched. -/
def GivesStep (B : Nat) (w : World) (l : List (ByteArray × ByteArray)) (o : Option (List (ByteArray × ByteArray))) (e : Ending) (w' : World) : Prop :=
  ∃ v, e = .returned (.tuple #[v, .bool o.isSome]) ∧ OwnK 92 encBd 2 B w' v (o.getD l) ∧ Below B w w'
theorem ret_three {v : Value} {a b : Bool} (h : a = b) : Ending.returned (.tuple #[v, .bool a]) = .returned (.tuple #[v, .bool b]) := by rw [h]

/-- What the program's questions after the kind of a part answer. -/
theorem as_lit (v : Value) (w : World) : (Instr.typeAssert (.iface 108 v) 96 108 true).run Try.prog w = .ok (.tuple #[v, .bool true]) w := by kernel_rfl
theorem as_var (v : Value) (w : World) : (Instr.typeAssert (.iface 112 v) 96 112 true).run Try.prog w = .ok (.tuple #[v, .bool true]) w := by kernel_rfl
theorem as_rest (v : Value) (w : World) : (Instr.typeAssert (.iface 113 v) 96 113 true).run Try.prog w = .ok (.tuple #[v, .bool true]) w := by kernel_rfl
theorem as_any_lit (v : Value) (w : World) : (Instr.typeAssert (.iface 110 v) 96 108 true).run Try.prog w = .ok (.tuple #[.agg #[.string ByteArray.empty], .bool false]) w := by kernel_rfl
theorem as_any_var (v : Value) (w : World) : (Instr.typeAssert (.iface 110 v) 96 112 true).run Try.prog w = .ok (.tuple #[.agg #[.string ByteArray.empty], .bool false]) w := by kernel_rfl
theorem as_var_lit (v : Value) (w : World) : (Instr.typeAssert (.iface 112 v) 96 108 true).run Try.prog w = .ok (.tuple #[.agg #[.string ByteArray.empty], .bool false]) w := by kernel_rfl
theorem as_lit_rest (v : Value) (w : World) : (Instr.typeAssert (.iface 108 v) 96 113 true).run Try.prog w = .ok (.tuple #[.agg #[], .bool false]) w := by kernel_rfl
theorem as_any_rest (v : Value) (w : World) : (Instr.typeAssert (.iface 110 v) 96 113 true).run Try.prog w = .ok (.tuple #[.agg #[], .bool false]) w := by kernel_rfl
theorem as_var_rest (v : Value) (w : World) : (Instr.typeAssert (.iface 112 v) 96 113 true).run Try.prog w = .ok (.tuple #[.agg #[], .bool false]) w := by kernel_rfl

set_option maxHeartbeats 2000000 in
theorem matchPart (s t : ByteArray) (v : Value) (l : List (ByteArray × ByteArray)) (B : Nat) (w : World) (hs : validP s = true ∨ s = starB ∨ letterP s = true) (h : OwnK 92 encBd 2 B w v l) (hB : B ≤ w.heap.size) (hl : l.length ≤ 10000000) :
    Calls Try.prog 95 #[encPt s, .string t, v] w (GivesStep B w l (stepM s t l)) := by
  obtain ⟨x, n, cap, rfl, hn, hcap, ho⟩ := h.shapeN
  rcases hs with hs | hs | hs
  · rw [encPt_lit hs, stepM_lit hs]
    have HO := Lib.hid ho
    have hk1 := fun w => as_lit (.agg #[.string s]) w
    clear ho h hn
    by_cases he : s = t
    · rw [if_pos he]
      have ht := tle_yes he
      clear hs he
      go_enter Try.func95, Try.ntmps95
      go_wp2_with fail
      go_quiet (fail)
      go_wp2_with fail
      go_ret2
      exact ⟨_, rfl, HO.out.on (below_drewN ((Below.refl _ _).alloc (Nat.le_refl _) _) _), below_drewN ((Below.refl _ _).alloc hB _) _⟩
    · rw [if_neg he]
      have ht := tle_no he
      clear hs he
      go_enter Try.func95, Try.ntmps95
      go_wp2_with fail
      go_quiet (fail)
      go_wp2_with fail
      go_ret2
      exact ⟨_, rfl, HO.out.on (below_drewN ((Below.refl _ _).alloc (Nat.le_refl _) _) _), below_drewN ((Below.refl _ _).alloc hB _) _⟩
  · rw [encPt_any hs, stepM_any hs]
    have HO := Lib.hid ho
    have hk1 := fun w => as_any_lit (.agg #[]) w
    have hk2 := fun w => as_any_var (.agg #[]) w
    clear ho h hn hs
    go_enter Try.func95, Try.ntmps95
    go_wp2
    go_ret2
    exact ⟨_, rfl, HO.out, Below.refl _ _⟩
  · rw [encPt_var hs, stepM_var hs]
    have HO := Lib.hid ho
    have HH := Lib.hid (ho.holds.on ((Below.refl w.heap.size w).alloc (Nat.le_refl _) (.cells #[.string s] 112)))
    have HN := Lib.hid hn
    have hk1 := fun w => as_var_lit (.agg #[.string s]) w
    have hk2 := fun w => as_var (.agg #[.string s]) w
    clear ho h hn hs
    have HW : Hid (stepM' s t l = (if fi l s < l.length then (if (nth l (fi l s)).2 = t then some l else none) else some (l ++ [(s, t)]))) := Lib.hid rfl
    rw [← HW.out]
    go_enter Try.func95, Try.ntmps95
    go_wp2_with fail
    refine (bindingIndex _ l s _ HH.out (by have := HN.out; omega)).mono ?_
    rintro e w1 ⟨rfl, hb1⟩
    have HB1 := Lib.hid (((Below.refl B w).alloc hB (.cells #[.string s] 112)).trans (hb1.mono (by simp; omega)))
    have HK1 := Lib.hid ((Ret.NC.new w (.string s) 112).on hb1)
    have HO1 := Lib.hid ((HO.out.on ((Below.refl _ _).alloc (Nat.le_refl _) (.cells #[.string s] 112))).on hb1)
    have HS1 := Lib.hid (show B ≤ w1.heap.size by have := hb1.size; simp at this; omega)
    clear hb1
    rcases ixB_cases l s with ⟨h1, -, h2⟩ | ⟨i, hi, h1, h3, h2⟩
    · rw [h1]
      have HV : Hid (stepM' s t l = some (l ++ [(s, t)])) := Lib.hid (by unfold stepM'; rw [if_neg h2])
      have hc1 := HK1.out.1
      have HB2 := Lib.hid (HB1.out.alloc HS1.out (.cells #[.string s, .string t] 92))
      have HO2 := Lib.hid (HO1.out.on ((Below.refl _ _).alloc (Nat.le_refl _) (.cells #[.string s, .string t] 92)))
      clear h1 h2
      go_wp2_with (at_builtin; refine wpList_appK kindBd (B := B) (l := l) (m := [(s, t)]) rfl _ _ rfl Try.underlying64 rfl rfl HO2.out (holdsK_one szBd 92 w1 (s, t)) (by simp; omega) (by unfold maxLen; simp; omega) (by have := HS1.out; simp; omega) ?_)
      intro v2 w2 ho2 hg2
      have HO3 := Lib.hid ho2
      have HB3 := Lib.hid (HB2.out.grown hg2 (by have := HS1.out; simp; omega) (fun g hh => (HO2.out.lt g hh).1))
      clear ho2 hg2
      go_wp2_with fail
      go_ret2
      exact ⟨_, ret_three (by rw [HV.out]; rfl), by rw [HV.out]; exact HO3.out, HB3.out⟩
    · rw [h1]
      obtain ⟨b, off, rfl, -, hc2⟩ := bdAt HO1.out.holds (k := i) hi
      have hi2 : i < n := by have := HN.out; omega
      have hc1 := HK1.out.1
      by_cases he : (nth l i).2 = t
      · have HV : Hid (stepM' s t l = some l) := Lib.hid (by unfold stepM'; rw [h3, if_pos hi, if_pos he])
        have ht := tle_yes he
        clear h1 h2 h3 he
        go_wp2_with fail
        go_quiet (fail)
        go_wp2_with fail
        go_ret2
        exact ⟨_, ret_three (by rw [HV.out]; rfl), by rw [HV.out]; exact HO1.out.on (below_drewN (Below.refl _ _) _), below_drewN HB1.out _⟩
      · have HV : Hid (stepM' s t l = none) := Lib.hid (by unfold stepM'; rw [h3, if_pos hi, if_neg he])
        have ht := tle_no he
        clear h1 h2 h3 he
        go_wp2_with fail
        go_quiet (fail)
        go_wp2_with fail
        go_ret2
        exact ⟨_, ret_three (by rw [HV.out]; rfl), by rw [HV.out]; exact HO1.out.on (below_drewN (Below.refl _ _) _), below_drewN HB1.out _⟩
end Go.Proofs.Ytkojeajjappchaa.Row
