/- Contracts and mathematics, joined: PParse, DrawPat, Find, Step, Match, Match2. No conditions but those that each states. -/
import Derived.Test.YtlhchmjnaanjpaaGreatDoorB5
import Derived.Test.YtlhchmjnaanjpaaGreatDoorB4
import Derived.Test.YtlhchmjnaanjpaaGreatDoorB3
import Derived.Test.YtlhchmjnaanjpaaGreatDoorB1
/- Contracts of FormatPattern and ParsePattern, the program's and the model's. No conditions but that lengths fit. -/
namespace Go.Proofs.YtlhchmjnaanjpaaGreatDoor.Row
open Go.ChangeShapes Go.WideShapes Go.ChangeAt Go.RowKit Go.Instr
set_option linter.unusedVariables false
set_option maxRecDepth 100000
theorem validPat_nil : validPat [] = true := validPat_iff.2 ⟨by simp, fun j h => absurd h (by simp)⟩
theorem part_good {s : ByteArray} {b : Bool} (h : elemP s b = true) : fullB s = true ∧ ∀ c ∈ bl s, c ≠ 47 := by
  rcases elemP_iff.1 h with h | h | h | ⟨h, _⟩
  · exact ⟨valid_full h, valid_free h⟩
  · subst h
    exact ⟨by decide, fun c hc => by simp [bl, starB] at hc; rw [hc]; decide⟩
  · obtain ⟨h2, h0, h1, h3⟩ := letterP_iff.1 h
    refine ⟨by unfold fullB; exact decide_eq_true (by omega), fun c hc e => ?_⟩
    obtain ⟨i, hi, rfl⟩ := List.getElem_of_mem hc
    rw [bl_length] at hi
    rw [bl_get s i hi] at e
    have : i = 0 ∨ i = 1 := by omega
    rcases this with rfl | rfl
    · rw [e] at h0; exact absurd h0 (by decide)
    · rw [e] at h1; exact absurd h1 (by decide)
  · subst h
    exact ⟨by decide, fun c hc => by simp [bl, star2B] at hc; rw [hc]; decide⟩
theorem patElem_full {l : List ByteArray} (h : validPat l = true) {p : ByteArray} (hp : p ∈ l) : fullB p = true := by
  obtain ⟨j, hj, rfl⟩ := List.getElem_of_mem hp
  have := (validPat_iff.1 h).2 j hj
  rw [nth_eq hj] at this
  exact (part_good this).1
theorem patElem_free {l : List ByteArray} (h : validPat l = true) {p : ByteArray} (hp : p ∈ l) : ∀ c ∈ bl p, c ≠ 47 := by
  obtain ⟨j, hj, rfl⟩ := List.getElem_of_mem hp
  have := (validPat_iff.1 h).2 j hj
  rw [nth_eq hj] at this
  exact (part_good this).2
def ppOk (s : ByteArray) : Bool := validPat (partsB s) && decide (fmtS (partsB s) = s)
def ppN (s : ByteArray) : List ByteArray := if ppOk s = true then partsB s else []
theorem pt_filter_valid {l : List ByteArray} (h : validPat l = true) : l.filter fullB = l := by
  rw [List.filter_eq_self]
  exact fun p hp => patElem_full h hp
theorem pt_free_of_valid {l : List ByteArray} (h : validPat l = true) : ∀ p ∈ l.map bl, ∀ c ∈ p, c ≠ 47 := by
  intro p hp
  obtain ⟨q, hq, rfl⟩ := List.mem_map.1 hp
  exact patElem_free h hq
theorem pt_split_fmt {l : List ByteArray} (h : validPat l = true) (hl : l ≠ []) : splitB (fmtS l) = mk [] :: l := by
  unfold splitB fmtS fmtL
  rw [bl_mk, goS, if_pos rfl, goS_join (l.map bl) (by simpa using hl) (pt_free_of_valid h), List.map_cons, map_mk_bl]
theorem pt_parts_fmt {l : List ByteArray} (h : validPat l = true) : partsB (fmtS l) = l := by
  by_cases hl : l = []
  · subst hl
    rw [fmtS_nil]
    unfold partsB splitB
    rw [bl_mk]
    simp [goS, fullB, mk_size]
  · unfold partsB
    rw [pt_split_fmt h hl, List.filter_cons_of_neg (by simp [fullB, mk_size]), pt_filter_valid h]
theorem ppOk_fmt {l : List ByteArray} (h : validPat l = true) : ppOk (fmtS l) = true := by
  unfold ppOk; rw [pt_parts_fmt h, h]; simp
theorem ppN_fmt {l : List ByteArray} (h : validPat l = true) : ppN (fmtS l) = l := by
  unfold ppN; rw [if_pos (ppOk_fmt h), pt_parts_fmt h]
theorem ppOk_iff {s : ByteArray} : ppOk s = true ↔ validPat (partsB s) = true ∧ fmtS (partsB s) = s := by unfold ppOk; simp
theorem ppN_yes {s : ByteArray} (h : ppOk s = true) : ppN s = partsB s := if_pos h
theorem ppN_no {s : ByteArray} (h : ppOk s = false) : ppN s = [] := if_neg (by simp [h])
theorem pt_valid_pN (s : ByteArray) : validPat (ppN s) = true := by
  cases h : ppOk s with
  | true => rw [ppN_yes h]; exact (ppOk_iff.1 h).1
  | false => rw [ppN_no h]; exact validPat_nil
theorem ppOk_slash : ppOk (mk [47]) = true ∧ ppN (mk [47]) = [] := by
  have h : validPat [] = true := validPat_nil
  rw [← fmtS_nil]
  exact ⟨ppOk_fmt h, ppN_fmt h⟩
theorem pt_split_yes {s : ByteArray} {rest : List ByteArray} (h : splitB s = mk [] :: rest) (hr : rest ≠ []) (hv : validPat rest = true) : ppOk s = true ∧ ppN s = rest := by
  have hs : fmtS rest = s := by
    apply bl_inj
    have h1 : goS [] (bl s) = [] :: rest.map bl := by
      have := congrArg (List.map bl) h
      unfold splitB at this
      rw [map_bl_mk, List.map_cons, bl_mk] at this
      exact this
    have h2 := join_goS (bl s) []
    rw [h1] at h2
    obtain ⟨y, r, rfl⟩ : ∃ y r, rest = y :: r := by
      cases rest with
      | nil => exact absurd rfl hr
      | cons y r => exact ⟨y, r, rfl⟩
    rw [List.map_cons, join_cons2, ← List.map_cons] at h2
    unfold fmtS fmtL
    rw [bl_mk]
    exact h2
  rw [← hs]
  exact ⟨ppOk_fmt hv, ppN_fmt hv⟩
theorem pt_split_no {s : ByteArray} (h47 : s ≠ mk [47]) (h : ∀ rest, splitB s = mk [] :: rest → rest ≠ [] → validPat rest = false) : ppOk s = false := by
  cases hp : ppOk s with
  | false => rfl
  | true =>
    obtain ⟨h1, h2⟩ := ppOk_iff.1 hp
    by_cases he : partsB s = []
    · rw [he, fmtS_nil] at h2
      exact absurd h2.symm h47
    · have h3 := pt_split_fmt h1 he
      rw [h2] at h3
      have h4 := h _ h3 he
      rw [h1] at h4; cases h4
theorem aggPt : Ret.AggOf Tryz.prog 129 1 := by unfold Ret.AggOf; exact ⟨by kernel_rfl, by kernel_rfl⟩
end Go.Proofs.YtlhchmjnaanjpaaGreatDoor.Row
/- Contracts of the reference model's draws of patterns, of names that they may mean, and of bindings: what is drawn lies in memory of the call's own; all else but the cursor is as it was. -/
namespace Go.Proofs.YtlhchmjnaanjpaaGreatDoor.Draw
open Go.ChangeShapes Go.WideShapes Go.ChangeAt Go.RowKit Go.Instr
open Go.Proofs.YtlhchmjnaanjpaaGreatDoor.Row (bulk bulk_append bulk_one bulk_nil bulk_cons elemSTR oneStr encBd OwnK HoldsK bulk2 kindBd szBd)
open Go.Proofs.YtlhchmjnaanjpaaGreatDoor.Ret (NC)
set_option linter.unusedVariables false
set_option maxRecDepth 100000
abbrev OwnS (B : Nat) (w : World) (u : Value) (m : List ByteArray) : Prop := Row.Own 9 Value.string B w u m
theorem own_one {α : Type} [Inhabited α] (enc : α → Value) (e : TypeId) (w : World) (x : α) : Row.Own e enc w.heap.size (w.alloc (.cells #[enc x] e)) (.slice (some ⟨w.heap.size, 0, none⟩) 1 1) [x] := World.ownsRow_lit w #[enc x] 1 (Nat.le_refl _) (by unfold maxLen; omega) rfl
theorem z1 : ({ data := #[42] } : ByteArray).size = 1 := rfl
theorem z2 : ({ data := #[42, 42] } : ByteArray).size = 2 := rfl
def BindsIn (B K : Nat) (x : Value) (w : World) : Prop := ∃ m, OwnK 204 encBd 2 B w x m ∧ bulk2 m ≤ K
end Go.Proofs.YtlhchmjnaanjpaaGreatDoor.Draw
/- Contracts of the search for a binding, the program's (by a closure handed to slices.IndexFunc) and the model's, and of BindingValue. No conditions but that lengths fit. -/
namespace Go.Proofs.YtlhchmjnaanjpaaGreatDoor.Row
open Go.ChangeShapes Go.WideShapes Go.ChangeAt Go.RowKit Go.Instr
set_option linter.unusedVariables false
set_option maxRecDepth 100000
def isK (k : ByteArray) (x : ByteArray × ByteArray) : Bool := decide (x.1 = k)
def fi (l : List (ByteArray × ByteArray)) (k : ByteArray) : Nat := l.findIdx (isK k)
def ixB (l : List (ByteArray × ByteArray)) (k : ByteArray) : Int := if fi l k < l.length then (fi l k : Int) else -1
def bvB (l : List (ByteArray × ByteArray)) (k : ByteArray) : ByteArray := if fi l k < l.length then (nth l (fi l k)).2 else ByteArray.empty
def noK (l : List (ByteArray × ByteArray)) (k : ByteArray) (i : Nat) : Prop := ∀ j, j < i → ¬ (nth l j).1 = k
theorem noK_zero (l : List (ByteArray × ByteArray)) (k : ByteArray) : noK l k 0 := fun j h => absurd h (by omega)
theorem noK_succ {l : List (ByteArray × ByteArray)} {k : ByteArray} {i : Nat} (h : noK l k i) (hc : ¬ (nth l i).1 = k) : noK l k (i + 1) := fun j h1 => by
  by_cases e : j = i
  · subst e; exact hc
  · exact h j (by omega)
theorem fi_at {l : List (ByteArray × ByteArray)} {k : ByteArray} {i : Nat} (hi : i < l.length) (h : noK l k i) (hc : (nth l i).1 = k) : fi l k = i := by
  unfold fi
  rw [List.findIdx_eq hi]
  refine ⟨?_, fun j hj => ?_⟩
  · unfold isK; rw [← nth_eq hi]; exact decide_eq_true hc
  · unfold isK; rw [← nth_eq (Nat.lt_trans hj hi)]; exact decide_eq_false (h j hj)
theorem fi_none {l : List (ByteArray × ByteArray)} {k : ByteArray} (h : noK l k l.length) : fi l k = l.length := by
  unfold fi
  rw [List.findIdx_eq_length]
  intro x hx
  obtain ⟨j, hj, rfl⟩ := List.getElem_of_mem hx
  unfold isK; rw [← nth_eq hj]; exact decide_eq_false (h j hj)
theorem ixB_at {l : List (ByteArray × ByteArray)} {k : ByteArray} {i : Nat} (hi : i < l.length) (h : noK l k i) (hc : (nth l i).1 = k) : ixB l k = i := by
  unfold ixB; rw [fi_at hi h hc, if_pos hi]
theorem ixB_none {l : List (ByteArray × ByteArray)} {k : ByteArray} (h : noK l k l.length) : ixB l k = -1 := by
  unfold ixB; rw [fi_none h, if_neg (by omega)]
theorem ixB_cases (l : List (ByteArray × ByteArray)) (k : ByteArray) : (ixB l k = -1 ∧ bvB l k = ByteArray.empty ∧ ¬ fi l k < l.length) ∨ ∃ i, i < l.length ∧ ixB l k = (i : Int) ∧ fi l k = i ∧ bvB l k = (nth l i).2 := by
  by_cases h : fi l k < l.length
  · exact Or.inr ⟨fi l k, h, by unfold ixB; rw [if_pos h], rfl, by unfold bvB; rw [if_pos h]⟩
  · exact Or.inl ⟨by unfold ixB; rw [if_neg h], by unfold bvB; rw [if_neg h], h⟩
theorem tle_yes {a b : ByteArray} (h : a = b) : (a.toList == b.toList) = true := by subst h; simp
theorem tle_no {a b : ByteArray} (h : ¬ a = b) : (a.toList == b.toList) = false := by
  have : a.toList ≠ b.toList := fun e => h (toList_inj e)
  simpa using this
set_option maxHeartbeats 1000000 in
theorem l5Find (v : Value) (l : List (ByteArray × ByteArray)) (k : ByteArray) (w : World) (h : HoldsK encBd 2 w v l) (hl : l.length ≤ 140737488351232) :
    Calls Tryz.prog 174 #[v, .string k] w fun e w' => e = .returned (.int .i64 (ixB l k)) ∧ w = w' := by
  obtain ⟨x, n, cap, rfl, hn, hcap, hh⟩ := h.shapeN
  rw [← hn] at hl
  have HN := Lib.hid hn
  have HH := Lib.hid hh
  clear hn h hh
  go_enter Tryz.func174, Tryz.ntmps174
  go_wp2
  go_loop [5] (fun iv => ∃ i : Nat, i ≤ n ∧ iv = .int .i64 i ∧ Hid (noK l k i)) (fun iv => n - (intOf iv).toNat)
  case atStart => exact ⟨0, Nat.zero_le _, rfl, Lib.hid (noK_zero l k)⟩
  case round =>
    obtain ⟨i, hi, rfl, ha⟩ := hrel
    by_cases hlt : i < n
    · have hlen := HN.out
      obtain ⟨b, off, rfl, hc, -⟩ := bdAt HH.out (k := i) (by omega)
      by_cases he : (nth l i).1 = k
      · have HV := Lib.hid (ixB_at (by omega) ha.out he)
        have ht := tle_yes he
        clear hlen he
        go_wp2
        go_ret
        exact ⟨ret_int HV.out.symm, rfl⟩
      · have HA := Lib.hid (noK_succ ha.out he)
        have ht := tle_no he
        clear hlen he
        go_wp2
        go_round
        case rel => exact ⟨i + 1, by omega, by go_num, HA⟩
        case measure => simp [intOf]; omega
    · obtain rfl : i = n := by omega
      have HV := Lib.hid (ixB_none (HN.out ▸ ha.out))
      clear hlt
      go_wp2
      go_ret
      exact ⟨ret_int HV.out.symm, rfl⟩
set_option maxHeartbeats 1000000 in
theorem findClos (a b k : ByteArray) (p : Nat) (w : World) (hc : w.cell? ⟨p, 0, none⟩ = some (.string k)) :
    Calls Tryz.prog 185 #[.agg #[.string a, .string b], .pointer (some ⟨p, 0, none⟩)] w fun e w' => e = .returned (.bool (isK k (a, b))) ∧ Below w.heap.size w w' := by
  have hca : (w.alloc (.cells #[.string a, .string b] 204)).cell? ⟨p, 0, none⟩ = some (.string k) := by rw [World.cell?_alloc_past _ _ _ (cell_lt hc)]; exact hc
  clear hc
  by_cases he : a = k
  · have ht := tle_yes he
    have HV := Lib.hid (show isK k (a, b) = true from decide_eq_true he)
    clear he
    go_enter Tryz.func185, Tryz.ntmps185
    go_wp2
    go_ret
    exact ⟨ret_bool HV.out.symm, (Below.refl _ _).alloc (Nat.le_refl _) _⟩
  · have ht := tle_no he
    have HV := Lib.hid (show isK k (a, b) = false from decide_eq_false he)
    clear he
    go_enter Tryz.func185, Tryz.ntmps185
    go_wp2
    go_ret
    exact ⟨ret_bool HV.out.symm, (Below.refl _ _).alloc (Nat.le_refl _) _⟩
set_option maxHeartbeats 1000000 in
theorem indexFunc (v : Value) (l : List (ByteArray × ByteArray)) (k : ByteArray) (p : Nat) (w : World) (h : HoldsK encBd 2 w v l) (hl : l.length ≤ 140737488351232) (hc : w.cell? ⟨p, 0, none⟩ = some (.string k)) :
    Calls Tryz.prog 184 #[v, .func (.func 185) #[] #[.pointer (some ⟨p, 0, none⟩)]] w fun e w' => e = .returned (.int .i64 (ixB l k)) ∧ Below w.heap.size w w' := by
  obtain ⟨x, n, cap, rfl, hn, hcap, hh⟩ := h.shapeN
  rw [← hn] at hl
  have HN := Lib.hid hn
  have HH := Lib.hid hh
  have HC := Lib.hid hc
  clear hn h hh hc
  go_enter Tryz.func184, Tryz.ntmps184
  go_wp2
  go_loopw [8] (fun iv wr => ∃ i : Nat, i ≤ n ∧ iv = .int .i64 i ∧ Hid (noK l k i) ∧ Hid (Below w.heap.size w wr)) (fun iv _ => n - (intOf iv).toNat)
  case atStart => exact ⟨0, Nat.zero_le _, rfl, Lib.hid (noK_zero l k), Lib.hid (Below.refl _ _)⟩
  case round =>
    obtain ⟨i, hi, rfl, ha, hb⟩ := hrel
    by_cases hlt : i < n
    · have hlen := HN.out
      obtain ⟨b, off, rfl, hc1, hc2⟩ := bdAt (HH.out.on hb.out) (k := i) (by omega)
      have hcp : wr.cell? ⟨p, 0, none⟩ = some (.string k) := by rw [hb.out.cell (cell_lt HC.out)]; exact HC.out
      have HCL := Lib.hid (findClos (nth l i).1 (nth l i).2 k p wr hcp)
      clear hlen hcp
      go_wp2_with fail
      refine HCL.out.mono ?_
      rintro e w2 ⟨rfl, hb2⟩
      have HB2 := Lib.hid (hb.out.trans (hb2.mono hb.out.size))
      clear hb2 hc1 hc2
      by_cases he : (nth l i).1 = k
      · have HV := Lib.hid (ixB_at (by have := HN.out; omega) ha.out he)
        rw [show isK k ((nth l i).1, (nth l i).2) = true from decide_eq_true he]
        clear he
        go_wp2
        go_ret
        exact ⟨ret_int HV.out.symm, HB2.out⟩
      · have HA := Lib.hid (noK_succ ha.out he)
        rw [show isK k ((nth l i).1, (nth l i).2) = false from decide_eq_false he]
        clear he
        go_wp2
        go_roundw
        case rel => exact ⟨i + 1, by omega, by go_num, HA, HB2⟩
        case measure => simp [intOf]; omega
    · obtain rfl : i = n := by omega
      have HV := Lib.hid (ixB_none (HN.out ▸ ha.out))
      clear hlt
      go_wp2
      go_ret
      exact ⟨ret_int HV.out.symm, hb.out⟩
set_option maxHeartbeats 1000000 in
theorem bindingIndex (v : Value) (l : List (ByteArray × ByteArray)) (k : ByteArray) (w : World) (h : HoldsK encBd 2 w v l) (hl : l.length ≤ 140737488351232) :
    Calls Tryz.prog 183 #[v, .string k] w fun e w' => e = .returned (.int .i64 (ixB l k)) ∧ Below w.heap.size w w' := by
  have hb0 := (Below.refl w.heap.size w).alloc (Nat.le_refl _) (.cells #[.string k] 9)
  have HC := Lib.hid (indexFunc v l k w.heap.size _ (h.on hb0) hl (Ret.cell_at rfl))
  have HB0 := Lib.hid hb0
  obtain ⟨x, n, cap, rfl, -, -, -⟩ := h.shapeN
  clear h hb0
  have hmf : ∀ (fn : Fn) (first cap : Array Value) (w : World), (Instr.makeFunc fn first cap).run Tryz.prog w = .ok (.func fn first cap) w := fun _ _ _ _ => rfl
  go_enter Tryz.func183, Tryz.ntmps183
  go_wp2_with fail
  refine HC.out.mono ?_
  rintro e w1 ⟨rfl, hb⟩
  have HB := Lib.hid (HB0.out.trans (hb.mono HB0.out.size))
  clear hb
  go_wp2_with fail
  go_ret
  exact ⟨rfl, HB.out⟩
end Go.Proofs.YtlhchmjnaanjpaaGreatDoor.Row
/- Contracts of slices.Clone on bindings and of matchPart (one part of a pattern against one part of a name). No conditions but that lengths fit. -/
namespace Go.Proofs.YtlhchmjnaanjpaaGreatDoor.Row
open Go.ChangeShapes Go.WideShapes Go.ChangeAt Go.RowKit Go.Instr
set_option linter.unusedVariables false
set_option maxRecDepth 100000
def GivesBd (w : World) (l : List (ByteArray × ByteArray)) (e : Ending) (w' : World) : Prop := ∃ v, e = .returned v ∧ OwnK 204 encBd 2 w.heap.size w' v l ∧ Below w.heap.size w w'
set_option maxHeartbeats 1000000 in
theorem cloneBd (v : Value) (l : List (ByteArray × ByteArray)) (w : World) (h : HoldsK encBd 2 w v l) (hl : l.length ≤ 10000000) :
    Calls Tryz.prog 178 #[v] w (GivesBd w l) := by
  obtain ⟨x, cx, rfl, hcx, hh⟩ := h.shape
  cases x with
  | none =>
    have hl0 : l = [] := by
      obtain ⟨x', cap', hv, hc', hh'⟩ := hh
      cases hv
      rcases hh' with h1 | ⟨b, off, h1, _⟩
      · exact h1
      · cases h1
    subst hl0
    have hq : ∀ w : World, (binOp .eql 190 (.slice none 0 cx) (.slice none 0 0)).run Tryz.prog w = .ok (.bool true) w := fun w => by
      exact Lib.run_eql_slice_nil w _ _ _ _ _ _ _ Tryz.underlying190
    clear hh h
    simp only [List.length_nil]
    go_enter Tryz.func178, Tryz.ntmps178
    go_wp2
    go_ret
    exact ⟨_, rfl, OwnK.nil _ _ _ _ _, Below.refl _ _⟩
  | some ad =>
    have HB := Lib.hid ((Below.refl w.heap.size w).alloc (Nat.le_refl _) (.cells #[] 204))
    have HH := Lib.hid (hh.on HB.out)
    have HO := Lib.hid (ownK_empty encBd 2 204 w)
    have hq : ∀ w : World, (binOp .eql 190 (.slice (some ad) l.length cx) (.slice none 0 0)).run Tryz.prog w = .ok (.bool false) w := fun w => by
      exact Lib.run_eql_slice_nil w _ _ _ _ _ _ _ Tryz.underlying190
    clear hh h
    go_enter Tryz.func178, Tryz.ntmps178
    go_wp2_with (at_builtin; refine wpList_appK kindBd (B := w.heap.size) (l := []) (m := l) rfl _ _ rfl Tryz.underlying190 rfl rfl HO.out HH.out (by simp; omega) (by unfold maxLen; simp; omega) (by simp) ?_)
    intro v2 w2 ho hg
    have HO2 := Lib.hid ho; have HB2 := Lib.hid (HB.out.grown hg (by simp) (fun g hh => (HO.out.lt g hh).1))
    clear ho hg
    go_wp2_with fail
    go_ret
    exact ⟨_, rfl, HO2.out, HB2.out⟩
def stepM (s t : ByteArray) (l : List (ByteArray × ByteArray)) : Option (List (ByteArray × ByteArray)) :=
  if s = starB then some l else if letterP s = true then (if fi l s < l.length then (if (nth l (fi l s)).2 = t then some l else none) else some (l ++ [(s, t)])) else (if s = t then some l else none)
theorem stepM_lit {s t : ByteArray} {l : List (ByteArray × ByteArray)} (h : validP s = true) : stepM s t l = if s = t then some l else none := by
  unfold stepM; rw [if_neg (valid_ne h).1, if_neg (by rw [valid_letterP h]; simp)]
theorem stepM_any {s t : ByteArray} {l : List (ByteArray × ByteArray)} (h : s = starB) : stepM s t l = some l := by
  unfold stepM; rw [if_pos h]
theorem stepM_var {s t : ByteArray} {l : List (ByteArray × ByteArray)} (h : letterP s = true) : stepM s t l = if fi l s < l.length then (if (nth l (fi l s)).2 = t then some l else none) else some (l ++ [(s, t)]) := by
  unfold stepM; rw [if_neg (letter_ne h).1, if_pos h]
def stepM' (s t : ByteArray) (l : List (ByteArray × ByteArray)) : Option (List (ByteArray × ByteArray)) := if fi l s < l.length then (if (nth l (fi l s)).2 = t then some l else none) else some (l ++ [(s, t)])
theorem stepM_len {s t : ByteArray} {l m : List (ByteArray × ByteArray)} (h : stepM s t l = some m) : m.length ≤ l.length + 1 := by
  unfold stepM at h
  repeat' split at h
  all_goals first | (cases h; simp) | cases h
def GivesStep (B : Nat) (w : World) (l : List (ByteArray × ByteArray)) (o : Option (List (ByteArray × ByteArray))) (e : Ending) (w' : World) : Prop :=
  ∃ v, e = .returned (.tuple #[v, .bool o.isSome]) ∧ OwnK 204 encBd 2 B w' v (o.getD l) ∧ Below B w w'
theorem ret_three {v : Value} {a b : Bool} (h : a = b) : Ending.returned (.tuple #[v, .bool a]) = .returned (.tuple #[v, .bool b]) := by rw [h]
theorem as_lit (v : Value) (w : World) : (Instr.typeAssert (.iface 216 v) 206 216 true).run Tryz.prog w = .ok (.tuple #[v, .bool true]) w := by kernel_rfl
theorem as_var (v : Value) (w : World) : (Instr.typeAssert (.iface 220 v) 206 220 true).run Tryz.prog w = .ok (.tuple #[v, .bool true]) w := by kernel_rfl
theorem as_rest (v : Value) (w : World) : (Instr.typeAssert (.iface 221 v) 206 221 true).run Tryz.prog w = .ok (.tuple #[v, .bool true]) w := by kernel_rfl
theorem as_any_lit (v : Value) (w : World) : (Instr.typeAssert (.iface 218 v) 206 216 true).run Tryz.prog w = .ok (.tuple #[.agg #[.string ByteArray.empty], .bool false]) w := by kernel_rfl
theorem as_any_var (v : Value) (w : World) : (Instr.typeAssert (.iface 218 v) 206 220 true).run Tryz.prog w = .ok (.tuple #[.agg #[.string ByteArray.empty], .bool false]) w := by kernel_rfl
theorem as_var_lit (v : Value) (w : World) : (Instr.typeAssert (.iface 220 v) 206 216 true).run Tryz.prog w = .ok (.tuple #[.agg #[.string ByteArray.empty], .bool false]) w := by kernel_rfl
theorem as_lit_rest (v : Value) (w : World) : (Instr.typeAssert (.iface 216 v) 206 221 true).run Tryz.prog w = .ok (.tuple #[.agg #[], .bool false]) w := by kernel_rfl
theorem as_any_rest (v : Value) (w : World) : (Instr.typeAssert (.iface 218 v) 206 221 true).run Tryz.prog w = .ok (.tuple #[.agg #[], .bool false]) w := by kernel_rfl
theorem as_var_rest (v : Value) (w : World) : (Instr.typeAssert (.iface 220 v) 206 221 true).run Tryz.prog w = .ok (.tuple #[.agg #[], .bool false]) w := by kernel_rfl
set_option maxHeartbeats 2000000 in
theorem matchPart (s t : ByteArray) (v : Value) (l : List (ByteArray × ByteArray)) (B : Nat) (w : World) (hs : validP s = true ∨ s = starB ∨ letterP s = true) (h : OwnK 204 encBd 2 B w v l) (hB : B ≤ w.heap.size) (hl : l.length ≤ 10000000) :
    Calls Tryz.prog 182 #[encPt s, .string t, v] w (GivesStep B w l (stepM s t l)) := by
  obtain ⟨x, n, cap, rfl, hn, hcap, ho⟩ := h.shapeN
  rcases hs with hs | hs | hs
  · rw [encPt_lit hs, stepM_lit hs]
    have HO := Lib.hid ho
    have hk1 := fun w => as_lit (.agg #[.string s]) w
    clear ho h hn
    by_cases he : s = t
    · rw [if_pos he]
      have ht := tle_yes he
      clear hs he
      go_enter Tryz.func182, Tryz.ntmps182
      go_wp2_with fail
      go_quiet (fail)
      go_wp2_with fail
      go_ret2
      exact ⟨_, rfl, HO.out.on (below_drewN ((Below.refl _ _).alloc (Nat.le_refl _) _) _), below_drewN ((Below.refl _ _).alloc hB _) _⟩
    · rw [if_neg he]
      have ht := tle_no he
      clear hs he
      go_enter Tryz.func182, Tryz.ntmps182
      go_wp2_with fail
      go_quiet (fail)
      go_wp2_with fail
      go_ret2
      exact ⟨_, rfl, HO.out.on (below_drewN ((Below.refl _ _).alloc (Nat.le_refl _) _) _), below_drewN ((Below.refl _ _).alloc hB _) _⟩
  · rw [encPt_any hs, stepM_any hs]
    have HO := Lib.hid ho
    have hk1 := fun w => as_any_lit (.agg #[]) w
    have hk2 := fun w => as_any_var (.agg #[]) w
    clear ho h hn hs
    go_enter Tryz.func182, Tryz.ntmps182
    go_wp2
    go_ret2
    exact ⟨_, rfl, HO.out, Below.refl _ _⟩
  · rw [encPt_var hs, stepM_var hs]
    have HO := Lib.hid ho
    have HH := Lib.hid (ho.holds.on ((Below.refl w.heap.size w).alloc (Nat.le_refl _) (.cells #[.string s] 220)))
    have HN := Lib.hid hn
    have hk1 := fun w => as_var_lit (.agg #[.string s]) w
    have hk2 := fun w => as_var (.agg #[.string s]) w
    clear ho h hn hs
    have HW : Hid (stepM' s t l = (if fi l s < l.length then (if (nth l (fi l s)).2 = t then some l else none) else some (l ++ [(s, t)]))) := Lib.hid rfl
    rw [← HW.out]
    go_enter Tryz.func182, Tryz.ntmps182
    go_wp2_with fail
    refine (bindingIndex _ l s _ HH.out (by have := HN.out; omega)).mono ?_
    rintro e w1 ⟨rfl, hb1⟩
    have HB1 := Lib.hid (((Below.refl B w).alloc hB (.cells #[.string s] 220)).trans (hb1.mono (by simp; omega)))
    have HK1 := Lib.hid ((Ret.NC.new w (.string s) 220).on hb1)
    have HO1 := Lib.hid ((HO.out.on ((Below.refl _ _).alloc (Nat.le_refl _) (.cells #[.string s] 220))).on hb1)
    have HS1 := Lib.hid (show B ≤ w1.heap.size by have := hb1.size; simp at this; omega)
    clear hb1
    rcases ixB_cases l s with ⟨h1, -, h2⟩ | ⟨i, hi, h1, h3, h2⟩
    · rw [h1]
      have HV : Hid (stepM' s t l = some (l ++ [(s, t)])) := Lib.hid (by unfold stepM'; rw [if_neg h2])
      have hc1 := HK1.out.1
      have HB2 := Lib.hid (HB1.out.alloc HS1.out (.cells #[.string s, .string t] 204))
      have HO2 := Lib.hid (HO1.out.on ((Below.refl _ _).alloc (Nat.le_refl _) (.cells #[.string s, .string t] 204)))
      clear h1 h2
      go_wp2_with (at_builtin; refine wpList_appK kindBd (B := B) (l := l) (m := [(s, t)]) rfl _ _ rfl Tryz.underlying190 rfl rfl HO2.out (holdsK_one szBd 204 w1 (s, t)) (by simp; omega) (by unfold maxLen; simp; omega) (by have := HS1.out; simp; omega) ?_)
      intro v2 w2 ho2 hg2
      have HO3 := Lib.hid ho2
      have HB3 := Lib.hid (HB2.out.grown hg2 (by have := HS1.out; simp; omega) (fun g hh => (HO2.out.lt g hh).1))
      clear ho2 hg2
      go_wp2_with fail
      go_ret2
      exact ⟨_, ret_three (by rw [HV.out]; rfl), by rw [HV.out]; exact HO3.out, HB3.out⟩
    · rw [h1]
      obtain ⟨b, off, rfl, -, hc2⟩ := bdAt HO1.out.holds (k := i) hi
      have hi2 : i < n := by have := HN.out; omega
      have hc1 := HK1.out.1
      by_cases he : (nth l i).2 = t
      · have HV : Hid (stepM' s t l = some l) := Lib.hid (by unfold stepM'; rw [h3, if_pos hi, if_pos he])
        have ht := tle_yes he
        clear h1 h2 h3 he
        go_wp2_with fail
        go_quiet (fail)
        go_wp2_with fail
        go_ret2
        exact ⟨_, ret_three (by rw [HV.out]; rfl), by rw [HV.out]; exact HO1.out.on (below_drewN (Below.refl _ _) _), below_drewN HB1.out _⟩
      · have HV : Hid (stepM' s t l = none) := Lib.hid (by unfold stepM'; rw [h3, if_pos hi, if_neg he])
        have ht := tle_no he
        clear h1 h2 h3 he
        go_wp2_with fail
        go_quiet (fail)
        go_wp2_with fail
        go_ret2
        exact ⟨_, ret_three (by rw [HV.out]; rfl), by rw [HV.out]; exact HO1.out.on (below_drewN (Below.refl _ _) _), below_drewN HB1.out _⟩
end Go.Proofs.YtlhchmjnaanjpaaGreatDoor.Row
/- Contracts of matchParts (the parts of a pattern against those of a name) and of Match, the program's and the model's. No conditions but that lengths fit. -/
namespace Go.Proofs.YtlhchmjnaanjpaaGreatDoor.Row
open Go.ChangeShapes Go.WideShapes Go.ChangeAt Go.RowKit Go.Instr
set_option linter.unusedVariables false
set_option maxRecDepth 100000
def matchL : List ByteArray → List ByteArray → List (ByteArray × ByteArray) → Option (List (ByteArray × ByteArray))
  | [], [], l => some l
  | [], _ :: _, _ => none
  | s :: ps, [], l => if s = star2B then some l else none
  | s :: ps, t :: ts, l => if s = star2B then some l else match stepM s t l with
    | none => none
    | some m => matchL ps ts m
theorem matchL_rest {p q : List ByteArray} {l : List (ByteArray × ByteArray)} {k : Nat} (hk : k < p.length) (h : nth p k = star2B) : matchL (p.drop k) (q.drop k) l = some l := by
  rw [drop_nth hk]
  cases q.drop k with
  | nil => unfold matchL; rw [if_pos h]
  | cons a r => unfold matchL; rw [if_pos h]
theorem matchL_short {p q : List ByteArray} {l : List (ByteArray × ByteArray)} {k : Nat} (hk : k < p.length) (h : ¬ nth p k = star2B) (hq : ¬ k < q.length) : matchL (p.drop k) (q.drop k) l = none := by
  rw [drop_nth hk, List.drop_eq_nil_of_le (show q.length ≤ k by omega)]
  unfold matchL; rw [if_neg h]
theorem matchL_no {p q : List ByteArray} {l : List (ByteArray × ByteArray)} {k : Nat} (hk : k < p.length) (h : ¬ nth p k = star2B) (hq : k < q.length) (hs : stepM (nth p k) (nth q k) l = none) : matchL (p.drop k) (q.drop k) l = none := by
  rw [drop_nth hk, drop_nth hq]
  unfold matchL; rw [if_neg h, hs]
theorem matchL_on {p q : List ByteArray} {l m : List (ByteArray × ByteArray)} {k : Nat} (hk : k < p.length) (h : ¬ nth p k = star2B) (hq : k < q.length) (hs : stepM (nth p k) (nth q k) l = some m) : matchL (p.drop k) (q.drop k) l = matchL (p.drop (k + 1)) (q.drop (k + 1)) m := by
  rw [drop_nth hk, drop_nth hq]
  conv => lhs; unfold matchL
  rw [if_neg h, hs]
theorem matchL_end {p q : List ByteArray} {l : List (ByteArray × ByteArray)} (hq : p.length ≤ q.length) : matchL (p.drop p.length) (q.drop p.length) l = if q.length = p.length then some l else none := by
  rw [List.drop_length]
  by_cases h : q.length = p.length
  · rw [List.drop_eq_nil_of_le (show q.length ≤ p.length by omega), if_pos h]; rfl
  · rw [drop_nth (show p.length < q.length by omega), if_neg h]; rfl
theorem validPat_elem {p : List ByteArray} (h : validPat p = true) {k : Nat} (hk : k < p.length) : validP (nth p k) = true ∨ nth p k = starB ∨ letterP (nth p k) = true ∨ nth p k = star2B := by
  rcases elemP_iff.1 ((validPat_iff.1 h).2 k hk) with h | h | h | h
  · exact Or.inl h
  · exact Or.inr (Or.inl h)
  · exact Or.inr (Or.inr (Or.inl h))
  · exact Or.inr (Or.inr (Or.inr h.1))
theorem encPt_notrest {s : ByteArray} (h : validP s = true ∨ s = starB ∨ letterP s = true) : ∃ t v, encPt s = .iface t v ∧ ∀ w : World, (Instr.typeAssert (.iface t v) 206 221 true).run Tryz.prog w = .ok (.tuple #[.agg #[], .bool false]) w := by
  rcases h with h | h | h
  · exact ⟨_, _, encPt_lit h, fun w => as_lit_rest _ w⟩
  · exact ⟨_, _, encPt_any h, fun w => as_any_rest _ w⟩
  · exact ⟨_, _, encPt_var h, fun w => as_var_rest _ w⟩
theorem matchPartU (s t : ByteArray) (u v : Value) (hu : encPt s = u) (l : List (ByteArray × ByteArray)) (B : Nat) (w : World) (hs : validP s = true ∨ s = starB ∨ letterP s = true) (h : OwnK 204 encBd 2 B w v l) (hB : B ≤ w.heap.size) (hl : l.length ≤ 10000000) :
    Calls Tryz.prog 182 #[u, .string t, v] w (GivesStep B w l (stepM s t l)) := hu ▸ matchPart s t v l B w hs h hB hl
def GivesM (B : Nat) (w : World) (o : Option (List (ByteArray × ByteArray))) (e : Ending) (w' : World) : Prop :=
  ∃ v, e = .returned (.tuple #[v, .bool o.isSome]) ∧ (∀ m, o = some m → OwnK 204 encBd 2 B w' v m) ∧ Below B w w'
theorem Far.below {α : Type} [Inhabited α] {enc : α → Value} {B : Nat} {w w' : World} {v : Value} {l : List α} (h : Far enc B w v l) (hb : Below B w w') : Holds enc w' v l := by
  obtain ⟨x, cap, hv, hc, hh⟩ := h
  refine ⟨x, cap, hv, hc, ?_⟩
  rcases hh with h1 | ⟨b, off, hx, hlt, h2⟩
  · exact Or.inl h1
  · exact Or.inr ⟨b, off, hx, fun j hj => by rw [hb.cell (p := ⟨b, off + j, none⟩) hlt]; exact h2 j hj⟩
theorem Far.shapeN {α : Type} [Inhabited α] {enc : α → Value} {B : Nat} {w : World} {v : Value} {l : List α} (h : Far enc B w v l) : ∃ x n cap, v = .slice x n cap ∧ n = l.length ∧ n ≤ cap ∧ Far enc B w (.slice x n cap) l := by
  obtain ⟨x, cap, rfl, hc, ho⟩ := h
  exact ⟨x, _, cap, rfl, rfl, hc, x, cap, rfl, hc, ho⟩
set_option maxHeartbeats 2000000 in
theorem matchParts (vp vt v : Value) (p q : List ByteArray) (l : List (ByteArray × ByteArray)) (B : Nat) (w : World) (hv : validPat p = true) (hp : Far encPt B w vp p) (hq : Far Value.string B w vt q) (hql : q.length ≤ 100000000) (h : OwnK 204 encBd 2 B w v l) (hB : B ≤ w.heap.size) (hl : l.length ≤ 5000000) :
    Calls Tryz.prog 179 #[vp, vt, v] w (GivesM B w (matchL p q l)) := by
  obtain ⟨xp, np, cp, rfl, hnp, hcp, hp⟩ := hp.shapeN
  obtain ⟨xq, nq, cq, rfl, hnq, hcq, hq⟩ := hq.shapeN
  have hp6 := (validPat_iff.1 hv).1
  rw [← hnp] at hp6
  rw [← hnq] at hql
  have HV := Lib.hid hv; have HP := Lib.hid hp; have HQ := Lib.hid hq; have HNP := Lib.hid hnp; have HNQ := Lib.hid hnq; have HO := Lib.hid h
  clear hv hp hq hnp hnq h
  go_enter Tryz.func179, Tryz.ntmps179
  go_wp2_with fail
  go_loopw [2, 16] (fun lv iv wr => ∃ (k m : Nat) (cur : List (ByteArray × ByteArray)), k ≤ np ∧ k ≤ nq ∧ iv = .int .i64 k ∧ m ≤ 5000000 + k ∧ Hid (cur.length = m) ∧ Hid (matchL (p.drop k) (q.drop k) cur = matchL p q l) ∧ Hid (OwnK 204 encBd 2 B wr lv cur) ∧ Hid (Below B w wr) ∧ B ≤ wr.heap.size) (fun _ iv _ => np - (intOf iv).toNat)
  case atStart => exact ⟨0, l.length, l, Nat.zero_le _, Nat.zero_le _, rfl, by omega, Lib.hid rfl, Lib.hid rfl, HO, Lib.hid (Below.refl _ _), hB⟩
  case round =>
    obtain ⟨k, m, cur, hk, hkq, rfl, hm, hml, hI, ho, hb, hBr⟩ := hrel
    by_cases hlt : k < np
    · have hkp : k < p.length := by have := HNP.out; omega
      obtain ⟨b, off, rfl, hc⟩ := (HP.out.below hb.out).at hkp
      by_cases hr : nth p k = star2B
      · rw [encPt_rest hr] at hc
        have hk1 := fun w => as_rest (.agg #[]) w
        have HM := Lib.hid ((hI.out).symm.trans (matchL_rest hkp hr))
        clear hkp hr
        go_wp2_with fail
        go_ret2
        exact ⟨_, ret_three (by rw [HM.out]; rfl), fun m' hm' => by rw [HM.out] at hm'; cases hm'; exact ho.out.on ((Below.refl _ _).alloc (Nat.le_refl _) _), hb.out.alloc hBr _⟩
      · have hs3 : validP (nth p k) = true ∨ nth p k = starB ∨ letterP (nth p k) = true := by
          rcases validPat_elem HV.out hkp with h | h | h | h
          · exact Or.inl h
          · exact Or.inr (Or.inl h)
          · exact Or.inr (Or.inr h)
          · exact absurd h hr
        obtain ⟨t5, v5, h5, hk1⟩ := encPt_notrest hs3
        rw [h5] at hc
        have H5 := Lib.hid h5; have HS3 := Lib.hid hs3; have HR := Lib.hid hr
        have HKP := Lib.hid hkp
        clear h5 hs3 hr hkp
        by_cases hlq : k < nq
        · have hkq2 : k < q.length := by have := HNQ.out; omega
          obtain ⟨b', off', rfl, hd⟩ := (HQ.out.below hb.out).at hkq2
          have HKQ := Lib.hid hkq2
          have hdr : (wr.alloc (.cells #[] 221)).cell? ⟨b', off' + k, none⟩ = some (.string (nth q k)) := by rw [World.cell?_alloc_past _ _ _ (cell_lt hd)]; exact hd
          have HO1 := Lib.hid (ho.out.on ((Below.refl _ _).alloc (Nat.le_refl _) (.cells #[] 221)))
          have HB1 := Lib.hid (hb.out.alloc hBr (.cells #[] 221))
          have HCUR := Lib.hid (show cur.length ≤ 10000000 by rw [hml.out]; omega)
          clear hkq2 hd
          go_wp2_with fail
          refine (matchPartU (nth p k) (nth q k) _ _ H5.out cur B _ HS3.out HO1.out (by simp; omega) HCUR.out).mono ?_
          rintro e w2 ⟨v2, rfl, ho2, hb2⟩
          have HO2 := Lib.hid ho2
          have HB2 := Lib.hid (HB1.out.trans hb2)
          have hB2 : B ≤ w2.heap.size := by have := hb2.size; simp at this; omega
          clear ho2 hb2 hc hdr hk1
          cases hst : stepM (nth p k) (nth q k) cur with
          | none =>
            have HM := Lib.hid ((hI.out).symm.trans (matchL_no HKP.out HR.out HKQ.out hst))
            simp only [Option.isSome_none]
            clear hst
            go_wp2_with fail
            go_ret2
            exact ⟨_, ret_three (by rw [HM.out]; rfl), fun m' hm' => (by rw [HM.out] at hm'; cases hm'), HB2.out⟩
          | some nx =>
            have HM := Lib.hid ((matchL_on HKP.out HR.out HKQ.out hst).symm.trans hI.out)
            have hnl := stepM_len hst
            rw [hml.out] at hnl
            have HO3 := Lib.hid (show OwnK 204 encBd 2 B w2 v2 nx by have := HO2.out; rw [hst] at this; exact this)
            simp only [Option.isSome_some]
            clear hst
            go_wp2_with fail
            go_roundw
            case rel => exact ⟨k + 1, nx.length, nx, by omega, by omega, by go_num, by omega, Lib.hid rfl, HM, HO3, HB2, hB2⟩
            case measure => simp [intOf]; omega
        · obtain rfl : k = nq := by omega
          have HM := Lib.hid ((hI.out).symm.trans (matchL_short HKP.out HR.out (by have := HNQ.out; omega)))
          clear hlq
          go_wp2_with fail
          go_ret2
          exact ⟨_, ret_three (by rw [HM.out]; rfl), fun m' hm' => (by rw [HM.out] at hm'; cases hm'), hb.out.alloc hBr _⟩
    · obtain rfl : k = np := by omega
      have HM := Lib.hid ((hI.out).symm.trans (show matchL (p.drop k) (q.drop k) cur = if q.length = p.length then some cur else none by
        have e := matchL_end (p := p) (q := q) (l := cur) (by have := HNP.out; have := HNQ.out; omega)
        rw [← HNP.out] at e
        rw [← HNP.out]; exact e))
      clear hlt
      go_wp2_with fail
      go_ret2
      refine ⟨_, ret_three ?_, fun m' hm' => ?_, hb.out⟩
      · rw [HM.out]
        by_cases e : q.length = p.length
        · rw [if_pos e]; have := HNP.out; have := HNQ.out; simp; omega
        · rw [if_neg e]; have := HNP.out; have := HNQ.out; simp; omega
      · rw [HM.out] at hm'
        by_cases e : q.length = p.length
        · rw [if_pos e] at hm'; cases hm'; exact ho.out
        · rw [if_neg e] at hm'; cases hm'
end Go.Proofs.YtlhchmjnaanjpaaGreatDoor.Row
/- Contracts of Match and Matches, the program's and the model's. No conditions but that lengths fit. -/
namespace Go.Proofs.YtlhchmjnaanjpaaGreatDoor.Row
open Go.ChangeShapes Go.WideShapes Go.ChangeAt Go.RowKit Go.Instr
set_option linter.unusedVariables false
set_option maxRecDepth 100000
def matchB (p q : List ByteArray) (l : List (ByteArray × ByteArray)) : Option (List (ByteArray × ByteArray)) := if validPat p = true ∧ validN q = true then matchL p q l else none
theorem matchB_no1 {p q : List ByteArray} {l : List (ByteArray × ByteArray)} (h : validPat p = false) : matchB p q l = none := if_neg (by rw [h]; simp)
theorem matchB_no2 {p q : List ByteArray} {l : List (ByteArray × ByteArray)} (h : validN q = false) : matchB p q l = none := if_neg (by rw [h]; simp)
theorem matchB_yes {p q : List ByteArray} {l : List (ByteArray × ByteArray)} (h1 : validPat p = true) (h2 : validN q = true) : matchB p q l = matchL p q l := if_pos ⟨h1, h2⟩
theorem keepB {B : Nat} {W w1 w2 : World} {a : Addr} {u : Value} (h : w1.cell? a = some u ∧ Below W.heap.size W w1) (ha : a.block < B) (hW : W.heap.size ≤ B) (hb : Below B w1 w2) : w2.cell? a = some u ∧ Below W.heap.size W w2 :=
  ⟨by rw [hb.cell ha]; exact h.1, h.2.trans (hb.mono hW)⟩
theorem HoldsK.belowK {α : Type} {enc : α → List Value} {sz : Nat} {w w1 w2 : World} {v : Value} {l : List α} (h : HoldsK enc sz w1 v l) (h0 : HoldsK enc sz w v l) (hb : Below w.heap.size w1 w2) : HoldsK enc sz w2 v l := by
  obtain ⟨x, cap, rfl, hc, hh⟩ := h
  obtain ⟨x', cap', hv', hc', hh'⟩ := h0
  cases hv'
  refine ⟨x, cap, rfl, hc, ?_⟩
  rcases hh with h1 | ⟨b, off, hx, h2⟩
  · exact Or.inl h1
  · rcases hh' with h1 | ⟨b', off', hx', h2'⟩
    · exact Or.inl h1
    · rw [hx] at hx'
      cases hx'
      refine Or.inr ⟨b, off, hx, fun j hj => ?_⟩
      obtain ⟨u, h3, h4⟩ := h2 j hj
      obtain ⟨u', h3', h4'⟩ := h2' j hj
      exact ⟨u, h3, by rw [hb.cell (p := ⟨b, off + j, none⟩) (cell_lt h4')]; exact h4⟩
set_option maxHeartbeats 2000000 in
theorem implMatch (vp vq v : Value) (p q : List ByteArray) (l : List (ByteArray × ByteArray)) (w : World) (hp : Holds Value.string w vp p) (hq : Holds Value.string w vq q) (hv : HoldsK encBd 2 w v l) (hpb : bulk p ≤ 100000000) (hqb : bulk q ≤ 100000000) (hl : l.length ≤ 2000000) :
    Calls Tryz.prog 169 #[.agg #[vp], .agg #[vq], v] w (GivesStep w.heap.size w l (matchB p q l)) := by
  obtain ⟨xp, np, cp, rfl, hnp, hcp, hp⟩ := hp.shapeN
  obtain ⟨xq, nq, cq, rfl, hnq, hcq, hq⟩ := hq.shapeN
  obtain ⟨x, n, c, rfl, hn, hc, hv⟩ := hv.shapeN
  have b0 := ((Below.refl w.heap.size w).alloc (Nat.le_refl _) (.cells #[.slice xp np cp] 129)).alloc (by simp) (.cells #[.slice xq nq cq] 32)
  have HP := Lib.hid (hp.on b0); have HQ := Lib.hid (hq.on b0); have HV := Lib.hid (hv.on b0)
  have HC := Lib.hid (Ret.Box.new (w.alloc (.cells #[.slice xp np cp] 129)) (.slice xq nq cq) 32)
  have HB0 := Lib.hid b0; have HPB := Lib.hid hpb; have HQB := Lib.hid hqb
  clear hp hq hv b0 hnp hnq hn hpb hqb
  go_enter Tryz.func169, Tryz.ntmps169
  go_wp2_with fail
  refine (readParts _ p _ HP.out HPB.out).mono ?_
  rintro e w1 ⟨v1, rfl, ho1, hb1⟩
  obtain ⟨x1, n1, c1, rfl, hn1, hc1, ho1⟩ := ho1.shapeN
  have HB1 := Lib.hid (HB0.out.trans (hb1.mono HB0.out.size))
  have HQ1 := Lib.hid (HQ.out.on hb1); have HV1 := Lib.hid (HV.out.on hb1); have HC1 := Lib.hid (HC.out.on hb1)
  have HO1 := Lib.hid ho1
  clear ho1 hb1 hn1
  cases hvp : validPat p with
  | false =>
    have HM := Lib.hid (matchB_no1 (q := q) (l := l) hvp)
    clear hvp
    go_wp2_with fail
    refine (cloneBd _ l _ HV1.out (by omega)).mono ?_
    rintro e w2 ⟨v2, rfl, ho2, hb2⟩
    have HO2 := Lib.hid (ho2.mono HB1.out.size); have HB2 := Lib.hid (HB1.out.trans (hb2.mono HB1.out.size))
    clear ho2 hb2
    go_wp2_with fail
    go_ret2
    exact ⟨_, ret_three (by rw [HM.out]; rfl), by rw [HM.out]; exact HO2.out, HB2.out⟩
  | true =>
    have HVP := Lib.hid hvp
    have HO1 := Lib.hid (show Own 206 encPt _ w1 (.slice x1 n1 c1) p by have := HO1.out; rw [hvp] at this; exact this)
    clear hvp
    have hc1 := HC1.out.cell
    simp only [World.size_alloc] at hc1
    go_wp2_with fail
    refine (implValidName _ q _ HQ1.out HQB.out).mono ?_
    rintro e w2 ⟨rfl, hb2⟩
    have HB2 := Lib.hid (HB1.out.trans (hb2.mono HB1.out.size))
    have HQ2 := Lib.hid (HQ1.out.on hb2); have HV2 := Lib.hid (HV1.out.on hb2); have HC2 := Lib.hid (HC1.out.on hb2); have HO2 := Lib.hid (HO1.out.on hb2)
    clear hc1 hb2
    cases hvn : validN q with
    | false =>
      have HM := Lib.hid (matchB_no2 (p := p) (l := l) hvn)
      clear hvn
      go_wp2_with fail
      refine (cloneBd _ l _ HV2.out (by omega)).mono ?_
      rintro e w3 ⟨v3, rfl, ho3, hb3⟩
      have HO3 := Lib.hid (ho3.mono HB2.out.size); have HB3 := Lib.hid (HB2.out.trans (hb3.mono HB2.out.size))
      clear ho3 hb3
      go_wp2_with fail
      go_ret2
      exact ⟨_, ret_three (by rw [HM.out]; rfl), by rw [HM.out]; exact HO3.out, HB3.out⟩
    | true =>
      have HM := Lib.hid (matchB_yes (l := l) HVP.out hvn)
      have hq6 := (validN_iff.1 hvn).1
      have HQ6 := Lib.hid (show q.length ≤ 100000000 by omega)
      clear hvn hq6
      have hdr : Below w2.heap.size w2 w2.drew := (Below.refl _ _).drew
      have HBd := Lib.hid (HB2.out.trans (hdr.mono HB2.out.size))
      have HQd := Lib.hid (HQ2.out.on hdr); have HVd := Lib.hid (HV2.out.on hdr); have HCd := Lib.hid (HC2.out.on hdr); have HOd := Lib.hid (HO2.out.on hdr)
      clear hdr
      have hcd := HCd.out.cell
      simp only [World.size_alloc] at hcd
      have KS := Lib.hid (show w2.drew.cell? ⟨w.heap.size + 1, 0, none⟩ = some (.slice xq nq cq) ∧ Below w.heap.size w w2.drew from ⟨hcd, HBd.out⟩)
      have HLT := Lib.hid (show w.heap.size + 1 < w2.drew.heap.size from cell_lt hcd)
      clear hcd
      go_wp2_with fail
      go_region_held3 (fun w' => w'.cell? ⟨w.heap.size + 1, 0, none⟩ = some (.slice xq nq cq) ∧ Below w.heap.size w w') (first | exact KS.out | exact keepB KS.out HLT.out (by have := HLT.out; omega) hb3 | exact keepB (keepB KS.out HLT.out (by have := HLT.out; omega) hb3) HLT.out (by have := HLT.out; omega) hb4) ((first | (go_at_call 178; refine (cloneBd _ l _ HVd.out (by omega)).mono ?_; rintro e w3 ⟨v3, rfl, ho3, hb3⟩) | (go_at_call 179; refine (matchParts _ _ _ p q l w2.drew.heap.size _ HVP.out ((Holds.far HOd.out.holds).on hb3) ((Holds.far HQd.out).on hb3) HQ6.out ho3 hb3.size (by omega)).mono ?_; rintro e w4 ⟨v4, rfl, hm4, hb4⟩)))
      have HB3 := Lib.hid (HBd.out.trans (hb3.mono HBd.out.size))
      have HB4 := Lib.hid (HB3.out.trans (hb4.mono HBd.out.size))
      have HS4 := Lib.hid (show w.heap.size ≤ w4.heap.size from HB4.out.size)
      have HV4 := Lib.hid (show HoldsK encBd 2 w4 (.slice x n c) l from (HVd.out.on hb3).belowK HVd.out hb4)
      have HM4 := Lib.hid (fun m hm => OwnK.mono (hm4 m hm) (show w.heap.size ≤ w2.drew.heap.size from HBd.out.size))
      clear ho3 hb3 hm4 hb4
      cases hml : matchL p q l with
      | none =>
        have HMM := Lib.hid (HM.out.trans hml)
        simp only [Option.isSome_none]
        clear hml
        go_wp2_with fail
        refine (cloneBd _ l _ HV4.out (by omega)).mono ?_
        rintro e w5 ⟨v5, rfl, ho5, hb5⟩
        have HO5 := Lib.hid (ho5.mono HS4.out); have HB5 := Lib.hid (HB4.out.trans (hb5.mono HS4.out))
        clear ho5 hb5
        go_wp2_with fail
        go_ret2
        exact ⟨_, ret_three (by rw [HMM.out]; rfl), by rw [HMM.out]; exact HO5.out, HB5.out⟩
      | some m =>
        have HMM := Lib.hid (HM.out.trans hml)
        have HO5 := Lib.hid (HM4.out m hml)
        simp only [Option.isSome_some]
        clear hml
        go_wp2_with fail
        go_ret2
        exact ⟨_, ret_three (by rw [HMM.out]; rfl), by rw [HMM.out]; exact HO5.out, HB4.out⟩
end Go.Proofs.YtlhchmjnaanjpaaGreatDoor.Row
