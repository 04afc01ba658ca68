/- ValidPattern, the program's and the model's, and what the program makes of a pattern's parts (interface values). No conditions but that lengths fit. -/
import Derived.Test.YtkojeajjappchaaLet
import Derived.Test.YtkojeajjappchaaPatn
namespace Go.Proofs.Ytkojeajjappchaa.Row
open Go.ChangeShapes Go.WideShapes Go.ChangeAt Go.RowKit Go.Instr
set_option linter.unusedVariables false
set_option maxRecDepth 100000

def starB : ByteArray := { data := #[42] }
def star2B : ByteArray := { data := #[42, 42] }
theorem star_tl (s : ByteArray) : (s.toList == [42]) = decide (s = starB) := by
  by_cases h : s = starB
  · rw [decide_eq_true h, h]
    have : starB.toList = [42] := ByteArray.toList_mk [42]
    simp [this]
  · rw [decide_eq_false h]
    have : s.toList ≠ [42] := fun e => h (toList_inj (by rw [e]; exact (ByteArray.toList_mk [42]).symm))
    simpa using this
theorem star2_tl (s : ByteArray) : (s.toList == [42, 42]) = decide (s = star2B) := by
  by_cases h : s = star2B
  · rw [decide_eq_true h, h]
    have : star2B.toList = [42, 42] := ByteArray.toList_mk [42, 42]
    simp [this]
  · rw [decide_eq_false h]
    have : s.toList ≠ [42, 42] := fun e => h (toList_inj (by rw [e]; exact (ByteArray.toList_mk [42, 42]).symm))
    simpa using this
theorem star_yes {s : ByteArray} (h : s = starB) : (s.toList == [42]) = true := by rw [star_tl]; exact decide_eq_true h
theorem star_no {s : ByteArray} (h : ¬ s = starB) : (s.toList == [42]) = false := by rw [star_tl]; exact decide_eq_false h
theorem star2_yes {s : ByteArray} (h : s = star2B) : (s.toList == [42, 42]) = true := by rw [star2_tl]; exact decide_eq_true h
theorem star2_no {s : ByteArray} (h : ¬ s = star2B) : (s.toList == [42, 42]) = false := by rw [star2_tl]; exact decide_eq_false h
theorem star_size : starB.size = 1 := rfl
theorem star2_size : star2B.size = 2 := rfl
theorem star_validP : validP starB = false := validP_byte (k := 0) (by decide) (by rw [show (starB[0]'(by decide)).toNat = 42 from rfl]; unfold okR; omega)
theorem star2_validP : validP star2B = false := validP_byte (k := 0) (by decide) (by rw [show (star2B[0]'(by decide)).toNat = 42 from rfl]; unfold okR; omega)
theorem empty_validP : validP ByteArray.empty = false := validP_size (by simp)
theorem star_letterP : letterP starB = false := letterP_size (by decide)
theorem star2_letterP : letterP star2B = false := letterP_0 rfl (by rw [show (star2B[0]'(by decide)).toNat = 42 from rfl]; omega)
theorem star_ne : starB ≠ star2B := fun h => by have := congrArg ByteArray.size h; simp [star_size, star2_size] at this
theorem letter_validP {s : ByteArray} (h : letterP s = true) : validP s = false := by
  obtain ⟨h2, h0, _⟩ := letterP_iff.1 h
  exact validP_byte (k := 0) (by omega) (by rw [h0]; unfold okR; omega)
theorem valid_letterP {s : ByteArray} (h : validP s = true) : letterP s = false := by
  cases hl : letterP s with
  | false => rfl
  | true => rw [letter_validP hl] at h; cases h
theorem valid_ne {s : ByteArray} (h : validP s = true) : s ≠ starB ∧ s ≠ star2B := ⟨fun e => (by rw [e, star_validP] at h; cases h), fun e => (by rw [e, star2_validP] at h; cases h)⟩
theorem letter_ne {s : ByteArray} (h : letterP s = true) : s ≠ starB ∧ s ≠ star2B := ⟨fun e => (by rw [e, star_letterP] at h; cases h), fun e => (by rw [e, star2_letterP] at h; cases h)⟩

/-- Whether a text is a part of a pattern; whether it is the last one. -/
def elemP (s : ByteArray) (last : Bool) : Bool := validP s || decide (s = starB) || letterP s || (decide (s = star2B) && last)
def validPat (l : List ByteArray) : Bool := decide (l.length ≤ 6 ∧ ∀ j, j < l.length → elemP (nth l j) (decide (j + 1 = l.length)) = true)
def allE (l : List ByteArray) (k : Nat) : Prop := ∀ j, j < k → elemP (nth l j) (decide (j + 1 = l.length)) = true
theorem allE_zero (l : List ByteArray) : allE l 0 := fun j h => absurd h (by omega)
theorem allE_succ {l : List ByteArray} {k : Nat} (h : allE l k) (hc : elemP (nth l k) (decide (k + 1 = l.length)) = true) : allE l (k + 1) := fun j h1 => by
  by_cases e : j = k
  · subst e; exact hc
  · exact h j (by omega)
theorem validPat_not {l : List ByteArray} {k : Nat} (hk : k < l.length) (hc : elemP (nth l k) (decide (k + 1 = l.length)) = false) : validPat l = false := by
  refine decide_eq_false (fun e => ?_)
  have := e.2 k hk
  rw [hc] at this; cases this
theorem validPat_all {l : List ByteArray} (h : allE l l.length) : validPat l = decide (l.length ≤ 6) := by
  unfold validPat
  congr 1
  exact propext ⟨fun e => e.1, fun e => ⟨e, h⟩⟩
theorem validPat_long {l : List ByteArray} (h : ¬ l.length ≤ 6) : validPat l = false := decide_eq_false (fun e => h e.1)
theorem validPat_iff {l : List ByteArray} : validPat l = true ↔ l.length ≤ 6 ∧ ∀ j, j < l.length → elemP (nth l j) (decide (j + 1 = l.length)) = true := by unfold validPat; exact decide_eq_true_iff
theorem elemP_iff {s : ByteArray} {b : Bool} : elemP s b = true ↔ validP s = true ∨ s = starB ∨ letterP s = true ∨ (s = star2B ∧ b = true) := by simp [elemP, or_assoc]
theorem elemP_no {s : ByteArray} {b : Bool} (h1 : validP s = false) (h2 : ¬ s = starB) (h3 : letterP s = false) (h4 : ¬ (s = star2B ∧ b = true)) : elemP s b = false := by
  cases h : elemP s b with
  | false => rfl
  | true =>
    rcases elemP_iff.1 h with h | h | h | h
    · rw [h1] at h; cases h
    · exact absurd h h2
    · rw [h3] at h; cases h
    · exact absurd h h4

/-- The value that the program makes of a part. -/
def encPt (s : ByteArray) : Value :=
  if validP s = true then .iface 108 (.agg #[.string s]) else if s = starB then .iface 110 (.agg #[]) else if letterP s = true then .iface 112 (.agg #[.string s]) else .iface 113 (.agg #[])
theorem encPt_lit {s : ByteArray} (h : validP s = true) : encPt s = .iface 108 (.agg #[.string s]) := if_pos h
theorem encPt_any {s : ByteArray} (h : s = starB) : encPt s = .iface 110 (.agg #[]) := by
  unfold encPt
  rw [if_neg (by rw [h, star_validP]; simp), if_pos h]
theorem encPt_var {s : ByteArray} (h : letterP s = true) : encPt s = .iface 112 (.agg #[.string s]) := by
  unfold encPt
  rw [if_neg (by rw [letter_validP h]; simp), if_neg (letter_ne h).1, if_pos h]
theorem encPt_rest {s : ByteArray} (h : s = star2B) : encPt s = .iface 113 (.agg #[]) := by
  unfold encPt
  rw [if_neg (by rw [h, star2_validP]; simp), if_neg (by rw [h]; exact fun e => star_ne e.symm), if_neg (by rw [h, star2_letterP]; simp)]
theorem onePt (s : ByteArray) : (encPt s).oneCell' = true := by
  unfold encPt
  repeat' split
  all_goals rfl
theorem encPt_form (s : ByteArray) : ∃ t v, encPt s = .iface t v := by
  unfold encPt
  repeat' split
  all_goals exact ⟨_, _, rfl⟩
theorem holds_one' {α : Type} [Inhabited α] (enc : α → Value) (e : TypeId) (w : World) (x : α) {u : Value} (h : enc x = u) : Holds enc (w.alloc (.cells #[u] e)) (.slice (some ⟨w.heap.size, 0, none⟩) 1 1) [x] := by subst h; exact holds_one enc e w x
theorem elemPT : Elem Try.prog 96 .nilIface 16 := by unfold Elem; kernel_rfl

set_option maxHeartbeats 1000000 in
theorem readPart (s : ByteArray) (b : Bool) (w : World) (hl : s.size ≤ 140737488351232) :
    Calls Try.prog 84 #[.string s, .bool b] w fun e w' => e = .returned (.tuple #[if elemP s b = true then encPt s else .nilIface, .bool (elemP s b)]) ∧ Below w.heap.size w w' := by
  by_cases hv : validP s = true
  · have he : elemP s b = true := elemP_iff.2 (Or.inl hv)
    rw [he, if_pos rfl, encPt_lit hv]
    have HV := Lib.hid hv
    clear hv he
    go_enter Try.func84, Try.ntmps84
    go_wp2_with fail
    refine (implValidPart _ _ hl).mono ?_
    rintro e w1 ⟨rfl, hb⟩
    rw [HV.out]
    go_wp2
    go_ret2
    exact ⟨rfl, hb⟩
  · have hv : validP s = false := by simpa using hv
    have HV := Lib.hid hv
    by_cases hs : s = starB
    · have he : elemP s b = true := elemP_iff.2 (Or.inr (Or.inl hs))
      rw [he, if_pos rfl, encPt_any hs]
      have HQ := Lib.hid (star_yes hs)
      clear hv he hs
      go_enter Try.func84, Try.ntmps84
      go_wp2_with fail
      refine (implValidPart _ _ hl).mono ?_
      rintro e w1 ⟨rfl, hb⟩
      rw [HV.out]
      have hq := HQ.out
      go_wp2
      go_ret2
      exact ⟨rfl, hb⟩
    · by_cases hx : letterP s = true
      · have he : elemP s b = true := elemP_iff.2 (Or.inr (Or.inr (Or.inl hx)))
        rw [he, if_pos rfl, encPt_var hx]
        have HQ := Lib.hid (star_no hs)
        have HX := Lib.hid hx
        clear hv he hs hx
        go_enter Try.func84, Try.ntmps84
        go_wp2_with fail
        refine (implValidPart _ _ hl).mono ?_
        rintro e w1 ⟨rfl, hb⟩
        rw [HV.out]
        have hq := HQ.out
        go_wp2_with fail
        refine (isVariable _ _ hl).mono ?_
        rintro e w2 ⟨rfl, rfl⟩
        rw [HX.out]
        go_wp2
        go_ret2
        exact ⟨rfl, hb⟩
      · have hx : letterP s = false := by simpa using hx
        by_cases h2 : s = star2B ∧ b = true
        · have he : elemP s b = true := elemP_iff.2 (Or.inr (Or.inr (Or.inr h2)))
          rw [he, if_pos rfl, encPt_rest h2.1]
          have HQ := Lib.hid (star_no hs)
          have HX := Lib.hid hx
          have HQ2 := Lib.hid (star2_yes h2.1)
          obtain ⟨-, rfl⟩ := h2
          clear hv he hs hx
          go_enter Try.func84, Try.ntmps84
          go_wp2_with fail
          refine (implValidPart _ _ hl).mono ?_
          rintro e w1 ⟨rfl, hb⟩
          rw [HV.out]
          have hq := HQ.out
          go_wp2_with fail
          refine (isVariable _ _ hl).mono ?_
          rintro e w2 ⟨rfl, rfl⟩
          rw [HX.out]
          have hq2 := HQ2.out
          go_wp2
          go_ret2
          exact ⟨rfl, hb⟩
        · have he : elemP s b = false := elemP_no hv hs hx h2
          rw [he, if_neg (by simp)]
          have HQ := Lib.hid (star_no hs)
          have HX := Lib.hid hx
          have HQ2 := Lib.hid (show ((s.toList == [42, 42]) && b) = false by
            cases b with
            | false => simp
            | true => rw [star2_no (fun e => h2 ⟨e, rfl⟩)]; rfl)
          clear hv he hs hx
          go_enter Try.func84, Try.ntmps84
          go_wp2_with fail
          refine (implValidPart _ _ hl).mono ?_
          rintro e w1 ⟨rfl, hb⟩
          rw [HV.out]
          have hq := HQ.out
          go_wp2_with fail
          refine (isVariable _ _ hl).mono ?_
          rintro e w2 ⟨rfl, rfl⟩
          rw [HX.out]
          cases hc : (s.toList == [42, 42]) with
          | false =>
            go_wp2
            go_ret2
            exact ⟨rfl, hb⟩
          | true =>
            have hq2 := HQ2.out
            rw [hc] at hq2
            have hbf : b = false := by simpa using hq2
            subst hbf
            clear hq2
            go_wp2
            go_ret2
            exact ⟨rfl, hb⟩


theorem ret_two {v : Value} {a b : Bool} (h : a = b) : Ending.returned (.tuple #[v, .bool a]) = .returned (.tuple #[v, .bool b]) := by rw [h]
theorem last_is {k n : Nat} {l : List ByteArray} (h : n = l.length) : (((k : Nat) : Int) == ((n : Nat) : Int) - 1) = decide (k + 1 = l.length) := by
  by_cases e : k + 1 = l.length
  · rw [decide_eq_true e]; simp; omega
  · rw [decide_eq_false e]; simp; omega
def ifP (c : Bool) (l : List ByteArray) : List ByteArray := if c = true then l else []
set_option maxHeartbeats 2000000 in
theorem readParts (v : Value) (l : List ByteArray) (w : World) (h : Holds Value.string w v l) (hs : bulk l ≤ 100000000) :
    Calls Try.prog 65 #[.agg #[v]] w fun e w' => ∃ v', e = .returned (.tuple #[v', .bool (validPat l)]) ∧ Own 96 encPt w.heap.size w' v' (ifP (validPat l) l) ∧ Below w.heap.size w w' := by
  obtain ⟨x, n, cap, rfl, hn, hcap, hh⟩ := h.shapeN
  have hll := bigLen hs
  have HS := Lib.hid (fun k (hk : k < l.length) => size_nth hs hk)
  rw [← hn] at hll
  have HN := Lib.hid hn
  have HH := Lib.hid hh
  have HB0 := Lib.hid ((Below.refl w.heap.size w).alloc (Nat.le_refl _) (.cells #[.slice x n cap] 29))
  have HC0 := Lib.hid (Ret.Box.new w (.slice x n cap) 29)
  by_cases h6 : n ≤ 6
  · clear hn h hh hs
    obtain ⟨i0, hi, hz0, hz1, hz2⟩ := info_parts elemPT
    have HI := Lib.hid hi; have HZ0 := Lib.hid hz0; have HZ1 := Lib.hid hz1; have HZ2 := Lib.hid hz2
    clear hi hz0 hz1 hz2
    go_enter Try.func65, Try.ntmps65
    go_wp2_with (at_make; refine wpList_make_own _ rfl _ _ 84 rfl (w.heap.size + 1) 96 i0 .nilIface 1 Try.underlying84 HI.out HZ0.out HZ1.out _ _ _ n rfl rfl rfl (by rw [HZ2.out]; omega) (by unfold maxLen; omega) (by simp) ?_)
    intro w1 hown hgrow
    have HO := Lib.hid (show Own 96 encPt (w.heap.size + 1) w1 (.slice (some ⟨w.heap.size + 1, 0, none⟩) 0 n) [] from hown)
    have HC1 := Lib.hid (HC0.out.grown hgrow (by simp))
    have HB1 := Lib.hid (HB0.out.grown hgrow (by simp) (fun g hg => by cases hg))
    clear hown hgrow
    have hc1 := HC1.out.cell
    go_wp2_with fail
    clear hc1
    go_loopw [4, 20] (fun pv i wr => ∃ k : Nat, k ≤ n ∧ i = .int .i64 k ∧ Hid (Own 96 encPt (w.heap.size + 1) wr pv (l.take k)) ∧ Hid (allE l k) ∧ Hid (Ret.Box wr w.heap.size (.slice x n cap) 29) ∧ Hid (Below w.heap.size w wr)) (fun _ i _ => n - (intOf i).toNat)
    case atStart => exact ⟨0, Nat.zero_le _, rfl, HO, Lib.hid (allE_zero l), HC1, HB1⟩
    case round =>
      obtain ⟨k, hk, rfl, ho, ha, hc, hb⟩ := hrel
      by_cases hlt : k < n
      · have hlen := HN.out
        obtain ⟨b, off, rfl, hd⟩ := (HH.out.on hb.out).at (j := k) (by omega)
        have hsz := HS.out k (by omega)
        have hc1 := hc.out.cell
        clear hlen
        go_wp2_with fail
        rw [show (((k : Nat) : Int) == ((n : Nat) : Int) - 1) = decide (k + 1 = l.length) from last_is HN.out]
        refine (readPart _ _ _ (by omega)).mono ?_
        rintro e w2 ⟨rfl, hb2⟩
        have HB2 := Lib.hid (hb.out.trans (hb2.mono hb.out.size))
        have HC2 := Lib.hid (hc.out.on hb2)
        have HO2 := Lib.hid (ho.out.on hb2)
        clear hb2 hd hc1 hsz
        cases he : elemP (nth l k) (decide (k + 1 = l.length)) with
        | false =>
          have HV := Lib.hid (validPat_not (by have := HN.out; omega) he)
          rw [if_neg (by simp)]
          clear he
          go_wp2
          go_ret2
          exact ⟨_, ret_two HV.out.symm, by rw [HV.out]; exact Own.nil _ _ _ _, HB2.out⟩
        | true =>
          have HA2 := Lib.hid (allE_succ ha.out he)
          obtain ⟨t5, v5, h5⟩ := encPt_form (nth l k)
          rw [if_pos rfl, h5]
          have H5 := Lib.hid h5
          clear he h5
          have hlen : (l.take k).length = k := by rw [List.length_take]; have := HN.out; omega
          have HL := Lib.hid hlen
          have HX := Lib.hid (show l.take k ++ [nth l k] = l.take (k + 1) by rw [nth_eq (by have := HN.out; omega)]; exact (List.take_succ_eq_append_getElem (by have := HN.out; omega)).symm)
          have HO3 := Lib.hid (HO2.out.on ((Below.refl _ _).alloc (Nat.le_refl _) (.cells #[.iface t5 v5] 96)))
          have HC3 := Lib.hid (HC2.out.on ((Below.refl _ _).alloc (Nat.le_refl _) (.cells #[.iface t5 v5] 96)))
          have HB3 := Lib.hid (HB2.out.alloc HB2.out.size (.cells #[.iface t5 v5] 96))
          have HSZ := Lib.hid (HC2.out.lt)
          clear hlen
          go_wp2_with (at_builtin; refine wpList_app (enc := encPt) (B := w.heap.size + 1) (l := l.take k) (m := [nth l k]) rfl _ _ rfl Try.underlying84 elemPT rfl rfl rfl HO3.out (holds_one' encPt 96 _ _ H5.out) onePt (by rw [HL.out]; simp; omega) (by rw [HL.out]; unfold maxLen; simp; omega) (by have := HSZ.out; simp; omega) ?_)
          intro v2 w3 ho3 hg3
          have HO4 := Lib.hid (HX.out ▸ ho3)
          have HC4 := Lib.hid (HC3.out.grown hg3 (fun e => by have := (HO3.out.lt _ e.symm).1; omega))
          have HB4 := Lib.hid (HB3.out.grown hg3 (by have := HSZ.out; simp; omega) (fun g hh => by have := (HO3.out.lt g hh).1; omega))
          clear ho3 hg3
          go_wp2_with fail
          go_roundw
          case rel => exact ⟨k + 1, by omega, by go_num, HO4, HA2, HC4, HB4⟩
          case measure => simp [intOf]; omega
      · obtain rfl : k = n := by omega
        have HV := Lib.hid (show validPat l = true by rw [validPat_all (HN.out ▸ ha.out)]; exact decide_eq_true (by have := HN.out; omega))
        clear hlt
        go_wp2
        go_ret2
        refine ⟨_, ret_two HV.out.symm, ?_, hb.out⟩
        rw [HV.out]
        have := ho.out.mono (Nat.le_succ _)
        rw [HN.out, List.take_length] at this
        exact this
  · have HV := Lib.hid (validPat_long (l := l) (by omega))
    have h7 : (6 : Int) < (n : Int) := by omega
    rw [HV.out]
    clear hn h hh hs h6
    go_enter Try.func65, Try.ntmps65
    go_wp2
    go_ret2
    exact ⟨_, rfl, Own.nil _ _ _ _, HB0.out⟩
end Go.Proofs.Ytkojeajjappchaa.Row
