/- Contracts and mathematics, joined: VPat, VPat2, Bind, Find, Step, Match. No conditions but those that each states. -/
import Derived.Test.YtcidfmmeonhkhaaGreatDoorB17
import Derived.Test.YtcidfmmeonhkhaaGreatDoorB5
import Derived.Test.YtcidfmmeonhkhaaGreatDoorB2
import Derived.Test.YtcidfmmeonhkhaaGreatDoorB1
/- ValidPattern, the program's and the model's, and what the program makes of a pattern's parts (interface values). No conditions but that lengths fit. -/
namespace Go.Proofs.YtcidfmmeonhkhaaGreatDoor.Row
open Go.ChangeShapes Go.WideShapes Go.ChangeAt Go.RowKit Go.Instr
set_option linter.unusedVariables false
set_option maxRecDepth 100000

def starB : ByteArray := { data := #[42] }
def star2B : ByteArray := { data := #[42, 42] }
theorem star_tl (s : ByteArray) : (s.toList == [42]) = decide (s = starB) := by
  by_cases h : s = starB
  · rw [decide_eq_true h, h]
    have : starB.toList = [42] := ByteArray.toList_mk [42]
    simp [this]
  · rw [decide_eq_false h]
    have : s.toList ≠ [42] := fun e => h (toList_inj (by rw [e]; exact (ByteArray.toList_mk [42]).symm))
    simpa using this
theorem star2_tl (s : ByteArray) : (s.toList == [42, 42]) = decide (s = star2B) := by
  by_cases h : s = star2B
  · rw [decide_eq_true h, h]
    have : star2B.toList = [42, 42] := ByteArray.toList_mk [42, 42]
    simp [this]
  · rw [decide_eq_false h]
    have : s.toList ≠ [42, 42] := fun e => h (toList_inj (by rw [e]; exact (ByteArray.toList_mk [42, 42]).symm))
    simpa using this
theorem star_yes {s : ByteArray} (h : s = starB) : (s.toList == [42]) = true := by rw [star_tl]; exact decide_eq_true h
theorem star_no {s : ByteArray} (h : ¬ s = starB) : (s.toList == [42]) = false := by rw [star_tl]; exact decide_eq_false h
theorem star2_yes {s : ByteArray} (h : s = star2B) : (s.toList == [42, 42]) = true := by rw [star2_tl]; exact decide_eq_true h
theorem star2_no {s : ByteArray} (h : ¬ s = star2B) : (s.toList == [42, 42]) = false := by rw [star2_tl]; exact decide_eq_false h
theorem star_size : starB.size = 1 := rfl
theorem star2_size : star2B.size = 2 := rfl
theorem star_validP : validP starB = false := validP_byte (k := 0) (by decide) (by rw [show (starB[0]'(by decide)).toNat = 42 from rfl]; unfold okR; omega)
theorem star2_validP : validP star2B = false := validP_byte (k := 0) (by decide) (by rw [show (star2B[0]'(by decide)).toNat = 42 from rfl]; unfold okR; omega)
theorem star_letterP : letterP starB = false := letterP_size (by decide)
theorem star2_letterP : letterP star2B = false := letterP_0 rfl (by rw [show (star2B[0]'(by decide)).toNat = 42 from rfl]; omega)
theorem star_ne : starB ≠ star2B := fun h => by have := congrArg ByteArray.size h; simp [star_size, star2_size] at this
theorem letter_validP {s : ByteArray} (h : letterP s = true) : validP s = false := by
  obtain ⟨h2, h0, _⟩ := letterP_iff.1 h
  exact validP_byte (k := 0) (by omega) (by rw [h0]; unfold okR; omega)
theorem valid_letterP {s : ByteArray} (h : validP s = true) : letterP s = false := by
  cases hl : letterP s with
  | false => rfl
  | true => rw [letter_validP hl] at h; cases h
theorem valid_ne {s : ByteArray} (h : validP s = true) : s ≠ starB ∧ s ≠ star2B := ⟨fun e => (by rw [e, star_validP] at h; cases h), fun e => (by rw [e, star2_validP] at h; cases h)⟩
theorem letter_ne {s : ByteArray} (h : letterP s = true) : s ≠ starB ∧ s ≠ star2B := ⟨fun e => (by rw [e, star_letterP] at h; cases h), fun e => (by rw [e, star2_letterP] at h; cases h)⟩

/-- Whether a text is a part of a pattern; whether it is the last one. -/
def elemP (s : ByteArray) (last : Bool) : Bool := validP s || decide (s = starB) || letterP s || (decide (s = star2B) && last)
def validPat (l : List ByteArray) : Bool := decide (l.length ≤ 6 ∧ ∀ j, j < l.length → elemP (nth l j) (decide (j + 1 = l.length)) = true)
def allE (l : List ByteArray) (k : Nat) : Prop := ∀ j, j < k → elemP (nth l j) (decide (j + 1 = l.length)) = true
theorem allE_zero (l : List ByteArray) : allE l 0 := fun j h => absurd h (by omega)
theorem allE_succ {l : List ByteArray} {k : Nat} (h : allE l k) (hc : elemP (nth l k) (decide (k + 1 = l.length)) = true) : allE l (k + 1) := fun j h1 => by
  by_cases e : j = k
  · subst e; exact hc
  · exact h j (by omega)
theorem validPat_not {l : List ByteArray} {k : Nat} (hk : k < l.length) (hc : elemP (nth l k) (decide (k + 1 = l.length)) = false) : validPat l = false := by
  refine decide_eq_false (fun e => ?_)
  have := e.2 k hk
  rw [hc] at this; cases this
theorem validPat_all {l : List ByteArray} (h : allE l l.length) : validPat l = decide (l.length ≤ 6) := by
  unfold validPat
  congr 1
  exact propext ⟨fun e => e.1, fun e => ⟨e, h⟩⟩
theorem validPat_long {l : List ByteArray} (h : ¬ l.length ≤ 6) : validPat l = false := decide_eq_false (fun e => h e.1)
theorem validPat_iff {l : List ByteArray} : validPat l = true ↔ l.length ≤ 6 ∧ ∀ j, j < l.length → elemP (nth l j) (decide (j + 1 = l.length)) = true := by unfold validPat; exact decide_eq_true_iff
theorem elemP_iff {s : ByteArray} {b : Bool} : elemP s b = true ↔ validP s = true ∨ s = starB ∨ letterP s = true ∨ (s = star2B ∧ b = true) := by simp [elemP, or_assoc]
theorem elemP_no {s : ByteArray} {b : Bool} (h1 : validP s = false) (h2 : ¬ s = starB) (h3 : letterP s = false) (h4 : ¬ (s = star2B ∧ b = true)) : elemP s b = false := by
  cases h : elemP s b with
  | false => rfl
  | true =>
    rcases elemP_iff.1 h with h | h | h | h
    · rw [h1] at h; cases h
    · exact absurd h h2
    · rw [h3] at h; cases h
    · exact absurd h h4

/-- The value that the program makes of a part. -/
def encPt (s : ByteArray) : Value :=
  if validP s = true then .iface 267 (.agg #[.string s]) else if s = starB then .iface 269 (.agg #[]) else if letterP s = true then .iface 271 (.agg #[.string s]) else .iface 272 (.agg #[])
theorem encPt_lit {s : ByteArray} (h : validP s = true) : encPt s = .iface 267 (.agg #[.string s]) := if_pos h
theorem encPt_any {s : ByteArray} (h : s = starB) : encPt s = .iface 269 (.agg #[]) := by
  unfold encPt
  rw [if_neg (by rw [h, star_validP]; simp), if_pos h]
theorem encPt_var {s : ByteArray} (h : letterP s = true) : encPt s = .iface 271 (.agg #[.string s]) := by
  unfold encPt
  rw [if_neg (by rw [letter_validP h]; simp), if_neg (letter_ne h).1, if_pos h]
theorem encPt_rest {s : ByteArray} (h : s = star2B) : encPt s = .iface 272 (.agg #[]) := by
  unfold encPt
  rw [if_neg (by rw [h, star2_validP]; simp), if_neg (by rw [h]; exact fun e => star_ne e.symm), if_neg (by rw [h, star2_letterP]; simp)]
theorem onePt (s : ByteArray) : (encPt s).oneCell' = true := by
  unfold encPt
  repeat' split
  all_goals rfl
theorem encPt_form (s : ByteArray) : ∃ t v, encPt s = .iface t v := by
  unfold encPt
  repeat' split
  all_goals exact ⟨_, _, rfl⟩
theorem holds_one' {α : Type} [Inhabited α] (enc : α → Value) (e : TypeId) (w : World) (x : α) {u : Value} (h : enc x = u) : Holds enc (w.alloc (.cells #[u] e)) (.slice (some ⟨w.heap.size, 0, none⟩) 1 1) [x] := by subst h; exact holds_one enc e w x
theorem elemPT : Elem Tryz.prog 257 .nilIface 16 := by unfold Elem; kernel_rfl

set_option maxHeartbeats 1000000 in
theorem readPart (s : ByteArray) (b : Bool) (w : World) (hl : s.size ≤ 140737488351232) :
    Calls Tryz.prog 226 #[.string s, .bool b] w fun e w' => e = .returned (.tuple #[if elemP s b = true then encPt s else .nilIface, .bool (elemP s b)]) ∧ Below w.heap.size w w' := by
  by_cases hv : validP s = true
  · have he : elemP s b = true := elemP_iff.2 (Or.inl hv)
    rw [he, if_pos rfl, encPt_lit hv]
    have HV := Lib.hid hv
    clear hv he
    go_enter Tryz.func226, Tryz.ntmps226
    go_wp2_with fail
    refine (implValidPart _ _ hl).mono ?_
    rintro e w1 ⟨rfl, hb⟩
    rw [HV.out]
    go_wp2
    go_ret2
    exact ⟨rfl, hb⟩
  · have hv : validP s = false := by simpa using hv
    have HV := Lib.hid hv
    by_cases hs : s = starB
    · have he : elemP s b = true := elemP_iff.2 (Or.inr (Or.inl hs))
      rw [he, if_pos rfl, encPt_any hs]
      have HQ := Lib.hid (star_yes hs)
      clear hv he hs
      go_enter Tryz.func226, Tryz.ntmps226
      go_wp2_with fail
      refine (implValidPart _ _ hl).mono ?_
      rintro e w1 ⟨rfl, hb⟩
      rw [HV.out]
      have hq := HQ.out
      go_wp2
      go_ret2
      exact ⟨rfl, hb⟩
    · by_cases hx : letterP s = true
      · have he : elemP s b = true := elemP_iff.2 (Or.inr (Or.inr (Or.inl hx)))
        rw [he, if_pos rfl, encPt_var hx]
        have HQ := Lib.hid (star_no hs)
        have HX := Lib.hid hx
        clear hv he hs hx
        go_enter Tryz.func226, Tryz.ntmps226
        go_wp2_with fail
        refine (implValidPart _ _ hl).mono ?_
        rintro e w1 ⟨rfl, hb⟩
        rw [HV.out]
        have hq := HQ.out
        go_wp2_with fail
        refine (isVariable _ _ hl).mono ?_
        rintro e w2 ⟨rfl, rfl⟩
        rw [HX.out]
        go_wp2
        go_ret2
        exact ⟨rfl, hb⟩
      · have hx : letterP s = false := by simpa using hx
        by_cases h2 : s = star2B ∧ b = true
        · have he : elemP s b = true := elemP_iff.2 (Or.inr (Or.inr (Or.inr h2)))
          rw [he, if_pos rfl, encPt_rest h2.1]
          have HQ := Lib.hid (star_no hs)
          have HX := Lib.hid hx
          have HQ2 := Lib.hid (star2_yes h2.1)
          obtain ⟨-, rfl⟩ := h2
          clear hv he hs hx
          go_enter Tryz.func226, Tryz.ntmps226
          go_wp2_with fail
          refine (implValidPart _ _ hl).mono ?_
          rintro e w1 ⟨rfl, hb⟩
          rw [HV.out]
          have hq := HQ.out
          go_wp2_with fail
          refine (isVariable _ _ hl).mono ?_
          rintro e w2 ⟨rfl, rfl⟩
          rw [HX.out]
          have hq2 := HQ2.out
          go_wp2
          go_ret2
          exact ⟨rfl, hb⟩
        · have he : elemP s b = false := elemP_no hv hs hx h2
          rw [he, if_neg (by simp)]
          have HQ := Lib.hid (star_no hs)
          have HX := Lib.hid hx
          have HQ2 := Lib.hid (show ((s.toList == [42, 42]) && b) = false by
            cases b with
            | false => simp
            | true => rw [star2_no (fun e => h2 ⟨e, rfl⟩)]; rfl)
          clear hv he hs hx
          go_enter Tryz.func226, Tryz.ntmps226
          go_wp2_with fail
          refine (implValidPart _ _ hl).mono ?_
          rintro e w1 ⟨rfl, hb⟩
          rw [HV.out]
          have hq := HQ.out
          go_wp2_with fail
          refine (isVariable _ _ hl).mono ?_
          rintro e w2 ⟨rfl, rfl⟩
          rw [HX.out]
          cases hc : (s.toList == [42, 42]) with
          | false =>
            go_wp2
            go_ret2
            exact ⟨rfl, hb⟩
          | true =>
            have hq2 := HQ2.out
            rw [hc] at hq2
            have hbf : b = false := by simpa using hq2
            subst hbf
            clear hq2
            go_wp2
            go_ret2
            exact ⟨rfl, hb⟩


theorem ret_two {v : Value} {a b : Bool} (h : a = b) : Ending.returned (.tuple #[v, .bool a]) = .returned (.tuple #[v, .bool b]) := by rw [h]
theorem last_is {k n : Nat} {l : List ByteArray} (h : n = l.length) : (((k : Nat) : Int) == ((n : Nat) : Int) - 1) = decide (k + 1 = l.length) := by
  by_cases e : k + 1 = l.length
  · rw [decide_eq_true e]; simp; omega
  · rw [decide_eq_false e]; simp; omega
def ifP (c : Bool) (l : List ByteArray) : List ByteArray := if c = true then l else []
set_option maxHeartbeats 2000000 in
theorem readParts (v : Value) (l : List ByteArray) (w : World) (h : Holds Value.string w v l) (hs : bulk l ≤ 100000000) :
    Calls Tryz.prog 213 #[.agg #[v]] w fun e w' => ∃ v', e = .returned (.tuple #[v', .bool (validPat l)]) ∧ Own 257 encPt w.heap.size w' v' (ifP (validPat l) l) ∧ Below w.heap.size w w' := by
  obtain ⟨x, n, cap, rfl, hn, hcap, hh⟩ := h.shapeN
  have hll := bigLen hs
  have HS := Lib.hid (fun k (hk : k < l.length) => size_nth hs hk)
  rw [← hn] at hll
  have HN := Lib.hid hn
  have HH := Lib.hid hh
  have HB0 := Lib.hid ((Below.refl w.heap.size w).alloc (Nat.le_refl _) (.cells #[.slice x n cap] 166))
  have HC0 := Lib.hid (Ret.Box.new w (.slice x n cap) 166)
  by_cases h6 : n ≤ 6
  · clear hn h hh hs
    obtain ⟨i0, hi, hz0, hz1, hz2⟩ := info_parts elemPT
    have HI := Lib.hid hi; have HZ0 := Lib.hid hz0; have HZ1 := Lib.hid hz1; have HZ2 := Lib.hid hz2
    clear hi hz0 hz1 hz2
    go_enter Tryz.func213, Tryz.ntmps213
    go_wp2_with (at_make; refine wpList_make_own _ rfl _ _ 246 rfl (w.heap.size + 1) 257 i0 .nilIface 1 Tryz.underlying246 HI.out HZ0.out HZ1.out _ _ _ n rfl rfl rfl (by rw [HZ2.out]; omega) (by unfold maxLen; omega) (by simp) ?_)
    intro w1 hown hgrow
    have HO := Lib.hid (show Own 257 encPt (w.heap.size + 1) w1 (.slice (some ⟨w.heap.size + 1, 0, none⟩) 0 n) [] from hown)
    have HC1 := Lib.hid (HC0.out.grown hgrow (by simp))
    have HB1 := Lib.hid (HB0.out.grown hgrow (by simp) (fun g hg => by cases hg))
    clear hown hgrow
    have hc1 := HC1.out.cell
    go_wp2_with fail
    clear hc1
    go_loopw [4, 20] (fun pv i wr => ∃ k : Nat, k ≤ n ∧ i = .int .i64 k ∧ Hid (Own 257 encPt (w.heap.size + 1) wr pv (l.take k)) ∧ Hid (allE l k) ∧ Hid (Ret.Box wr w.heap.size (.slice x n cap) 166) ∧ Hid (Below w.heap.size w wr)) (fun _ i _ => n - (intOf i).toNat)
    case atStart => exact ⟨0, Nat.zero_le _, rfl, HO, Lib.hid (allE_zero l), HC1, HB1⟩
    case round =>
      obtain ⟨k, hk, rfl, ho, ha, hc, hb⟩ := hrel
      by_cases hlt : k < n
      · have hlen := HN.out
        obtain ⟨b, off, rfl, hd⟩ := (HH.out.on hb.out).at (j := k) (by omega)
        have hsz := HS.out k (by omega)
        have hc1 := hc.out.cell
        clear hlen
        go_wp2_with fail
        rw [show (((k : Nat) : Int) == ((n : Nat) : Int) - 1) = decide (k + 1 = l.length) from last_is HN.out]
        refine (readPart _ _ _ (by omega)).mono ?_
        rintro e w2 ⟨rfl, hb2⟩
        have HB2 := Lib.hid (hb.out.trans (hb2.mono hb.out.size))
        have HC2 := Lib.hid (hc.out.on hb2)
        have HO2 := Lib.hid (ho.out.on hb2)
        clear hb2 hd hc1 hsz
        cases he : elemP (nth l k) (decide (k + 1 = l.length)) with
        | false =>
          have HV := Lib.hid (validPat_not (by have := HN.out; omega) he)
          rw [if_neg (by simp)]
          clear he
          go_wp2
          go_ret2
          exact ⟨_, ret_two HV.out.symm, by rw [HV.out]; exact Own.nil _ _ _ _, HB2.out⟩
        | true =>
          have HA2 := Lib.hid (allE_succ ha.out he)
          obtain ⟨t5, v5, h5⟩ := encPt_form (nth l k)
          rw [if_pos rfl, h5]
          have H5 := Lib.hid h5
          clear he h5
          have hlen : (l.take k).length = k := by rw [List.length_take]; have := HN.out; omega
          have HL := Lib.hid hlen
          have HX := Lib.hid (show l.take k ++ [nth l k] = l.take (k + 1) by rw [nth_eq (by have := HN.out; omega)]; exact (List.take_succ_eq_append_getElem (by have := HN.out; omega)).symm)
          have HO3 := Lib.hid (HO2.out.on ((Below.refl _ _).alloc (Nat.le_refl _) (.cells #[.iface t5 v5] 257)))
          have HC3 := Lib.hid (HC2.out.on ((Below.refl _ _).alloc (Nat.le_refl _) (.cells #[.iface t5 v5] 257)))
          have HB3 := Lib.hid (HB2.out.alloc HB2.out.size (.cells #[.iface t5 v5] 257))
          have HSZ := Lib.hid (HC2.out.lt)
          clear hlen
          go_wp2_with (at_builtin; refine wpList_app (enc := encPt) (B := w.heap.size + 1) (l := l.take k) (m := [nth l k]) rfl _ _ rfl Tryz.underlying246 elemPT rfl rfl rfl HO3.out (holds_one' encPt 257 _ _ H5.out) onePt (by rw [HL.out]; simp; omega) (by rw [HL.out]; unfold maxLen; simp; omega) (by have := HSZ.out; simp; omega) ?_)
          intro v2 w3 ho3 hg3
          have HO4 := Lib.hid (HX.out ▸ ho3)
          have HC4 := Lib.hid (HC3.out.grown hg3 (fun e => by have := (HO3.out.lt _ e.symm).1; omega))
          have HB4 := Lib.hid (HB3.out.grown hg3 (by have := HSZ.out; simp; omega) (fun g hh => by have := (HO3.out.lt g hh).1; omega))
          clear ho3 hg3
          go_wp2_with fail
          go_roundw
          case rel => exact ⟨k + 1, by omega, by go_num, HO4, HA2, HC4, HB4⟩
          case measure => simp [intOf]; omega
      · obtain rfl : k = n := by omega
        have HV := Lib.hid (show validPat l = true by rw [validPat_all (HN.out ▸ ha.out)]; exact decide_eq_true (by have := HN.out; omega))
        clear hlt
        go_wp2
        go_ret2
        refine ⟨_, ret_two HV.out.symm, ?_, hb.out⟩
        rw [HV.out]
        have := ho.out.mono (Nat.le_succ _)
        rw [HN.out, List.take_length] at this
        exact this
  · have HV := Lib.hid (validPat_long (l := l) (by omega))
    have h7 : (6 : Int) < (n : Int) := by omega
    rw [HV.out]
    clear hn h hh hs h6
    go_enter Tryz.func213, Tryz.ntmps213
    go_wp2
    go_ret2
    exact ⟨_, rfl, Own.nil _ _ _ _, HB0.out⟩
end Go.Proofs.YtcidfmmeonhkhaaGreatDoor.Row
/- Contracts of ValidPattern, the program's and the model's. No conditions but that lengths fit. -/
namespace Go.Proofs.YtcidfmmeonhkhaaGreatDoor.Row
open Go.ChangeShapes Go.WideShapes Go.ChangeAt Go.RowKit Go.Instr
set_option linter.unusedVariables false
set_option maxRecDepth 100000

set_option maxHeartbeats 1000000 in
theorem implValidPattern (v : Value) (l : List ByteArray) (w : World) (h : Holds Value.string w v l) (hl : bulk l ≤ 100000000) :
    Calls Tryz.prog 192 #[.agg #[v]] w fun e w' => e = .returned (.bool (validPat l)) ∧ Below w.heap.size w w' := by
  obtain ⟨x, n, cap, rfl, hn, hcap, hh⟩ := h.shapeN
  have HL := Lib.hid hl
  have HH := Lib.hid (hh.on ((Below.refl w.heap.size w).alloc (Nat.le_refl _) (.cells #[.slice x n cap] 166)))
  have HB0 := Lib.hid ((Below.refl w.heap.size w).alloc (Nat.le_refl _) (.cells #[.slice x n cap] 166))
  clear hn h hh hl
  go_enter Tryz.func192, Tryz.ntmps192
  go_wp2_with fail
  refine (readParts _ l _ HH.out HL.out).mono ?_
  rintro e w1 ⟨v1, rfl, ho, hb⟩
  have HB1 := Lib.hid (HB0.out.trans (hb.mono HB0.out.size))
  clear ho hb
  go_wp2
  go_ret
  exact ⟨rfl, HB1.out⟩

set_option maxHeartbeats 2000000 in
theorem specValidPattern (v : Value) (l : List ByteArray) (w : World) (h : Holds Value.string w v l) (hl : bulk l ≤ 100000000) :
    Calls Tryz.prog 194 #[.agg #[v]] w fun e w' => e = .returned (.bool (validPat l)) ∧ Below w.heap.size w w' := by
  obtain ⟨x, n, cap, rfl, hn, hcap, hh⟩ := h.shapeN
  have hll := bigLen hl
  have HS := Lib.hid (fun k (hk : k < l.length) => size_nth hl hk)
  rw [← hn] at hll
  have HN := Lib.hid hn
  have HH := Lib.hid hh
  have HB0 := Lib.hid ((Below.refl w.heap.size w).alloc (Nat.le_refl _) (.cells #[.slice x n cap] 166))
  have HC0 := Lib.hid (Ret.Box.new w (.slice x n cap) 166)
  clear hn h hh hl
  go_enter Tryz.func194, Tryz.ntmps194
  go_wp2_with fail
  go_loopw [3] (fun i wr => ∃ k : Nat, k ≤ n ∧ i = .int .i64 k ∧ Hid (allE l k) ∧ Hid (Ret.Box wr w.heap.size (.slice x n cap) 166) ∧ Hid (Below w.heap.size w wr)) (fun i _ => n - (intOf i).toNat)
  case atStart => exact ⟨0, Nat.zero_le _, rfl, Lib.hid (allE_zero l), HC0, HB0⟩
  case round =>
    obtain ⟨k, hk, rfl, ha, hc, hb⟩ := hrel
    have hc1 := hc.out.cell
    by_cases hlt : k < n
    · have hlen := HN.out
      obtain ⟨b, off, rfl, hd⟩ := (HH.out.on hb.out).at (j := k) (by omega)
      have hsz := HS.out k (by omega)
      clear hlen
      have HE := Lib.hid (fun (he : elemP (nth l k) (decide (k + 1 = l.length)) = true) => allE_succ ha.out he)
      by_cases hv : validP (nth l k) = true
      · have HA := Lib.hid (HE.out (elemP_iff.2 (Or.inl hv)))
        have HV := Lib.hid hv
        clear HE hv
        go_wp2_with fail
        refine (specValidPart _ _ (by omega)).mono ?_
        rintro e w2 ⟨rfl, rfl⟩
        rw [HV.out]
        go_wp2_with fail
        go_roundw
        case rel => exact ⟨k + 1, by omega, by go_num, HA, hc, hb⟩
        case measure => simp [intOf]; omega
      · have hv : validP (nth l k) = false := by simpa using hv
        have HV := Lib.hid hv
        by_cases hs : nth l k = starB
        · have HA := Lib.hid (HE.out (elemP_iff.2 (Or.inr (Or.inl hs))))
          have HQ := Lib.hid (show ((nth l k).toList == [42]) = true from star_yes hs)
          clear HE hv hs
          go_wp2_with fail
          refine (specValidPart _ _ (by omega)).mono ?_
          rintro e w2 ⟨rfl, rfl⟩
          rw [HV.out]
          have hq := HQ.out
          go_wp2_with fail
          go_roundw
          case rel => exact ⟨k + 1, by omega, by go_num, HA, hc, hb⟩
          case measure => simp [intOf]; omega
        · have HQ := Lib.hid (show ((nth l k).toList == [42]) = false from star_no hs)
          by_cases hx : letterP (nth l k) = true
          · have HA := Lib.hid (HE.out (elemP_iff.2 (Or.inr (Or.inr (Or.inl hx)))))
            have HX := Lib.hid hx
            clear HE hv hs hx
            go_wp2_with fail
            refine (specValidPart _ _ (by omega)).mono ?_
            rintro e w2 ⟨rfl, rfl⟩
            rw [HV.out]
            have hq := HQ.out
            go_wp2_with fail
            refine (l5Letter _ _ (by omega)).mono ?_
            rintro e w2 ⟨rfl, rfl⟩
            rw [HX.out]
            go_wp2_with fail
            go_roundw
            case rel => exact ⟨k + 1, by omega, by go_num, HA, hc, hb⟩
            case measure => simp [intOf]; omega
          · have hx : letterP (nth l k) = false := by simpa using hx
            have HX := Lib.hid hx
            by_cases h2 : nth l k = star2B
            · have HQ2 := Lib.hid (star2_yes h2)
              by_cases hlast : k + 1 = n
              · have HA := Lib.hid (HE.out (elemP_iff.2 (Or.inr (Or.inr (Or.inr ⟨h2, decide_eq_true (by have := HN.out; omega)⟩)))))
                have hl1 : ¬ ((k : Int) < (n : Int) - 1) := by omega
                clear HE hv hs hx h2
                go_wp2_with fail
                refine (specValidPart _ _ (by omega)).mono ?_
                rintro e w2 ⟨rfl, rfl⟩
                rw [HV.out]
                have hq := HQ.out
                go_wp2_with fail
                refine (l5Letter _ _ (by omega)).mono ?_
                rintro e w2 ⟨rfl, rfl⟩
                rw [HX.out]
                have hq2 := HQ2.out
                go_wp2_with fail
                go_roundw
                case rel => exact ⟨k + 1, by omega, by go_num, HA, hc, hb⟩
                case measure => simp [intOf]; omega
              · have HN2 := Lib.hid (validPat_not (l := l) (k := k) (by have := HN.out; omega) (elemP_no hv hs hx (fun e => by have := of_decide_eq_true e.2; have := HN.out; omega)))
                have hl1 : ((k : Int) < (n : Int) - 1) := by omega
                clear HE hv hs hx h2
                go_wp2_with fail
                refine (specValidPart _ _ (by omega)).mono ?_
                rintro e w2 ⟨rfl, rfl⟩
                rw [HV.out]
                have hq := HQ.out
                go_wp2_with fail
                refine (l5Letter _ _ (by omega)).mono ?_
                rintro e w2 ⟨rfl, rfl⟩
                rw [HX.out]
                have hq2 := HQ2.out
                go_wp2_with fail
                go_ret
                exact ⟨ret_bool HN2.out.symm, hb.out⟩
            · have HN2 := Lib.hid (validPat_not (l := l) (k := k) (by have := HN.out; omega) (elemP_no hv hs hx (fun e => h2 e.1)))
              have HQ2 := Lib.hid (star2_no h2)
              clear HE hv hs hx h2
              go_wp2_with fail
              refine (specValidPart _ _ (by omega)).mono ?_
              rintro e w2 ⟨rfl, rfl⟩
              rw [HV.out]
              have hq := HQ.out
              go_wp2_with fail
              refine (l5Letter _ _ (by omega)).mono ?_
              rintro e w2 ⟨rfl, rfl⟩
              rw [HX.out]
              have hq2 := HQ2.out
              go_wp2_with fail
              go_ret
              exact ⟨ret_bool HN2.out.symm, hb.out⟩
    · obtain rfl : k = n := by omega
      have HV := Lib.hid (validPat_all (HN.out ▸ ha.out))
      clear hlt
      go_wp2
      go_ret
      refine ⟨ret_bool ?_, hb.out⟩
      rw [HV.out, ← HN.out]
      simp
      omega

end Go.Proofs.YtcidfmmeonhkhaaGreatDoor.Row
/- Contracts of the helpers by which the laws measure, copy, compare, mark and look at slices of bindings (two strings each). No conditions but that lengths fit. -/
namespace Go.Proofs.YtcidfmmeonhkhaaGreatDoor.Row
open Go.ChangeShapes Go.WideShapes Go.ChangeAt Go.RowKit Go.Instr
set_option linter.unusedVariables false
set_option maxRecDepth 100000

/-- A binding: its letter and its value. -/
def encBd (x : ByteArray × ByteArray) : List Value := [.string x.1, .string x.2]
theorem szBd : Sz encBd 2 := fun _ => rfl
theorem kindBd : Kind Tryz.prog 255 encBd (.agg #[.string ByteArray.empty, .string ByteArray.empty]) 2 32 where
  elem := by unfold ElemK; kernel_rfl
  zs := rfl
  pos := by decide
  size := szBd
  one := by intro x u hu; simp [encBd] at hu; rcases hu with rfl | rfl <;> rfl
theorem bdAt {w : World} {x : Option Addr} {n cap : Nat} {l : List (ByteArray × ByteArray)} (h : HoldsK encBd 2 w (.slice x n cap) l) {k : Nat} (hk : k < l.length) :
    ∃ b off, x = some ⟨b, off, none⟩ ∧ w.cell? ⟨b, off + k * 2, none⟩ = some (.string (nth l k).1) ∧ w.cell? ⟨b, off + k * 2 + 1, none⟩ = some (.string (nth l k).2) := by
  obtain ⟨b, off, hx, hc⟩ := h.at szBd hk
  exact ⟨b, off, hx, by have := hc 0 (by decide); simpa [encBd] using this, by have := hc 1 (by decide); simpa [encBd, Nat.add_assoc] using this⟩

/-- Length and sizes of a list of bindings together, up to place k. -/
def bulk2To (l : List (ByteArray × ByteArray)) (k : Nat) : Nat := l.length + ((l.take k).map (fun x => x.1.size + x.2.size)).sum
def bulk2 (l : List (ByteArray × ByteArray)) : Nat := bulk2To l l.length
def szL2 (l : List (ByteArray × ByteArray)) (left : Int) : Int := if (bulk2 l : Int) ≤ left then left - bulk2 l else -1
/-! ### comparing -/
def eqBd (l m : List (ByteArray × ByteArray)) : Bool := decide (l = m)
theorem tl_dec (a b : ByteArray) : (!(a.toList == b.toList)) = !(decide (a = b)) := by
  by_cases h : a = b
  · rw [tl_eq h]; simp [h]
  · rw [tl_ne h]; simp [h]

/-! ### marking -/
/-- The elements that a marking writes: from k on, two numbers an element. -/
def mark2 (k : Int) : Nat → List (ByteArray × ByteArray)
  | 0 => []
  | n + 1 => mark2 k n ++ [(markT (k + 2 * n), markT (k + 2 * n + 1))]
def marked2 (k : Int) (l : List (ByteArray × ByteArray)) (j : Nat) : List (ByteArray × ByteArray) := mark2 k j ++ l.drop j
end Go.Proofs.YtcidfmmeonhkhaaGreatDoor.Row
/- Contracts of the search for a binding, the program's (by a closure handed to slices.IndexFunc) and the model's, and of BindingValue. No conditions but that lengths fit. -/
namespace Go.Proofs.YtcidfmmeonhkhaaGreatDoor.Row
open Go.ChangeShapes Go.WideShapes Go.ChangeAt Go.RowKit Go.Instr
set_option linter.unusedVariables false
set_option maxRecDepth 100000

def isK (k : ByteArray) (x : ByteArray × ByteArray) : Bool := decide (x.1 = k)
/-- The place of the first binding of k; how many there are, if there is none. -/
def fi (l : List (ByteArray × ByteArray)) (k : ByteArray) : Nat := l.findIdx (isK k)
def ixB (l : List (ByteArray × ByteArray)) (k : ByteArray) : Int := if fi l k < l.length then (fi l k : Int) else -1
def bvB (l : List (ByteArray × ByteArray)) (k : ByteArray) : ByteArray := if fi l k < l.length then (nth l (fi l k)).2 else ByteArray.empty
def noK (l : List (ByteArray × ByteArray)) (k : ByteArray) (i : Nat) : Prop := ∀ j, j < i → ¬ (nth l j).1 = k
theorem noK_zero (l : List (ByteArray × ByteArray)) (k : ByteArray) : noK l k 0 := fun j h => absurd h (by omega)
theorem noK_succ {l : List (ByteArray × ByteArray)} {k : ByteArray} {i : Nat} (h : noK l k i) (hc : ¬ (nth l i).1 = k) : noK l k (i + 1) := fun j h1 => by
  by_cases e : j = i
  · subst e; exact hc
  · exact h j (by omega)
theorem fi_at {l : List (ByteArray × ByteArray)} {k : ByteArray} {i : Nat} (hi : i < l.length) (h : noK l k i) (hc : (nth l i).1 = k) : fi l k = i := by
  unfold fi
  rw [List.findIdx_eq hi]
  refine ⟨?_, fun j hj => ?_⟩
  · unfold isK; rw [← nth_eq hi]; exact decide_eq_true hc
  · unfold isK; rw [← nth_eq (Nat.lt_trans hj hi)]; exact decide_eq_false (h j hj)
theorem fi_none {l : List (ByteArray × ByteArray)} {k : ByteArray} (h : noK l k l.length) : fi l k = l.length := by
  unfold fi
  rw [List.findIdx_eq_length]
  intro x hx
  obtain ⟨j, hj, rfl⟩ := List.getElem_of_mem hx
  unfold isK; rw [← nth_eq hj]; exact decide_eq_false (h j hj)
theorem ixB_at {l : List (ByteArray × ByteArray)} {k : ByteArray} {i : Nat} (hi : i < l.length) (h : noK l k i) (hc : (nth l i).1 = k) : ixB l k = i := by
  unfold ixB; rw [fi_at hi h hc, if_pos hi]
theorem ixB_none {l : List (ByteArray × ByteArray)} {k : ByteArray} (h : noK l k l.length) : ixB l k = -1 := by
  unfold ixB; rw [fi_none h, if_neg (by omega)]
/-- There is none, or there is a place. -/
theorem ixB_cases (l : List (ByteArray × ByteArray)) (k : ByteArray) : (ixB l k = -1 ∧ bvB l k = ByteArray.empty ∧ ¬ fi l k < l.length) ∨ ∃ i, i < l.length ∧ ixB l k = (i : Int) ∧ fi l k = i ∧ bvB l k = (nth l i).2 := by
  by_cases h : fi l k < l.length
  · exact Or.inr ⟨fi l k, h, by unfold ixB; rw [if_pos h], rfl, by unfold bvB; rw [if_pos h]⟩
  · exact Or.inl ⟨by unfold ixB; rw [if_neg h], by unfold bvB; rw [if_neg h], h⟩
theorem tle_yes {a b : ByteArray} (h : a = b) : (a.toList == b.toList) = true := by subst h; simp
theorem tle_no {a b : ByteArray} (h : ¬ a = b) : (a.toList == b.toList) = false := by
  have : a.toList ≠ b.toList := fun e => h (toList_inj e)
  simpa using this

set_option maxHeartbeats 1000000 in
theorem l5Find (v : Value) (l : List (ByteArray × ByteArray)) (k : ByteArray) (w : World) (h : HoldsK encBd 2 w v l) (hl : l.length ≤ 140737488351232) :
    Calls Tryz.prog 225 #[v, .string k] w fun e w' => e = .returned (.int .i64 (ixB l k)) ∧ w = w' := by
  obtain ⟨x, n, cap, rfl, hn, hcap, hh⟩ := h.shapeN
  rw [← hn] at hl
  have HN := Lib.hid hn
  have HH := Lib.hid hh
  clear hn h hh
  go_enter Tryz.func225, Tryz.ntmps225
  go_wp2
  go_loop [5] (fun iv => ∃ i : Nat, i ≤ n ∧ iv = .int .i64 i ∧ Hid (noK l k i)) (fun iv => n - (intOf iv).toNat)
  case atStart => exact ⟨0, Nat.zero_le _, rfl, Lib.hid (noK_zero l k)⟩
  case round =>
    obtain ⟨i, hi, rfl, ha⟩ := hrel
    by_cases hlt : i < n
    · have hlen := HN.out
      obtain ⟨b, off, rfl, hc, -⟩ := bdAt HH.out (k := i) (by omega)
      by_cases he : (nth l i).1 = k
      · have HV := Lib.hid (ixB_at (by omega) ha.out he)
        have ht := tle_yes he
        clear hlen he
        go_wp2
        go_ret
        exact ⟨ret_int HV.out.symm, rfl⟩
      · have HA := Lib.hid (noK_succ ha.out he)
        have ht := tle_no he
        clear hlen he
        go_wp2
        go_round
        case rel => exact ⟨i + 1, by omega, by go_num, HA⟩
        case measure => simp [intOf]; omega
    · obtain rfl : i = n := by omega
      have HV := Lib.hid (ixB_none (HN.out ▸ ha.out))
      clear hlt
      go_wp2
      go_ret
      exact ⟨ret_int HV.out.symm, rfl⟩

set_option maxHeartbeats 1000000 in
theorem findClos (a b k : ByteArray) (p : Nat) (w : World) (hc : w.cell? ⟨p, 0, none⟩ = some (.string k)) :
    Calls Tryz.prog 236 #[.agg #[.string a, .string b], .pointer (some ⟨p, 0, none⟩)] w fun e w' => e = .returned (.bool (isK k (a, b))) ∧ Below w.heap.size w w' := by
  have hca : (w.alloc (.cells #[.string a, .string b] 255)).cell? ⟨p, 0, none⟩ = some (.string k) := by rw [World.cell?_alloc_past _ _ _ (cell_lt hc)]; exact hc
  clear hc
  by_cases he : a = k
  · have ht := tle_yes he
    have HV := Lib.hid (show isK k (a, b) = true from decide_eq_true he)
    clear he
    go_enter Tryz.func236, Tryz.ntmps236
    go_wp2
    go_ret
    exact ⟨ret_bool HV.out.symm, (Below.refl _ _).alloc (Nat.le_refl _) _⟩
  · have ht := tle_no he
    have HV := Lib.hid (show isK k (a, b) = false from decide_eq_false he)
    clear he
    go_enter Tryz.func236, Tryz.ntmps236
    go_wp2
    go_ret
    exact ⟨ret_bool HV.out.symm, (Below.refl _ _).alloc (Nat.le_refl _) _⟩

set_option maxHeartbeats 1000000 in
theorem indexFunc (v : Value) (l : List (ByteArray × ByteArray)) (k : ByteArray) (p : Nat) (w : World) (h : HoldsK encBd 2 w v l) (hl : l.length ≤ 140737488351232) (hc : w.cell? ⟨p, 0, none⟩ = some (.string k)) :
    Calls Tryz.prog 235 #[v, .func (.func 236) #[] #[.pointer (some ⟨p, 0, none⟩)]] w fun e w' => e = .returned (.int .i64 (ixB l k)) ∧ Below w.heap.size w w' := by
  obtain ⟨x, n, cap, rfl, hn, hcap, hh⟩ := h.shapeN
  rw [← hn] at hl
  have HN := Lib.hid hn
  have HH := Lib.hid hh
  have HC := Lib.hid hc
  clear hn h hh hc
  go_enter Tryz.func235, Tryz.ntmps235
  go_wp2
  go_loopw [8] (fun iv wr => ∃ i : Nat, i ≤ n ∧ iv = .int .i64 i ∧ Hid (noK l k i) ∧ Hid (Below w.heap.size w wr)) (fun iv _ => n - (intOf iv).toNat)
  case atStart => exact ⟨0, Nat.zero_le _, rfl, Lib.hid (noK_zero l k), Lib.hid (Below.refl _ _)⟩
  case round =>
    obtain ⟨i, hi, rfl, ha, hb⟩ := hrel
    by_cases hlt : i < n
    · have hlen := HN.out
      obtain ⟨b, off, rfl, hc1, hc2⟩ := bdAt (HH.out.on hb.out) (k := i) (by omega)
      have hcp : wr.cell? ⟨p, 0, none⟩ = some (.string k) := by rw [hb.out.cell (cell_lt HC.out)]; exact HC.out
      have HCL := Lib.hid (findClos (nth l i).1 (nth l i).2 k p wr hcp)
      clear hlen hcp
      go_wp2_with fail
      refine HCL.out.mono ?_
      rintro e w2 ⟨rfl, hb2⟩
      have HB2 := Lib.hid (hb.out.trans (hb2.mono hb.out.size))
      clear hb2 hc1 hc2
      by_cases he : (nth l i).1 = k
      · have HV := Lib.hid (ixB_at (by have := HN.out; omega) ha.out he)
        rw [show isK k ((nth l i).1, (nth l i).2) = true from decide_eq_true he]
        clear he
        go_wp2
        go_ret
        exact ⟨ret_int HV.out.symm, HB2.out⟩
      · have HA := Lib.hid (noK_succ ha.out he)
        rw [show isK k ((nth l i).1, (nth l i).2) = false from decide_eq_false he]
        clear he
        go_wp2
        go_roundw
        case rel => exact ⟨i + 1, by omega, by go_num, HA, HB2⟩
        case measure => simp [intOf]; omega
    · obtain rfl : i = n := by omega
      have HV := Lib.hid (ixB_none (HN.out ▸ ha.out))
      clear hlt
      go_wp2
      go_ret
      exact ⟨ret_int HV.out.symm, hb.out⟩

set_option maxHeartbeats 1000000 in
theorem bindingIndex (v : Value) (l : List (ByteArray × ByteArray)) (k : ByteArray) (w : World) (h : HoldsK encBd 2 w v l) (hl : l.length ≤ 140737488351232) :
    Calls Tryz.prog 234 #[v, .string k] w fun e w' => e = .returned (.int .i64 (ixB l k)) ∧ Below w.heap.size w w' := by
  have hb0 := (Below.refl w.heap.size w).alloc (Nat.le_refl _) (.cells #[.string k] 9)
  have HC := Lib.hid (indexFunc v l k w.heap.size _ (h.on hb0) hl (Ret.cell_at rfl))
  have HB0 := Lib.hid hb0
  obtain ⟨x, n, cap, rfl, -, -, -⟩ := h.shapeN
  clear h hb0
  have hmf : ∀ (fn : Fn) (first cap : Array Value) (w : World), (Instr.makeFunc fn first cap).run Tryz.prog w = .ok (.func fn first cap) w := fun _ _ _ _ => rfl
  go_enter Tryz.func234, Tryz.ntmps234
  go_wp2_with fail
  refine HC.out.mono ?_
  rintro e w1 ⟨rfl, hb⟩
  have HB := Lib.hid (HB0.out.trans (hb.mono HB0.out.size))
  clear hb
  go_wp2_with fail
  go_ret
  exact ⟨rfl, HB.out⟩

end Go.Proofs.YtcidfmmeonhkhaaGreatDoor.Row
/- Contracts of slices.Clone on bindings and of matchPart (one part of a pattern against one part of a name). No conditions but that lengths fit. -/
namespace Go.Proofs.YtcidfmmeonhkhaaGreatDoor.Row
open Go.ChangeShapes Go.WideShapes Go.ChangeAt Go.RowKit Go.Instr
set_option linter.unusedVariables false
set_option maxRecDepth 100000

/-- A result that is a slice of bindings of the call's own. -/
def GivesBd (w : World) (l : List (ByteArray × ByteArray)) (e : Ending) (w' : World) : Prop := ∃ v, e = .returned v ∧ OwnK 255 encBd 2 w.heap.size w' v l ∧ Below w.heap.size w w'

set_option maxHeartbeats 1000000 in
theorem cloneBd (v : Value) (l : List (ByteArray × ByteArray)) (w : World) (h : HoldsK encBd 2 w v l) (hl : l.length ≤ 10000000) :
    Calls Tryz.prog 229 #[v] w (GivesBd w l) := by
  obtain ⟨x, cx, rfl, hcx, hh⟩ := h.shape
  cases x with
  | none =>
    have hl0 : l = [] := by
      obtain ⟨x', cap', hv, hc', hh'⟩ := hh
      cases hv
      rcases hh' with h1 | ⟨b, off, h1, _⟩
      · exact h1
      · cases h1
    subst hl0
    have hq : ∀ w : World, (binOp .eql 241 (.slice none 0 cx) (.slice none 0 0)).run Tryz.prog w = .ok (.bool true) w := fun w => by
      exact Lib.run_eql_slice_nil w _ _ _ _ _ _ _ Tryz.underlying241
    clear hh h
    simp only [List.length_nil]
    go_enter Tryz.func229, Tryz.ntmps229
    go_wp2
    go_ret
    exact ⟨_, rfl, OwnK.nil _ _ _ _ _, Below.refl _ _⟩
  | some ad =>
    have HB := Lib.hid ((Below.refl w.heap.size w).alloc (Nat.le_refl _) (.cells #[] 255))
    have HH := Lib.hid (hh.on HB.out)
    have HO := Lib.hid (ownK_empty encBd 2 255 w)
    have hq : ∀ w : World, (binOp .eql 241 (.slice (some ad) l.length cx) (.slice none 0 0)).run Tryz.prog w = .ok (.bool false) w := fun w => by
      exact Lib.run_eql_slice_nil w _ _ _ _ _ _ _ Tryz.underlying241
    clear hh h
    go_enter Tryz.func229, Tryz.ntmps229
    go_wp2_with (at_builtin; refine wpList_appK kindBd (B := w.heap.size) (l := []) (m := l) rfl _ _ rfl Tryz.underlying241 rfl rfl HO.out HH.out (by simp; omega) (by unfold maxLen; simp; omega) (by simp) ?_)
    intro v2 w2 ho hg
    have HO2 := Lib.hid ho; have HB2 := Lib.hid (HB.out.grown hg (by simp) (fun g hh => (HO.out.lt g hh).1))
    clear ho hg
    go_wp2_with fail
    go_ret
    exact ⟨_, rfl, HO2.out, HB2.out⟩

/-- One part of a pattern against one part of a name, with the bindings so far. -/
def stepM (s t : ByteArray) (l : List (ByteArray × ByteArray)) : Option (List (ByteArray × ByteArray)) :=
  if s = starB then some l else if letterP s = true then (if fi l s < l.length then (if (nth l (fi l s)).2 = t then some l else none) else some (l ++ [(s, t)])) else (if s = t then some l else none)
theorem stepM_lit {s t : ByteArray} {l : List (ByteArray × ByteArray)} (h : validP s = true) : stepM s t l = if s = t then some l else none := by
  unfold stepM; rw [if_neg (valid_ne h).1, if_neg (by rw [valid_letterP h]; simp)]
theorem stepM_any {s t : ByteArray} {l : List (ByteArray × ByteArray)} (h : s = starB) : stepM s t l = some l := by
  unfold stepM; rw [if_pos h]
theorem stepM_var {s t : ByteArray} {l : List (ByteArray × ByteArray)} (h : letterP s = true) : stepM s t l = if fi l s < l.length then (if (nth l (fi l s)).2 = t then some l else none) else some (l ++ [(s, t)]) := by
  unfold stepM; rw [if_neg (letter_ne h).1, if_pos h]
def stepM' (s t : ByteArray) (l : List (ByteArray × ByteArray)) : Option (List (ByteArray × ByteArray)) := if fi l s < l.length then (if (nth l (fi l s)).2 = t then some l else none) else some (l ++ [(s, t)])
theorem stepM_len {s t : ByteArray} {l m : List (ByteArray × ByteArray)} (h : stepM s t l = some m) : m.length ≤ l.length + 1 := by
  unfold stepM at h
  repeat' split at h
  all_goals first | (cases h; simp) | cases h
/-- What matchPart answers: a slice of its own and whether it matched. -/
def GivesStep (B : Nat) (w : World) (l : List (ByteArray × ByteArray)) (o : Option (List (ByteArray × ByteArray))) (e : Ending) (w' : World) : Prop :=
  ∃ v, e = .returned (.tuple #[v, .bool o.isSome]) ∧ OwnK 255 encBd 2 B w' v (o.getD l) ∧ Below B w w'
theorem ret_three {v : Value} {a b : Bool} (h : a = b) : Ending.returned (.tuple #[v, .bool a]) = .returned (.tuple #[v, .bool b]) := by rw [h]

/-- What the program's questions after the kind of a part answer. -/
theorem as_lit (v : Value) (w : World) : (Instr.typeAssert (.iface 267 v) 257 267 true).run Tryz.prog w = .ok (.tuple #[v, .bool true]) w := by kernel_rfl
theorem as_var (v : Value) (w : World) : (Instr.typeAssert (.iface 271 v) 257 271 true).run Tryz.prog w = .ok (.tuple #[v, .bool true]) w := by kernel_rfl
theorem as_rest (v : Value) (w : World) : (Instr.typeAssert (.iface 272 v) 257 272 true).run Tryz.prog w = .ok (.tuple #[v, .bool true]) w := by kernel_rfl
theorem as_any_lit (v : Value) (w : World) : (Instr.typeAssert (.iface 269 v) 257 267 true).run Tryz.prog w = .ok (.tuple #[.agg #[.string ByteArray.empty], .bool false]) w := by kernel_rfl
theorem as_any_var (v : Value) (w : World) : (Instr.typeAssert (.iface 269 v) 257 271 true).run Tryz.prog w = .ok (.tuple #[.agg #[.string ByteArray.empty], .bool false]) w := by kernel_rfl
theorem as_var_lit (v : Value) (w : World) : (Instr.typeAssert (.iface 271 v) 257 267 true).run Tryz.prog w = .ok (.tuple #[.agg #[.string ByteArray.empty], .bool false]) w := by kernel_rfl
theorem as_lit_rest (v : Value) (w : World) : (Instr.typeAssert (.iface 267 v) 257 272 true).run Tryz.prog w = .ok (.tuple #[.agg #[], .bool false]) w := by kernel_rfl
theorem as_any_rest (v : Value) (w : World) : (Instr.typeAssert (.iface 269 v) 257 272 true).run Tryz.prog w = .ok (.tuple #[.agg #[], .bool false]) w := by kernel_rfl
theorem as_var_rest (v : Value) (w : World) : (Instr.typeAssert (.iface 271 v) 257 272 true).run Tryz.prog w = .ok (.tuple #[.agg #[], .bool false]) w := by kernel_rfl

set_option maxHeartbeats 2000000 in
theorem matchPart (s t : ByteArray) (v : Value) (l : List (ByteArray × ByteArray)) (B : Nat) (w : World) (hs : validP s = true ∨ s = starB ∨ letterP s = true) (h : OwnK 255 encBd 2 B w v l) (hB : B ≤ w.heap.size) (hl : l.length ≤ 10000000) :
    Calls Tryz.prog 233 #[encPt s, .string t, v] w (GivesStep B w l (stepM s t l)) := by
  obtain ⟨x, n, cap, rfl, hn, hcap, ho⟩ := h.shapeN
  rcases hs with hs | hs | hs
  · rw [encPt_lit hs, stepM_lit hs]
    have HO := Lib.hid ho
    have hk1 := fun w => as_lit (.agg #[.string s]) w
    clear ho h hn
    by_cases he : s = t
    · rw [if_pos he]
      have ht := tle_yes he
      clear hs he
      go_enter Tryz.func233, Tryz.ntmps233
      go_wp2_with fail
      go_quiet (fail)
      go_wp2_with fail
      go_ret2
      exact ⟨_, rfl, HO.out.on (below_drewN ((Below.refl _ _).alloc (Nat.le_refl _) _) _), below_drewN ((Below.refl _ _).alloc hB _) _⟩
    · rw [if_neg he]
      have ht := tle_no he
      clear hs he
      go_enter Tryz.func233, Tryz.ntmps233
      go_wp2_with fail
      go_quiet (fail)
      go_wp2_with fail
      go_ret2
      exact ⟨_, rfl, HO.out.on (below_drewN ((Below.refl _ _).alloc (Nat.le_refl _) _) _), below_drewN ((Below.refl _ _).alloc hB _) _⟩
  · rw [encPt_any hs, stepM_any hs]
    have HO := Lib.hid ho
    have hk1 := fun w => as_any_lit (.agg #[]) w
    have hk2 := fun w => as_any_var (.agg #[]) w
    clear ho h hn hs
    go_enter Tryz.func233, Tryz.ntmps233
    go_wp2
    go_ret2
    exact ⟨_, rfl, HO.out, Below.refl _ _⟩
  · rw [encPt_var hs, stepM_var hs]
    have HO := Lib.hid ho
    have HH := Lib.hid (ho.holds.on ((Below.refl w.heap.size w).alloc (Nat.le_refl _) (.cells #[.string s] 271)))
    have HN := Lib.hid hn
    have hk1 := fun w => as_var_lit (.agg #[.string s]) w
    have hk2 := fun w => as_var (.agg #[.string s]) w
    clear ho h hn hs
    have HW : Hid (stepM' s t l = (if fi l s < l.length then (if (nth l (fi l s)).2 = t then some l else none) else some (l ++ [(s, t)]))) := Lib.hid rfl
    rw [← HW.out]
    go_enter Tryz.func233, Tryz.ntmps233
    go_wp2_with fail
    refine (bindingIndex _ l s _ HH.out (by have := HN.out; omega)).mono ?_
    rintro e w1 ⟨rfl, hb1⟩
    have HB1 := Lib.hid (((Below.refl B w).alloc hB (.cells #[.string s] 271)).trans (hb1.mono (by simp; omega)))
    have HK1 := Lib.hid ((Ret.NC.new w (.string s) 271).on hb1)
    have HO1 := Lib.hid ((HO.out.on ((Below.refl _ _).alloc (Nat.le_refl _) (.cells #[.string s] 271))).on hb1)
    have HS1 := Lib.hid (show B ≤ w1.heap.size by have := hb1.size; simp at this; omega)
    clear hb1
    rcases ixB_cases l s with ⟨h1, -, h2⟩ | ⟨i, hi, h1, h3, h2⟩
    · rw [h1]
      have HV : Hid (stepM' s t l = some (l ++ [(s, t)])) := Lib.hid (by unfold stepM'; rw [if_neg h2])
      have hc1 := HK1.out.1
      have HB2 := Lib.hid (HB1.out.alloc HS1.out (.cells #[.string s, .string t] 255))
      have HO2 := Lib.hid (HO1.out.on ((Below.refl _ _).alloc (Nat.le_refl _) (.cells #[.string s, .string t] 255)))
      clear h1 h2
      go_wp2_with (at_builtin; refine wpList_appK kindBd (B := B) (l := l) (m := [(s, t)]) rfl _ _ rfl Tryz.underlying241 rfl rfl HO2.out (holdsK_one szBd 255 w1 (s, t)) (by simp; omega) (by unfold maxLen; simp; omega) (by have := HS1.out; simp; omega) ?_)
      intro v2 w2 ho2 hg2
      have HO3 := Lib.hid ho2
      have HB3 := Lib.hid (HB2.out.grown hg2 (by have := HS1.out; simp; omega) (fun g hh => (HO2.out.lt g hh).1))
      clear ho2 hg2
      go_wp2_with fail
      go_ret2
      exact ⟨_, ret_three (by rw [HV.out]; rfl), by rw [HV.out]; exact HO3.out, HB3.out⟩
    · rw [h1]
      obtain ⟨b, off, rfl, -, hc2⟩ := bdAt HO1.out.holds (k := i) hi
      have hi2 : i < n := by have := HN.out; omega
      have hc1 := HK1.out.1
      by_cases he : (nth l i).2 = t
      · have HV : Hid (stepM' s t l = some l) := Lib.hid (by unfold stepM'; rw [h3, if_pos hi, if_pos he])
        have ht := tle_yes he
        clear h1 h2 h3 he
        go_wp2_with fail
        go_quiet (fail)
        go_wp2_with fail
        go_ret2
        exact ⟨_, ret_three (by rw [HV.out]; rfl), by rw [HV.out]; exact HO1.out.on (below_drewN (Below.refl _ _) _), below_drewN HB1.out _⟩
      · have HV : Hid (stepM' s t l = none) := Lib.hid (by unfold stepM'; rw [h3, if_pos hi, if_neg he])
        have ht := tle_no he
        clear h1 h2 h3 he
        go_wp2_with fail
        go_quiet (fail)
        go_wp2_with fail
        go_ret2
        exact ⟨_, ret_three (by rw [HV.out]; rfl), by rw [HV.out]; exact HO1.out.on (below_drewN (Below.refl _ _) _), below_drewN HB1.out _⟩
end Go.Proofs.YtcidfmmeonhkhaaGreatDoor.Row
/- Contracts of matchParts (the parts of a pattern against those of a name) and of Match, the program's and the model's. No conditions but that lengths fit. -/
namespace Go.Proofs.YtcidfmmeonhkhaaGreatDoor.Row
open Go.ChangeShapes Go.WideShapes Go.ChangeAt Go.RowKit Go.Instr
set_option linter.unusedVariables false
set_option maxRecDepth 100000

/-- The parts of a pattern against those of a name, with the bindings so far. -/
def matchL : List ByteArray → List ByteArray → List (ByteArray × ByteArray) → Option (List (ByteArray × ByteArray))
  | [], [], l => some l
  | [], _ :: _, _ => none
  | s :: ps, [], l => if s = star2B then some l else none
  | s :: ps, t :: ts, l => if s = star2B then some l else match stepM s t l with
    | none => none
    | some m => matchL ps ts m
theorem matchL_rest {p q : List ByteArray} {l : List (ByteArray × ByteArray)} {k : Nat} (hk : k < p.length) (h : nth p k = star2B) : matchL (p.drop k) (q.drop k) l = some l := by
  rw [drop_nth hk]
  cases q.drop k with
  | nil => unfold matchL; rw [if_pos h]
  | cons a r => unfold matchL; rw [if_pos h]
theorem matchL_short {p q : List ByteArray} {l : List (ByteArray × ByteArray)} {k : Nat} (hk : k < p.length) (h : ¬ nth p k = star2B) (hq : ¬ k < q.length) : matchL (p.drop k) (q.drop k) l = none := by
  rw [drop_nth hk, List.drop_eq_nil_of_le (show q.length ≤ k by omega)]
  unfold matchL; rw [if_neg h]
theorem matchL_no {p q : List ByteArray} {l : List (ByteArray × ByteArray)} {k : Nat} (hk : k < p.length) (h : ¬ nth p k = star2B) (hq : k < q.length) (hs : stepM (nth p k) (nth q k) l = none) : matchL (p.drop k) (q.drop k) l = none := by
  rw [drop_nth hk, drop_nth hq]
  unfold matchL; rw [if_neg h, hs]
theorem matchL_on {p q : List ByteArray} {l m : List (ByteArray × ByteArray)} {k : Nat} (hk : k < p.length) (h : ¬ nth p k = star2B) (hq : k < q.length) (hs : stepM (nth p k) (nth q k) l = some m) : matchL (p.drop k) (q.drop k) l = matchL (p.drop (k + 1)) (q.drop (k + 1)) m := by
  rw [drop_nth hk, drop_nth hq]
  conv => lhs; unfold matchL
  rw [if_neg h, hs]
theorem matchL_end {p q : List ByteArray} {l : List (ByteArray × ByteArray)} (hq : p.length ≤ q.length) : matchL (p.drop p.length) (q.drop p.length) l = if q.length = p.length then some l else none := by
  rw [List.drop_length]
  by_cases h : q.length = p.length
  · rw [List.drop_eq_nil_of_le (show q.length ≤ p.length by omega), if_pos h]; rfl
  · rw [drop_nth (show p.length < q.length by omega), if_neg h]; rfl
theorem validPat_elem {p : List ByteArray} (h : validPat p = true) {k : Nat} (hk : k < p.length) : validP (nth p k) = true ∨ nth p k = starB ∨ letterP (nth p k) = true ∨ nth p k = star2B := by
  rcases elemP_iff.1 ((validPat_iff.1 h).2 k hk) with h | h | h | h
  · exact Or.inl h
  · exact Or.inr (Or.inl h)
  · exact Or.inr (Or.inr (Or.inl h))
  · exact Or.inr (Or.inr (Or.inr h.1))
theorem encPt_notrest {s : ByteArray} (h : validP s = true ∨ s = starB ∨ letterP s = true) : ∃ t v, encPt s = .iface t v ∧ ∀ w : World, (Instr.typeAssert (.iface t v) 257 272 true).run Tryz.prog w = .ok (.tuple #[.agg #[], .bool false]) w := by
  rcases h with h | h | h
  · exact ⟨_, _, encPt_lit h, fun w => as_lit_rest _ w⟩
  · exact ⟨_, _, encPt_any h, fun w => as_any_rest _ w⟩
  · exact ⟨_, _, encPt_var h, fun w => as_var_rest _ w⟩
theorem matchPartU (s t : ByteArray) (u v : Value) (hu : encPt s = u) (l : List (ByteArray × ByteArray)) (B : Nat) (w : World) (hs : validP s = true ∨ s = starB ∨ letterP s = true) (h : OwnK 255 encBd 2 B w v l) (hB : B ≤ w.heap.size) (hl : l.length ≤ 10000000) :
    Calls Tryz.prog 233 #[u, .string t, v] w (GivesStep B w l (stepM s t l)) := hu ▸ matchPart s t v l B w hs h hB hl
/-- What matchParts answers. -/
def GivesM (B : Nat) (w : World) (o : Option (List (ByteArray × ByteArray))) (e : Ending) (w' : World) : Prop :=
  ∃ v, e = .returned (.tuple #[v, .bool o.isSome]) ∧ (∀ m, o = some m → OwnK 255 encBd 2 B w' v m) ∧ Below B w w'

theorem Far.below {α : Type} [Inhabited α] {enc : α → Value} {B : Nat} {w w' : World} {v : Value} {l : List α} (h : Far enc B w v l) (hb : Below B w w') : Holds enc w' v l := by
  obtain ⟨x, cap, hv, hc, hh⟩ := h
  refine ⟨x, cap, hv, hc, ?_⟩
  rcases hh with h1 | ⟨b, off, hx, hlt, h2⟩
  · exact Or.inl h1
  · exact Or.inr ⟨b, off, hx, fun j hj => by rw [hb.cell (p := ⟨b, off + j, none⟩) hlt]; exact h2 j hj⟩
theorem Far.shapeN {α : Type} [Inhabited α] {enc : α → Value} {B : Nat} {w : World} {v : Value} {l : List α} (h : Far enc B w v l) : ∃ x n cap, v = .slice x n cap ∧ n = l.length ∧ n ≤ cap ∧ Far enc B w (.slice x n cap) l := by
  obtain ⟨x, cap, rfl, hc, ho⟩ := h
  exact ⟨x, _, cap, rfl, rfl, hc, x, cap, rfl, hc, ho⟩

set_option maxHeartbeats 2000000 in
theorem matchParts (vp vt v : Value) (p q : List ByteArray) (l : List (ByteArray × ByteArray)) (B : Nat) (w : World) (hv : validPat p = true) (hp : Far encPt B w vp p) (hq : Far Value.string B w vt q) (hql : q.length ≤ 100000000) (h : OwnK 255 encBd 2 B w v l) (hB : B ≤ w.heap.size) (hl : l.length ≤ 5000000) :
    Calls Tryz.prog 230 #[vp, vt, v] w (GivesM B w (matchL p q l)) := by
  obtain ⟨xp, np, cp, rfl, hnp, hcp, hp⟩ := hp.shapeN
  obtain ⟨xq, nq, cq, rfl, hnq, hcq, hq⟩ := hq.shapeN
  have hp6 := (validPat_iff.1 hv).1
  rw [← hnp] at hp6
  rw [← hnq] at hql
  have HV := Lib.hid hv; have HP := Lib.hid hp; have HQ := Lib.hid hq; have HNP := Lib.hid hnp; have HNQ := Lib.hid hnq; have HO := Lib.hid h
  clear hv hp hq hnp hnq h
  go_enter Tryz.func230, Tryz.ntmps230
  go_wp2_with fail
  go_loopw [2, 16] (fun lv iv wr => ∃ (k m : Nat) (cur : List (ByteArray × ByteArray)), k ≤ np ∧ k ≤ nq ∧ iv = .int .i64 k ∧ m ≤ 5000000 + k ∧ Hid (cur.length = m) ∧ Hid (matchL (p.drop k) (q.drop k) cur = matchL p q l) ∧ Hid (OwnK 255 encBd 2 B wr lv cur) ∧ Hid (Below B w wr) ∧ B ≤ wr.heap.size) (fun _ iv _ => np - (intOf iv).toNat)
  case atStart => exact ⟨0, l.length, l, Nat.zero_le _, Nat.zero_le _, rfl, by omega, Lib.hid rfl, Lib.hid rfl, HO, Lib.hid (Below.refl _ _), hB⟩
  case round =>
    obtain ⟨k, m, cur, hk, hkq, rfl, hm, hml, hI, ho, hb, hBr⟩ := hrel
    by_cases hlt : k < np
    · have hkp : k < p.length := by have := HNP.out; omega
      obtain ⟨b, off, rfl, hc⟩ := (HP.out.below hb.out).at hkp
      by_cases hr : nth p k = star2B
      · rw [encPt_rest hr] at hc
        have hk1 := fun w => as_rest (.agg #[]) w
        have HM := Lib.hid ((hI.out).symm.trans (matchL_rest hkp hr))
        clear hkp hr
        go_wp2_with fail
        go_ret2
        exact ⟨_, ret_three (by rw [HM.out]; rfl), fun m' hm' => by rw [HM.out] at hm'; cases hm'; exact ho.out.on ((Below.refl _ _).alloc (Nat.le_refl _) _), hb.out.alloc hBr _⟩
      · have hs3 : validP (nth p k) = true ∨ nth p k = starB ∨ letterP (nth p k) = true := by
          rcases validPat_elem HV.out hkp with h | h | h | h
          · exact Or.inl h
          · exact Or.inr (Or.inl h)
          · exact Or.inr (Or.inr h)
          · exact absurd h hr
        obtain ⟨t5, v5, h5, hk1⟩ := encPt_notrest hs3
        rw [h5] at hc
        have H5 := Lib.hid h5; have HS3 := Lib.hid hs3; have HR := Lib.hid hr
        have HKP := Lib.hid hkp
        clear h5 hs3 hr hkp
        by_cases hlq : k < nq
        · have hkq2 : k < q.length := by have := HNQ.out; omega
          obtain ⟨b', off', rfl, hd⟩ := (HQ.out.below hb.out).at hkq2
          have HKQ := Lib.hid hkq2
          have hdr : (wr.alloc (.cells #[] 272)).cell? ⟨b', off' + k, none⟩ = some (.string (nth q k)) := by rw [World.cell?_alloc_past _ _ _ (cell_lt hd)]; exact hd
          have HO1 := Lib.hid (ho.out.on ((Below.refl _ _).alloc (Nat.le_refl _) (.cells #[] 272)))
          have HB1 := Lib.hid (hb.out.alloc hBr (.cells #[] 272))
          have HCUR := Lib.hid (show cur.length ≤ 10000000 by rw [hml.out]; omega)
          clear hkq2 hd
          go_wp2_with fail
          refine (matchPartU (nth p k) (nth q k) _ _ H5.out cur B _ HS3.out HO1.out (by simp; omega) HCUR.out).mono ?_
          rintro e w2 ⟨v2, rfl, ho2, hb2⟩
          have HO2 := Lib.hid ho2
          have HB2 := Lib.hid (HB1.out.trans hb2)
          have hB2 : B ≤ w2.heap.size := by have := hb2.size; simp at this; omega
          clear ho2 hb2 hc hdr hk1
          cases hst : stepM (nth p k) (nth q k) cur with
          | none =>
            have HM := Lib.hid ((hI.out).symm.trans (matchL_no HKP.out HR.out HKQ.out hst))
            simp only [Option.isSome_none]
            clear hst
            go_wp2_with fail
            go_ret2
            exact ⟨_, ret_three (by rw [HM.out]; rfl), fun m' hm' => (by rw [HM.out] at hm'; cases hm'), HB2.out⟩
          | some nx =>
            have HM := Lib.hid ((matchL_on HKP.out HR.out HKQ.out hst).symm.trans hI.out)
            have hnl := stepM_len hst
            rw [hml.out] at hnl
            have HO3 := Lib.hid (show OwnK 255 encBd 2 B w2 v2 nx by have := HO2.out; rw [hst] at this; exact this)
            simp only [Option.isSome_some]
            clear hst
            go_wp2_with fail
            go_roundw
            case rel => exact ⟨k + 1, nx.length, nx, by omega, by omega, by go_num, by omega, Lib.hid rfl, HM, HO3, HB2, hB2⟩
            case measure => simp [intOf]; omega
        · obtain rfl : k = nq := by omega
          have HM := Lib.hid ((hI.out).symm.trans (matchL_short HKP.out HR.out (by have := HNQ.out; omega)))
          clear hlq
          go_wp2_with fail
          go_ret2
          exact ⟨_, ret_three (by rw [HM.out]; rfl), fun m' hm' => (by rw [HM.out] at hm'; cases hm'), hb.out.alloc hBr _⟩
    · obtain rfl : k = np := by omega
      have HM := Lib.hid ((hI.out).symm.trans (show matchL (p.drop k) (q.drop k) cur = if q.length = p.length then some cur else none by
        have e := matchL_end (p := p) (q := q) (l := cur) (by have := HNP.out; have := HNQ.out; omega)
        rw [← HNP.out] at e
        rw [← HNP.out]; exact e))
      clear hlt
      go_wp2_with fail
      go_ret2
      refine ⟨_, ret_three ?_, fun m' hm' => ?_, hb.out⟩
      · rw [HM.out]
        by_cases e : q.length = p.length
        · rw [if_pos e]; have := HNP.out; have := HNQ.out; simp; omega
        · rw [if_neg e]; have := HNP.out; have := HNQ.out; simp; omega
      · rw [HM.out] at hm'
        by_cases e : q.length = p.length
        · rw [if_pos e] at hm'; cases hm'; exact ho.out
        · rw [if_neg e] at hm'; cases hm'
end Go.Proofs.YtcidfmmeonhkhaaGreatDoor.Row
