/- Contracts and mathematics, joined: VPat, VPat2, PParse, DrawPat, Find, Step. No conditions but those that each states. -/
import Derived.Test.YtcidfmmeonhkhaaGreatDoorB5
import Derived.Test.YtcidfmmeonhkhaaGreatDoorB4
import Derived.Test.YtcidfmmeonhkhaaGreatDoorB3
/- ValidPattern, the program's and the model's, and what the program makes of a pattern's parts (interface values). No conditions but that lengths fit. -/
namespace Go.Proofs.YtcidfmmeonhkhaaGreatDoor.Row
open Go.ChangeShapes Go.WideShapes Go.ChangeAt Go.RowKit Go.Instr
set_option linter.unusedVariables false
set_option maxRecDepth 100000

def starB : ByteArray := { data := #[42] }
def star2B : ByteArray := { data := #[42, 42] }
theorem star_tl (s : ByteArray) : (s.toList == [42]) = decide (s = starB) := by
  by_cases h : s = starB
  · rw [decide_eq_true h, h]
    have : starB.toList = [42] := ByteArray.toList_mk [42]
    simp [this]
  · rw [decide_eq_false h]
    have : s.toList ≠ [42] := fun e => h (toList_inj (by rw [e]; exact (ByteArray.toList_mk [42]).symm))
    simpa using this
theorem star2_tl (s : ByteArray) : (s.toList == [42, 42]) = decide (s = star2B) := by
  by_cases h : s = star2B
  · rw [decide_eq_true h, h]
    have : star2B.toList = [42, 42] := ByteArray.toList_mk [42, 42]
    simp [this]
  · rw [decide_eq_false h]
    have : s.toList ≠ [42, 42] := fun e => h (toList_inj (by rw [e]; exact (ByteArray.toList_mk [42, 42]).symm))
    simpa using this
theorem star_yes {s : ByteArray} (h : s = starB) : (s.toList == [42]) = true := by rw [star_tl]; exact decide_eq_true h
theorem star_no {s : ByteArray} (h : ¬ s = starB) : (s.toList == [42]) = false := by rw [star_tl]; exact decide_eq_false h
theorem star2_yes {s : ByteArray} (h : s = star2B) : (s.toList == [42, 42]) = true := by rw [star2_tl]; exact decide_eq_true h
theorem star2_no {s : ByteArray} (h : ¬ s = star2B) : (s.toList == [42, 42]) = false := by rw [star2_tl]; exact decide_eq_false h
theorem star_size : starB.size = 1 := rfl
theorem star2_size : star2B.size = 2 := rfl
theorem star_validP : validP starB = false := validP_byte (k := 0) (by decide) (by rw [show (starB[0]'(by decide)).toNat = 42 from rfl]; unfold okR; omega)
theorem star2_validP : validP star2B = false := validP_byte (k := 0) (by decide) (by rw [show (star2B[0]'(by decide)).toNat = 42 from rfl]; unfold okR; omega)
theorem star_letterP : letterP starB = false := letterP_size (by decide)
theorem star2_letterP : letterP star2B = false := letterP_0 rfl (by rw [show (star2B[0]'(by decide)).toNat = 42 from rfl]; omega)
theorem star_ne : starB ≠ star2B := fun h => by have := congrArg ByteArray.size h; simp [star_size, star2_size] at this
theorem letter_validP {s : ByteArray} (h : letterP s = true) : validP s = false := by
  obtain ⟨h2, h0, _⟩ := letterP_iff.1 h
  exact validP_byte (k := 0) (by omega) (by rw [h0]; unfold okR; omega)
theorem valid_letterP {s : ByteArray} (h : validP s = true) : letterP s = false := by
  cases hl : letterP s with
  | false => rfl
  | true => rw [letter_validP hl] at h; cases h
theorem valid_ne {s : ByteArray} (h : validP s = true) : s ≠ starB ∧ s ≠ star2B := ⟨fun e => (by rw [e, star_validP] at h; cases h), fun e => (by rw [e, star2_validP] at h; cases h)⟩
theorem letter_ne {s : ByteArray} (h : letterP s = true) : s ≠ starB ∧ s ≠ star2B := ⟨fun e => (by rw [e, star_letterP] at h; cases h), fun e => (by rw [e, star2_letterP] at h; cases h)⟩

/-- Whether a text is a part of a pattern; whether it is the last one. -/
def elemP (s : ByteArray) (last : Bool) : Bool := validP s || decide (s = starB) || letterP s || (decide (s = star2B) && last)
def validPat (l : List ByteArray) : Bool := decide (l.length ≤ 6 ∧ ∀ j, j < l.length → elemP (nth l j) (decide (j + 1 = l.length)) = true)
def allE (l : List ByteArray) (k : Nat) : Prop := ∀ j, j < k → elemP (nth l j) (decide (j + 1 = l.length)) = true
theorem allE_zero (l : List ByteArray) : allE l 0 := fun j h => absurd h (by omega)
theorem allE_succ {l : List ByteArray} {k : Nat} (h : allE l k) (hc : elemP (nth l k) (decide (k + 1 = l.length)) = true) : allE l (k + 1) := fun j h1 => by
  by_cases e : j = k
  · subst e; exact hc
  · exact h j (by omega)
theorem validPat_not {l : List ByteArray} {k : Nat} (hk : k < l.length) (hc : elemP (nth l k) (decide (k + 1 = l.length)) = false) : validPat l = false := by
  refine decide_eq_false (fun e => ?_)
  have := e.2 k hk
  rw [hc] at this; cases this
theorem validPat_all {l : List ByteArray} (h : allE l l.length) : validPat l = decide (l.length ≤ 6) := by
  unfold validPat
  congr 1
  exact propext ⟨fun e => e.1, fun e => ⟨e, h⟩⟩
theorem validPat_long {l : List ByteArray} (h : ¬ l.length ≤ 6) : validPat l = false := decide_eq_false (fun e => h e.1)
theorem validPat_iff {l : List ByteArray} : validPat l = true ↔ l.length ≤ 6 ∧ ∀ j, j < l.length → elemP (nth l j) (decide (j + 1 = l.length)) = true := by unfold validPat; exact decide_eq_true_iff
theorem elemP_iff {s : ByteArray} {b : Bool} : elemP s b = true ↔ validP s = true ∨ s = starB ∨ letterP s = true ∨ (s = star2B ∧ b = true) := by simp [elemP, or_assoc]
theorem elemP_no {s : ByteArray} {b : Bool} (h1 : validP s = false) (h2 : ¬ s = starB) (h3 : letterP s = false) (h4 : ¬ (s = star2B ∧ b = true)) : elemP s b = false := by
  cases h : elemP s b with
  | false => rfl
  | true =>
    rcases elemP_iff.1 h with h | h | h | h
    · rw [h1] at h; cases h
    · exact absurd h h2
    · rw [h3] at h; cases h
    · exact absurd h h4

/-- The value that the program makes of a part. -/
def encPt (s : ByteArray) : Value :=
  if validP s = true then .iface 267 (.agg #[.string s]) else if s = starB then .iface 269 (.agg #[]) else if letterP s = true then .iface 271 (.agg #[.string s]) else .iface 272 (.agg #[])
theorem encPt_lit {s : ByteArray} (h : validP s = true) : encPt s = .iface 267 (.agg #[.string s]) := if_pos h
theorem encPt_any {s : ByteArray} (h : s = starB) : encPt s = .iface 269 (.agg #[]) := by
  unfold encPt
  rw [if_neg (by rw [h, star_validP]; simp), if_pos h]
theorem encPt_var {s : ByteArray} (h : letterP s = true) : encPt s = .iface 271 (.agg #[.string s]) := by
  unfold encPt
  rw [if_neg (by rw [letter_validP h]; simp), if_neg (letter_ne h).1, if_pos h]
theorem encPt_rest {s : ByteArray} (h : s = star2B) : encPt s = .iface 272 (.agg #[]) := by
  unfold encPt
  rw [if_neg (by rw [h, star2_validP]; simp), if_neg (by rw [h]; exact fun e => star_ne e.symm), if_neg (by rw [h, star2_letterP]; simp)]
theorem onePt (s : ByteArray) : (encPt s).oneCell' = true := by
  unfold encPt
  repeat' split
  all_goals rfl
theorem encPt_form (s : ByteArray) : ∃ t v, encPt s = .iface t v := by
  unfold encPt
  repeat' split
  all_goals exact ⟨_, _, rfl⟩
theorem holds_one' {α : Type} [Inhabited α] (enc : α → Value) (e : TypeId) (w : World) (x : α) {u : Value} (h : enc x = u) : Holds enc (w.alloc (.cells #[u] e)) (.slice (some ⟨w.heap.size, 0, none⟩) 1 1) [x] := by subst h; exact holds_one enc e w x
theorem elemPT : Elem Tryz.prog 257 .nilIface 16 := by unfold Elem; kernel_rfl

set_option maxHeartbeats 1000000 in
theorem readPart (s : ByteArray) (b : Bool) (w : World) (hl : s.size ≤ 140737488351232) :
    Calls Tryz.prog 226 #[.string s, .bool b] w fun e w' => e = .returned (.tuple #[if elemP s b = true then encPt s else .nilIface, .bool (elemP s b)]) ∧ Below w.heap.size w w' := by
  by_cases hv : validP s = true
  · have he : elemP s b = true := elemP_iff.2 (Or.inl hv)
    rw [he, if_pos rfl, encPt_lit hv]
    have HV := Lib.hid hv
    clear hv he
    go_enter Tryz.func226, Tryz.ntmps226
    go_wp2_with fail
    refine (implValidPart _ _ hl).mono ?_
    rintro e w1 ⟨rfl, hb⟩
    rw [HV.out]
    go_wp2
    go_ret2
    exact ⟨rfl, hb⟩
  · have hv : validP s = false := by simpa using hv
    have HV := Lib.hid hv
    by_cases hs : s = starB
    · have he : elemP s b = true := elemP_iff.2 (Or.inr (Or.inl hs))
      rw [he, if_pos rfl, encPt_any hs]
      have HQ := Lib.hid (star_yes hs)
      clear hv he hs
      go_enter Tryz.func226, Tryz.ntmps226
      go_wp2_with fail
      refine (implValidPart _ _ hl).mono ?_
      rintro e w1 ⟨rfl, hb⟩
      rw [HV.out]
      have hq := HQ.out
      go_wp2
      go_ret2
      exact ⟨rfl, hb⟩
    · by_cases hx : letterP s = true
      · have he : elemP s b = true := elemP_iff.2 (Or.inr (Or.inr (Or.inl hx)))
        rw [he, if_pos rfl, encPt_var hx]
        have HQ := Lib.hid (star_no hs)
        have HX := Lib.hid hx
        clear hv he hs hx
        go_enter Tryz.func226, Tryz.ntmps226
        go_wp2_with fail
        refine (implValidPart _ _ hl).mono ?_
        rintro e w1 ⟨rfl, hb⟩
        rw [HV.out]
        have hq := HQ.out
        go_wp2_with fail
        refine (isVariable _ _ hl).mono ?_
        rintro e w2 ⟨rfl, rfl⟩
        rw [HX.out]
        go_wp2
        go_ret2
        exact ⟨rfl, hb⟩
      · have hx : letterP s = false := by simpa using hx
        by_cases h2 : s = star2B ∧ b = true
        · have he : elemP s b = true := elemP_iff.2 (Or.inr (Or.inr (Or.inr h2)))
          rw [he, if_pos rfl, encPt_rest h2.1]
          have HQ := Lib.hid (star_no hs)
          have HX := Lib.hid hx
          have HQ2 := Lib.hid (star2_yes h2.1)
          obtain ⟨-, rfl⟩ := h2
          clear hv he hs hx
          go_enter Tryz.func226, Tryz.ntmps226
          go_wp2_with fail
          refine (implValidPart _ _ hl).mono ?_
          rintro e w1 ⟨rfl, hb⟩
          rw [HV.out]
          have hq := HQ.out
          go_wp2_with fail
          refine (isVariable _ _ hl).mono ?_
          rintro e w2 ⟨rfl, rfl⟩
          rw [HX.out]
          have hq2 := HQ2.out
          go_wp2
          go_ret2
          exact ⟨rfl, hb⟩
        · have he : elemP s b = false := elemP_no hv hs hx h2
          rw [he, if_neg (by simp)]
          have HQ := Lib.hid (star_no hs)
          have HX := Lib.hid hx
          have HQ2 := Lib.hid (show ((s.toList == [42, 42]) && b) = false by
            cases b with
            | false => simp
            | true => rw [star2_no (fun e => h2 ⟨e, rfl⟩)]; rfl)
          clear hv he hs hx
          go_enter Tryz.func226, Tryz.ntmps226
          go_wp2_with fail
          refine (implValidPart _ _ hl).mono ?_
          rintro e w1 ⟨rfl, hb⟩
          rw [HV.out]
          have hq := HQ.out
          go_wp2_with fail
          refine (isVariable _ _ hl).mono ?_
          rintro e w2 ⟨rfl, rfl⟩
          rw [HX.out]
          cases hc : (s.toList == [42, 42]) with
          | false =>
            go_wp2
            go_ret2
            exact ⟨rfl, hb⟩
          | true =>
            have hq2 := HQ2.out
            rw [hc] at hq2
            have hbf : b = false := by simpa using hq2
            subst hbf
            clear hq2
            go_wp2
            go_ret2
            exact ⟨rfl, hb⟩


theorem ret_two {v : Value} {a b : Bool} (h : a = b) : Ending.returned (.tuple #[v, .bool a]) = .returned (.tuple #[v, .bool b]) := by rw [h]
theorem last_is {k n : Nat} {l : List ByteArray} (h : n = l.length) : (((k : Nat) : Int) == ((n : Nat) : Int) - 1) = decide (k + 1 = l.length) := by
  by_cases e : k + 1 = l.length
  · rw [decide_eq_true e]; simp; omega
  · rw [decide_eq_false e]; simp; omega
def ifP (c : Bool) (l : List ByteArray) : List ByteArray := if c = true then l else []
set_option maxHeartbeats 2000000 in
theorem readParts (v : Value) (l : List ByteArray) (w : World) (h : Holds Value.string w v l) (hs : bulk l ≤ 100000000) :
    Calls Tryz.prog 213 #[.agg #[v]] w fun e w' => ∃ v', e = .returned (.tuple #[v', .bool (validPat l)]) ∧ Own 257 encPt w.heap.size w' v' (ifP (validPat l) l) ∧ Below w.heap.size w w' := by
  obtain ⟨x, n, cap, rfl, hn, hcap, hh⟩ := h.shapeN
  have hll := bigLen hs
  have HS := Lib.hid (fun k (hk : k < l.length) => size_nth hs hk)
  rw [← hn] at hll
  have HN := Lib.hid hn
  have HH := Lib.hid hh
  have HB0 := Lib.hid ((Below.refl w.heap.size w).alloc (Nat.le_refl _) (.cells #[.slice x n cap] 166))
  have HC0 := Lib.hid (Ret.Box.new w (.slice x n cap) 166)
  by_cases h6 : n ≤ 6
  · clear hn h hh hs
    obtain ⟨i0, hi, hz0, hz1, hz2⟩ := info_parts elemPT
    have HI := Lib.hid hi; have HZ0 := Lib.hid hz0; have HZ1 := Lib.hid hz1; have HZ2 := Lib.hid hz2
    clear hi hz0 hz1 hz2
    go_enter Tryz.func213, Tryz.ntmps213
    go_wp2_with (at_make; refine wpList_make_own _ rfl _ _ 246 rfl (w.heap.size + 1) 257 i0 .nilIface 1 Tryz.underlying246 HI.out HZ0.out HZ1.out _ _ _ n rfl rfl rfl (by rw [HZ2.out]; omega) (by unfold maxLen; omega) (by simp) ?_)
    intro w1 hown hgrow
    have HO := Lib.hid (show Own 257 encPt (w.heap.size + 1) w1 (.slice (some ⟨w.heap.size + 1, 0, none⟩) 0 n) [] from hown)
    have HC1 := Lib.hid (HC0.out.grown hgrow (by simp))
    have HB1 := Lib.hid (HB0.out.grown hgrow (by simp) (fun g hg => by cases hg))
    clear hown hgrow
    have hc1 := HC1.out.cell
    go_wp2_with fail
    clear hc1
    go_loopw [4, 20] (fun pv i wr => ∃ k : Nat, k ≤ n ∧ i = .int .i64 k ∧ Hid (Own 257 encPt (w.heap.size + 1) wr pv (l.take k)) ∧ Hid (allE l k) ∧ Hid (Ret.Box wr w.heap.size (.slice x n cap) 166) ∧ Hid (Below w.heap.size w wr)) (fun _ i _ => n - (intOf i).toNat)
    case atStart => exact ⟨0, Nat.zero_le _, rfl, HO, Lib.hid (allE_zero l), HC1, HB1⟩
    case round =>
      obtain ⟨k, hk, rfl, ho, ha, hc, hb⟩ := hrel
      by_cases hlt : k < n
      · have hlen := HN.out
        obtain ⟨b, off, rfl, hd⟩ := (HH.out.on hb.out).at (j := k) (by omega)
        have hsz := HS.out k (by omega)
        have hc1 := hc.out.cell
        clear hlen
        go_wp2_with fail
        rw [show (((k : Nat) : Int) == ((n : Nat) : Int) - 1) = decide (k + 1 = l.length) from last_is HN.out]
        refine (readPart _ _ _ (by omega)).mono ?_
        rintro e w2 ⟨rfl, hb2⟩
        have HB2 := Lib.hid (hb.out.trans (hb2.mono hb.out.size))
        have HC2 := Lib.hid (hc.out.on hb2)
        have HO2 := Lib.hid (ho.out.on hb2)
        clear hb2 hd hc1 hsz
        cases he : elemP (nth l k) (decide (k + 1 = l.length)) with
        | false =>
          have HV := Lib.hid (validPat_not (by have := HN.out; omega) he)
          rw [if_neg (by simp)]
          clear he
          go_wp2
          go_ret2
          exact ⟨_, ret_two HV.out.symm, by rw [HV.out]; exact Own.nil _ _ _ _, HB2.out⟩
        | true =>
          have HA2 := Lib.hid (allE_succ ha.out he)
          obtain ⟨t5, v5, h5⟩ := encPt_form (nth l k)
          rw [if_pos rfl, h5]
          have H5 := Lib.hid h5
          clear he h5
          have hlen : (l.take k).length = k := by rw [List.length_take]; have := HN.out; omega
          have HL := Lib.hid hlen
          have HX := Lib.hid (show l.take k ++ [nth l k] = l.take (k + 1) by rw [nth_eq (by have := HN.out; omega)]; exact (List.take_succ_eq_append_getElem (by have := HN.out; omega)).symm)
          have HO3 := Lib.hid (HO2.out.on ((Below.refl _ _).alloc (Nat.le_refl _) (.cells #[.iface t5 v5] 257)))
          have HC3 := Lib.hid (HC2.out.on ((Below.refl _ _).alloc (Nat.le_refl _) (.cells #[.iface t5 v5] 257)))
          have HB3 := Lib.hid (HB2.out.alloc HB2.out.size (.cells #[.iface t5 v5] 257))
          have HSZ := Lib.hid (HC2.out.lt)
          clear hlen
          go_wp2_with (at_builtin; refine wpList_app (enc := encPt) (B := w.heap.size + 1) (l := l.take k) (m := [nth l k]) rfl _ _ rfl Tryz.underlying246 elemPT rfl rfl rfl HO3.out (holds_one' encPt 257 _ _ H5.out) onePt (by rw [HL.out]; simp; omega) (by rw [HL.out]; unfold maxLen; simp; omega) (by have := HSZ.out; simp; omega) ?_)
          intro v2 w3 ho3 hg3
          have HO4 := Lib.hid (HX.out ▸ ho3)
          have HC4 := Lib.hid (HC3.out.grown hg3 (fun e => by have := (HO3.out.lt _ e.symm).1; omega))
          have HB4 := Lib.hid (HB3.out.grown hg3 (by have := HSZ.out; simp; omega) (fun g hh => by have := (HO3.out.lt g hh).1; omega))
          clear ho3 hg3
          go_wp2_with fail
          go_roundw
          case rel => exact ⟨k + 1, by omega, by go_num, HO4, HA2, HC4, HB4⟩
          case measure => simp [intOf]; omega
      · obtain rfl : k = n := by omega
        have HV := Lib.hid (show validPat l = true by rw [validPat_all (HN.out ▸ ha.out)]; exact decide_eq_true (by have := HN.out; omega))
        clear hlt
        go_wp2
        go_ret2
        refine ⟨_, ret_two HV.out.symm, ?_, hb.out⟩
        rw [HV.out]
        have := ho.out.mono (Nat.le_succ _)
        rw [HN.out, List.take_length] at this
        exact this
  · have HV := Lib.hid (validPat_long (l := l) (by omega))
    have h7 : (6 : Int) < (n : Int) := by omega
    rw [HV.out]
    clear hn h hh hs h6
    go_enter Tryz.func213, Tryz.ntmps213
    go_wp2
    go_ret2
    exact ⟨_, rfl, Own.nil _ _ _ _, HB0.out⟩
end Go.Proofs.YtcidfmmeonhkhaaGreatDoor.Row
/- Contracts of ValidPattern, the program's and the model's. No conditions but that lengths fit. -/
namespace Go.Proofs.YtcidfmmeonhkhaaGreatDoor.Row
open Go.ChangeShapes Go.WideShapes Go.ChangeAt Go.RowKit Go.Instr
set_option linter.unusedVariables false
set_option maxRecDepth 100000

set_option maxHeartbeats 1000000 in
theorem implValidPattern (v : Value) (l : List ByteArray) (w : World) (h : Holds Value.string w v l) (hl : bulk l ≤ 100000000) :
    Calls Tryz.prog 192 #[.agg #[v]] w fun e w' => e = .returned (.bool (validPat l)) ∧ Below w.heap.size w w' := by
  obtain ⟨x, n, cap, rfl, hn, hcap, hh⟩ := h.shapeN
  have HL := Lib.hid hl
  have HH := Lib.hid (hh.on ((Below.refl w.heap.size w).alloc (Nat.le_refl _) (.cells #[.slice x n cap] 166)))
  have HB0 := Lib.hid ((Below.refl w.heap.size w).alloc (Nat.le_refl _) (.cells #[.slice x n cap] 166))
  clear hn h hh hl
  go_enter Tryz.func192, Tryz.ntmps192
  go_wp2_with fail
  refine (readParts _ l _ HH.out HL.out).mono ?_
  rintro e w1 ⟨v1, rfl, ho, hb⟩
  have HB1 := Lib.hid (HB0.out.trans (hb.mono HB0.out.size))
  clear ho hb
  go_wp2
  go_ret
  exact ⟨rfl, HB1.out⟩

set_option maxHeartbeats 2000000 in
theorem specValidPattern (v : Value) (l : List ByteArray) (w : World) (h : Holds Value.string w v l) (hl : bulk l ≤ 100000000) :
    Calls Tryz.prog 194 #[.agg #[v]] w fun e w' => e = .returned (.bool (validPat l)) ∧ Below w.heap.size w w' := by
  obtain ⟨x, n, cap, rfl, hn, hcap, hh⟩ := h.shapeN
  have hll := bigLen hl
  have HS := Lib.hid (fun k (hk : k < l.length) => size_nth hl hk)
  rw [← hn] at hll
  have HN := Lib.hid hn
  have HH := Lib.hid hh
  have HB0 := Lib.hid ((Below.refl w.heap.size w).alloc (Nat.le_refl _) (.cells #[.slice x n cap] 166))
  have HC0 := Lib.hid (Ret.Box.new w (.slice x n cap) 166)
  clear hn h hh hl
  go_enter Tryz.func194, Tryz.ntmps194
  go_wp2_with fail
  go_loopw [3] (fun i wr => ∃ k : Nat, k ≤ n ∧ i = .int .i64 k ∧ Hid (allE l k) ∧ Hid (Ret.Box wr w.heap.size (.slice x n cap) 166) ∧ Hid (Below w.heap.size w wr)) (fun i _ => n - (intOf i).toNat)
  case atStart => exact ⟨0, Nat.zero_le _, rfl, Lib.hid (allE_zero l), HC0, HB0⟩
  case round =>
    obtain ⟨k, hk, rfl, ha, hc, hb⟩ := hrel
    have hc1 := hc.out.cell
    by_cases hlt : k < n
    · have hlen := HN.out
      obtain ⟨b, off, rfl, hd⟩ := (HH.out.on hb.out).at (j := k) (by omega)
      have hsz := HS.out k (by omega)
      clear hlen
      have HE := Lib.hid (fun (he : elemP (nth l k) (decide (k + 1 = l.length)) = true) => allE_succ ha.out he)
      by_cases hv : validP (nth l k) = true
      · have HA := Lib.hid (HE.out (elemP_iff.2 (Or.inl hv)))
        have HV := Lib.hid hv
        clear HE hv
        go_wp2_with fail
        refine (specValidPart _ _ (by omega)).mono ?_
        rintro e w2 ⟨rfl, rfl⟩
        rw [HV.out]
        go_wp2_with fail
        go_roundw
        case rel => exact ⟨k + 1, by omega, by go_num, HA, hc, hb⟩
        case measure => simp [intOf]; omega
      · have hv : validP (nth l k) = false := by simpa using hv
        have HV := Lib.hid hv
        by_cases hs : nth l k = starB
        · have HA := Lib.hid (HE.out (elemP_iff.2 (Or.inr (Or.inl hs))))
          have HQ := Lib.hid (show ((nth l k).toList == [42]) = true from star_yes hs)
          clear HE hv hs
          go_wp2_with fail
          refine (specValidPart _ _ (by omega)).mono ?_
          rintro e w2 ⟨rfl, rfl⟩
          rw [HV.out]
          have hq := HQ.out
          go_wp2_with fail
          go_roundw
          case rel => exact ⟨k + 1, by omega, by go_num, HA, hc, hb⟩
          case measure => simp [intOf]; omega
        · have HQ := Lib.hid (show ((nth l k).toList == [42]) = false from star_no hs)
          by_cases hx : letterP (nth l k) = true
          · have HA := Lib.hid (HE.out (elemP_iff.2 (Or.inr (Or.inr (Or.inl hx)))))
            have HX := Lib.hid hx
            clear HE hv hs hx
            go_wp2_with fail
            refine (specValidPart _ _ (by omega)).mono ?_
            rintro e w2 ⟨rfl, rfl⟩
            rw [HV.out]
            have hq := HQ.out
            go_wp2_with fail
            refine (l5Letter _ _ (by omega)).mono ?_
            rintro e w2 ⟨rfl, rfl⟩
            rw [HX.out]
            go_wp2_with fail
            go_roundw
            case rel => exact ⟨k + 1, by omega, by go_num, HA, hc, hb⟩
            case measure => simp [intOf]; omega
          · have hx : letterP (nth l k) = false := by simpa using hx
            have HX := Lib.hid hx
            by_cases h2 : nth l k = star2B
            · have HQ2 := Lib.hid (star2_yes h2)
              by_cases hlast : k + 1 = n
              · have HA := Lib.hid (HE.out (elemP_iff.2 (Or.inr (Or.inr (Or.inr ⟨h2, decide_eq_true (by have := HN.out; omega)⟩)))))
                have hl1 : ¬ ((k : Int) < (n : Int) - 1) := by omega
                clear HE hv hs hx h2
                go_wp2_with fail
                refine (specValidPart _ _ (by omega)).mono ?_
                rintro e w2 ⟨rfl, rfl⟩
                rw [HV.out]
                have hq := HQ.out
                go_wp2_with fail
                refine (l5Letter _ _ (by omega)).mono ?_
                rintro e w2 ⟨rfl, rfl⟩
                rw [HX.out]
                have hq2 := HQ2.out
                go_wp2_with fail
                go_roundw
                case rel => exact ⟨k + 1, by omega, by go_num, HA, hc, hb⟩
                case measure => simp [intOf]; omega
              · have HN2 := Lib.hid (validPat_not (l := l) (k := k) (by have := HN.out; omega) (elemP_no hv hs hx (fun e => by have := of_decide_eq_true e.2; have := HN.out; omega)))
                have hl1 : ((k : Int) < (n : Int) - 1) := by omega
                clear HE hv hs hx h2
                go_wp2_with fail
                refine (specValidPart _ _ (by omega)).mono ?_
                rintro e w2 ⟨rfl, rfl⟩
                rw [HV.out]
                have hq := HQ.out
                go_wp2_with fail
                refine (l5Letter _ _ (by omega)).mono ?_
                rintro e w2 ⟨rfl, rfl⟩
                rw [HX.out]
                have hq2 := HQ2.out
                go_wp2_with fail
                go_ret
                exact ⟨ret_bool HN2.out.symm, hb.out⟩
            · have HN2 := Lib.hid (validPat_not (l := l) (k := k) (by have := HN.out; omega) (elemP_no hv hs hx (fun e => h2 e.1)))
              have HQ2 := Lib.hid (star2_no h2)
              clear HE hv hs hx h2
              go_wp2_with fail
              refine (specValidPart _ _ (by omega)).mono ?_
              rintro e w2 ⟨rfl, rfl⟩
              rw [HV.out]
              have hq := HQ.out
              go_wp2_with fail
              refine (l5Letter _ _ (by omega)).mono ?_
              rintro e w2 ⟨rfl, rfl⟩
              rw [HX.out]
              have hq2 := HQ2.out
              go_wp2_with fail
              go_ret
              exact ⟨ret_bool HN2.out.symm, hb.out⟩
    · obtain rfl : k = n := by omega
      have HV := Lib.hid (validPat_all (HN.out ▸ ha.out))
      clear hlt
      go_wp2
      go_ret
      refine ⟨ret_bool ?_, hb.out⟩
      rw [HV.out, ← HN.out]
      simp
      omega

end Go.Proofs.YtcidfmmeonhkhaaGreatDoor.Row
/- Contracts of FormatPattern and ParsePattern, the program's and the model's. No conditions but that lengths fit. -/
namespace Go.Proofs.YtcidfmmeonhkhaaGreatDoor.Row
open Go.ChangeShapes Go.WideShapes Go.ChangeAt Go.RowKit Go.Instr
set_option linter.unusedVariables false
set_option maxRecDepth 100000

theorem validPat_nil : validPat [] = true := validPat_iff.2 ⟨by simp, fun j h => absurd h (by simp)⟩
theorem part_good {s : ByteArray} {b : Bool} (h : elemP s b = true) : fullB s = true ∧ ∀ c ∈ bl s, c ≠ 47 := by
  rcases elemP_iff.1 h with h | h | h | ⟨h, _⟩
  · exact ⟨valid_full h, valid_free h⟩
  · subst h
    exact ⟨by decide, fun c hc => by simp [bl, starB] at hc; rw [hc]; decide⟩
  · obtain ⟨h2, h0, h1, h3⟩ := letterP_iff.1 h
    refine ⟨by unfold fullB; exact decide_eq_true (by omega), fun c hc e => ?_⟩
    obtain ⟨i, hi, rfl⟩ := List.getElem_of_mem hc
    rw [bl_length] at hi
    rw [bl_get s i hi] at e
    have : i = 0 ∨ i = 1 := by omega
    rcases this with rfl | rfl
    · rw [e] at h0; exact absurd h0 (by decide)
    · rw [e] at h1; exact absurd h1 (by decide)
  · subst h
    exact ⟨by decide, fun c hc => by simp [bl, star2B] at hc; rw [hc]; decide⟩
theorem patElem_full {l : List ByteArray} (h : validPat l = true) {p : ByteArray} (hp : p ∈ l) : fullB p = true := by
  obtain ⟨j, hj, rfl⟩ := List.getElem_of_mem hp
  have := (validPat_iff.1 h).2 j hj
  rw [nth_eq hj] at this
  exact (part_good this).1
theorem patElem_free {l : List ByteArray} (h : validPat l = true) {p : ByteArray} (hp : p ∈ l) : ∀ c ∈ bl p, c ≠ 47 := by
  obtain ⟨j, hj, rfl⟩ := List.getElem_of_mem hp
  have := (validPat_iff.1 h).2 j hj
  rw [nth_eq hj] at this
  exact (part_good this).2
def ppOk (s : ByteArray) : Bool := validPat (partsB s) && decide (fmtS (partsB s) = s)
def ppN (s : ByteArray) : List ByteArray := if ppOk s = true then partsB s else []
theorem pt_filter_valid {l : List ByteArray} (h : validPat l = true) : l.filter fullB = l := by
  rw [List.filter_eq_self]
  exact fun p hp => patElem_full h hp
theorem pt_free_of_valid {l : List ByteArray} (h : validPat l = true) : ∀ p ∈ l.map bl, ∀ c ∈ p, c ≠ 47 := by
  intro p hp
  obtain ⟨q, hq, rfl⟩ := List.mem_map.1 hp
  exact patElem_free h hq

/-- The text of a right name that has parts is split into the empty piece and the parts. -/
theorem pt_split_fmt {l : List ByteArray} (h : validPat l = true) (hl : l ≠ []) : splitB (fmtS l) = mk [] :: l := by
  unfold splitB fmtS fmtL
  rw [bl_mk, goS, if_pos rfl, goS_join (l.map bl) (by simpa using hl) (pt_free_of_valid h), List.map_cons, map_mk_bl]
theorem pt_parts_fmt {l : List ByteArray} (h : validPat l = true) : partsB (fmtS l) = l := by
  by_cases hl : l = []
  · subst hl
    rw [fmtS_nil]
    unfold partsB splitB
    rw [bl_mk]
    simp [goS, fullB, mk_size]
  · unfold partsB
    rw [pt_split_fmt h hl, List.filter_cons_of_neg (by simp [fullB, mk_size]), pt_filter_valid h]
theorem ppOk_fmt {l : List ByteArray} (h : validPat l = true) : ppOk (fmtS l) = true := by
  unfold ppOk; rw [pt_parts_fmt h, h]; simp
theorem ppN_fmt {l : List ByteArray} (h : validPat l = true) : ppN (fmtS l) = l := by
  unfold ppN; rw [if_pos (ppOk_fmt h), pt_parts_fmt h]
theorem ppOk_iff {s : ByteArray} : ppOk s = true ↔ validPat (partsB s) = true ∧ fmtS (partsB s) = s := by unfold ppOk; simp
theorem ppN_yes {s : ByteArray} (h : ppOk s = true) : ppN s = partsB s := if_pos h
theorem ppN_no {s : ByteArray} (h : ppOk s = false) : ppN s = [] := if_neg (by simp [h])
theorem pt_valid_pN (s : ByteArray) : validPat (ppN s) = true := by
  cases h : ppOk s with
  | true => rw [ppN_yes h]; exact (ppOk_iff.1 h).1
  | false => rw [ppN_no h]; exact validPat_nil

/-- The reference model's way: what the pieces are asked. -/
theorem ppOk_slash : ppOk (mk [47]) = true ∧ ppN (mk [47]) = [] := by
  have h : validPat [] = true := validPat_nil
  rw [← fmtS_nil]
  exact ⟨ppOk_fmt h, ppN_fmt h⟩
theorem pt_split_yes {s : ByteArray} {rest : List ByteArray} (h : splitB s = mk [] :: rest) (hr : rest ≠ []) (hv : validPat rest = true) : ppOk s = true ∧ ppN s = rest := by
  have hs : fmtS rest = s := by
    apply bl_inj
    have h1 : goS [] (bl s) = [] :: rest.map bl := by
      have := congrArg (List.map bl) h
      unfold splitB at this
      rw [map_bl_mk, List.map_cons, bl_mk] at this
      exact this
    have h2 := join_goS (bl s) []
    rw [h1] at h2
    obtain ⟨y, r, rfl⟩ : ∃ y r, rest = y :: r := by
      cases rest with
      | nil => exact absurd rfl hr
      | cons y r => exact ⟨y, r, rfl⟩
    rw [List.map_cons, join_cons2, ← List.map_cons] at h2
    unfold fmtS fmtL
    rw [bl_mk]
    exact h2
  rw [← hs]
  exact ⟨ppOk_fmt hv, ppN_fmt hv⟩
theorem pt_split_no {s : ByteArray} (h47 : s ≠ mk [47]) (h : ∀ rest, splitB s = mk [] :: rest → rest ≠ [] → validPat rest = false) : ppOk s = false := by
  cases hp : ppOk s with
  | false => rfl
  | true =>
    obtain ⟨h1, h2⟩ := ppOk_iff.1 hp
    by_cases he : partsB s = []
    · rw [he, fmtS_nil] at h2
      exact absurd h2.symm h47
    · have h3 := pt_split_fmt h1 he
      rw [h2] at h3
      have h4 := h _ h3 he
      rw [h1] at h4; cases h4

theorem aggPt : Ret.AggOf Tryz.prog 166 1 := by unfold Ret.AggOf; exact ⟨by kernel_rfl, by kernel_rfl⟩

end Go.Proofs.YtcidfmmeonhkhaaGreatDoor.Row
/- Contracts of the reference model's draws of patterns, of names that they may mean, and of bindings: what is drawn lies in memory of the call's own; all else but the cursor is as it was. -/
namespace Go.Proofs.YtcidfmmeonhkhaaGreatDoor.Draw
open Go.ChangeShapes Go.WideShapes Go.ChangeAt Go.RowKit Go.Instr
open Go.Proofs.YtcidfmmeonhkhaaGreatDoor.Row (bulk bulk_append bulk_one bulk_nil bulk_cons elemSTR oneStr encBd OwnK HoldsK bulk2 kindBd szBd)
open Go.Proofs.YtcidfmmeonhkhaaGreatDoor.Ret (NC)
set_option linter.unusedVariables false
set_option maxRecDepth 100000

abbrev OwnS (B : Nat) (w : World) (u : Value) (m : List ByteArray) : Prop := Row.Own 9 Value.string B w u m
theorem own_one {α : Type} [Inhabited α] (enc : α → Value) (e : TypeId) (w : World) (x : α) : Row.Own e enc w.heap.size (w.alloc (.cells #[enc x] e)) (.slice (some ⟨w.heap.size, 0, none⟩) 1 1) [x] := World.ownsRow_lit w #[enc x] 1 (Nat.le_refl _) (by unfold maxLen; omega) rfl
theorem z1 : ({ data := #[42] } : ByteArray).size = 1 := rfl
theorem z2 : ({ data := #[42, 42] } : ByteArray).size = 2 := rfl
/-- Bindings of the call's own, so many and so great at most. -/
def BindsIn (B K : Nat) (x : Value) (w : World) : Prop := ∃ m, OwnK 255 encBd 2 B w x m ∧ bulk2 m ≤ K
end Go.Proofs.YtcidfmmeonhkhaaGreatDoor.Draw
/- Contracts of the search for a binding, the program's (by a closure handed to slices.IndexFunc) and the model's, and of BindingValue. No conditions but that lengths fit. -/
namespace Go.Proofs.YtcidfmmeonhkhaaGreatDoor.Row
open Go.ChangeShapes Go.WideShapes Go.ChangeAt Go.RowKit Go.Instr
set_option linter.unusedVariables false
set_option maxRecDepth 100000

def isK (k : ByteArray) (x : ByteArray × ByteArray) : Bool := decide (x.1 = k)
/-- The place of the first binding of k; how many there are, if there is none. -/
def fi (l : List (ByteArray × ByteArray)) (k : ByteArray) : Nat := l.findIdx (isK k)
def ixB (l : List (ByteArray × ByteArray)) (k : ByteArray) : Int := if fi l k < l.length then (fi l k : Int) else -1
def bvB (l : List (ByteArray × ByteArray)) (k : ByteArray) : ByteArray := if fi l k < l.length then (nth l (fi l k)).2 else ByteArray.empty
def noK (l : List (ByteArray × ByteArray)) (k : ByteArray) (i : Nat) : Prop := ∀ j, j < i → ¬ (nth l j).1 = k
theorem noK_zero (l : List (ByteArray × ByteArray)) (k : ByteArray) : noK l k 0 := fun j h => absurd h (by omega)
theorem noK_succ {l : List (ByteArray × ByteArray)} {k : ByteArray} {i : Nat} (h : noK l k i) (hc : ¬ (nth l i).1 = k) : noK l k (i + 1) := fun j h1 => by
  by_cases e : j = i
  · subst e; exact hc
  · exact h j (by omega)
theorem fi_at {l : List (ByteArray × ByteArray)} {k : ByteArray} {i : Nat} (hi : i < l.length) (h : noK l k i) (hc : (nth l i).1 = k) : fi l k = i := by
  unfold fi
  rw [List.findIdx_eq hi]
  refine ⟨?_, fun j hj => ?_⟩
  · unfold isK; rw [← nth_eq hi]; exact decide_eq_true hc
  · unfold isK; rw [← nth_eq (Nat.lt_trans hj hi)]; exact decide_eq_false (h j hj)
theorem fi_none {l : List (ByteArray × ByteArray)} {k : ByteArray} (h : noK l k l.length) : fi l k = l.length := by
  unfold fi
  rw [List.findIdx_eq_length]
  intro x hx
  obtain ⟨j, hj, rfl⟩ := List.getElem_of_mem hx
  unfold isK; rw [← nth_eq hj]; exact decide_eq_false (h j hj)
theorem ixB_at {l : List (ByteArray × ByteArray)} {k : ByteArray} {i : Nat} (hi : i < l.length) (h : noK l k i) (hc : (nth l i).1 = k) : ixB l k = i := by
  unfold ixB; rw [fi_at hi h hc, if_pos hi]
theorem ixB_none {l : List (ByteArray × ByteArray)} {k : ByteArray} (h : noK l k l.length) : ixB l k = -1 := by
  unfold ixB; rw [fi_none h, if_neg (by omega)]
/-- There is none, or there is a place. -/
theorem ixB_cases (l : List (ByteArray × ByteArray)) (k : ByteArray) : (ixB l k = -1 ∧ bvB l k = ByteArray.empty ∧ ¬ fi l k < l.length) ∨ ∃ i, i < l.length ∧ ixB l k = (i : Int) ∧ fi l k = i ∧ bvB l k = (nth l i).2 := by
  by_cases h : fi l k < l.length
  · exact Or.inr ⟨fi l k, h, by unfold ixB; rw [if_pos h], rfl, by unfold bvB; rw [if_pos h]⟩
  · exact Or.inl ⟨by unfold ixB; rw [if_neg h], by unfold bvB; rw [if_neg h], h⟩
theorem tle_yes {a b : ByteArray} (h : a = b) : (a.toList == b.toList) = true := by subst h; simp
theorem tle_no {a b : ByteArray} (h : ¬ a = b) : (a.toList == b.toList) = false := by
  have : a.toList ≠ b.toList := fun e => h (toList_inj e)
  simpa using this

set_option maxHeartbeats 1000000 in
theorem findClos (a b k : ByteArray) (p : Nat) (w : World) (hc : w.cell? ⟨p, 0, none⟩ = some (.string k)) :
    Calls Tryz.prog 236 #[.agg #[.string a, .string b], .pointer (some ⟨p, 0, none⟩)] w fun e w' => e = .returned (.bool (isK k (a, b))) ∧ Below w.heap.size w w' := by
  have hca : (w.alloc (.cells #[.string a, .string b] 255)).cell? ⟨p, 0, none⟩ = some (.string k) := by rw [World.cell?_alloc_past _ _ _ (cell_lt hc)]; exact hc
  clear hc
  by_cases he : a = k
  · have ht := tle_yes he
    have HV := Lib.hid (show isK k (a, b) = true from decide_eq_true he)
    clear he
    go_enter Tryz.func236, Tryz.ntmps236
    go_wp2
    go_ret
    exact ⟨ret_bool HV.out.symm, (Below.refl _ _).alloc (Nat.le_refl _) _⟩
  · have ht := tle_no he
    have HV := Lib.hid (show isK k (a, b) = false from decide_eq_false he)
    clear he
    go_enter Tryz.func236, Tryz.ntmps236
    go_wp2
    go_ret
    exact ⟨ret_bool HV.out.symm, (Below.refl _ _).alloc (Nat.le_refl _) _⟩

set_option maxHeartbeats 1000000 in
theorem indexFunc (v : Value) (l : List (ByteArray × ByteArray)) (k : ByteArray) (p : Nat) (w : World) (h : HoldsK encBd 2 w v l) (hl : l.length ≤ 140737488351232) (hc : w.cell? ⟨p, 0, none⟩ = some (.string k)) :
    Calls Tryz.prog 235 #[v, .func (.func 236) #[] #[.pointer (some ⟨p, 0, none⟩)]] w fun e w' => e = .returned (.int .i64 (ixB l k)) ∧ Below w.heap.size w w' := by
  obtain ⟨x, n, cap, rfl, hn, hcap, hh⟩ := h.shapeN
  rw [← hn] at hl
  have HN := Lib.hid hn
  have HH := Lib.hid hh
  have HC := Lib.hid hc
  clear hn h hh hc
  go_enter Tryz.func235, Tryz.ntmps235
  go_wp2
  go_loopw [8] (fun iv wr => ∃ i : Nat, i ≤ n ∧ iv = .int .i64 i ∧ Hid (noK l k i) ∧ Hid (Below w.heap.size w wr)) (fun iv _ => n - (intOf iv).toNat)
  case atStart => exact ⟨0, Nat.zero_le _, rfl, Lib.hid (noK_zero l k), Lib.hid (Below.refl _ _)⟩
  case round =>
    obtain ⟨i, hi, rfl, ha, hb⟩ := hrel
    by_cases hlt : i < n
    · have hlen := HN.out
      obtain ⟨b, off, rfl, hc1, hc2⟩ := bdAt (HH.out.on hb.out) (k := i) (by omega)
      have hcp : wr.cell? ⟨p, 0, none⟩ = some (.string k) := by rw [hb.out.cell (cell_lt HC.out)]; exact HC.out
      have HCL := Lib.hid (findClos (nth l i).1 (nth l i).2 k p wr hcp)
      clear hlen hcp
      go_wp2_with fail
      refine HCL.out.mono ?_
      rintro e w2 ⟨rfl, hb2⟩
      have HB2 := Lib.hid (hb.out.trans (hb2.mono hb.out.size))
      clear hb2 hc1 hc2
      by_cases he : (nth l i).1 = k
      · have HV := Lib.hid (ixB_at (by have := HN.out; omega) ha.out he)
        rw [show isK k ((nth l i).1, (nth l i).2) = true from decide_eq_true he]
        clear he
        go_wp2
        go_ret
        exact ⟨ret_int HV.out.symm, HB2.out⟩
      · have HA := Lib.hid (noK_succ ha.out he)
        rw [show isK k ((nth l i).1, (nth l i).2) = false from decide_eq_false he]
        clear he
        go_wp2
        go_roundw
        case rel => exact ⟨i + 1, by omega, by go_num, HA, HB2⟩
        case measure => simp [intOf]; omega
    · obtain rfl : i = n := by omega
      have HV := Lib.hid (ixB_none (HN.out ▸ ha.out))
      clear hlt
      go_wp2
      go_ret
      exact ⟨ret_int HV.out.symm, hb.out⟩

set_option maxHeartbeats 1000000 in
theorem bindingIndex (v : Value) (l : List (ByteArray × ByteArray)) (k : ByteArray) (w : World) (h : HoldsK encBd 2 w v l) (hl : l.length ≤ 140737488351232) :
    Calls Tryz.prog 234 #[v, .string k] w fun e w' => e = .returned (.int .i64 (ixB l k)) ∧ Below w.heap.size w w' := by
  have hb0 := (Below.refl w.heap.size w).alloc (Nat.le_refl _) (.cells #[.string k] 9)
  have HC := Lib.hid (indexFunc v l k w.heap.size _ (h.on hb0) hl (Ret.cell_at rfl))
  have HB0 := Lib.hid hb0
  obtain ⟨x, n, cap, rfl, -, -, -⟩ := h.shapeN
  clear h hb0
  have hmf : ∀ (fn : Fn) (first cap : Array Value) (w : World), (Instr.makeFunc fn first cap).run Tryz.prog w = .ok (.func fn first cap) w := fun _ _ _ _ => rfl
  go_enter Tryz.func234, Tryz.ntmps234
  go_wp2_with fail
  refine HC.out.mono ?_
  rintro e w1 ⟨rfl, hb⟩
  have HB := Lib.hid (HB0.out.trans (hb.mono HB0.out.size))
  clear hb
  go_wp2_with fail
  go_ret
  exact ⟨rfl, HB.out⟩

end Go.Proofs.YtcidfmmeonhkhaaGreatDoor.Row
/- Contracts of slices.Clone on bindings and of matchPart (one part of a pattern against one part of a name). No conditions but that lengths fit. -/
namespace Go.Proofs.YtcidfmmeonhkhaaGreatDoor.Row
open Go.ChangeShapes Go.WideShapes Go.ChangeAt Go.RowKit Go.Instr
set_option linter.unusedVariables false
set_option maxRecDepth 100000

/-- A result that is a slice of bindings of the call's own. -/
def GivesBd (w : World) (l : List (ByteArray × ByteArray)) (e : Ending) (w' : World) : Prop := ∃ v, e = .returned v ∧ OwnK 255 encBd 2 w.heap.size w' v l ∧ Below w.heap.size w w'

set_option maxHeartbeats 1000000 in
theorem cloneBd (v : Value) (l : List (ByteArray × ByteArray)) (w : World) (h : HoldsK encBd 2 w v l) (hl : l.length ≤ 10000000) :
    Calls Tryz.prog 229 #[v] w (GivesBd w l) := by
  obtain ⟨x, cx, rfl, hcx, hh⟩ := h.shape
  cases x with
  | none =>
    have hl0 : l = [] := by
      obtain ⟨x', cap', hv, hc', hh'⟩ := hh
      cases hv
      rcases hh' with h1 | ⟨b, off, h1, _⟩
      · exact h1
      · cases h1
    subst hl0
    have hq : ∀ w : World, (binOp .eql 241 (.slice none 0 cx) (.slice none 0 0)).run Tryz.prog w = .ok (.bool true) w := fun w => by
      exact Lib.run_eql_slice_nil w _ _ _ _ _ _ _ Tryz.underlying241
    clear hh h
    simp only [List.length_nil]
    go_enter Tryz.func229, Tryz.ntmps229
    go_wp2
    go_ret
    exact ⟨_, rfl, OwnK.nil _ _ _ _ _, Below.refl _ _⟩
  | some ad =>
    have HB := Lib.hid ((Below.refl w.heap.size w).alloc (Nat.le_refl _) (.cells #[] 255))
    have HH := Lib.hid (hh.on HB.out)
    have HO := Lib.hid (ownK_empty encBd 2 255 w)
    have hq : ∀ w : World, (binOp .eql 241 (.slice (some ad) l.length cx) (.slice none 0 0)).run Tryz.prog w = .ok (.bool false) w := fun w => by
      exact Lib.run_eql_slice_nil w _ _ _ _ _ _ _ Tryz.underlying241
    clear hh h
    go_enter Tryz.func229, Tryz.ntmps229
    go_wp2_with (at_builtin; refine wpList_appK kindBd (B := w.heap.size) (l := []) (m := l) rfl _ _ rfl Tryz.underlying241 rfl rfl HO.out HH.out (by simp; omega) (by unfold maxLen; simp; omega) (by simp) ?_)
    intro v2 w2 ho hg
    have HO2 := Lib.hid ho; have HB2 := Lib.hid (HB.out.grown hg (by simp) (fun g hh => (HO.out.lt g hh).1))
    clear ho hg
    go_wp2_with fail
    go_ret
    exact ⟨_, rfl, HO2.out, HB2.out⟩

/-- One part of a pattern against one part of a name, with the bindings so far. -/
def stepM (s t : ByteArray) (l : List (ByteArray × ByteArray)) : Option (List (ByteArray × ByteArray)) :=
  if s = starB then some l else if letterP s = true then (if fi l s < l.length then (if (nth l (fi l s)).2 = t then some l else none) else some (l ++ [(s, t)])) else (if s = t then some l else none)
theorem stepM_lit {s t : ByteArray} {l : List (ByteArray × ByteArray)} (h : validP s = true) : stepM s t l = if s = t then some l else none := by
  unfold stepM; rw [if_neg (valid_ne h).1, if_neg (by rw [valid_letterP h]; simp)]
theorem stepM_any {s t : ByteArray} {l : List (ByteArray × ByteArray)} (h : s = starB) : stepM s t l = some l := by
  unfold stepM; rw [if_pos h]
theorem stepM_var {s t : ByteArray} {l : List (ByteArray × ByteArray)} (h : letterP s = true) : stepM s t l = if fi l s < l.length then (if (nth l (fi l s)).2 = t then some l else none) else some (l ++ [(s, t)]) := by
  unfold stepM; rw [if_neg (letter_ne h).1, if_pos h]
def stepM' (s t : ByteArray) (l : List (ByteArray × ByteArray)) : Option (List (ByteArray × ByteArray)) := if fi l s < l.length then (if (nth l (fi l s)).2 = t then some l else none) else some (l ++ [(s, t)])
theorem stepM_len {s t : ByteArray} {l m : List (ByteArray × ByteArray)} (h : stepM s t l = some m) : m.length ≤ l.length + 1 := by
  unfold stepM at h
  repeat' split at h
  all_goals first | (cases h; simp) | cases h
/-- What matchPart answers: a slice of its own and whether it matched. -/
def GivesStep (B : Nat) (w : World) (l : List (ByteArray × ByteArray)) (o : Option (List (ByteArray × ByteArray))) (e : Ending) (w' : World) : Prop :=
  ∃ v, e = .returned (.tuple #[v, .bool o.isSome]) ∧ OwnK 255 encBd 2 B w' v (o.getD l) ∧ Below B w w'
theorem ret_three {v : Value} {a b : Bool} (h : a = b) : Ending.returned (.tuple #[v, .bool a]) = .returned (.tuple #[v, .bool b]) := by rw [h]

/-- What the program's questions after the kind of a part answer. -/
theorem as_lit (v : Value) (w : World) : (Instr.typeAssert (.iface 267 v) 257 267 true).run Tryz.prog w = .ok (.tuple #[v, .bool true]) w := by kernel_rfl
theorem as_var (v : Value) (w : World) : (Instr.typeAssert (.iface 271 v) 257 271 true).run Tryz.prog w = .ok (.tuple #[v, .bool true]) w := by kernel_rfl
theorem as_rest (v : Value) (w : World) : (Instr.typeAssert (.iface 272 v) 257 272 true).run Tryz.prog w = .ok (.tuple #[v, .bool true]) w := by kernel_rfl
theorem as_any_lit (v : Value) (w : World) : (Instr.typeAssert (.iface 269 v) 257 267 true).run Tryz.prog w = .ok (.tuple #[.agg #[.string ByteArray.empty], .bool false]) w := by kernel_rfl
theorem as_any_var (v : Value) (w : World) : (Instr.typeAssert (.iface 269 v) 257 271 true).run Tryz.prog w = .ok (.tuple #[.agg #[.string ByteArray.empty], .bool false]) w := by kernel_rfl
theorem as_var_lit (v : Value) (w : World) : (Instr.typeAssert (.iface 271 v) 257 267 true).run Tryz.prog w = .ok (.tuple #[.agg #[.string ByteArray.empty], .bool false]) w := by kernel_rfl
theorem as_lit_rest (v : Value) (w : World) : (Instr.typeAssert (.iface 267 v) 257 272 true).run Tryz.prog w = .ok (.tuple #[.agg #[], .bool false]) w := by kernel_rfl
theorem as_any_rest (v : Value) (w : World) : (Instr.typeAssert (.iface 269 v) 257 272 true).run Tryz.prog w = .ok (.tuple #[.agg #[], .bool false]) w := by kernel_rfl
theorem as_var_rest (v : Value) (w : World) : (Instr.typeAssert (.iface 271 v) 257 272 true).run Tryz.prog w = .ok (.tuple #[.agg #[], .bool false]) w := by kernel_rfl

set_option maxHeartbeats 2000000 in
theorem matchPart (s t : ByteArray) (v : Value) (l : List (ByteArray × ByteArray)) (B : Nat) (w : World) (hs : validP s = true ∨ s = starB ∨ letterP s = true) (h : OwnK 255 encBd 2 B w v l) (hB : B ≤ w.heap.size) (hl : l.length ≤ 10000000) :
    Calls Tryz.prog 233 #[encPt s, .string t, v] w (GivesStep B w l (stepM s t l)) := by
  obtain ⟨x, n, cap, rfl, hn, hcap, ho⟩ := h.shapeN
  rcases hs with hs | hs | hs
  · rw [encPt_lit hs, stepM_lit hs]
    have HO := Lib.hid ho
    have hk1 := fun w => as_lit (.agg #[.string s]) w
    clear ho h hn
    by_cases he : s = t
    · rw [if_pos he]
      have ht := tle_yes he
      clear hs he
      go_enter Tryz.func233, Tryz.ntmps233
      go_wp2_with fail
      go_quiet (fail)
      go_wp2_with fail
      go_ret2
      exact ⟨_, rfl, HO.out.on (below_drewN ((Below.refl _ _).alloc (Nat.le_refl _) _) _), below_drewN ((Below.refl _ _).alloc hB _) _⟩
    · rw [if_neg he]
      have ht := tle_no he
      clear hs he
      go_enter Tryz.func233, Tryz.ntmps233
      go_wp2_with fail
      go_quiet (fail)
      go_wp2_with fail
      go_ret2
      exact ⟨_, rfl, HO.out.on (below_drewN ((Below.refl _ _).alloc (Nat.le_refl _) _) _), below_drewN ((Below.refl _ _).alloc hB _) _⟩
  · rw [encPt_any hs, stepM_any hs]
    have HO := Lib.hid ho
    have hk1 := fun w => as_any_lit (.agg #[]) w
    have hk2 := fun w => as_any_var (.agg #[]) w
    clear ho h hn hs
    go_enter Tryz.func233, Tryz.ntmps233
    go_wp2
    go_ret2
    exact ⟨_, rfl, HO.out, Below.refl _ _⟩
  · rw [encPt_var hs, stepM_var hs]
    have HO := Lib.hid ho
    have HH := Lib.hid (ho.holds.on ((Below.refl w.heap.size w).alloc (Nat.le_refl _) (.cells #[.string s] 271)))
    have HN := Lib.hid hn
    have hk1 := fun w => as_var_lit (.agg #[.string s]) w
    have hk2 := fun w => as_var (.agg #[.string s]) w
    clear ho h hn hs
    have HW : Hid (stepM' s t l = (if fi l s < l.length then (if (nth l (fi l s)).2 = t then some l else none) else some (l ++ [(s, t)]))) := Lib.hid rfl
    rw [← HW.out]
    go_enter Tryz.func233, Tryz.ntmps233
    go_wp2_with fail
    refine (bindingIndex _ l s _ HH.out (by have := HN.out; omega)).mono ?_
    rintro e w1 ⟨rfl, hb1⟩
    have HB1 := Lib.hid (((Below.refl B w).alloc hB (.cells #[.string s] 271)).trans (hb1.mono (by simp; omega)))
    have HK1 := Lib.hid ((Ret.NC.new w (.string s) 271).on hb1)
    have HO1 := Lib.hid ((HO.out.on ((Below.refl _ _).alloc (Nat.le_refl _) (.cells #[.string s] 271))).on hb1)
    have HS1 := Lib.hid (show B ≤ w1.heap.size by have := hb1.size; simp at this; omega)
    clear hb1
    rcases ixB_cases l s with ⟨h1, -, h2⟩ | ⟨i, hi, h1, h3, h2⟩
    · rw [h1]
      have HV : Hid (stepM' s t l = some (l ++ [(s, t)])) := Lib.hid (by unfold stepM'; rw [if_neg h2])
      have hc1 := HK1.out.1
      have HB2 := Lib.hid (HB1.out.alloc HS1.out (.cells #[.string s, .string t] 255))
      have HO2 := Lib.hid (HO1.out.on ((Below.refl _ _).alloc (Nat.le_refl _) (.cells #[.string s, .string t] 255)))
      clear h1 h2
      go_wp2_with (at_builtin; refine wpList_appK kindBd (B := B) (l := l) (m := [(s, t)]) rfl _ _ rfl Tryz.underlying241 rfl rfl HO2.out (holdsK_one szBd 255 w1 (s, t)) (by simp; omega) (by unfold maxLen; simp; omega) (by have := HS1.out; simp; omega) ?_)
      intro v2 w2 ho2 hg2
      have HO3 := Lib.hid ho2
      have HB3 := Lib.hid (HB2.out.grown hg2 (by have := HS1.out; simp; omega) (fun g hh => (HO2.out.lt g hh).1))
      clear ho2 hg2
      go_wp2_with fail
      go_ret2
      exact ⟨_, ret_three (by rw [HV.out]; rfl), by rw [HV.out]; exact HO3.out, HB3.out⟩
    · rw [h1]
      obtain ⟨b, off, rfl, -, hc2⟩ := bdAt HO1.out.holds (k := i) hi
      have hi2 : i < n := by have := HN.out; omega
      have hc1 := HK1.out.1
      by_cases he : (nth l i).2 = t
      · have HV : Hid (stepM' s t l = some l) := Lib.hid (by unfold stepM'; rw [h3, if_pos hi, if_pos he])
        have ht := tle_yes he
        clear h1 h2 h3 he
        go_wp2_with fail
        go_quiet (fail)
        go_wp2_with fail
        go_ret2
        exact ⟨_, ret_three (by rw [HV.out]; rfl), by rw [HV.out]; exact HO1.out.on (below_drewN (Below.refl _ _) _), below_drewN HB1.out _⟩
      · have HV : Hid (stepM' s t l = none) := Lib.hid (by unfold stepM'; rw [h3, if_pos hi, if_neg he])
        have ht := tle_no he
        clear h1 h2 h3 he
        go_wp2_with fail
        go_quiet (fail)
        go_wp2_with fail
        go_ret2
        exact ⟨_, ret_three (by rw [HV.out]; rfl), by rw [HV.out]; exact HO1.out.on (below_drewN (Below.refl _ _) _), below_drewN HB1.out _⟩
end Go.Proofs.YtcidfmmeonhkhaaGreatDoor.Row
