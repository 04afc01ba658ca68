/- Contracts of FormatPattern and ParsePattern, the program's and the model's. No conditions but that lengths fit. -/
import Derived.Test.YtkojeajjappchaaVPat2
import Derived.Test.YtkojeajjappchaaParseN
namespace Go.Proofs.Ytkojeajjappchaa.Row
open Go.ChangeShapes Go.WideShapes Go.ChangeAt Go.RowKit Go.Instr
set_option linter.unusedVariables false
set_option maxRecDepth 100000

theorem validPat_nil : validPat [] = true := validPat_iff.2 ⟨by simp, fun j h => absurd h (by simp)⟩
theorem part_good {s : ByteArray} {b : Bool} (h : elemP s b = true) : fullB s = true ∧ ∀ c ∈ bl s, c ≠ 47 := by
  rcases elemP_iff.1 h with h | h | h | ⟨h, _⟩
  · exact ⟨valid_full h, valid_free h⟩
  · subst h
    exact ⟨by decide, fun c hc => by simp [bl, starB] at hc; rw [hc]; decide⟩
  · obtain ⟨h2, h0, h1, h3⟩ := letterP_iff.1 h
    refine ⟨by unfold fullB; exact decide_eq_true (by omega), fun c hc e => ?_⟩
    obtain ⟨i, hi, rfl⟩ := List.getElem_of_mem hc
    rw [bl_length] at hi
    rw [bl_get s i hi] at e
    have : i = 0 ∨ i = 1 := by omega
    rcases this with rfl | rfl
    · rw [e] at h0; exact absurd h0 (by decide)
    · rw [e] at h1; exact absurd h1 (by decide)
  · subst h
    exact ⟨by decide, fun c hc => by simp [bl, star2B] at hc; rw [hc]; decide⟩
theorem patElem_full {l : List ByteArray} (h : validPat l = true) {p : ByteArray} (hp : p ∈ l) : fullB p = true := by
  obtain ⟨j, hj, rfl⟩ := List.getElem_of_mem hp
  have := (validPat_iff.1 h).2 j hj
  rw [nth_eq hj] at this
  exact (part_good this).1
theorem patElem_free {l : List ByteArray} (h : validPat l = true) {p : ByteArray} (hp : p ∈ l) : ∀ c ∈ bl p, c ≠ 47 := by
  obtain ⟨j, hj, rfl⟩ := List.getElem_of_mem hp
  have := (validPat_iff.1 h).2 j hj
  rw [nth_eq hj] at this
  exact (part_good this).2
def ppOk (s : ByteArray) : Bool := validPat (partsB s) && decide (fmtS (partsB s) = s)
def ppN (s : ByteArray) : List ByteArray := if ppOk s = true then partsB s else []
theorem pt_filter_valid {l : List ByteArray} (h : validPat l = true) : l.filter fullB = l := by
  rw [List.filter_eq_self]
  exact fun p hp => patElem_full h hp
theorem pt_free_of_valid {l : List ByteArray} (h : validPat l = true) : ∀ p ∈ l.map bl, ∀ c ∈ p, c ≠ 47 := by
  intro p hp
  obtain ⟨q, hq, rfl⟩ := List.mem_map.1 hp
  exact patElem_free h hq

/-- The text of a right name that has parts is split into the empty piece and the parts. -/
theorem pt_split_fmt {l : List ByteArray} (h : validPat l = true) (hl : l ≠ []) : splitB (fmtS l) = mk [] :: l := by
  unfold splitB fmtS fmtL
  rw [bl_mk, goS, if_pos rfl, goS_join (l.map bl) (by simpa using hl) (pt_free_of_valid h), List.map_cons, map_mk_bl]
theorem pt_parts_fmt {l : List ByteArray} (h : validPat l = true) : partsB (fmtS l) = l := by
  by_cases hl : l = []
  · subst hl
    rw [fmtS_nil]
    unfold partsB splitB
    rw [bl_mk]
    simp [goS, fullB, mk_size]
  · unfold partsB
    rw [pt_split_fmt h hl, List.filter_cons_of_neg (by simp [fullB, mk_size]), pt_filter_valid h]
theorem ppOk_fmt {l : List ByteArray} (h : validPat l = true) : ppOk (fmtS l) = true := by
  unfold ppOk; rw [pt_parts_fmt h, h]; simp
theorem ppN_fmt {l : List ByteArray} (h : validPat l = true) : ppN (fmtS l) = l := by
  unfold ppN; rw [if_pos (ppOk_fmt h), pt_parts_fmt h]
theorem ppOk_iff {s : ByteArray} : ppOk s = true ↔ validPat (partsB s) = true ∧ fmtS (partsB s) = s := by unfold ppOk; simp
theorem ppN_yes {s : ByteArray} (h : ppOk s = true) : ppN s = partsB s := if_pos h
theorem ppN_no {s : ByteArray} (h : ppOk s = false) : ppN s = [] := if_neg (by simp [h])
theorem pt_fmt_pN {s : ByteArray} (h : ppOk s = true) : fmtS (ppN s) = s := by rw [ppN_yes h]; exact (ppOk_iff.1 h).2
theorem pt_valid_pN (s : ByteArray) : validPat (ppN s) = true := by
  cases h : ppOk s with
  | true => rw [ppN_yes h]; exact (ppOk_iff.1 h).1
  | false => rw [ppN_no h]; exact validPat_nil

/-- The reference model's way: what the pieces are asked. -/
theorem ppOk_slash : ppOk (mk [47]) = true ∧ ppN (mk [47]) = [] := by
  have h : validPat [] = true := validPat_nil
  rw [← fmtS_nil]
  exact ⟨ppOk_fmt h, ppN_fmt h⟩
theorem pt_split_yes {s : ByteArray} {rest : List ByteArray} (h : splitB s = mk [] :: rest) (hr : rest ≠ []) (hv : validPat rest = true) : ppOk s = true ∧ ppN s = rest := by
  have hs : fmtS rest = s := by
    apply bl_inj
    have h1 : goS [] (bl s) = [] :: rest.map bl := by
      have := congrArg (List.map bl) h
      unfold splitB at this
      rw [map_bl_mk, List.map_cons, bl_mk] at this
      exact this
    have h2 := join_goS (bl s) []
    rw [h1] at h2
    obtain ⟨y, r, rfl⟩ : ∃ y r, rest = y :: r := by
      cases rest with
      | nil => exact absurd rfl hr
      | cons y r => exact ⟨y, r, rfl⟩
    rw [List.map_cons, join_cons2, ← List.map_cons] at h2
    unfold fmtS fmtL
    rw [bl_mk]
    exact h2
  rw [← hs]
  exact ⟨ppOk_fmt hv, ppN_fmt hv⟩
theorem pt_split_no {s : ByteArray} (h47 : s ≠ mk [47]) (h : ∀ rest, splitB s = mk [] :: rest → rest ≠ [] → validPat rest = false) : ppOk s = false := by
  cases hp : ppOk s with
  | false => rfl
  | true =>
    obtain ⟨h1, h2⟩ := ppOk_iff.1 hp
    by_cases he : partsB s = []
    · rw [he, fmtS_nil] at h2
      exact absurd h2.symm h47
    · have h3 := pt_split_fmt h1 he
      rw [h2] at h3
      have h4 := h _ h3 he
      rw [h1] at h4; cases h4

theorem ppN_len (s : ByteArray) : (ppN s).length ≤ 6 := (validPat_iff.1 (pt_valid_pN s)).1
theorem aggPt : Ret.AggOf Try.prog 29 1 := by unfold Ret.AggOf; exact ⟨by kernel_rfl, by kernel_rfl⟩

set_option maxHeartbeats 1000000 in
theorem implFormatPattern (v : Value) (l : List ByteArray) (w : World) (h : Holds Value.string w v l) (hl : bulk l ≤ 100000000) :
    Calls Try.prog 60 #[.agg #[v]] w fun e w' => e = .returned (.string (fmtS l)) ∧ Below w.heap.size w w' := by
  obtain ⟨x, n, cap, rfl, hn, hcap, hh⟩ := h.shapeN
  have HB := Lib.hid ((Below.refl w.heap.size w).alloc (Nat.le_refl _) (.cells #[.slice x n cap] 29))
  have HH := Lib.hid (hh.on HB.out); have HL := Lib.hid hl
  clear hh h hn hl
  go_enter Try.func60, Try.ntmps60
  go_wp2_with fail
  refine (implFormatName _ l _ HH.out HL.out).mono ?_
  rintro e w' ⟨rfl, hb⟩
  have HB2 := Lib.hid (HB.out.trans (hb.mono (by simp))); clear hb
  go_wp2
  go_ret
  exact ⟨rfl, HB2.out⟩

set_option maxHeartbeats 1000000 in
theorem specFormatPattern (v : Value) (l : List ByteArray) (w : World) (h : Holds Value.string w v l) (hl : bulk l ≤ 100000000) :
    Calls Try.prog 59 #[.agg #[v]] w fun e w' => e = .returned (.string (fmtS l)) ∧ Below w.heap.size w w' := by
  obtain ⟨x, n, cap, rfl, hn, hcap, hh⟩ := h.shapeN
  have HB := Lib.hid ((Below.refl w.heap.size w).alloc (Nat.le_refl _) (.cells #[.slice x n cap] 29))
  have HH := Lib.hid (hh.on HB.out); have HL := Lib.hid hl
  clear hh h hn hl
  go_enter Try.func59, Try.ntmps59
  go_wp2_with fail
  refine (specFormatName _ l _ HH.out HL.out).mono ?_
  rintro e w' ⟨rfl, hb⟩
  have HB2 := Lib.hid (HB.out.trans (hb.mono (by simp))); clear hb
  go_wp2
  go_ret
  exact ⟨rfl, HB2.out⟩

set_option maxHeartbeats 2000000 in
theorem implParsePattern (s : ByteArray) (w : World) (hs : s.size ≤ 10000000) :
    Calls Try.prog 56 #[.string s] w (GivesNB w (ppN s) (ppOk s)) := by
  have HBK := Lib.hid (show bulk (partsB s) ≤ 100000000 by have := bulk_parts s; omega)
  have HB0 := Lib.hid ((Below.refl w.heap.size w).alloc (Nat.le_refl _) (.cells #[.slice none 0 0] 29))
  have HR := Lib.hid (Ret.NC.new' (w := w) (.slice none 0 0) 29 rfl)
  go_enter Try.func56, Try.ntmps56
  go_wp2_with fail
  refine (splitParts s _ hs).mono ?_
  rintro e w1 ⟨v1, rfl, ho1, hb1⟩
  obtain ⟨x1, n1, c1, rfl, hn1, hc1, ho1⟩ := ho1.shapeN
  clear hn1
  have HB1 := Lib.hid (HB0.out.trans (hb1.mono HB0.out.size))
  have HR1 := Lib.hid (HR.out.on hb1)
  have hz1 := hb1.size
  simp only [World.size_alloc] at hz1 ho1
  have HO1 := Lib.hid (ho1.on ((Below.refl _ _).alloc (Nat.le_refl _) (.cells #[.slice x1 n1 c1] 29)))
  clear ho1 hb1
  go_wp2_with fail
  refine (implValidPattern _ _ _ HO1.out.holds HBK.out).mono ?_
  rintro e w2 ⟨rfl, hb2⟩
  have HT2 := Lib.hid ((Ret.NC.new' (w := w1) (.slice x1 n1 c1) 29 rfl).on hb2)
  have HR2 := Lib.hid ((HR1.out.alloc (.cells #[.slice x1 n1 c1] 29)).on hb2)
  have HO2 := Lib.hid (HO1.out.on hb2)
  have HB2 := Lib.hid ((HB1.out.alloc HB1.out.size (.cells #[.slice x1 n1 c1] 29)).trans (hb2.mono (by simp; omega)))
  have hz2 := hb2.size
  simp only [World.size_alloc] at hz2
  clear hb2
  cases hv : validPat (partsB s) with
  | false =>
    have HP := Lib.hid (show ppOk s = false by unfold ppOk; rw [hv]; rfl)
    have HPN := Lib.hid (ppN_no HP.out)
    clear hv
    obtain ⟨hk2, hf2⟩ := HR2.out
    obtain ⟨q1, q2, q3⟩ := endN (w := w) (g := w.heap.size) (B := w.heap.size + 1) (v := .slice none 0 0) (l := []) (by omega) (by omega) (Own.nil _ _ _ _) hk2 HB2.out
    have HQ1 := Lib.hid q1; have HQ2 := Lib.hid q2; have HQ3 := Lib.hid q3
    clear q1 q2 q3
    go_wp2
    refine bodyPost_ret (Ret.results_ct rfl _ _ w.heap.size [_] rfl aggPt (Ret.one HQ1.out)) rfl ?_
    exact ⟨_, ret_nb HP.out.symm, by rw [HPN.out]; exact HQ2.out, HQ3.out⟩
  | true =>
    have HV := Lib.hid hv
    obtain ⟨ht2, -⟩ := HT2.out
    go_wp2_with fail
    refine (implFormatPattern _ _ _ HO2.out.holds HBK.out).mono ?_
    rintro e w3 ⟨rfl, hb3⟩
    have HR3 := Lib.hid (HR2.out.on hb3)
    have HO3 := Lib.hid (HO2.out.on hb3)
    have HB3 := Lib.hid (HB2.out.trans (hb3.mono HB2.out.size))
    have HT3 := Lib.hid (HT2.out.on hb3)
    clear hb3 ht2
    by_cases he : fmtS (partsB s) = s
    · have HP := Lib.hid (show ppOk s = true by unfold ppOk; rw [hv, he]; simp)
      have HPN := Lib.hid (ppN_yes HP.out)
      have hq := tl_eq he
      clear he hv
      obtain ⟨ht3, -⟩ := HT3.out
      obtain ⟨hk2, hf2⟩ := HR3.out
      obtain ⟨q1, q2, q3⟩ := endN (w := w) (g := w.heap.size) (by omega) (by omega) HO3.out hk2 HB3.out
      have HQ1 := Lib.hid q1; have HQ2 := Lib.hid q2; have HQ3 := Lib.hid q3
      clear q1 q2 q3
      go_wp2
      refine bodyPost_ret (Ret.results_ct rfl _ _ w.heap.size [_] rfl aggPt (Ret.one HQ1.out)) rfl ?_
      exact ⟨_, ret_nb HP.out.symm, by rw [HPN.out]; exact HQ2.out, HQ3.out⟩
    · have HP := Lib.hid (show ppOk s = false by unfold ppOk; rw [hv]; simp [he])
      have HPN := Lib.hid (ppN_no HP.out)
      have hq := tl_ne he
      clear he hv
      obtain ⟨hk2, hf2⟩ := HR3.out
      obtain ⟨q1, q2, q3⟩ := endN (w := w) (g := w.heap.size) (B := w.heap.size + 1) (v := .slice none 0 0) (l := []) (by omega) (by omega) (Own.nil _ _ _ _) hk2 HB3.out
      have HQ1 := Lib.hid q1; have HQ2 := Lib.hid q2; have HQ3 := Lib.hid q3
      clear q1 q2 q3
      go_wp2
      refine bodyPost_ret (Ret.results_ct rfl _ _ w.heap.size [_] rfl aggPt (Ret.one HQ1.out)) rfl ?_
      exact ⟨_, ret_nb HP.out.symm, by rw [HPN.out]; exact HQ2.out, HQ3.out⟩

set_option maxHeartbeats 2000000 in
theorem specParsePattern (s : ByteArray) (w : World) (hs : s.size ≤ 10000000) :
    Calls Try.prog 54 #[.string s] w (GivesHB w (ppN s) (ppOk s)) := by
  have HB0 := Lib.hid ((Below.refl w.heap.size w).alloc (Nat.le_refl _) (.cells #[.slice none 0 0] 29))
  have HR := Lib.hid (Ret.NC.new' (w := w) (.slice none 0 0) 29 rfl)
  by_cases h47 : s = mk [47]
  · obtain ⟨p1, p2⟩ := ppOk_slash
    rw [← h47] at p1 p2
    have HP := Lib.hid p1; have HPN := Lib.hid p2
    have hq : (s.toList == [47]) = true := by rw [h47, tl47]; rfl
    clear p1 p2 h47
    go_enter Try.func54, Try.ntmps54
    go_wp2
    refine bodyPost_ret (Ret.results_ct rfl _ _ w.heap.size [_] rfl aggPt (Ret.one HR.out.1)) rfl ?_
    exact ⟨_, ret_nb HP.out.symm, by rw [HPN.out]; exact Holds.nil _ _, HB0.out⟩
  · have h47l : s.toList ≠ [47] := fun e => h47 (toList_inj (e.trans tl47.symm))
    have hq : (s.toList == [47]) = false := by simpa using h47l
    have H47 := Lib.hid h47
    have hpos := split_pos s
    have hbk := bulk_split s
    have hlb := bulk_len (splitB s)
    obtain ⟨n, hn⟩ : ∃ n, n = (splitB s).length := ⟨_, rfl⟩
    rw [← hn] at hpos hlb
    have hnb : n ≤ 10000001 := by omega
    have HN := Lib.hid hn
    have HBK := Lib.hid hbk
    clear h47 h47l hn hbk hlb
    go_enter Try.func54, Try.ntmps54
    go_wp2_with fail
    refine (l4Split s _ hs).mono ?_
    rintro e w1 ⟨v1, rfl, ho1, hb1⟩
    have HB1 := Lib.hid (HB0.out.trans (hb1.mono HB0.out.size))
    have HR1 := Lib.hid (HR.out.on hb1)
    obtain ⟨g, c1, rfl, hg1, hg2, hc1⟩ : ∃ g c1, v1 = .slice (some ⟨g, 0, none⟩) n c1 ∧ w.heap.size + 1 ≤ g ∧ g < w1.heap.size ∧ n ≤ c1 := by
      rcases ho1.form with ⟨_, h2⟩ | ⟨g, c1, h1, h2, h3, h4, h5⟩
      · exact absurd (congrArg List.length h2) (by rw [← HN.out]; simp; omega)
      · exact ⟨g, c1, by rw [h1, HN.out], by simpa using h2, h3, by rw [HN.out]; exact h4⟩
    have HH1 := Lib.hid ho1.holds
    clear ho1 hb1
    by_cases h2 : n = 1
    · subst h2
      have HP := Lib.hid (pt_split_no H47.out (fun rest h hr => by
        have h3 := HN.out
        rw [h] at h3
        simp at h3
        exact absurd h3 hr))
      have HPN := Lib.hid (ppN_no HP.out)
      by_cases hc : c1 = 1
      · subst hc
        obtain ⟨hk2, hf2⟩ := HR1.out.alloc (.cells #[.slice (some ⟨g, 0, none⟩) 0 0] 29)
        obtain ⟨q1, q2, q3⟩ := endN (w := w) (g := w.heap.size) (B := w.heap.size + 1) (v := .slice none 0 0) (l := []) (by omega) (by omega) (Own.nil _ _ _ _) hk2 (HB1.out.alloc HB1.out.size (.cells #[.slice (some ⟨g, 0, none⟩) 0 0] 29))
        have HQ1 := Lib.hid q1; have HQ2 := Lib.hid q2; have HQ3 := Lib.hid q3
        clear q1 q2 q3
        go_wp2
        refine bodyPost_ret (Ret.results_ct rfl _ _ w.heap.size [_] rfl aggPt (Ret.one HQ1.out)) rfl ?_
        exact ⟨_, ret_nb HP.out.symm, by rw [HPN.out]; exact HQ2.out.holds, HQ3.out⟩
      · have hc2 : ¬ c1 - 1 = 0 := by omega
        obtain ⟨hk2, hf2⟩ := HR1.out.alloc (.cells #[.slice (some ⟨g, 1, none⟩) 0 (c1 - 1)] 29)
        obtain ⟨q1, q2, q3⟩ := endN (w := w) (g := w.heap.size) (B := w.heap.size + 1) (v := .slice none 0 0) (l := []) (by omega) (by omega) (Own.nil _ _ _ _) hk2 (HB1.out.alloc HB1.out.size (.cells #[.slice (some ⟨g, 1, none⟩) 0 (c1 - 1)] 29))
        have HQ1 := Lib.hid q1; have HQ2 := Lib.hid q2; have HQ3 := Lib.hid q3
        clear q1 q2 q3
        go_wp2
        refine bodyPost_ret (Ret.results_ct rfl _ _ w.heap.size [_] rfl aggPt (Ret.one HQ1.out)) rfl ?_
        exact ⟨_, ret_nb HP.out.symm, by rw [HPN.out]; exact HQ2.out.holds, HQ3.out⟩
    · have hn2 : 2 ≤ n := by omega
      have hn3 : decide ((n : Int) < 2) = false := by simp; omega
      have hc2 : ¬ c1 = 1 := by omega
      obtain ⟨b0, off0, he0, hcell⟩ := HH1.out.at (j := 0) (by rw [← HN.out]; omega)
      cases he0
      have HD := Lib.hid ((HH1.out.drop (j := 1) (by rw [← HN.out]; omega)).on ((Below.refl _ _).alloc (Nat.le_refl _) (.cells #[.slice (some ⟨g, 1, none⟩) (n - 1) (c1 - 1)] 29)))
      have HL := Lib.hid (show splitB s = nth (splitB s) 0 :: (splitB s).drop 1 by
        have := drop_nth (l := splitB s) (k := 0) (by rw [← HN.out]; omega)
        rw [List.drop_zero] at this
        exact this)
      have HDN := Lib.hid (show (splitB s).drop 1 ≠ [] by
        intro e
        have := congrArg List.length e
        rw [List.length_drop, ← HN.out] at this
        simp at this; omega)
      have HBD := Lib.hid (show bulk ((splitB s).drop 1) ≤ 100000000 by
        have h3 := HBK.out
        rw [HL.out, bulk_cons] at h3
        omega)
      have HR2 := Lib.hid (HR1.out.alloc (.cells #[.slice (some ⟨g, 1, none⟩) (n - 1) (c1 - 1)] 29))
      have HT2 := Lib.hid (Ret.NC.new' (w := w1) (.slice (some ⟨g, 1, none⟩) (n - 1) (c1 - 1)) 29 rfl)
      have HB2 := Lib.hid (HB1.out.alloc HB1.out.size (.cells #[.slice (some ⟨g, 1, none⟩) (n - 1) (c1 - 1)] 29))
      rw [Nat.add_zero] at hcell
      by_cases hx : nth (splitB s) 0 = mk []
      · have hxe : (nth (splitB s) 0).toList.isEmpty = true := by rw [hx, tl0]; rfl
        have HX := Lib.hid hx
        clear hx
        go_wp2_with fail
        refine (specValidPattern _ _ _ HD.out HBD.out).mono ?_
        rintro e w3 ⟨rfl, hb3⟩
        have HR3 := Lib.hid (HR2.out.on hb3)
        have HT3 := Lib.hid (HT2.out.on hb3)
        have HD3 := Lib.hid (HD.out.on hb3)
        have HB3 := Lib.hid (HB2.out.trans (hb3.mono HB2.out.size))
        clear hb3
        cases hv : validPat ((splitB s).drop 1) with
        | true =>
          obtain ⟨p1, p2⟩ := pt_split_yes (by have := HL.out; rw [HX.out] at this; exact this) HDN.out hv
          have HP := Lib.hid p1; have HPN := Lib.hid p2
          obtain ⟨hk2, hf2⟩ := HR3.out
          obtain ⟨hk3, -⟩ := HT3.out
          have HQ1 := Lib.hid (Ret.set_same (v := .slice (some ⟨g, 1, none⟩) (n - 1) (c1 - 1)) hk2)
          have HQ2 := Lib.hid (HD3.out.grown (Ret.grownBy_set w3 ⟨w.heap.size, 0, none⟩ (.slice (some ⟨g, 1, none⟩) (n - 1) (c1 - 1))) (fun g1 h1 e1 => by simp [Value.ownBlock] at h1 e1; omega))
          have HQ3 := Lib.hid (HB3.out.setCell (p := ⟨w.heap.size, 0, none⟩) (Nat.le_refl _) (.slice (some ⟨g, 1, none⟩) (n - 1) (c1 - 1)))
          clear p1 p2 hv
          go_wp2
          refine bodyPost_ret (Ret.results_ct rfl _ _ w.heap.size [_] rfl aggPt (Ret.one HQ1.out)) rfl ?_
          exact ⟨_, ret_nb HP.out.symm, by rw [HPN.out]; exact HQ2.out, HQ3.out⟩
        | false =>
          have HP := Lib.hid (pt_split_no H47.out (fun rest h hr => by
            have h3 := HL.out
            rw [h] at h3
            have h4 := (List.cons.inj h3).2
            rw [h4, ← h]; exact hv))
          have HPN := Lib.hid (ppN_no HP.out)
          obtain ⟨hk2, hf2⟩ := HR3.out
          obtain ⟨q1, q2, q3⟩ := endN (w := w) (g := w.heap.size) (B := w.heap.size + 1) (v := .slice none 0 0) (l := []) (by omega) (by omega) (Own.nil _ _ _ _) hk2 HB3.out
          have HQ1 := Lib.hid q1; have HQ2 := Lib.hid q2; have HQ3 := Lib.hid q3
          clear q1 q2 q3 hv
          go_wp2
          refine bodyPost_ret (Ret.results_ct rfl _ _ w.heap.size [_] rfl aggPt (Ret.one HQ1.out)) rfl ?_
          exact ⟨_, ret_nb HP.out.symm, by rw [HPN.out]; exact HQ2.out.holds, HQ3.out⟩
      · have hxe : (nth (splitB s) 0).toList.isEmpty = false := by
          have : (nth (splitB s) 0).toList ≠ [] := fun e => hx (toList_inj (e.trans tl0.symm))
          simpa using this
        have HP := Lib.hid (pt_split_no H47.out (fun rest h hr => by
          have h3 := HL.out
          rw [h] at h3
          exact absurd (by rw [h]; exact (List.cons.inj h3).1.symm) hx))
        have HPN := Lib.hid (ppN_no HP.out)
        clear hx
        obtain ⟨hk2, hf2⟩ := HR2.out
        obtain ⟨q1, q2, q3⟩ := endN (w := w) (g := w.heap.size) (B := w.heap.size + 1) (v := .slice none 0 0) (l := []) (by omega) (by omega) (Own.nil _ _ _ _) hk2 HB2.out
        have HQ1 := Lib.hid q1; have HQ2 := Lib.hid q2; have HQ3 := Lib.hid q3
        clear q1 q2 q3
        go_wp2
        refine bodyPost_ret (Ret.results_ct rfl _ _ w.heap.size [_] rfl aggPt (Ret.one HQ1.out)) rfl ?_
        exact ⟨_, ret_nb HP.out.symm, by rw [HPN.out]; exact HQ2.out.holds, HQ3.out⟩

end Go.Proofs.Ytkojeajjappchaa.Row
