/- Contracts of ParseName, the program's and the reference model's. No conditions but that lengths fit. -/
import Derived.Test.YtihcebjbkifbpaaSplit
import Derived.Test.YtihcebjbkifbpaaForm
import Derived.Test.YtihcebjbkifbpaaAppP
namespace Go.Proofs.Ytihcebjbkifbpaa.Row
open Go.ChangeShapes Go.WideShapes Go.ChangeAt Go.RowKit Go.Instr
set_option linter.unusedVariables false
set_option maxRecDepth 100000

theorem bulk_cons (x : ByteArray) (l : List ByteArray) : bulk (x :: l) = 1 + x.size + bulk l := by
  have := bulk_append [x] l
  rw [bulk_one] at this
  exact this
theorem bulk_nil : bulk [] = 0 := by simp [bulk, bulkTo]
theorem bulk_filter (p : ByteArray → Bool) : ∀ l : List ByteArray, bulk (l.filter p) ≤ bulk l
  | [] => by simp
  | x :: l => by
    have := bulk_filter p l
    rw [List.filter_cons]
    split
    · rw [bulk_cons, bulk_cons]; omega
    · rw [bulk_cons]; omega
theorem bulk_goS : ∀ (t cur : List UInt8), bulk ((goS cur t).map mk) = cur.length + t.length + 1
  | [], cur => by simp [goS, bulk_one, mk_size]; omega
  | c :: t, cur => by
    unfold goS
    split
    · rw [List.map_cons, bulk_cons, bulk_goS t, mk_size]; simp; omega
    · rw [bulk_goS t]; simp; omega
theorem bulk_split (s : ByteArray) : bulk (splitB s) = s.size + 1 := by
  unfold splitB; rw [bulk_goS, bl_length]; simp
theorem bulk_parts (s : ByteArray) : bulk (partsB s) ≤ s.size + 1 := by
  have := bulk_filter fullB (splitB s)
  rw [bulk_split] at this
  exact this
theorem split_pos (s : ByteArray) : 0 < (splitB s).length := by
  unfold splitB; rw [List.length_map]
  exact List.length_pos_iff.2 (goS_ne _ _)

theorem pN_len (s : ByteArray) : (pN s).length ≤ 6 := (validN_iff.1 (valid_pN s)).1
theorem tl47 : (mk [47]).toList = [47] := ByteArray.toList_mk [47]
theorem tl0 : (mk []).toList = [] := ByteArray.toList_mk []

set_option maxHeartbeats 2000000 in
theorem specParseName (s : ByteArray) (w : World) (hs : s.size ≤ 10000000) :
    Calls Try.prog 96 #[.string s] w (GivesHB w (pN s) (pOk s)) := by
  have HB0 := Lib.hid ((Below.refl w.heap.size w).alloc (Nat.le_refl _) (.cells #[.slice none 0 0] 27))
  have HR := Lib.hid (Ret.NC.new' (w := w) (.slice none 0 0) 27 rfl)
  by_cases h47 : s = mk [47]
  · obtain ⟨p1, p2⟩ := pOk_slash
    rw [← h47] at p1 p2
    have HP := Lib.hid p1; have HPN := Lib.hid p2
    have hq : (s.toList == [47]) = true := by rw [h47, tl47]; rfl
    clear p1 p2 h47
    go_enter Try.func96, Try.ntmps96
    go_wp2
    refine bodyPost_ret (Ret.results_ct rfl _ _ w.heap.size [_] rfl aggN (Ret.one HR.out.1)) rfl ?_
    exact ⟨_, ret_nb HP.out.symm, by rw [HPN.out]; exact Holds.nil _ _, HB0.out⟩
  · have h47l : s.toList ≠ [47] := fun e => h47 (toList_inj (e.trans tl47.symm))
    have hq : (s.toList == [47]) = false := by simpa using h47l
    have H47 := Lib.hid h47
    have hpos := split_pos s
    have hbk := bulk_split s
    have hlb := bulk_len (splitB s)
    obtain ⟨n, hn⟩ : ∃ n, n = (splitB s).length := ⟨_, rfl⟩
    rw [← hn] at hpos hlb
    have hnb : n ≤ 10000001 := by omega
    have HN := Lib.hid hn
    have HBK := Lib.hid hbk
    clear h47 h47l hn hbk hlb
    go_enter Try.func96, Try.ntmps96
    go_wp2_with fail
    refine (l4Split s _ hs).mono ?_
    rintro e w1 ⟨v1, rfl, ho1, hb1⟩
    have HB1 := Lib.hid (HB0.out.trans (hb1.mono HB0.out.size))
    have HR1 := Lib.hid (HR.out.on hb1)
    obtain ⟨g, c1, rfl, hg1, hg2, hc1⟩ : ∃ g c1, v1 = .slice (some ⟨g, 0, none⟩) n c1 ∧ w.heap.size + 1 ≤ g ∧ g < w1.heap.size ∧ n ≤ c1 := by
      rcases ho1.form with ⟨_, h2⟩ | ⟨g, c1, h1, h2, h3, h4, h5⟩
      · exact absurd (congrArg List.length h2) (by rw [← HN.out]; simp; omega)
      · exact ⟨g, c1, by rw [h1, HN.out], by simpa using h2, h3, by rw [HN.out]; exact h4⟩
    have HH1 := Lib.hid ho1.holds
    clear ho1 hb1
    by_cases h2 : n = 1
    · subst h2
      have HP := Lib.hid (split_no H47.out (fun rest h hr => by
        have h3 := HN.out
        rw [h] at h3
        simp at h3
        exact absurd h3 hr))
      have HPN := Lib.hid (pN_no HP.out)
      by_cases hc : c1 = 1
      · subst hc
        obtain ⟨hk2, hf2⟩ := HR1.out.alloc (.cells #[.slice (some ⟨g, 0, none⟩) 0 0] 27)
        obtain ⟨q1, q2, q3⟩ := endN (w := w) (g := w.heap.size) (B := w.heap.size + 1) (v := .slice none 0 0) (l := []) (by omega) (by omega) (Own.nil _ _ _ _) hk2 (HB1.out.alloc HB1.out.size (.cells #[.slice (some ⟨g, 0, none⟩) 0 0] 27))
        have HQ1 := Lib.hid q1; have HQ2 := Lib.hid q2; have HQ3 := Lib.hid q3
        clear q1 q2 q3
        go_wp2
        refine bodyPost_ret (Ret.results_ct rfl _ _ w.heap.size [_] rfl aggN (Ret.one HQ1.out)) rfl ?_
        exact ⟨_, ret_nb HP.out.symm, by rw [HPN.out]; exact HQ2.out.holds, HQ3.out⟩
      · have hc2 : ¬ c1 - 1 = 0 := by omega
        obtain ⟨hk2, hf2⟩ := HR1.out.alloc (.cells #[.slice (some ⟨g, 1, none⟩) 0 (c1 - 1)] 27)
        obtain ⟨q1, q2, q3⟩ := endN (w := w) (g := w.heap.size) (B := w.heap.size + 1) (v := .slice none 0 0) (l := []) (by omega) (by omega) (Own.nil _ _ _ _) hk2 (HB1.out.alloc HB1.out.size (.cells #[.slice (some ⟨g, 1, none⟩) 0 (c1 - 1)] 27))
        have HQ1 := Lib.hid q1; have HQ2 := Lib.hid q2; have HQ3 := Lib.hid q3
        clear q1 q2 q3
        go_wp2
        refine bodyPost_ret (Ret.results_ct rfl _ _ w.heap.size [_] rfl aggN (Ret.one HQ1.out)) rfl ?_
        exact ⟨_, ret_nb HP.out.symm, by rw [HPN.out]; exact HQ2.out.holds, HQ3.out⟩
    · have hn2 : 2 ≤ n := by omega
      have hn3 : decide ((n : Int) < 2) = false := by simp; omega
      have hc2 : ¬ c1 = 1 := by omega
      obtain ⟨b0, off0, he0, hcell⟩ := HH1.out.at (j := 0) (by rw [← HN.out]; omega)
      cases he0
      have HD := Lib.hid ((HH1.out.drop (j := 1) (by rw [← HN.out]; omega)).on ((Below.refl _ _).alloc (Nat.le_refl _) (.cells #[.slice (some ⟨g, 1, none⟩) (n - 1) (c1 - 1)] 27)))
      have HL := Lib.hid (show splitB s = nth (splitB s) 0 :: (splitB s).drop 1 by
        have := drop_nth (l := splitB s) (k := 0) (by rw [← HN.out]; omega)
        rw [List.drop_zero] at this
        exact this)
      have HDN := Lib.hid (show (splitB s).drop 1 ≠ [] by
        intro e
        have := congrArg List.length e
        rw [List.length_drop, ← HN.out] at this
        simp at this; omega)
      have HBD := Lib.hid (show bulk ((splitB s).drop 1) ≤ 100000000 by
        have h3 := HBK.out
        rw [HL.out, bulk_cons] at h3
        omega)
      have HR2 := Lib.hid (HR1.out.alloc (.cells #[.slice (some ⟨g, 1, none⟩) (n - 1) (c1 - 1)] 27))
      have HT2 := Lib.hid (Ret.NC.new' (w := w1) (.slice (some ⟨g, 1, none⟩) (n - 1) (c1 - 1)) 27 rfl)
      have HB2 := Lib.hid (HB1.out.alloc HB1.out.size (.cells #[.slice (some ⟨g, 1, none⟩) (n - 1) (c1 - 1)] 27))
      rw [Nat.add_zero] at hcell
      by_cases hx : nth (splitB s) 0 = mk []
      · have hxe : (nth (splitB s) 0).toList.isEmpty = true := by rw [hx, tl0]; rfl
        have HX := Lib.hid hx
        clear hx
        go_wp2_with fail
        refine (specValidName _ _ _ HD.out HBD.out).mono ?_
        rintro e w3 ⟨rfl, hb3⟩
        have HR3 := Lib.hid (HR2.out.on hb3)
        have HT3 := Lib.hid (HT2.out.on hb3)
        have HD3 := Lib.hid (HD.out.on hb3)
        have HB3 := Lib.hid (HB2.out.trans (hb3.mono HB2.out.size))
        clear hb3
        cases hv : validN ((splitB s).drop 1) with
        | true =>
          obtain ⟨p1, p2⟩ := split_yes (by have := HL.out; rw [HX.out] at this; exact this) HDN.out hv
          have HP := Lib.hid p1; have HPN := Lib.hid p2
          obtain ⟨hk2, hf2⟩ := HR3.out
          obtain ⟨hk3, -⟩ := HT3.out
          have HQ1 := Lib.hid (Ret.set_same (v := .slice (some ⟨g, 1, none⟩) (n - 1) (c1 - 1)) hk2)
          have HQ2 := Lib.hid (HD3.out.grown (Ret.grownBy_set w3 ⟨w.heap.size, 0, none⟩ (.slice (some ⟨g, 1, none⟩) (n - 1) (c1 - 1))) (fun g1 h1 e1 => by simp [Value.ownBlock] at h1 e1; omega))
          have HQ3 := Lib.hid (HB3.out.setCell (p := ⟨w.heap.size, 0, none⟩) (Nat.le_refl _) (.slice (some ⟨g, 1, none⟩) (n - 1) (c1 - 1)))
          clear p1 p2 hv
          go_wp2
          refine bodyPost_ret (Ret.results_ct rfl _ _ w.heap.size [_] rfl aggN (Ret.one HQ1.out)) rfl ?_
          exact ⟨_, ret_nb HP.out.symm, by rw [HPN.out]; exact HQ2.out, HQ3.out⟩
        | false =>
          have HP := Lib.hid (split_no H47.out (fun rest h hr => by
            have h3 := HL.out
            rw [h] at h3
            have h4 := (List.cons.inj h3).2
            rw [h4, ← h]; exact hv))
          have HPN := Lib.hid (pN_no HP.out)
          obtain ⟨hk2, hf2⟩ := HR3.out
          obtain ⟨q1, q2, q3⟩ := endN (w := w) (g := w.heap.size) (B := w.heap.size + 1) (v := .slice none 0 0) (l := []) (by omega) (by omega) (Own.nil _ _ _ _) hk2 HB3.out
          have HQ1 := Lib.hid q1; have HQ2 := Lib.hid q2; have HQ3 := Lib.hid q3
          clear q1 q2 q3 hv
          go_wp2
          refine bodyPost_ret (Ret.results_ct rfl _ _ w.heap.size [_] rfl aggN (Ret.one HQ1.out)) rfl ?_
          exact ⟨_, ret_nb HP.out.symm, by rw [HPN.out]; exact HQ2.out.holds, HQ3.out⟩
      · have hxe : (nth (splitB s) 0).toList.isEmpty = false := by
          have : (nth (splitB s) 0).toList ≠ [] := fun e => hx (toList_inj (e.trans tl0.symm))
          simpa using this
        have HP := Lib.hid (split_no H47.out (fun rest h hr => by
          have h3 := HL.out
          rw [h] at h3
          exact absurd (by rw [h]; exact (List.cons.inj h3).1.symm) hx))
        have HPN := Lib.hid (pN_no HP.out)
        clear hx
        obtain ⟨hk2, hf2⟩ := HR2.out
        obtain ⟨q1, q2, q3⟩ := endN (w := w) (g := w.heap.size) (B := w.heap.size + 1) (v := .slice none 0 0) (l := []) (by omega) (by omega) (Own.nil _ _ _ _) hk2 HB2.out
        have HQ1 := Lib.hid q1; have HQ2 := Lib.hid q2; have HQ3 := Lib.hid q3
        clear q1 q2 q3
        go_wp2
        refine bodyPost_ret (Ret.results_ct rfl _ _ w.heap.size [_] rfl aggN (Ret.one HQ1.out)) rfl ?_
        exact ⟨_, ret_nb HP.out.symm, by rw [HPN.out]; exact HQ2.out.holds, HQ3.out⟩

end Go.Proofs.Ytihcebjbkifbpaa.Row
