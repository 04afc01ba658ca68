/- Contracts and mathematics, joined: HB, HBP, DrawU1. No conditions but those that each states. -/
import Derived.Test.YtkojeajjappchaaGreatB12
import Derived.Test.YtkojeajjappchaaGreatB6
import Derived.Test.YtkojeajjappchaaGreatB11
import Derived.Test.YtkojeajjappchaaGreatB2
/- Names that lie in blocks of texts: what keeps them; the reference model's ParseName and l4Of in these words. No conditions but that lengths fit. -/
namespace Go.Proofs.YtkojeajjappchaaGreat.Row
open Go.ChangeShapes Go.WideShapes Go.ChangeAt Go.RowKit Go.Instr
set_option linter.unusedVariables false
set_option maxRecDepth 100000

/-- Block g holds texts. -/
def TY (w : World) (g : Nat) : Prop := ∃ cur, w.heap[g]? = some (.cells cur 9 (0, 0))
theorem TY.lt {w : World} {g : Nat} (h : TY w g) : g < w.heap.size := by
  obtain ⟨cur, h⟩ := h
  exact (Array.getElem?_eq_some_iff.1 h).1
theorem TY.on {w w' : World} {g : Nat} (h : TY w g) (hb : Below w.heap.size w w') : TY w' g := by
  have hl := h.lt
  obtain ⟨cur, h⟩ := h
  exact ⟨cur, (hb.block g hl).trans h⟩
theorem TY.set {w : World} {g b i : Nat} {u : Value} (h : TY w g) (hne : b ≠ g) : TY (w.setCell ⟨b, i, none⟩ u) g := by
  obtain ⟨cur, h⟩ := h
  exact ⟨cur, (Go.RowKit.Below.heap_setCell w ⟨b, i, none⟩ u g (fun e => hne e.symm)).trans h⟩
/-- v holds the name l, in a block of texts from B on. -/
def HB (B : Nat) (w : World) (v : Value) (l : List ByteArray) : Prop := Holds Value.string w v l ∧ ∀ b off n c, v = .slice (some ⟨b, off, none⟩) n c → B ≤ b ∧ TY w b
section
variable {B : Nat} {w w' : World} {v : Value} {l : List ByteArray}
theorem HB.holds (h : HB B w v l) : Holds Value.string w v l := h.1
theorem HB.nil (B : Nat) (w : World) : HB B w (.slice none 0 0) [] := ⟨Holds.nil _ _, fun b off n c e => by cases e⟩
theorem HB.of (h : Own 9 Value.string B w v l) : HB B w v l := ⟨h.holds, fun b off n c e => by
  rcases h.2 with ⟨h2, _⟩ | ⟨g, cap, cur, hv, hB, hc, _⟩
  · rw [h2] at e; cases e
  · rw [hv] at e
    cases e
    exact ⟨hB, cur, hc⟩⟩
theorem HB.mono (h : HB B w v l) {B' : Nat} (hB : B' ≤ B) : HB B' w v l := ⟨h.1, fun b off n c e => ⟨Nat.le_trans hB (h.2 b off n c e).1, (h.2 b off n c e).2⟩⟩
theorem HB.on (h : HB B w v l) (hb : Below w.heap.size w w') : HB B w' v l := ⟨h.1.on hb, fun b off n c e => ⟨(h.2 b off n c e).1, (h.2 b off n c e).2.on hb⟩⟩
/-- What leaves the blocks of texts from B on leaves the name. -/
theorem HB.same (h : HB B w v l) (hg : ∀ g, B ≤ g → TY w g → w'.heap[g]? = w.heap[g]?) : HB B w' v l := by
  have hty := h.2
  obtain ⟨x, cap, hv, hc, hh⟩ := h.1
  refine ⟨⟨x, cap, hv, hc, ?_⟩, fun b off n c e => ?_⟩
  · rcases hh with h0 | ⟨b, off, rfl, hcell⟩
    · exact Or.inl h0
    · refine Or.inr ⟨b, off, rfl, fun j hj => ?_⟩
      obtain ⟨h1, h2⟩ := hty b off _ _ hv
      rw [World.cell?_of_block (w := w) (hg b h1 h2)]
      exact hcell j hj
  · obtain ⟨h1, h2⟩ := hty b off n c e
    refine ⟨h1, ?_⟩
    have := hg b h1 h2
    obtain ⟨cur, h2⟩ := h2
    exact ⟨cur, this.trans h2⟩
theorem HB.setT (h : HB B w v l) {g i : Nat} {cs : Array Value} {t : TypeId} {u : Value} (hb : Ret.Blk w g cs t) (hne : t ≠ 9) : HB B (w.setCell ⟨g, i, none⟩ u) v l :=
  h.same fun q _ ⟨cur, hq⟩ => Go.RowKit.Below.heap_setCell w ⟨g, i, none⟩ u q (fun e => by
    have e1 : q = g := e
    rw [e1, show w.heap[g]? = some (.cells cs t) from hb] at hq
    cases hq
    exact hne rfl)
theorem HB.grownK (h : HB B w v l) {α : Type} {enc : α → List Value} {sz B' : Nat} {e : TypeId} {u : Value} {m : List α} (ho : OwnK e enc sz B' w u m) (hne : e ≠ 9) (hg : w.grownBy w' u.ownBlock) : HB B w' v l :=
  h.same fun q _ ⟨cur, hq⟩ => hg.block q (Array.getElem?_eq_some_iff.1 hq).1 (fun e1 => by
    rcases ho.2 with ⟨h2, _⟩ | ⟨g, cap, cur2, hv, _, hc, _⟩
    · rw [h2] at e1; cases e1
    · rw [hv] at e1
      have e2 : q = g := by simpa [Value.ownBlock] using e1
      rw [e2, hc] at hq
      cases hq
      exact hne rfl)
theorem HB.shapeN (h : HB B w v l) : ∃ x n cap, v = .slice x n cap ∧ n = l.length ∧ HB B w (.slice x n cap) l := by
  obtain ⟨x, n, cap, rfl, hn, -, -⟩ := h.1.shapeN
  exact ⟨x, n, cap, rfl, hn, h⟩
end
def GivesN9 (w : World) (l : List ByteArray) (b : Bool) (e : Ending) (w' : World) : Prop := ∃ v, e = .returned (.tuple #[.agg #[v], .bool b]) ∧ HB w.heap.size w' v l ∧ Below w.heap.size w w'

set_option maxHeartbeats 2000000 in
theorem specParseNameB (s : ByteArray) (w : World) (hs : s.size ≤ 10000000) :
    Calls Tryz.prog 76 #[.string s] w (GivesN9 w (pN s) (pOk s)) := by
  have HB0 := Lib.hid ((Below.refl w.heap.size w).alloc (Nat.le_refl _) (.cells #[.slice none 0 0] 29))
  have HR := Lib.hid (Ret.NC.new' (w := w) (.slice none 0 0) 29 rfl)
  by_cases h47 : s = mk [47]
  · obtain ⟨p1, p2⟩ := pOk_slash
    rw [← h47] at p1 p2
    have HP := Lib.hid p1; have HPN := Lib.hid p2
    have hq : (s.toList == [47]) = true := by rw [h47, tl47]; rfl
    clear p1 p2 h47
    go_enter Tryz.func76, Tryz.ntmps76
    go_wp2
    refine bodyPost_ret (Ret.results_ct rfl _ _ w.heap.size [_] rfl aggN (Ret.one HR.out.1)) rfl ?_
    exact ⟨_, ret_nb HP.out.symm, by rw [HPN.out]; exact HB.nil _ _, HB0.out⟩
  · have h47l : s.toList ≠ [47] := fun e => h47 (toList_inj (e.trans tl47.symm))
    have hq : (s.toList == [47]) = false := by simpa using h47l
    have H47 := Lib.hid h47
    have hpos := split_pos s
    have hbk := bulk_split s
    have hlb := bulk_len (splitB s)
    obtain ⟨n, hn⟩ : ∃ n, n = (splitB s).length := ⟨_, rfl⟩
    rw [← hn] at hpos hlb
    have hnb : n ≤ 10000001 := by omega
    have HN := Lib.hid hn
    have HBK := Lib.hid hbk
    clear h47 h47l hn hbk hlb
    go_enter Tryz.func76, Tryz.ntmps76
    go_wp2_with fail
    refine (l4Split s _ hs).mono ?_
    rintro e w1 ⟨v1, rfl, ho1, hb1⟩
    have HB1 := Lib.hid (HB0.out.trans (hb1.mono HB0.out.size))
    have HR1 := Lib.hid (HR.out.on hb1)
    have hty9 : ∀ b off n c, v1 = .slice (some ⟨b, off, none⟩) n c → TY w1 b := fun b off n c e => ((HB.of ho1).2 b off n c e).2
    obtain ⟨g, c1, rfl, hg1, hg2, hc1⟩ : ∃ g c1, v1 = .slice (some ⟨g, 0, none⟩) n c1 ∧ w.heap.size + 1 ≤ g ∧ g < w1.heap.size ∧ n ≤ c1 := by
      rcases ho1.form with ⟨_, h2⟩ | ⟨g, c1, h1, h2, h3, h4, h5⟩
      · exact absurd (congrArg List.length h2) (by rw [← HN.out]; simp; omega)
      · exact ⟨g, c1, by rw [h1, HN.out], by simpa using h2, h3, by rw [HN.out]; exact h4⟩
    have HH1 := Lib.hid ho1.holds
    have HTY := Lib.hid (hty9 g 0 n c1 rfl)
    clear ho1 hb1 hty9
    by_cases h2 : n = 1
    · subst h2
      have HP := Lib.hid (split_no H47.out (fun rest h hr => by
        have h3 := HN.out
        rw [h] at h3
        simp at h3
        exact absurd h3 hr))
      have HPN := Lib.hid (pN_no HP.out)
      by_cases hc : c1 = 1
      · subst hc
        obtain ⟨hk2, hf2⟩ := HR1.out.alloc (.cells #[.slice (some ⟨g, 0, none⟩) 0 0] 29)
        obtain ⟨q1, q2, q3⟩ := endN (w := w) (g := w.heap.size) (B := w.heap.size + 1) (v := .slice none 0 0) (l := []) (by omega) (by omega) (Own.nil _ _ _ _) hk2 (HB1.out.alloc HB1.out.size (.cells #[.slice (some ⟨g, 0, none⟩) 0 0] 29))
        have HQ1 := Lib.hid q1; have HQ2 := Lib.hid q2; have HQ3 := Lib.hid q3
        clear q1 q2 q3
        go_wp2
        refine bodyPost_ret (Ret.results_ct rfl _ _ w.heap.size [_] rfl aggN (Ret.one HQ1.out)) rfl ?_
        exact ⟨_, ret_nb HP.out.symm, by rw [HPN.out]; exact HB.of HQ2.out, HQ3.out⟩
      · have hc2 : ¬ c1 - 1 = 0 := by omega
        obtain ⟨hk2, hf2⟩ := HR1.out.alloc (.cells #[.slice (some ⟨g, 1, none⟩) 0 (c1 - 1)] 29)
        obtain ⟨q1, q2, q3⟩ := endN (w := w) (g := w.heap.size) (B := w.heap.size + 1) (v := .slice none 0 0) (l := []) (by omega) (by omega) (Own.nil _ _ _ _) hk2 (HB1.out.alloc HB1.out.size (.cells #[.slice (some ⟨g, 1, none⟩) 0 (c1 - 1)] 29))
        have HQ1 := Lib.hid q1; have HQ2 := Lib.hid q2; have HQ3 := Lib.hid q3
        clear q1 q2 q3
        go_wp2
        refine bodyPost_ret (Ret.results_ct rfl _ _ w.heap.size [_] rfl aggN (Ret.one HQ1.out)) rfl ?_
        exact ⟨_, ret_nb HP.out.symm, by rw [HPN.out]; exact HB.of HQ2.out, HQ3.out⟩
    · have hn2 : 2 ≤ n := by omega
      have hn3 : decide ((n : Int) < 2) = false := by simp; omega
      have hc2 : ¬ c1 = 1 := by omega
      obtain ⟨b0, off0, he0, hcell⟩ := HH1.out.at (j := 0) (by rw [← HN.out]; omega)
      cases he0
      have HD := Lib.hid ((HH1.out.drop (j := 1) (by rw [← HN.out]; omega)).on ((Below.refl _ _).alloc (Nat.le_refl _) (.cells #[.slice (some ⟨g, 1, none⟩) (n - 1) (c1 - 1)] 29)))
      have HL := Lib.hid (show splitB s = nth (splitB s) 0 :: (splitB s).drop 1 by
        have := drop_nth (l := splitB s) (k := 0) (by rw [← HN.out]; omega)
        rw [List.drop_zero] at this
        exact this)
      have HDN := Lib.hid (show (splitB s).drop 1 ≠ [] by
        intro e
        have := congrArg List.length e
        rw [List.length_drop, ← HN.out] at this
        simp at this; omega)
      have HBD := Lib.hid (show bulk ((splitB s).drop 1) ≤ 100000000 by
        have h3 := HBK.out
        rw [HL.out, bulk_cons] at h3
        omega)
      have HR2 := Lib.hid (HR1.out.alloc (.cells #[.slice (some ⟨g, 1, none⟩) (n - 1) (c1 - 1)] 29))
      have HT2 := Lib.hid (Ret.NC.new' (w := w1) (.slice (some ⟨g, 1, none⟩) (n - 1) (c1 - 1)) 29 rfl)
      have HB2 := Lib.hid (HB1.out.alloc HB1.out.size (.cells #[.slice (some ⟨g, 1, none⟩) (n - 1) (c1 - 1)] 29))
      rw [Nat.add_zero] at hcell
      by_cases hx : nth (splitB s) 0 = mk []
      · have hxe : (nth (splitB s) 0).toList.isEmpty = true := by rw [hx, tl0]; rfl
        have HX := Lib.hid hx
        clear hx
        go_wp2_with fail
        refine (specValidName _ _ _ HD.out HBD.out).mono ?_
        rintro e w3 ⟨rfl, hb3⟩
        have HR3 := Lib.hid (HR2.out.on hb3)
        have HT3 := Lib.hid (HT2.out.on hb3)
        have HD3 := Lib.hid (HD.out.on hb3)
        have HTY3 := Lib.hid ((HTY.out.on ((Below.refl w1.heap.size w1).alloc (Nat.le_refl _) (.cells #[.slice (some ⟨g, 1, none⟩) (n - 1) (c1 - 1)] 29))).on hb3)
        have HB3 := Lib.hid (HB2.out.trans (hb3.mono HB2.out.size))
        clear hb3
        cases hv : validN ((splitB s).drop 1) with
        | true =>
          obtain ⟨p1, p2⟩ := split_yes (by have := HL.out; rw [HX.out] at this; exact this) HDN.out hv
          have HP := Lib.hid p1; have HPN := Lib.hid p2
          obtain ⟨hk2, hf2⟩ := HR3.out
          obtain ⟨hk3, -⟩ := HT3.out
          have HQ1 := Lib.hid (Ret.set_same (v := .slice (some ⟨g, 1, none⟩) (n - 1) (c1 - 1)) hk2)
          have HQ2 := Lib.hid (HD3.out.grown (Ret.grownBy_set w3 ⟨w.heap.size, 0, none⟩ (.slice (some ⟨g, 1, none⟩) (n - 1) (c1 - 1))) (fun g1 h1 e1 => by simp [Value.ownBlock] at h1 e1; omega))
          have HQ3 := Lib.hid (HB3.out.setCell (p := ⟨w.heap.size, 0, none⟩) (Nat.le_refl _) (.slice (some ⟨g, 1, none⟩) (n - 1) (c1 - 1)))
          clear p1 p2 hv
          go_wp2
          refine bodyPost_ret (Ret.results_ct rfl _ _ w.heap.size [_] rfl aggN (Ret.one HQ1.out)) rfl ?_
          exact ⟨_, ret_nb HP.out.symm, by rw [HPN.out]; exact ⟨HQ2.out, fun b off n c e => by cases e; exact ⟨by omega, HTY3.out.set (by omega)⟩⟩, HQ3.out⟩
        | false =>
          have HP := Lib.hid (split_no H47.out (fun rest h hr => by
            have h3 := HL.out
            rw [h] at h3
            have h4 := (List.cons.inj h3).2
            rw [h4, ← h]; exact hv))
          have HPN := Lib.hid (pN_no HP.out)
          obtain ⟨hk2, hf2⟩ := HR3.out
          obtain ⟨q1, q2, q3⟩ := endN (w := w) (g := w.heap.size) (B := w.heap.size + 1) (v := .slice none 0 0) (l := []) (by omega) (by omega) (Own.nil _ _ _ _) hk2 HB3.out
          have HQ1 := Lib.hid q1; have HQ2 := Lib.hid q2; have HQ3 := Lib.hid q3
          clear q1 q2 q3 hv
          go_wp2
          refine bodyPost_ret (Ret.results_ct rfl _ _ w.heap.size [_] rfl aggN (Ret.one HQ1.out)) rfl ?_
          exact ⟨_, ret_nb HP.out.symm, by rw [HPN.out]; exact HB.of HQ2.out, HQ3.out⟩
      · have hxe : (nth (splitB s) 0).toList.isEmpty = false := by
          have : (nth (splitB s) 0).toList ≠ [] := fun e => hx (toList_inj (e.trans tl0.symm))
          simpa using this
        have HP := Lib.hid (split_no H47.out (fun rest h hr => by
          have h3 := HL.out
          rw [h] at h3
          exact absurd (by rw [h]; exact (List.cons.inj h3).1.symm) hx))
        have HPN := Lib.hid (pN_no HP.out)
        clear hx
        obtain ⟨hk2, hf2⟩ := HR2.out
        obtain ⟨q1, q2, q3⟩ := endN (w := w) (g := w.heap.size) (B := w.heap.size + 1) (v := .slice none 0 0) (l := []) (by omega) (by omega) (Own.nil _ _ _ _) hk2 HB2.out
        have HQ1 := Lib.hid q1; have HQ2 := Lib.hid q2; have HQ3 := Lib.hid q3
        clear q1 q2 q3
        go_wp2
        refine bodyPost_ret (Ret.results_ct rfl _ _ w.heap.size [_] rfl aggN (Ret.one HQ1.out)) rfl ?_
        exact ⟨_, ret_nb HP.out.symm, by rw [HPN.out]; exact HB.of HQ2.out, HQ3.out⟩


set_option maxHeartbeats 2000000 in
theorem l4OfB (s : ByteArray) (w : World) (hs : s.size ≤ 10000000) :
    Calls Tryz.prog 52 #[.string s] w fun e w' => ∃ u, e = .returned (.agg #[u]) ∧ HB w.heap.size w' u (pN s) ∧ Below w.heap.size w w' := by
  have HB0 := Lib.hid ((Below.refl w.heap.size w).alloc (Nat.le_refl _) (.cells #[.slice none 0 0] 29))
  have HX0 := Lib.hid (Ret.Box.new w (.slice none 0 0) 29)
  have HP := Lib.hid (specParseNameB s (w.alloc (.cells #[.slice none 0 0] 29)) hs)
  go_enter Tryz.func52, Tryz.ntmps52
  go_wp2_with fail
  refine HP.out.mono ?_
  rintro e w1 ⟨u, rfl, ho, hb⟩
  obtain ⟨x, n, c, rfl, -, ho⟩ := ho.shapeN
  have ha := (Below.refl w1.heap.size w1).alloc (Nat.le_refl _) (.cells #[.slice x n c] 29)
  have HX1 := Lib.hid ((HX0.out.on hb).on ha)
  have HO1 := Lib.hid (ho.on ha)
  have hq := (Ret.Box.new w1 (.slice x n c) 29).cell
  have hz := HX1.out.cell
  have hf := HX1.out.frozen
  have HBF := Lib.hid ((HB0.out.trans (hb.mono HB0.out.size)).trans (ha.mono (Nat.le_trans HB0.out.size hb.size)))
  have HW := Lib.hid (HBF.out.grown (Ret.grownBy_set _ ⟨w.heap.size, 0, none⟩ (.slice x n c)) HBF.out.size (fun g hg => by cases hg; exact Nat.le_refl _))
  have HH := Lib.hid ((HO1.out.mono (by simp)).setT (g := w.heap.size) (i := 0) (u := .slice x n c) (B := w.heap.size) (show Ret.Blk _ w.heap.size #[.slice none 0 0] 29 from HX1.out) (by decide))
  have HC := Lib.hid (Ret.set_same (v := .slice x n c) HX1.out.cell)
  clear ha ho hb
  go_wp2_with fail
  refine bodyPost_ret (Ret.results_c rfl _ _ w.heap.size [_] rfl aggN (Ret.one HC.out)) rfl ?_
  exact ⟨_, rfl, HH.out, HW.out⟩
/-- What a draw keeps. -/
theorem hb_keep' {B p : Nat} {w w' : World} {v : Value} {l : List ByteArray} (h : HB B w v l) (hk : Draw.Keep p w w') (hp : p < B) : HB B w' v l := h.same fun g hg ht => hk.block g ht.lt (by omega)
end Go.Proofs.YtkojeajjappchaaGreat.Row
/- The model's ParsePattern and ParseRule: what they give lies in blocks of texts. No conditions but that lengths fit. -/
namespace Go.Proofs.YtkojeajjappchaaGreat.Row
open Go.ChangeShapes Go.WideShapes Go.ChangeAt Go.RowKit Go.Instr
set_option linter.unusedVariables false
set_option maxRecDepth 100000

set_option maxHeartbeats 2000000 in
theorem specParsePatternB (s : ByteArray) (w : World) (hs : s.size ≤ 10000000) :
    Calls Tryz.prog 35 #[.string s] w (GivesN9 w (ppN s) (ppOk s)) := by
  have HB0 := Lib.hid ((Below.refl w.heap.size w).alloc (Nat.le_refl _) (.cells #[.slice none 0 0] 26))
  have HR := Lib.hid (Ret.NC.new' (w := w) (.slice none 0 0) 26 rfl)
  by_cases h47 : s = mk [47]
  · obtain ⟨p1, p2⟩ := ppOk_slash
    rw [← h47] at p1 p2
    have HP := Lib.hid p1; have HPN := Lib.hid p2
    have hq : (s.toList == [47]) = true := by rw [h47, tl47]; rfl
    clear p1 p2 h47
    go_enter Tryz.func35, Tryz.ntmps35
    go_wp2
    refine bodyPost_ret (Ret.results_ct rfl _ _ w.heap.size [_] rfl aggPt (Ret.one HR.out.1)) rfl ?_
    exact ⟨_, ret_nb HP.out.symm, by rw [HPN.out]; exact HB.nil _ _, HB0.out⟩
  · have h47l : s.toList ≠ [47] := fun e => h47 (toList_inj (e.trans tl47.symm))
    have hq : (s.toList == [47]) = false := by simpa using h47l
    have H47 := Lib.hid h47
    have hpos := split_pos s
    have hbk := bulk_split s
    have hlb := bulk_len (splitB s)
    obtain ⟨n, hn⟩ : ∃ n, n = (splitB s).length := ⟨_, rfl⟩
    rw [← hn] at hpos hlb
    have hnb : n ≤ 10000001 := by omega
    have HN := Lib.hid hn
    have HBK := Lib.hid hbk
    clear h47 h47l hn hbk hlb
    go_enter Tryz.func35, Tryz.ntmps35
    go_wp2_with fail
    refine (l4Split s _ hs).mono ?_
    rintro e w1 ⟨v1, rfl, ho1, hb1⟩
    have HB1 := Lib.hid (HB0.out.trans (hb1.mono HB0.out.size))
    have HR1 := Lib.hid (HR.out.on hb1)
    have hty9 : ∀ b off n c, v1 = .slice (some ⟨b, off, none⟩) n c → TY w1 b := fun b off n c e => ((HB.of ho1).2 b off n c e).2
    obtain ⟨g, c1, rfl, hg1, hg2, hc1⟩ : ∃ g c1, v1 = .slice (some ⟨g, 0, none⟩) n c1 ∧ w.heap.size + 1 ≤ g ∧ g < w1.heap.size ∧ n ≤ c1 := by
      rcases ho1.form with ⟨_, h2⟩ | ⟨g, c1, h1, h2, h3, h4, h5⟩
      · exact absurd (congrArg List.length h2) (by rw [← HN.out]; simp; omega)
      · exact ⟨g, c1, by rw [h1, HN.out], by simpa using h2, h3, by rw [HN.out]; exact h4⟩
    have HH1 := Lib.hid ho1.holds
    have HTY := Lib.hid (hty9 g 0 n c1 rfl)
    clear ho1 hb1 hty9
    by_cases h2 : n = 1
    · subst h2
      have HP := Lib.hid (pt_split_no H47.out (fun rest h hr => by
        have h3 := HN.out
        rw [h] at h3
        simp at h3
        exact absurd h3 hr))
      have HPN := Lib.hid (ppN_no HP.out)
      by_cases hc : c1 = 1
      · subst hc
        obtain ⟨hk2, hf2⟩ := HR1.out.alloc (.cells #[.slice (some ⟨g, 0, none⟩) 0 0] 26)
        obtain ⟨q1, q2, q3⟩ := endN (w := w) (g := w.heap.size) (B := w.heap.size + 1) (v := .slice none 0 0) (l := []) (by omega) (by omega) (Own.nil _ _ _ _) hk2 (HB1.out.alloc HB1.out.size (.cells #[.slice (some ⟨g, 0, none⟩) 0 0] 26))
        have HQ1 := Lib.hid q1; have HQ2 := Lib.hid q2; have HQ3 := Lib.hid q3
        clear q1 q2 q3
        go_wp2
        refine bodyPost_ret (Ret.results_ct rfl _ _ w.heap.size [_] rfl aggPt (Ret.one HQ1.out)) rfl ?_
        exact ⟨_, ret_nb HP.out.symm, by rw [HPN.out]; exact HB.of HQ2.out, HQ3.out⟩
      · have hc2 : ¬ c1 - 1 = 0 := by omega
        obtain ⟨hk2, hf2⟩ := HR1.out.alloc (.cells #[.slice (some ⟨g, 1, none⟩) 0 (c1 - 1)] 26)
        obtain ⟨q1, q2, q3⟩ := endN (w := w) (g := w.heap.size) (B := w.heap.size + 1) (v := .slice none 0 0) (l := []) (by omega) (by omega) (Own.nil _ _ _ _) hk2 (HB1.out.alloc HB1.out.size (.cells #[.slice (some ⟨g, 1, none⟩) 0 (c1 - 1)] 26))
        have HQ1 := Lib.hid q1; have HQ2 := Lib.hid q2; have HQ3 := Lib.hid q3
        clear q1 q2 q3
        go_wp2
        refine bodyPost_ret (Ret.results_ct rfl _ _ w.heap.size [_] rfl aggPt (Ret.one HQ1.out)) rfl ?_
        exact ⟨_, ret_nb HP.out.symm, by rw [HPN.out]; exact HB.of HQ2.out, HQ3.out⟩
    · have hn2 : 2 ≤ n := by omega
      have hn3 : decide ((n : Int) < 2) = false := by simp; omega
      have hc2 : ¬ c1 = 1 := by omega
      obtain ⟨b0, off0, he0, hcell⟩ := HH1.out.at (j := 0) (by rw [← HN.out]; omega)
      cases he0
      have HD := Lib.hid ((HH1.out.drop (j := 1) (by rw [← HN.out]; omega)).on ((Below.refl _ _).alloc (Nat.le_refl _) (.cells #[.slice (some ⟨g, 1, none⟩) (n - 1) (c1 - 1)] 26)))
      have HL := Lib.hid (show splitB s = nth (splitB s) 0 :: (splitB s).drop 1 by
        have := drop_nth (l := splitB s) (k := 0) (by rw [← HN.out]; omega)
        rw [List.drop_zero] at this
        exact this)
      have HDN := Lib.hid (show (splitB s).drop 1 ≠ [] by
        intro e
        have := congrArg List.length e
        rw [List.length_drop, ← HN.out] at this
        simp at this; omega)
      have HBD := Lib.hid (show bulk ((splitB s).drop 1) ≤ 100000000 by
        have h3 := HBK.out
        rw [HL.out, bulk_cons] at h3
        omega)
      have HR2 := Lib.hid (HR1.out.alloc (.cells #[.slice (some ⟨g, 1, none⟩) (n - 1) (c1 - 1)] 26))
      have HT2 := Lib.hid (Ret.NC.new' (w := w1) (.slice (some ⟨g, 1, none⟩) (n - 1) (c1 - 1)) 26 rfl)
      have HB2 := Lib.hid (HB1.out.alloc HB1.out.size (.cells #[.slice (some ⟨g, 1, none⟩) (n - 1) (c1 - 1)] 26))
      rw [Nat.add_zero] at hcell
      by_cases hx : nth (splitB s) 0 = mk []
      · have hxe : (nth (splitB s) 0).toList.isEmpty = true := by rw [hx, tl0]; rfl
        have HX := Lib.hid hx
        clear hx
        go_wp2_with fail
        refine (specValidPattern _ _ _ HD.out HBD.out).mono ?_
        rintro e w3 ⟨rfl, hb3⟩
        have HR3 := Lib.hid (HR2.out.on hb3)
        have HT3 := Lib.hid (HT2.out.on hb3)
        have HD3 := Lib.hid (HD.out.on hb3)
        have HTY3 := Lib.hid ((HTY.out.on ((Below.refl w1.heap.size w1).alloc (Nat.le_refl _) (.cells #[.slice (some ⟨g, 1, none⟩) (n - 1) (c1 - 1)] 26))).on hb3)
        have HB3 := Lib.hid (HB2.out.trans (hb3.mono HB2.out.size))
        clear hb3
        cases hv : validPat ((splitB s).drop 1) with
        | true =>
          obtain ⟨p1, p2⟩ := pt_split_yes (by have := HL.out; rw [HX.out] at this; exact this) HDN.out hv
          have HP := Lib.hid p1; have HPN := Lib.hid p2
          obtain ⟨hk2, hf2⟩ := HR3.out
          obtain ⟨hk3, -⟩ := HT3.out
          have HQ1 := Lib.hid (Ret.set_same (v := .slice (some ⟨g, 1, none⟩) (n - 1) (c1 - 1)) hk2)
          have HQ2 := Lib.hid (HD3.out.grown (Ret.grownBy_set w3 ⟨w.heap.size, 0, none⟩ (.slice (some ⟨g, 1, none⟩) (n - 1) (c1 - 1))) (fun g1 h1 e1 => by simp [Value.ownBlock] at h1 e1; omega))
          have HQ3 := Lib.hid (HB3.out.setCell (p := ⟨w.heap.size, 0, none⟩) (Nat.le_refl _) (.slice (some ⟨g, 1, none⟩) (n - 1) (c1 - 1)))
          clear p1 p2 hv
          go_wp2
          refine bodyPost_ret (Ret.results_ct rfl _ _ w.heap.size [_] rfl aggPt (Ret.one HQ1.out)) rfl ?_
          exact ⟨_, ret_nb HP.out.symm, by rw [HPN.out]; exact ⟨HQ2.out, fun b off n c e => by cases e; exact ⟨by omega, HTY3.out.set (by omega)⟩⟩, HQ3.out⟩
        | false =>
          have HP := Lib.hid (pt_split_no H47.out (fun rest h hr => by
            have h3 := HL.out
            rw [h] at h3
            have h4 := (List.cons.inj h3).2
            rw [h4, ← h]; exact hv))
          have HPN := Lib.hid (ppN_no HP.out)
          obtain ⟨hk2, hf2⟩ := HR3.out
          obtain ⟨q1, q2, q3⟩ := endN (w := w) (g := w.heap.size) (B := w.heap.size + 1) (v := .slice none 0 0) (l := []) (by omega) (by omega) (Own.nil _ _ _ _) hk2 HB3.out
          have HQ1 := Lib.hid q1; have HQ2 := Lib.hid q2; have HQ3 := Lib.hid q3
          clear q1 q2 q3 hv
          go_wp2
          refine bodyPost_ret (Ret.results_ct rfl _ _ w.heap.size [_] rfl aggPt (Ret.one HQ1.out)) rfl ?_
          exact ⟨_, ret_nb HP.out.symm, by rw [HPN.out]; exact HB.of HQ2.out, HQ3.out⟩
      · have hxe : (nth (splitB s) 0).toList.isEmpty = false := by
          have : (nth (splitB s) 0).toList ≠ [] := fun e => hx (toList_inj (e.trans tl0.symm))
          simpa using this
        have HP := Lib.hid (pt_split_no H47.out (fun rest h hr => by
          have h3 := HL.out
          rw [h] at h3
          exact absurd (by rw [h]; exact (List.cons.inj h3).1.symm) hx))
        have HPN := Lib.hid (ppN_no HP.out)
        clear hx
        obtain ⟨hk2, hf2⟩ := HR2.out
        obtain ⟨q1, q2, q3⟩ := endN (w := w) (g := w.heap.size) (B := w.heap.size + 1) (v := .slice none 0 0) (l := []) (by omega) (by omega) (Own.nil _ _ _ _) hk2 HB2.out
        have HQ1 := Lib.hid q1; have HQ2 := Lib.hid q2; have HQ3 := Lib.hid q3
        clear q1 q2 q3
        go_wp2
        refine bodyPost_ret (Ret.results_ct rfl _ _ w.heap.size [_] rfl aggPt (Ret.one HQ1.out)) rfl ?_
        exact ⟨_, ret_nb HP.out.symm, by rw [HPN.out]; exact HB.of HQ2.out, HQ3.out⟩

set_option maxHeartbeats 8000000 in
theorem specParseRuleB (s : ByteArray) (w : World) (hs : s.size ≤ 2000000) :
    Calls Tryz.prog 9 #[.string s] w fun e w' => ∃ (x0 x1 : Option Addr) (n0 c0 n1 c1 : Nat), e = .returned (.tuple #[.agg #[.slice x0 n0 c0, .slice x1 n1 c1], .bool (prOk s)]) ∧ HB w.heap.size w' (.slice x0 n0 c0) (prR s).1 ∧ HB w.heap.size w' (.slice x1 n1 c1) (prR s).2 ∧ Below w.heap.size w w' := by
  have HB0 := Lib.hid ((Below.refl w.heap.size w).alloc (Nat.le_refl _) (.cells #[.slice none 0 0, .slice none 0 0] 28))
  have HR0 := Lib.hid (Ret.Blk.new w #[.slice none 0 0, .slice none 0 0] 28)
  go_enter Tryz.func9, Tryz.ntmps9
  go_wp2_with fail
  refine (Sp.l4Split s _ (by omega)).mono ?_
  rintro e w1 ⟨v1, rfl, ho1, hb1⟩
  obtain ⟨x1, n1, c1, rfl, hn1, hc1, ho1⟩ := ho1.shapeN
  have HR := Lib.hid (HR0.out.on hb1)
  have HB := Lib.hid (HB0.out.trans (hb1.mono HB0.out.size))
  have HH := Lib.hid ho1.holds
  clear ho1 hb1
  obtain ⟨L, hL⟩ : ∃ L, Sp.splitB s = L := ⟨_, rfl⟩
  rw [hL] at hn1 HH
  have r0 : w1.cell? ⟨w.heap.size, 0, none⟩ = some (.slice none 0 0) := HR.out.cell 0
  have r1 : w1.cell? ⟨w.heap.size, 1, none⟩ = some (.slice none 0 0) := HR.out.cell 1
  have z0 := HR.out.frozen 0; have z1 := HR.out.frozen 1
  have ZN := Lib.hid ((HR.out.set 0 (.slice none 0 0)).set 1 (.slice none 0 0))
  have ZB := Lib.hid ((HB.out.setCell (p := ⟨w.heap.size, 0, none⟩) (Nat.le_refl _) (.slice none 0 0)).setCell (p := ⟨w.heap.size, 1, none⟩) (Nat.le_refl _) (.slice none 0 0))
  by_cases h3 : n1 = 3
  · subst h3
    obtain ⟨a, c, b, rfl⟩ : ∃ a c b, L = [a, c, b] := by
      rcases L with _ | ⟨a, _ | ⟨c, _ | ⟨b, _ | ⟨d, r⟩⟩⟩⟩ <;> first | exact ⟨_, _, _, rfl⟩ | (exfalso; simp at hn1)
    obtain ⟨bb, off, rfl, d0⟩ := HH.out.at (j := 0) (by simp)
    obtain ⟨bb', off', e1, d1⟩ := HH.out.at (j := 1) (by simp)
    obtain ⟨rfl, rfl⟩ : bb = bb' ∧ off = off' := by cases e1; exact ⟨rfl, rfl⟩
    obtain ⟨bb', off', e2, d2⟩ := HH.out.at (j := 2) (by simp)
    obtain ⟨rfl, rfl⟩ : bb = bb' ∧ off = off' := by cases e2; exact ⟨rfl, rfl⟩
    replace d0 : w1.cell? ⟨bb, off, none⟩ = some (.string a) := d0
    replace d1 : w1.cell? ⟨bb, off + 1, none⟩ = some (.string c) := d1
    replace d2 : w1.cell? ⟨bb, off + 2, none⟩ = some (.string b) := d2
    obtain ⟨p1, p2⟩ := pr_three hL
    have hsz : a.size ≤ 2000000 ∧ b.size ≤ 2000000 := by
      have hk := fun p hp => Nat.le_trans (splitSp_size s p hp) hs
      rw [hL] at hk
      exact ⟨hk a (by simp), hk b (by simp)⟩
    by_cases hc : c = mk [60]
    · have hq : (c.toList == [60]) = true := by rw [hc, tl60]; rfl
      rw [hc] at p1 p2
      have P1 := Lib.hid (show prOk s = prAB a b from by rw [p1]; simp)
      have P2 := Lib.hid (show prOk s = true → prR s = (ppN a, ppN b) from fun h => by rw [p1] at h; rw [p2, h]; rfl)
      have D2 := Lib.hid d2; have R0 := Lib.hid r0
      clear p1 p2 hc hL hn1 e1 e2 r0 r1 z0 z1
      go_wp2_with fail
      clear hq d0 d1 d2
      refine (specParsePatternB a _ (by omega)).mono ?_
      have hwa9 := HB.out.size
      rintro e w2 ⟨va, rfl, ha, hb⟩
      obtain ⟨xa, na, ca, rfl, -, ha⟩ := ha.shapeN
      have hal := (Below.refl w2.heap.size w2).alloc (Nat.le_refl _) (.cells #[.slice xa na ca] 26)
      have d2 := ((hb.cell (Ret.cell_lt D2.out)).trans D2.out)
      replace d2 := (hal.cell (Ret.cell_lt d2)).trans d2
      replace HR := Lib.hid ((HR.out.on hb).on hal); replace HB := Lib.hid ((HB.out.trans (hb.mono HB.out.size)).alloc (Nat.le_trans HB.out.size hb.size) (.cells #[.slice xa na ca] 26))
      have HA := Lib.hid (ha.on hal)
      have HBA := Lib.hid (Ret.Box.new w2 (.slice xa na ca) 26)
      replace HA := Lib.hid (HA.out.mono hwa9)
      clear ha hb hal hwa9
      go_wp2_with fail
      clear d2
      refine (specParsePatternB b _ (by omega)).mono ?_
      have hwb9 := HB.out.size
      rintro e w3 ⟨vb, rfl, hbb, hb⟩
      have hs2 := Nat.le_trans HB.out.size hb.size
      obtain ⟨xb, nb, cb, rfl, -, hbb⟩ := hbb.shapeN
      have hs3 := hb.size
      simp only [World.size_alloc] at hs3
      have hal := (Below.refl w3.heap.size w3).alloc (Nat.le_refl _) (.cells #[.slice xb nb cb] 26)
      replace HR := Lib.hid ((HR.out.on hb).on hal); replace HB := Lib.hid ((HB.out.trans (hb.mono HB.out.size)).alloc (Nat.le_trans HB.out.size hb.size) (.cells #[.slice xb nb cb] 26))
      replace HA := Lib.hid ((HA.out.on hb).on hal); replace HBA := Lib.hid ((HBA.out.on hb).on hal)
      have HBb := Lib.hid (hbb.on hal)
      have HBB := Lib.hid (Ret.Box.new w3 (.slice xb nb cb) 26)
      replace HBb := Lib.hid (HBb.out.mono hwb9)
      clear hbb hb hal hwb9
      have ha2 := HBA.out.cell
      have hal := (Below.refl (w3.alloc (.cells #[.slice xb nb cb] 26)).heap.size (w3.alloc (.cells #[.slice xb nb cb] 26))).alloc (Nat.le_refl _) (.cells #[.slice xa na ca, .slice xb nb cb] 28)
      replace HR := Lib.hid (HR.out.on hal); replace HB := Lib.hid (HB.out.alloc HB.out.size (.cells #[.slice xa na ca, .slice xb nb cb] 28))
      replace HA := Lib.hid (HA.out.on hal); replace HBb := Lib.hid (HBb.out.on hal)
      have HX := Lib.hid (Ret.Blk.new' (w := w3.alloc (.cells #[.slice xb nb cb] 26)) (n := w3.heap.size + 1) #[.slice xa na ca, .slice xb nb cb] 28 (by simp))
      have HKR := Lib.hid (kRl_of (x := (ppN a, ppN b)) (kN_of HA.out.holds) (kN_of HBb.out.holds))
      have HWT := Lib.hid (wt_pp a b)
      clear hal
      cases hpa : ppOk a with
      | false =>
        have E1 : Hid (prOk s = false) := Lib.hid (by rw [P1.out]; unfold prAB; rw [hpa]; rfl)
        have E2 : Hid (prR s = ([], [])) := Lib.hid (prR_no E1.out)
        have r0 : ((w3.alloc (.cells #[.slice xb nb cb] 26)).alloc (.cells #[.slice xa na ca, .slice xb nb cb] 28)).cell? ⟨w.heap.size, 0, none⟩ = some (.slice none 0 0) := HR.out.cell 0
        have r1 : ((w3.alloc (.cells #[.slice xb nb cb] 26)).alloc (.cells #[.slice xa na ca, .slice xb nb cb] 28)).cell? ⟨w.heap.size, 1, none⟩ = some (.slice none 0 0) := HR.out.cell 1
        have z0 : ((w3.alloc (.cells #[.slice xb nb cb] 26)).alloc (.cells #[.slice xa na ca, .slice xb nb cb] 28)).frozen? ⟨w.heap.size, 0, none⟩ = false := HR.out.frozen 0
        have z1 : ((w3.alloc (.cells #[.slice xb nb cb] 26)).alloc (.cells #[.slice xa na ca, .slice xb nb cb] 28)).frozen? ⟨w.heap.size, 1, none⟩ = false := HR.out.frozen 1
        have ZN := Lib.hid ((HR.out.set 0 (.slice none 0 0)).set 1 (.slice none 0 0))
        have ZB := Lib.hid ((HB.out.setCell (p := ⟨w.heap.size, 0, none⟩) (Nat.le_refl _) (.slice none 0 0)).setCell (p := ⟨w.heap.size, 1, none⟩) (Nat.le_refl _) (.slice none 0 0))
        go_wp2_with fail
        refine bodyPost_ret (Ret.results_ct rfl _ _ w.heap.size [.slice none 0 0, .slice none 0 0] rfl aggRl ZN.out.cells) rfl ?_
        exact ⟨_, _, _, _, _, _, ret_vb E1.out.symm, by rw [E2.out]; exact Row.HB.nil _ _, by rw [E2.out]; exact Row.HB.nil _ _, ZB.out⟩
      | true =>
        cases hpb : ppOk b with
        | false =>
          have E1 : Hid (prOk s = false) := Lib.hid (by rw [P1.out]; unfold prAB; rw [hpa, hpb]; rfl)
          have E2 : Hid (prR s = ([], [])) := Lib.hid (prR_no E1.out)
          have r0 : ((w3.alloc (.cells #[.slice xb nb cb] 26)).alloc (.cells #[.slice xa na ca, .slice xb nb cb] 28)).cell? ⟨w.heap.size, 0, none⟩ = some (.slice none 0 0) := HR.out.cell 0
          have r1 : ((w3.alloc (.cells #[.slice xb nb cb] 26)).alloc (.cells #[.slice xa na ca, .slice xb nb cb] 28)).cell? ⟨w.heap.size, 1, none⟩ = some (.slice none 0 0) := HR.out.cell 1
          have z0 : ((w3.alloc (.cells #[.slice xb nb cb] 26)).alloc (.cells #[.slice xa na ca, .slice xb nb cb] 28)).frozen? ⟨w.heap.size, 0, none⟩ = false := HR.out.frozen 0
          have z1 : ((w3.alloc (.cells #[.slice xb nb cb] 26)).alloc (.cells #[.slice xa na ca, .slice xb nb cb] 28)).frozen? ⟨w.heap.size, 1, none⟩ = false := HR.out.frozen 1
          have ZN := Lib.hid ((HR.out.set 0 (.slice none 0 0)).set 1 (.slice none 0 0))
          have ZB := Lib.hid ((HB.out.setCell (p := ⟨w.heap.size, 0, none⟩) (Nat.le_refl _) (.slice none 0 0)).setCell (p := ⟨w.heap.size, 1, none⟩) (Nat.le_refl _) (.slice none 0 0))
          go_wp2_with fail
          refine bodyPost_ret (Ret.results_ct rfl _ _ w.heap.size [.slice none 0 0, .slice none 0 0] rfl aggRl ZN.out.cells) rfl ?_
          exact ⟨_, _, _, _, _, _, ret_vb E1.out.symm, by rw [E2.out]; exact Row.HB.nil _ _, by rw [E2.out]; exact Row.HB.nil _ _, ZB.out⟩
        | true =>
          obtain ⟨z, hz⟩ : ∃ z, validR (ppN a, ppN b) = z := ⟨_, rfl⟩
          have HZ := Lib.hid hz
          have E0 : Hid (prOk s = z) := Lib.hid (by rw [P1.out]; unfold prAB; rw [hpa, hpb, hz]; rfl)
          clear hz hpa hpb
          have x0 : ((w3.alloc (.cells #[.slice xb nb cb] 26)).alloc (.cells #[.slice xa na ca, .slice xb nb cb] 28)).cell? ⟨w3.heap.size + 1, 0, none⟩ = some (.slice xa na ca) := HX.out.cell 0
          have x1 : ((w3.alloc (.cells #[.slice xb nb cb] 26)).alloc (.cells #[.slice xa na ca, .slice xb nb cb] 28)).cell? ⟨w3.heap.size + 1, 1, none⟩ = some (.slice xb nb cb) := HX.out.cell 1
          go_wp2_with fail
          clear x0 x1
          refine (specValidRule _ (ppN a, ppN b) _ z HZ.out HKR.out HWT.out).mono ?_
          rintro e w4 ⟨rfl, hb⟩
          replace HR := Lib.hid (HR.out.on hb); replace HX := Lib.hid (HX.out.on hb)
          replace HA := Lib.hid (HA.out.on hb); replace HBb := Lib.hid (HBb.out.on hb)
          replace HB := Lib.hid (HB.out.trans (hb.mono HB.out.size)); clear hb
          cases z with
          | false =>
            have E1 : Hid (prOk s = false) := Lib.hid (E0.out)
            have E2 : Hid (prR s = ([], [])) := Lib.hid (prR_no E1.out)
            have r0 : w4.cell? ⟨w.heap.size, 0, none⟩ = some (.slice none 0 0) := HR.out.cell 0
            have r1 : w4.cell? ⟨w.heap.size, 1, none⟩ = some (.slice none 0 0) := HR.out.cell 1
            have z0 : w4.frozen? ⟨w.heap.size, 0, none⟩ = false := HR.out.frozen 0
            have z1 : w4.frozen? ⟨w.heap.size, 1, none⟩ = false := HR.out.frozen 1
            have ZN := Lib.hid ((HR.out.set 0 (.slice none 0 0)).set 1 (.slice none 0 0))
            have ZB := Lib.hid ((HB.out.setCell (p := ⟨w.heap.size, 0, none⟩) (Nat.le_refl _) (.slice none 0 0)).setCell (p := ⟨w.heap.size, 1, none⟩) (Nat.le_refl _) (.slice none 0 0))
            go_wp2_with fail
            refine bodyPost_ret (Ret.results_ct rfl _ _ w.heap.size [.slice none 0 0, .slice none 0 0] rfl aggRl ZN.out.cells) rfl ?_
            exact ⟨_, _, _, _, _, _, ret_vb E1.out.symm, by rw [E2.out]; exact Row.HB.nil _ _, by rw [E2.out]; exact Row.HB.nil _ _, ZB.out⟩
          | true =>
            have E2 : Hid (prR s = (ppN a, ppN b)) := Lib.hid (P2.out E0.out)
            have x0 : w4.cell? ⟨w3.heap.size + 1, 0, none⟩ = some (.slice xa na ca) := HX.out.cell 0
            have x1 : w4.cell? ⟨w3.heap.size + 1, 1, none⟩ = some (.slice xb nb cb) := HX.out.cell 1
            have r0 : w4.cell? ⟨w.heap.size, 0, none⟩ = some (.slice none 0 0) := HR.out.cell 0
            have r1 : w4.cell? ⟨w.heap.size, 1, none⟩ = some (.slice none 0 0) := HR.out.cell 1
            have z0 : w4.frozen? ⟨w.heap.size, 0, none⟩ = false := HR.out.frozen 0
            have z1 : w4.frozen? ⟨w.heap.size, 1, none⟩ = false := HR.out.frozen 1
            have ZN := Lib.hid ((HR.out.set 0 (.slice xa na ca)).set 1 (.slice xb nb cb))
            have ZB := Lib.hid ((HB.out.setCell (p := ⟨w.heap.size, 0, none⟩) (Nat.le_refl _) (.slice xa na ca)).setCell (p := ⟨w.heap.size, 1, none⟩) (Nat.le_refl _) (.slice xb nb cb))
            have ZK := Lib.hid ((HA.out.setT (i := 0) (u := (.slice xa na ca)) HR.out (by decide)).setT (i := 1) (u := (.slice xb nb cb)) (HR.out.set 0 (.slice xa na ca)) (by decide)); have ZL := Lib.hid ((HBb.out.setT (i := 0) (u := (.slice xa na ca)) HR.out (by decide)).setT (i := 1) (u := (.slice xb nb cb)) (HR.out.set 0 (.slice xa na ca)) (by decide))
            go_wp2_with fail
            refine bodyPost_ret (Ret.results_ct rfl _ _ w.heap.size [.slice xa na ca, .slice xb nb cb] rfl aggRl ZN.out.cells) rfl ?_
            exact ⟨_, _, _, _, _, _, ret_vb E0.out.symm, by rw [E2.out]; exact ZK.out, by rw [E2.out]; exact ZL.out, ZB.out⟩
    · have hq : (c.toList == [60]) = false := by
        have : c.toList ≠ [60] := fun e => hc (toList_inj (e.trans tl60.symm))
        simpa using this
      have P1 := Lib.hid (show prOk s = false from by rw [p1]; simp [hc])
      have P2 := Lib.hid (show prR s = ([], []) from by rw [p2]; simp [hc])
      clear p1 p2 hc hL hn1 e1 e2
      go_wp2_with fail
      refine bodyPost_ret (Ret.results_ct rfl _ _ w.heap.size [.slice none 0 0, .slice none 0 0] rfl aggRl ZN.out.cells) rfl ?_
      exact ⟨_, _, _, _, _, _, ret_vb P1.out.symm, by rw [P2.out]; exact Row.HB.nil _ _, by rw [P2.out]; exact Row.HB.nil _ _, ZB.out⟩
  · obtain ⟨p1, p2⟩ := pr_other (s := s) (by rw [hL, ← hn1]; exact h3)
    have P1 := Lib.hid p1; have P2 := Lib.hid p2
    have hne : ((n1 : Int) != 3) = true := by simp; omega
    clear p1 p2 hL hn1 h3
    go_wp2_with fail
    refine bodyPost_ret (Ret.results_ct rfl _ _ w.heap.size [.slice none 0 0, .slice none 0 0] rfl aggRl ZN.out.cells) rfl ?_
    exact ⟨_, _, _, _, _, _, ret_vb P1.out.symm, by rw [P2.out]; exact Row.HB.nil _ _, by rw [P2.out]; exact Row.HB.nil _ _, ZB.out⟩

end Go.Proofs.YtkojeajjappchaaGreat.Row
/- The model's draws of rules and of lists of rules (l10Rule, l10Rules, l10One). What was in memory stays as it was, but for the cursor. -/
namespace Go.Proofs.YtkojeajjappchaaGreat.Draw
open Go.ChangeShapes Go.WideShapes Go.ChangeAt Go.RowKit Go.Instr
open Go.Proofs.YtkojeajjappchaaGreat.Row (bulk bulk_append bulk_one bulk_nil bulk_cons HB Rlt Rlm kRl kLRl OwnK HoldsK wtRl)
open Go.Proofs.YtkojeajjappchaaGreat.Ret (NC Blk Box)
set_option linter.unusedVariables false
set_option maxRecDepth 100000

/-- The rule x lies as two slices, in blocks of texts from B on. -/
structure RH (B : Nat) (w : World) (x0 : Option Addr) (n0 c0 : Nat) (x1 : Option Addr) (n1 c1 : Nat) (x : Rlt) : Prop where
  fst : HB B w (.slice x0 n0 c0) x.1
  snd : HB B w (.slice x1 n1 c1) x.2
section
variable {B B' p g i : Nat} {w w' : World} {x0 x1 : Option Addr} {n0 c0 n1 c1 : Nat} {x : Rlt} {cs : Array Value} {t : TypeId} {u : Value}
theorem RH.on (h : RH B w x0 n0 c0 x1 n1 c1 x) (hb : Below w.heap.size w w') : RH B w' x0 n0 c0 x1 n1 c1 x := ⟨h.1.on hb, h.2.on hb⟩
theorem RH.mono (h : RH B w x0 n0 c0 x1 n1 c1 x) (hB : B' ≤ B) : RH B' w x0 n0 c0 x1 n1 c1 x := ⟨h.1.mono hB, h.2.mono hB⟩
theorem RH.keep (h : RH B w x0 n0 c0 x1 n1 c1 x) (hk : Keep p w w') (hp : p < B) : RH B w' x0 n0 c0 x1 n1 c1 x := ⟨Row.hb_keep' h.1 hk hp, Row.hb_keep' h.2 hk hp⟩
theorem RH.setT (h : RH B w x0 n0 c0 x1 n1 c1 x) (hb : Blk w g cs t) (hne : t ≠ 9) : RH B (w.setCell ⟨g, i, none⟩ u) x0 n0 c0 x1 n1 c1 x := ⟨h.1.setT hb hne, h.2.setT hb hne⟩
theorem RH.set2 {a b : Value} (h : RH B w x0 n0 c0 x1 n1 c1 x) (hb : Blk w g cs t) (hne : t ≠ 9) : RH B ((w.setCell ⟨g, 0, none⟩ a).setCell ⟨g, 1, none⟩ b) x0 n0 c0 x1 n1 c1 x := (h.setT hb hne).setT (hb.set 0 a) hne
theorem RH.at (h : RH B w x0 n0 c0 x1 n1 c1 x) : kRl.At w (.agg #[.slice x0 n0 c0, .slice x1 n1 c1]) x := Row.kRl_of (Row.kN_of h.1.holds) (Row.kN_of h.2.holds)
end
/-- A drawn rule. -/
def RuleD (B : Nat) (V : Value) (w : World) : Prop := ∃ (x0 x1 : Option Addr) (n0 c0 n1 c1 : Nat) (x : Rlt), V = .agg #[.slice x0 n0 c0, .slice x1 n1 c1] ∧ RH B w x0 n0 c0 x1 n1 c1 x ∧ bulk x.1 ≤ 1000 ∧ bulk x.2 ≤ 1000
theorem prR_small (s : ByteArray) : bulk (Row.prR s).1 ≤ 1000 ∧ bulk (Row.prR s).2 ≤ 1000 := by
  cases h : Row.prOk s with
  | false => rw [Row.prR_no h]; simp [bulk_nil]
  | true =>
    rw [(Row.pr_cut s).2 h]
    have h1 := Row.ppN_bulk (Row.mk (Lib.cut (Row.bl s) Row.signL).1)
    have h2 := Row.ppN_bulk (Row.mk (Lib.cut (Row.bl s) Row.signL).2.1)
    exact ⟨by dsimp only; omega, by dsimp only; omega⟩
theorem cur_two {w0 : World} {p : Nat} {v : Value} {l : List UInt8} {W : World} {g : Nat} {a b : Value} (h : Cur w0 p v l W) (hg : w0.heap.size ≤ g) (hp : g ≠ p) : Cur w0 p v l ((W.setCell ⟨g, 0, none⟩ a).setCell ⟨g, 1, none⟩ b) := (h.setI 0 hg hp a).setI 1 hg hp b
theorem keep_two {p : Nat} {w W : World} {g : Nat} {a b : Value} (h : Keep p w W) (hg : w.heap.size ≤ g) : Keep p w ((W.setCell ⟨g, 0, none⟩ a).setCell ⟨g, 1, none⟩ b) := (h.setI 0 hg a).setI 1 hg b

set_option maxHeartbeats 4000000 in
theorem l10Rule (w0 : World) (p : Nat) (v : Value) (l : List UInt8) (w : World) (hc : Cur w0 p v l w) :
    Calls Tryz.prog 51 #[.pointer (some ⟨p, 0, none⟩)] w (DrawnW w0 p v l w (RuleD w.heap.size)) := by
  have hpl := hc.lt
  have h0w := hc.below.size
  have hal := (Below.refl w.heap.size w).alloc (Nat.le_refl _) (.cells #[.slice none 0 0, .slice none 0 0] 28)
  have HR := Lib.hid (Blk.new w #[.slice none 0 0, .slice none 0 0] 28)
  have HK0 := Lib.hid (Keep.of_below (p := p) hal)
  have hst := strLit2 w0 p v l _ (hc.on hal) [{ data := #[47, 97, 47, 42, 42, 32, 60, 32, 47, 107, 101, 121, 47, 97] }, { data := #[47, 98, 47, 42, 42, 32, 60, 32, 47, 107, 101, 121, 47, 98] }, { data := #[47, 63, 120, 47, 42, 42, 32, 60, 32, 47, 63, 120, 47, 107, 101, 121] }, { data := #[47, 63, 120, 47, 107, 101, 121, 32, 60, 32, 47, 107, 101, 121, 47, 97] }, { data := #[47, 110, 101, 119, 115, 47, 42, 32, 60, 32, 47, 107, 101, 121, 47, 98] }, { data := #[47, 63, 120, 47, 63, 121, 32, 60, 32, 47, 107, 101, 121, 47, 63, 121] }, { data := #[47, 107, 101, 121, 47, 42, 32, 60, 32, 47, 107, 101, 121, 47, 97] }] _ rfl 7 rfl (by decide) (by decide) 20 (by decide)
  simp only [World.size_alloc] at hst
  have HST := Lib.hid hst
  clear hst
  clear hc hal
  go_enter Tryz.func51, Tryz.ntmps51
  go_wp2_with fail
  refine HST.out.mono ?_
  rintro e w1 ⟨y, rfl, ⟨t, rfl, ht⟩, hc1, hk1⟩
  have hs1 := hk1.size
  simp only [World.size_alloc] at hs1
  replace HR := Lib.hid (blk_keep HR.out hk1 (by omega))
  replace HK0 := Lib.hid (HK0.out.trans hk1); have HC := Lib.hid hc1
  clear hc1 hk1 HST
  go_wp2_with fail
  refine (Row.specParseRuleB t _ (by omega)).mono ?_
  rintro e w2 ⟨x0, x1, n0, c0, n1, c1, rfl, ha, hb, hb2⟩
  obtain ⟨q1, q2⟩ := prR_small t
  obtain ⟨x, hx⟩ : ∃ x, Row.prR t = x := ⟨_, rfl⟩
  rw [hx] at ha hb q1 q2
  have hal := (Below.refl w2.heap.size w2).alloc (Nat.le_refl _) (.cells #[.slice x0 n0 c0, .slice x1 n1 c1] 28)
  have HX := Lib.hid ((RH.mk (x := x) (ha.mono (B' := w.heap.size) (by omega)) (hb.mono (B' := w.heap.size) (by omega))).on hal)
  replace HR := Lib.hid ((HR.out.on hb2).on hal); replace HK0 := Lib.hid ((HK0.out.trans (Keep.of_below (p := p) hb2)).trans (Keep.of_below (p := p) hal)); replace HC := Lib.hid ((HC.out.on hb2).on hal)
  have r0 : (w2.alloc (.cells #[.slice x0 n0 c0, .slice x1 n1 c1] 28)).cell? ⟨w.heap.size, 0, none⟩ = some (.slice none 0 0) := HR.out.cell 0
  have r1 : (w2.alloc (.cells #[.slice x0 n0 c0, .slice x1 n1 c1] 28)).cell? ⟨w.heap.size, 1, none⟩ = some (.slice none 0 0) := HR.out.cell 1
  have z0 : (w2.alloc (.cells #[.slice x0 n0 c0, .slice x1 n1 c1] 28)).frozen? ⟨w.heap.size, 0, none⟩ = false := HR.out.frozen 0
  have z1 : (w2.alloc (.cells #[.slice x0 n0 c0, .slice x1 n1 c1] 28)).frozen? ⟨w.heap.size, 1, none⟩ = false := HR.out.frozen 1
  have ZN := Lib.hid ((HR.out.set 0 (.slice x0 n0 c0)).set 1 (.slice x1 n1 c1))
  have ZX := Lib.hid (HX.out.set2 (a := .slice x0 n0 c0) (b := .slice x1 n1 c1) HR.out (by decide))
  have ZC := Lib.hid (cur_two (a := .slice x0 n0 c0) (b := .slice x1 n1 c1) HC.out h0w (show w.heap.size ≠ p by omega))
  have ZK := Lib.hid (keep_two (a := .slice x0 n0 c0) (b := .slice x1 n1 c1) HK0.out (Nat.le_refl w.heap.size))
  clear ha hb hb2 hal hx
  go_wp2_with fail
  refine bodyPost_ret (Ret.results_c rfl _ _ w.heap.size [.slice x0 n0 c0, .slice x1 n1 c1] rfl Row.aggRl ZN.out.cells) rfl ?_
  exact ⟨_, rfl, ⟨_, _, _, _, _, _, x, rfl, ZX.out, q1, q2⟩, ZC.out, ZK.out⟩

/-- A list of rules in a row of the draw's own, from B on. -/
def RL (B : Nat) (w : World) (V : Value) (L : List Rlm) : Prop := OwnK 28 kRl.cells 2 B w V L ∧ ∀ m ∈ L, HB B w m.1.v m.1.els ∧ HB B w m.2.v m.2.els
theorem ownk_keepU {α : Type} {enc : α → List Value} {sz : Nat} {e : TypeId} {B p : Nat} {w w' : World} {x : Value} {m : List α} (h : OwnK e enc sz B w x m) (hk : Keep p w w') (hp : p < B) : OwnK e enc sz B w' x m := by
  refine Row.ownK_keep h fun g hg => ?_
  have := h.lt g hg
  exact hk.block g this.2 (by omega)
section
variable {B B' p : Nat} {w w' : World} {V : Value} {L : List Rlm}
theorem RL.on (h : RL B w V L) (hb : Below w.heap.size w w') : RL B w' V L := ⟨h.1.on hb, fun m hm => ⟨(h.2 m hm).1.on hb, (h.2 m hm).2.on hb⟩⟩
theorem RL.mono (h : RL B w V L) (hB : B' ≤ B) : RL B' w V L := ⟨h.1.mono hB, fun m hm => ⟨(h.2 m hm).1.mono hB, (h.2 m hm).2.mono hB⟩⟩
theorem RL.keep (h : RL B w V L) (hk : Keep p w w') (hp : p < B) : RL B w' V L := ⟨ownk_keepU h.1 hk hp, fun m hm => ⟨Row.hb_keep' (h.2 m hm).1 hk hp, Row.hb_keep' (h.2 m hm).2 hk hp⟩⟩
theorem RL.shapeN (h : RL B w V L) : ∃ x n cap, V = .slice x n cap ∧ n = L.length ∧ n ≤ cap ∧ RL B w (.slice x n cap) L := by
  obtain ⟨x, n, cap, rfl, hn, hc, -⟩ := h.1.shapeN
  exact ⟨x, n, cap, rfl, hn, hc, h⟩
theorem RL.empty (w : World) : RL w.heap.size (w.alloc (.cells #[] 28)) (.slice (some ⟨w.heap.size, 0, none⟩) 0 0) [] := ⟨Row.ownK_empty _ _ _ _, fun m hm => by cases hm⟩
theorem RL.push (h : RL B w V L) {m : Rlm} (h1 : HB B w m.1.v m.1.els) (h2 : HB B w m.2.v m.2.els) {V' : Value} (ho : OwnK 28 kRl.cells 2 B w' V' (L ++ [m])) (hg : w.grownBy w' V.ownBlock) : RL B w' V' (L ++ [m]) :=
  ⟨ho, fun y hy => by
    rcases List.mem_append.1 hy with hy | hy
    · exact ⟨(h.2 y hy).1.grownK h.1 (by decide) hg, (h.2 y hy).2.grownK h.1 (by decide) hg⟩
    · rw [List.mem_singleton.1 hy]
      exact ⟨h1.grownK h.1 (by decide) hg, h2.grownK h.1 (by decide) hg⟩⟩
theorem RL.at (h : RL B w V L) : kLRl.At w V (L.map kRl.strip) := by
  obtain ⟨ad, n, cap, rfl, hn, -, h⟩ := h.shapeN
  refine ⟨⟨ad, n, cap, L⟩, rfl, rfl, h.1.holds, fun m hm => ?_⟩
  obtain ⟨a1, a2⟩ := h.2 m hm
  obtain ⟨m1, m2⟩ := m
  exact ⟨⟨Row.holdsK_single.2 a1.holds, fun _ _ => trivial⟩, ⟨Row.holdsK_single.2 a2.holds, fun _ _ => trivial⟩⟩
end
theorem holdsK_one' {α : Type} {enc : α → List Value} {sz : Nat} (hs : Row.Sz enc sz) (e : TypeId) (w : World) (x : α) {n : Nat} (hn : n = w.heap.size) : HoldsK enc sz (w.alloc (.cells (enc x).toArray e)) (.slice (some ⟨n, 0, none⟩) 1 1) [x] := by subst hn; exact Row.holdsK_one hs e w x
def smR (L : List Rlm) : Prop := ∀ m ∈ L, bulk m.1.els ≤ 1000 ∧ bulk m.2.els ≤ 1000
theorem smR_push {L : List Rlm} {m : Rlm} (h : smR L) (h1 : bulk m.1.els ≤ 1000) (h2 : bulk m.2.els ≤ 1000) : smR (L ++ [m]) := fun y hy => by
  rcases List.mem_append.1 hy with hy | hy
  · exact h y hy
  · rw [List.mem_singleton.1 hy]; exact ⟨h1, h2⟩
/-- A drawn list of rules. -/
def RulesD (B K : Nat) (V : Value) (w : World) : Prop := ∃ L, RL B w V L ∧ L.length ≤ K ∧ smR L
theorem rl_after {w0 : World} {p : Nat} {v : Value} {l : List UInt8} {w W W' : World} {x : Value} {L : List Rlm} (h0 : w0.heap.size ≤ w.heap.size) (hp : p < w.heap.size) (hO : RL w.heap.size W x L) (hc : Cur w0 p v l W) (hk : Keep p w W) (hg : W.grownBy W' x.ownBlock) : Cur w0 p v l W' ∧ Keep p w W' :=
  ⟨hc.grown hg (fun g e => by have := (hO.1.lt g e).1; exact ⟨by omega, by omega⟩), hk.grown hg (fun g e => (hO.1.lt g e).1)⟩

set_option maxHeartbeats 8000000 in
theorem l10Rules (w0 : World) (p : Nat) (v : Value) (l : List UInt8) (w : World) (hc : Cur w0 p v l w) :
    Calls Tryz.prog 78 #[.pointer (some ⟨p, 0, none⟩)] w (DrawnW w0 p v l w (RulesD w.heap.size 5)) := by
  have hpl := hc.lt
  have h0w := hc.below.size
  have hal := (Below.refl w.heap.size w).alloc (Nat.le_refl _) (.cells #[] 28)
  have HD := Lib.hid (below w0 p v l _ 6 (hc.on hal))
  have HO0 := Lib.hid (RL.empty w)
  have HK0 := Lib.hid (Keep.of_below (p := p) hal)
  clear hc hal
  go_enter Tryz.func78, Tryz.ntmps78
  go_wp2_with fail
  refine HD.out.mono ?_
  rintro e w1 ⟨y, rfl, ⟨r, rfl, hr, _⟩, hc1, hk1⟩
  have hr := hr (by omega)
  obtain ⟨r, rfl⟩ := Int.eq_ofNat_of_zero_le hr.1
  have hr5 : r ≤ 5 := by omega
  have HC1 := Lib.hid hc1; have HK1 := Lib.hid (HK0.out.trans hk1); have HO1 := Lib.hid (HO0.out.keep hk1 hpl)
  clear hr hc1 hk1 HD HO0 HK0
  go_wp2_with fail
  go_loopw [3, 4] (fun tv iv wr => ∃ (k j : Nat) (L : List Rlm), k + j ≤ 5 ∧ iv = .int .i64 k ∧ L.length ≤ j ∧ Hid (smR L) ∧ Hid (RL w.heap.size wr tv L) ∧ Hid (Cur w0 p v l wr) ∧ Hid (Keep p w wr)) (fun _ iv _ => (intOf iv).toNat)
  case atStart => exact ⟨r, 0, _, by omega, rfl, by simp, Lib.hid (fun m hm => by cases hm), HO1, HC1, HK1⟩
  case round =>
    obtain ⟨k, j, L, hkj, rfl, hLj, hs, hO, hC, hK⟩ := hrel
    obtain ⟨x, n, c, rfl, -, -, ho⟩ := hO.out.shapeN
    have HO := Lib.hid ho
    clear ho hO
    by_cases hk0 : 0 < k
    · have HD := Lib.hid (l10Rule w0 p v l wr hC.out)
      have HLM := Lib.hid (show (L.length + 1) * 48 ≤ 140737488355328 by omega)
      have HLX := Lib.hid (show L.length + 1 ≤ maxLen by unfold maxLen; omega)
      go_wp2_with fail
      refine HD.out.mono ?_
      rintro e w2 ⟨y, rfl, ⟨x0, x1, n0, c0, n1, c1, z, rfl, hz, z0, z1⟩, hc2, hk2⟩
      have hal := (Below.refl w2.heap.size w2).alloc (Nat.le_refl _) (.cells #[.slice x0 n0 c0, .slice x1 n1 c1] 28)
      have hal2 := (Below.refl (w2.alloc (.cells #[.slice x0 n0 c0, .slice x1 n1 c1] 28)).heap.size (w2.alloc (.cells #[.slice x0 n0 c0, .slice x1 n1 c1] 28))).alloc (Nat.le_refl _) (.cells #[.slice x0 n0 c0, .slice x1 n1 c1] 28)
      have HOA := Lib.hid (((HO.out.keep hk2 hpl).on hal).on hal2)
      have HZA := Lib.hid (((hz.mono (B' := w.heap.size) hK.out.size).on hal).on hal2)
      have HCA := Lib.hid ((hc2.on hal).on hal2)
      have HKA := Lib.hid (((hK.out.trans hk2).trans (Keep.of_below (p := p) hal)).trans (Keep.of_below (p := p) hal2))
      have HS := Lib.hid (smR_push (m := (⟨x0, n0, c0, z.1⟩, ⟨x1, n1, c1, z.2⟩)) hs.out z0 z1)
      clear hz hc2 hk2 hal hal2 HD
      go_wp2_with (at_builtin; refine Row.wpList_appK Row.kindRl (B := w.heap.size) (l := L) (m := [((⟨x0, n0, c0, z.1⟩, ⟨x1, n1, c1, z.2⟩) : Rlm)]) rfl _ _ rfl Tryz.underlying32 rfl rfl HOA.out.1 (holdsK_one' Row.szRl_cells 28 (w2.alloc (.cells #[.slice x0 n0 c0, .slice x1 n1 c1] 28)) ((⟨x0, n0, c0, z.1⟩, ⟨x1, n1, c1, z.2⟩) : Rlm) (World.size_alloc _ _).symm) HLM.out HLX.out HKA.out.size ?_)
      intro v5 w5 ho5 hg5
      have HP := Lib.hid (HOA.out.push (m := (⟨x0, n0, c0, z.1⟩, ⟨x1, n1, c1, z.2⟩)) HZA.out.1 HZA.out.2 ho5 hg5)
      have HQ := Lib.hid (rl_after h0w hpl HOA.out HCA.out HKA.out hg5)
      clear ho5 hg5
      go_wp2_with fail
      go_roundw
      case rel => exact ⟨k - 1, j + 1, _, by omega, by go_num, by rw [List.length_append]; simp; omega, HS, HP, Lib.hid HQ.out.1, Lib.hid HQ.out.2⟩
      case measure => simp [intOf]; omega
    · obtain rfl : k = 0 := by omega
      clear hk0
      go_wp2_with fail
      go_ret
      exact ⟨_, rfl, ⟨L, HO.out, by omega, hs.out⟩, hC.out, hK.out⟩
end Go.Proofs.YtkojeajjappchaaGreat.Draw
