/- Contracts and mathematics, joined: HB, OpenK, NmK, KeyK, KeySK, Patn, PtK, RuleK, RuleSK, NameK, NameSK, ByK, DataK, DataSK, TrustPolicyK, SoftK, Bind, Let. No conditions but those that each states. -/
import Derived.Test.YtcidfmmeonhkhaaGreatDoorB4
import Derived.Test.YtcidfmmeonhkhaaGreatDoorB2
import Derived.SizedLaws
import Derived.ChangeSlices
import Derived.ChangeSame
import Derived.ChangeArms
import Derived.Deep.Strs
import Derived.Lib.SmallJoins
import Derived.Test.YtcidfmmeonhkhaaGreatDoorB1
import Derived.Test.YtcidfmmeonhkhaaGreatDoorB3
/- Names that lie in blocks of texts: what keeps them; the reference model's ParseName and l4Of in these words. No conditions but that lengths fit. -/
namespace Go.Proofs.YtcidfmmeonhkhaaGreatDoor.Row
open Go.ChangeShapes Go.WideShapes Go.ChangeAt Go.RowKit Go.Instr
set_option linter.unusedVariables false
set_option maxRecDepth 100000

/-- Block g holds texts. -/
def TY (w : World) (g : Nat) : Prop := ∃ cur, w.heap[g]? = some (.cells cur 9 (0, 0))
theorem TY.lt {w : World} {g : Nat} (h : TY w g) : g < w.heap.size := by
  obtain ⟨cur, h⟩ := h
  exact (Array.getElem?_eq_some_iff.1 h).1
theorem TY.on {w w' : World} {g : Nat} (h : TY w g) (hb : Below w.heap.size w w') : TY w' g := by
  have hl := h.lt
  obtain ⟨cur, h⟩ := h
  exact ⟨cur, (hb.block g hl).trans h⟩
theorem TY.set {w : World} {g b i : Nat} {u : Value} (h : TY w g) (hne : b ≠ g) : TY (w.setCell ⟨b, i, none⟩ u) g := by
  obtain ⟨cur, h⟩ := h
  exact ⟨cur, (Go.RowKit.Below.heap_setCell w ⟨b, i, none⟩ u g (fun e => hne e.symm)).trans h⟩
/-- v holds the name l, in a block of texts from B on. -/
def HB (B : Nat) (w : World) (v : Value) (l : List ByteArray) : Prop := Holds Value.string w v l ∧ ∀ b off n c, v = .slice (some ⟨b, off, none⟩) n c → B ≤ b ∧ TY w b
section
variable {B : Nat} {w w' : World} {v : Value} {l : List ByteArray}
theorem HB.holds (h : HB B w v l) : Holds Value.string w v l := h.1
theorem HB.nil (B : Nat) (w : World) : HB B w (.slice none 0 0) [] := ⟨Holds.nil _ _, fun b off n c e => by cases e⟩
theorem HB.of (h : Own 9 Value.string B w v l) : HB B w v l := ⟨h.holds, fun b off n c e => by
  rcases h.2 with ⟨h2, _⟩ | ⟨g, cap, cur, hv, hB, hc, _⟩
  · rw [h2] at e; cases e
  · rw [hv] at e
    cases e
    exact ⟨hB, cur, hc⟩⟩
theorem HB.mono (h : HB B w v l) {B' : Nat} (hB : B' ≤ B) : HB B' w v l := ⟨h.1, fun b off n c e => ⟨Nat.le_trans hB (h.2 b off n c e).1, (h.2 b off n c e).2⟩⟩
theorem HB.on (h : HB B w v l) (hb : Below w.heap.size w w') : HB B w' v l := ⟨h.1.on hb, fun b off n c e => ⟨(h.2 b off n c e).1, (h.2 b off n c e).2.on hb⟩⟩
/-- What leaves the blocks of texts from B on leaves the name. -/
theorem HB.same (h : HB B w v l) (hg : ∀ g, B ≤ g → TY w g → w'.heap[g]? = w.heap[g]?) : HB B w' v l := by
  have hty := h.2
  obtain ⟨x, cap, hv, hc, hh⟩ := h.1
  refine ⟨⟨x, cap, hv, hc, ?_⟩, fun b off n c e => ?_⟩
  · rcases hh with h0 | ⟨b, off, rfl, hcell⟩
    · exact Or.inl h0
    · refine Or.inr ⟨b, off, rfl, fun j hj => ?_⟩
      obtain ⟨h1, h2⟩ := hty b off _ _ hv
      rw [World.cell?_of_block (w := w) (hg b h1 h2)]
      exact hcell j hj
  · obtain ⟨h1, h2⟩ := hty b off n c e
    refine ⟨h1, ?_⟩
    have := hg b h1 h2
    obtain ⟨cur, h2⟩ := h2
    exact ⟨cur, this.trans h2⟩
theorem HB.setT (h : HB B w v l) {g i : Nat} {cs : Array Value} {t : TypeId} {u : Value} (hb : Ret.Blk w g cs t) (hne : t ≠ 9) : HB B (w.setCell ⟨g, i, none⟩ u) v l :=
  h.same fun q _ ⟨cur, hq⟩ => Go.RowKit.Below.heap_setCell w ⟨g, i, none⟩ u q (fun e => by
    have e1 : q = g := e
    rw [e1, show w.heap[g]? = some (.cells cs t) from hb] at hq
    cases hq
    exact hne rfl)
theorem HB.grownK (h : HB B w v l) {α : Type} {enc : α → List Value} {sz B' : Nat} {e : TypeId} {u : Value} {m : List α} (ho : OwnK e enc sz B' w u m) (hne : e ≠ 9) (hg : w.grownBy w' u.ownBlock) : HB B w' v l :=
  h.same fun q _ ⟨cur, hq⟩ => hg.block q (Array.getElem?_eq_some_iff.1 hq).1 (fun e1 => by
    rcases ho.2 with ⟨h2, _⟩ | ⟨g, cap, cur2, hv, _, hc, _⟩
    · rw [h2] at e1; cases e1
    · rw [hv] at e1
      have e2 : q = g := by simpa [Value.ownBlock] using e1
      rw [e2, hc] at hq
      cases hq
      exact hne rfl)
theorem HB.shapeN (h : HB B w v l) : ∃ x n cap, v = .slice x n cap ∧ n = l.length ∧ HB B w (.slice x n cap) l := by
  obtain ⟨x, n, cap, rfl, hn, -, -⟩ := h.1.shapeN
  exact ⟨x, n, cap, rfl, hn, h⟩
end
def GivesN9 (w : World) (l : List ByteArray) (b : Bool) (e : Ending) (w' : World) : Prop := ∃ v, e = .returned (.tuple #[.agg #[v], .bool b]) ∧ HB w.heap.size w' v l ∧ Below w.heap.size w w'

set_option maxHeartbeats 2000000 in
theorem specParseNameB (s : ByteArray) (w : World) (hs : s.size ≤ 10000000) :
    Calls Tryz.prog 131 #[.string s] w (GivesN9 w (pN s) (pOk s)) := by
  have HB0 := Lib.hid ((Below.refl w.heap.size w).alloc (Nat.le_refl _) (.cells #[.slice none 0 0] 32))
  have HR := Lib.hid (Ret.NC.new' (w := w) (.slice none 0 0) 32 rfl)
  by_cases h47 : s = mk [47]
  · obtain ⟨p1, p2⟩ := pOk_slash
    rw [← h47] at p1 p2
    have HP := Lib.hid p1; have HPN := Lib.hid p2
    have hq : (s.toList == [47]) = true := by rw [h47, tl47]; rfl
    clear p1 p2 h47
    go_enter Tryz.func131, Tryz.ntmps131
    go_wp2
    refine bodyPost_ret (Ret.results_ct rfl _ _ w.heap.size [_] rfl aggN (Ret.one HR.out.1)) rfl ?_
    exact ⟨_, ret_nb HP.out.symm, by rw [HPN.out]; exact HB.nil _ _, HB0.out⟩
  · have h47l : s.toList ≠ [47] := fun e => h47 (toList_inj (e.trans tl47.symm))
    have hq : (s.toList == [47]) = false := by simpa using h47l
    have H47 := Lib.hid h47
    have hpos := split_pos s
    have hbk := bulk_split s
    have hlb := bulk_len (splitB s)
    obtain ⟨n, hn⟩ : ∃ n, n = (splitB s).length := ⟨_, rfl⟩
    rw [← hn] at hpos hlb
    have hnb : n ≤ 10000001 := by omega
    have HN := Lib.hid hn
    have HBK := Lib.hid hbk
    clear h47 h47l hn hbk hlb
    go_enter Tryz.func131, Tryz.ntmps131
    go_wp2_with fail
    refine (l4Split s _ hs).mono ?_
    rintro e w1 ⟨v1, rfl, ho1, hb1⟩
    have HB1 := Lib.hid (HB0.out.trans (hb1.mono HB0.out.size))
    have HR1 := Lib.hid (HR.out.on hb1)
    have hty9 : ∀ b off n c, v1 = .slice (some ⟨b, off, none⟩) n c → TY w1 b := fun b off n c e => ((HB.of ho1).2 b off n c e).2
    obtain ⟨g, c1, rfl, hg1, hg2, hc1⟩ : ∃ g c1, v1 = .slice (some ⟨g, 0, none⟩) n c1 ∧ w.heap.size + 1 ≤ g ∧ g < w1.heap.size ∧ n ≤ c1 := by
      rcases ho1.form with ⟨_, h2⟩ | ⟨g, c1, h1, h2, h3, h4, h5⟩
      · exact absurd (congrArg List.length h2) (by rw [← HN.out]; simp; omega)
      · exact ⟨g, c1, by rw [h1, HN.out], by simpa using h2, h3, by rw [HN.out]; exact h4⟩
    have HH1 := Lib.hid ho1.holds
    have HTY := Lib.hid (hty9 g 0 n c1 rfl)
    clear ho1 hb1 hty9
    by_cases h2 : n = 1
    · subst h2
      have HP := Lib.hid (split_no H47.out (fun rest h hr => by
        have h3 := HN.out
        rw [h] at h3
        simp at h3
        exact absurd h3 hr))
      have HPN := Lib.hid (pN_no HP.out)
      by_cases hc : c1 = 1
      · subst hc
        obtain ⟨hk2, hf2⟩ := HR1.out.alloc (.cells #[.slice (some ⟨g, 0, none⟩) 0 0] 32)
        obtain ⟨q1, q2, q3⟩ := endN (w := w) (g := w.heap.size) (B := w.heap.size + 1) (v := .slice none 0 0) (l := []) (by omega) (by omega) (Own.nil _ _ _ _) hk2 (HB1.out.alloc HB1.out.size (.cells #[.slice (some ⟨g, 0, none⟩) 0 0] 32))
        have HQ1 := Lib.hid q1; have HQ2 := Lib.hid q2; have HQ3 := Lib.hid q3
        clear q1 q2 q3
        go_wp2
        refine bodyPost_ret (Ret.results_ct rfl _ _ w.heap.size [_] rfl aggN (Ret.one HQ1.out)) rfl ?_
        exact ⟨_, ret_nb HP.out.symm, by rw [HPN.out]; exact HB.of HQ2.out, HQ3.out⟩
      · have hc2 : ¬ c1 - 1 = 0 := by omega
        obtain ⟨hk2, hf2⟩ := HR1.out.alloc (.cells #[.slice (some ⟨g, 1, none⟩) 0 (c1 - 1)] 32)
        obtain ⟨q1, q2, q3⟩ := endN (w := w) (g := w.heap.size) (B := w.heap.size + 1) (v := .slice none 0 0) (l := []) (by omega) (by omega) (Own.nil _ _ _ _) hk2 (HB1.out.alloc HB1.out.size (.cells #[.slice (some ⟨g, 1, none⟩) 0 (c1 - 1)] 32))
        have HQ1 := Lib.hid q1; have HQ2 := Lib.hid q2; have HQ3 := Lib.hid q3
        clear q1 q2 q3
        go_wp2
        refine bodyPost_ret (Ret.results_ct rfl _ _ w.heap.size [_] rfl aggN (Ret.one HQ1.out)) rfl ?_
        exact ⟨_, ret_nb HP.out.symm, by rw [HPN.out]; exact HB.of HQ2.out, HQ3.out⟩
    · have hn2 : 2 ≤ n := by omega
      have hn3 : decide ((n : Int) < 2) = false := by simp; omega
      have hc2 : ¬ c1 = 1 := by omega
      obtain ⟨b0, off0, he0, hcell⟩ := HH1.out.at (j := 0) (by rw [← HN.out]; omega)
      cases he0
      have HD := Lib.hid ((HH1.out.drop (j := 1) (by rw [← HN.out]; omega)).on ((Below.refl _ _).alloc (Nat.le_refl _) (.cells #[.slice (some ⟨g, 1, none⟩) (n - 1) (c1 - 1)] 32)))
      have HL := Lib.hid (show splitB s = nth (splitB s) 0 :: (splitB s).drop 1 by
        have := drop_nth (l := splitB s) (k := 0) (by rw [← HN.out]; omega)
        rw [List.drop_zero] at this
        exact this)
      have HDN := Lib.hid (show (splitB s).drop 1 ≠ [] by
        intro e
        have := congrArg List.length e
        rw [List.length_drop, ← HN.out] at this
        simp at this; omega)
      have HBD := Lib.hid (show bulk ((splitB s).drop 1) ≤ 100000000 by
        have h3 := HBK.out
        rw [HL.out, bulk_cons] at h3
        omega)
      have HR2 := Lib.hid (HR1.out.alloc (.cells #[.slice (some ⟨g, 1, none⟩) (n - 1) (c1 - 1)] 32))
      have HT2 := Lib.hid (Ret.NC.new' (w := w1) (.slice (some ⟨g, 1, none⟩) (n - 1) (c1 - 1)) 32 rfl)
      have HB2 := Lib.hid (HB1.out.alloc HB1.out.size (.cells #[.slice (some ⟨g, 1, none⟩) (n - 1) (c1 - 1)] 32))
      rw [Nat.add_zero] at hcell
      by_cases hx : nth (splitB s) 0 = mk []
      · have hxe : (nth (splitB s) 0).toList.isEmpty = true := by rw [hx, tl0]; rfl
        have HX := Lib.hid hx
        clear hx
        go_wp2_with fail
        refine (specValidName _ _ _ HD.out HBD.out).mono ?_
        rintro e w3 ⟨rfl, hb3⟩
        have HR3 := Lib.hid (HR2.out.on hb3)
        have HT3 := Lib.hid (HT2.out.on hb3)
        have HD3 := Lib.hid (HD.out.on hb3)
        have HTY3 := Lib.hid ((HTY.out.on ((Below.refl w1.heap.size w1).alloc (Nat.le_refl _) (.cells #[.slice (some ⟨g, 1, none⟩) (n - 1) (c1 - 1)] 32))).on hb3)
        have HB3 := Lib.hid (HB2.out.trans (hb3.mono HB2.out.size))
        clear hb3
        cases hv : validN ((splitB s).drop 1) with
        | true =>
          obtain ⟨p1, p2⟩ := split_yes (by have := HL.out; rw [HX.out] at this; exact this) HDN.out hv
          have HP := Lib.hid p1; have HPN := Lib.hid p2
          obtain ⟨hk2, hf2⟩ := HR3.out
          obtain ⟨hk3, -⟩ := HT3.out
          have HQ1 := Lib.hid (Ret.set_same (v := .slice (some ⟨g, 1, none⟩) (n - 1) (c1 - 1)) hk2)
          have HQ2 := Lib.hid (HD3.out.grown (Ret.grownBy_set w3 ⟨w.heap.size, 0, none⟩ (.slice (some ⟨g, 1, none⟩) (n - 1) (c1 - 1))) (fun g1 h1 e1 => by simp [Value.ownBlock] at h1 e1; omega))
          have HQ3 := Lib.hid (HB3.out.setCell (p := ⟨w.heap.size, 0, none⟩) (Nat.le_refl _) (.slice (some ⟨g, 1, none⟩) (n - 1) (c1 - 1)))
          clear p1 p2 hv
          go_wp2
          refine bodyPost_ret (Ret.results_ct rfl _ _ w.heap.size [_] rfl aggN (Ret.one HQ1.out)) rfl ?_
          exact ⟨_, ret_nb HP.out.symm, by rw [HPN.out]; exact ⟨HQ2.out, fun b off n c e => by cases e; exact ⟨by omega, HTY3.out.set (by omega)⟩⟩, HQ3.out⟩
        | false =>
          have HP := Lib.hid (split_no H47.out (fun rest h hr => by
            have h3 := HL.out
            rw [h] at h3
            have h4 := (List.cons.inj h3).2
            rw [h4, ← h]; exact hv))
          have HPN := Lib.hid (pN_no HP.out)
          obtain ⟨hk2, hf2⟩ := HR3.out
          obtain ⟨q1, q2, q3⟩ := endN (w := w) (g := w.heap.size) (B := w.heap.size + 1) (v := .slice none 0 0) (l := []) (by omega) (by omega) (Own.nil _ _ _ _) hk2 HB3.out
          have HQ1 := Lib.hid q1; have HQ2 := Lib.hid q2; have HQ3 := Lib.hid q3
          clear q1 q2 q3 hv
          go_wp2
          refine bodyPost_ret (Ret.results_ct rfl _ _ w.heap.size [_] rfl aggN (Ret.one HQ1.out)) rfl ?_
          exact ⟨_, ret_nb HP.out.symm, by rw [HPN.out]; exact HB.of HQ2.out, HQ3.out⟩
      · have hxe : (nth (splitB s) 0).toList.isEmpty = false := by
          have : (nth (splitB s) 0).toList ≠ [] := fun e => hx (toList_inj (e.trans tl0.symm))
          simpa using this
        have HP := Lib.hid (split_no H47.out (fun rest h hr => by
          have h3 := HL.out
          rw [h] at h3
          exact absurd (by rw [h]; exact (List.cons.inj h3).1.symm) hx))
        have HPN := Lib.hid (pN_no HP.out)
        clear hx
        obtain ⟨hk2, hf2⟩ := HR2.out
        obtain ⟨q1, q2, q3⟩ := endN (w := w) (g := w.heap.size) (B := w.heap.size + 1) (v := .slice none 0 0) (l := []) (by omega) (by omega) (Own.nil _ _ _ _) hk2 HB2.out
        have HQ1 := Lib.hid q1; have HQ2 := Lib.hid q2; have HQ3 := Lib.hid q3
        clear q1 q2 q3
        go_wp2
        refine bodyPost_ret (Ret.results_ct rfl _ _ w.heap.size [_] rfl aggN (Ret.one HQ1.out)) rfl ?_
        exact ⟨_, ret_nb HP.out.symm, by rw [HPN.out]; exact HB.of HQ2.out, HQ3.out⟩


set_option maxHeartbeats 2000000 in
theorem l4OfB (s : ByteArray) (w : World) (hs : s.size ≤ 10000000) :
    Calls Tryz.prog 58 #[.string s] w fun e w' => ∃ u, e = .returned (.agg #[u]) ∧ HB w.heap.size w' u (pN s) ∧ Below w.heap.size w w' := by
  have HB0 := Lib.hid ((Below.refl w.heap.size w).alloc (Nat.le_refl _) (.cells #[.slice none 0 0] 32))
  have HX0 := Lib.hid (Ret.Box.new w (.slice none 0 0) 32)
  have HP := Lib.hid (specParseNameB s (w.alloc (.cells #[.slice none 0 0] 32)) hs)
  go_enter Tryz.func58, Tryz.ntmps58
  go_wp2_with fail
  refine HP.out.mono ?_
  rintro e w1 ⟨u, rfl, ho, hb⟩
  obtain ⟨x, n, c, rfl, -, ho⟩ := ho.shapeN
  have ha := (Below.refl w1.heap.size w1).alloc (Nat.le_refl _) (.cells #[.slice x n c] 32)
  have HX1 := Lib.hid ((HX0.out.on hb).on ha)
  have HO1 := Lib.hid (ho.on ha)
  have hq := (Ret.Box.new w1 (.slice x n c) 32).cell
  have hz := HX1.out.cell
  have hf := HX1.out.frozen
  have HBF := Lib.hid ((HB0.out.trans (hb.mono HB0.out.size)).trans (ha.mono (Nat.le_trans HB0.out.size hb.size)))
  have HW := Lib.hid (HBF.out.grown (Ret.grownBy_set _ ⟨w.heap.size, 0, none⟩ (.slice x n c)) HBF.out.size (fun g hg => by cases hg; exact Nat.le_refl _))
  have HH := Lib.hid ((HO1.out.mono (by simp)).setT (g := w.heap.size) (i := 0) (u := .slice x n c) (B := w.heap.size) (show Ret.Blk _ w.heap.size #[.slice none 0 0] 32 from HX1.out) (by decide))
  have HC := Lib.hid (Ret.set_same (v := .slice x n c) HX1.out.cell)
  clear ha ho hb
  go_wp2_with fail
  refine bodyPost_ret (Ret.results_c rfl _ _ w.heap.size [_] rfl aggN (Ret.one HC.out)) rfl ?_
  exact ⟨_, rfl, HH.out, HW.out⟩
/-- What a draw keeps. -/
theorem hb_keep' {B p : Nat} {w w' : World} {v : Value} {l : List ByteArray} (h : HB B w v l) (hk : Draw.Keep p w w') (hp : p < B) : HB B w' v l := h.same fun g hg ht => hk.block g ht.lt (by omega)
end Go.Proofs.YtcidfmmeonhkhaaGreatDoor.Row
/- What comes in as an argument, in the words of kinds: which value of the kind it is, and that its parts fit. By structure: numbers, slices of texts, structs, slices of whatever. For any program. No conditions. -/
namespace Go.Proofs.YtcidfmmeonhkhaaGreatDoor.Row
open Go.ChangeShapes Go.WideShapes Go.ChangeAt Go.RowKit Go.Instr
set_option linter.unusedVariables false
set_option maxRecDepth 100000

/-- Whatever lies in a value of type t as it comes in is a value of the kind, and fits. -/
def OpensK {α M : Type} (P : Program) (k : Kd α M) (t : TypeId) (ok : α → Prop) : Prop :=
  ∀ {H : Type} {enc : TypeId × Value → H} {w : World} {b2 : Nat} {held : Bool} {n : Nat} {cs : List Value} {y : DataW H × List MemPlace},
    DataW.trod enc P w b2 (fun _ => true) held n t cs = some y → ∃ m, k.cells m = cs ∧ k.holds w m ∧ ok (k.strip m)
section
variable {α M β N : Type} {P : Program} {k : Kd α M} {l : Kd β N} {t e s : TypeId} {ok : α → Prop} {ok' : β → Prop}
/-- .. the fields of a struct from one on, from cell o on. -/
def OpensF {α M : Type} (P : Program) (k : Kd α M) (fs : List Field) (o : Nat) (ok : α → Prop) : Prop :=
  ∀ {H : Type} {enc : TypeId × Value → H} {w : World} {b2 : Nat} {held : Bool} {n : Nat} {cs : List Value},
    (∀ f ∈ fs, ∃ y, DataW.trod enc P w b2 (fun _ => true) held n f.type ((cs.drop f.offset).take (P.cellsOf f.type)) = some y) → ∃ m, k.cells m = (cs.drop o).take k.size ∧ k.holds w m ∧ ok (k.strip m)
theorem OpensK.imp {ok2 : α → Prop} (h : OpensK P k t ok) (hi : ∀ x, ok x → ok2 x) : OpensK P k t ok2 := by
  intro H enc w b2 held n cs y hy
  obtain ⟨m, a, b, c⟩ := h hy
  exact ⟨m, a, b, hi _ c⟩
end
end Go.Proofs.YtcidfmmeonhkhaaGreatDoor.Row
/- Names in the words of kinds: sz, to, eq, mark, held. No conditions but that lengths fit. -/
namespace Go.Proofs.YtcidfmmeonhkhaaGreatDoor.Row
open Go.ChangeShapes Go.WideShapes Go.ChangeAt Go.RowKit Go.Instr
set_option linter.unusedVariables false
set_option maxRecDepth 100000

end Go.Proofs.YtcidfmmeonhkhaaGreatDoor.Row
/- Keys in the words of kinds: the kind; sz, to, eq, mark, held. No conditions but that lengths fit. -/
namespace Go.Proofs.YtcidfmmeonhkhaaGreatDoor.Row
open Go.ChangeShapes Go.WideShapes Go.ChangeAt Go.RowKit Go.Instr
set_option linter.unusedVariables false
set_option maxRecDepth 100000

abbrev Kyt := List ByteArray × Int
abbrev Kym := Rw ByteArray × Int
def kKy : Kd Kyt Kym := (kN.pair kInt)
def wtKy (x : Kyt) : Nat := bulk x.1
def adKy (x : Kyt) : Nat := x.1.length
def okKy (x : Kyt) : Prop := okN x.1
def mkKy (k : Int) (x : Kyt) : Kyt := (marks markT (k) x.1.length, x.2)
section
variable {w : World} {V : Value} {x : Kyt} {B E : Nat}
end
/-- It fits, and its numbers are numbers. -/
def inKy (x : Kyt) : Prop := okN x.1 ∧ (Lit.int .i64 x.2).wf = true
theorem inKy.ok {x : Kyt} (h : inKy x) : okKy x := h.1
/-! ### in the laws' words -/
end Go.Proofs.YtcidfmmeonhkhaaGreatDoor.Row
/- Lists of keys in the words of kinds: sz, to, eq. No conditions but that lengths fit. -/
namespace Go.Proofs.YtcidfmmeonhkhaaGreatDoor.Row
open Go.ChangeShapes Go.WideShapes Go.ChangeAt Go.RowKit Go.Instr
set_option linter.unusedVariables false
set_option maxRecDepth 100000

def kLKy : Kd (List Kyt) (Rw Kym) := kKy.slice 156
def okLKy (l : List Kyt) : Prop := l.length ≤ 9223372036854775807 ∧ ∀ x ∈ l, okKy x
section
variable {w : World} {V : Value} {l : List Kyt} {B E : Nat}
theorem kLKy_at (h : kLKy.At w V l) : ∃ ad n cap L, V = .slice ad n cap ∧ n = L.length ∧ L.map kKy.strip = l ∧ HoldsK kKy.cells 2 w (.slice ad n cap) L ∧ ∀ x ∈ L, kKy.holds w x := by
  obtain ⟨⟨ad, n, cap, L⟩, hV, hl, hh, hel⟩ := h
  exact ⟨ad, n, cap, L, hV, HoldsK.lenEq (show HoldsK kKy.cells 2 w (.slice ad n cap) L from hh), hl, hh, hel⟩
theorem kLKy_shapeA (h : kLKy.At w V l) : ∃ x n c, V = .slice x n c ∧ kLKy.At w (.slice x n c) l := by
  obtain ⟨ad, n, cap, L, rfl, -⟩ := kLKy_at h
  exact ⟨ad, n, cap, rfl, h⟩
end

def inLKy (l : List Kyt) : Prop := l.length ≤ 9223372036854775807 ∧ ∀ x ∈ l, inKy x
theorem inLKy.ok {l : List Kyt} (h : inLKy l) : okLKy l := ⟨h.1, fun x hx => (h.2 x hx).ok⟩
def adLKy (l : List Kyt) : Nat := bulkK adKy l
/-! ### as a field of a struct (kstruct.py's LIST) -/
end Go.Proofs.YtcidfmmeonhkhaaGreatDoor.Row
/- Contracts of the helpers by which the laws measure, copy, compare, mark and look at patterns (a struct of one slice of strings). No conditions but that lengths fit. -/
namespace Go.Proofs.YtcidfmmeonhkhaaGreatDoor.Row
open Go.ChangeShapes Go.WideShapes Go.ChangeAt Go.RowKit Go.Instr
set_option linter.unusedVariables false
set_option maxRecDepth 100000

end Go.Proofs.YtcidfmmeonhkhaaGreatDoor.Row
/- Patterns in the words of kinds (kN: a struct of one slice of texts): sz, to, eq, mark, held. No conditions but that lengths fit. -/
namespace Go.Proofs.YtcidfmmeonhkhaaGreatDoor.Row
open Go.ChangeShapes Go.WideShapes Go.ChangeAt Go.RowKit Go.Instr
set_option linter.unusedVariables false
set_option maxRecDepth 100000

end Go.Proofs.YtcidfmmeonhkhaaGreatDoor.Row
/- Rules (two patterns) in the words of kinds: the kind; sz, to, eq, mark, held. No conditions but that lengths fit. -/
namespace Go.Proofs.YtcidfmmeonhkhaaGreatDoor.Row
open Go.ChangeShapes Go.WideShapes Go.ChangeAt Go.RowKit Go.Instr
set_option linter.unusedVariables false
set_option maxRecDepth 100000

abbrev Rlt := List ByteArray × List ByteArray
abbrev Rlm := Rw ByteArray × Rw ByteArray
def kRl : Kd Rlt Rlm := (kN.pair kN)
theorem aggRl : Ret.AggOf Tryz.prog 168 2 := ⟨by kernel_rfl, by kernel_rfl⟩
def wtRl (x : Rlt) : Nat := bulk x.1 + bulk x.2
def adRl (x : Rlt) : Nat := x.1.length + x.2.length
def okRl (x : Rlt) : Prop := okN x.1 ∧ okN x.2
def mkRl (k : Int) (x : Rlt) : Rlt := (marks markT (k) x.1.length, marks markT (k + (x.1.length : Nat)) x.2.length)
section
variable {w : World} {V : Value} {x : Rlt} {B E : Nat}
theorem kRl_at (h : kRl.At w V x) : ∃ (x0_0 : Option Addr) (n0_0 c0_0 : Nat) (x1_0 : Option Addr) (n1_0 c1_0 : Nat), V = .agg #[.slice x0_0 n0_0 c0_0, .slice x1_0 n1_0 c1_0] ∧ kN.At w (.agg #[.slice x0_0 n0_0 c0_0]) x.1 ∧ kN.At w (.agg #[.slice x1_0 n1_0 c1_0]) x.2 := by
  obtain ⟨⟨m0, m1⟩, rfl, rfl, g0, g1⟩ := h
  obtain ⟨x0_0, n0_0, c0_0, e0, a0⟩ := kN_shapeA (Kd.at_of (k := kN) g0)
  have d0 : kN.cells m0 = [.slice x0_0 n0_0 c0_0] := by injection e0 with e; exact congrArg Array.toList e
  obtain ⟨x1_0, n1_0, c1_0, e1, a1⟩ := kN_shapeA (Kd.at_of (k := kN) g1)
  have d1 : kN.cells m1 = [.slice x1_0 n1_0 c1_0] := by injection e1 with e; exact congrArg Array.toList e
  refine ⟨x0_0, n0_0, c0_0, x1_0, n1_0, c1_0, ?_, e0 ▸ Kd.at_of (k := kN) g0, e1 ▸ Kd.at_of (k := kN) g1⟩
  show Value.agg ((kN.cells m0 ++ (kN.cells m1))).toArray = _
  rw [d0, d1]
  rfl
theorem kRl_of {x0_0 x1_0 : Option Addr} {n0_0 c0_0 n1_0 c1_0 : Nat} (h0 : kN.At w (.agg #[.slice x0_0 n0_0 c0_0]) x.1) (h1 : kN.At w (.agg #[.slice x1_0 n1_0 c1_0]) x.2) : kRl.At w (.agg #[.slice x0_0 n0_0 c0_0, .slice x1_0 n1_0 c1_0]) x := by
  obtain ⟨l0, l1⟩ := x
  obtain ⟨m0, e0, r0, g0⟩ := h0
  replace e0 := e0.symm
  have d0 : kN.cells m0 = [.slice x0_0 n0_0 c0_0] := by injection e0 with e; exact congrArg Array.toList e
  obtain ⟨m1, e1, r1, g1⟩ := h1
  replace e1 := e1.symm
  have d1 : kN.cells m1 = [.slice x1_0 n1_0 c1_0] := by injection e1 with e; exact congrArg Array.toList e
  refine ⟨(m0, m1), ?_, Prod.ext r0 (r1), g0, g1⟩
  symm
  show Value.agg ((kN.cells m0 ++ (kN.cells m1))).toArray = _
  rw [d0, d1]
  rfl
theorem kRl_shapeA (h : kRl.At w V x) : ∃ (x0_0 : Option Addr) (n0_0 c0_0 : Nat) (x1_0 : Option Addr) (n1_0 c1_0 : Nat), V = .agg #[.slice x0_0 n0_0 c0_0, .slice x1_0 n1_0 c1_0] ∧ kRl.At w (.agg #[.slice x0_0 n0_0 c0_0, .slice x1_0 n1_0 c1_0]) x := by
  obtain ⟨x0_0, n0_0, c0_0, x1_0, n1_0, c1_0, rfl, -⟩ := kRl_at h
  exact ⟨x0_0, n0_0, c0_0, x1_0, n1_0, c1_0, rfl, h⟩
end
/-- It fits, and its numbers are numbers. -/
def inRl (x : Rlt) : Prop := okN x.1 ∧ okN x.2
theorem inRl.ok {x : Rlt} (h : inRl x) : okRl x := ⟨h.1, h.2⟩
/-! ### in the laws' words -/
end Go.Proofs.YtcidfmmeonhkhaaGreatDoor.Row
/- Lists of rules in the words of kinds: sz, to, eq. No conditions but that lengths fit. -/
namespace Go.Proofs.YtcidfmmeonhkhaaGreatDoor.Row
open Go.ChangeShapes Go.WideShapes Go.ChangeAt Go.RowKit Go.Instr
set_option linter.unusedVariables false
set_option maxRecDepth 100000

def kLRl : Kd (List Rlt) (Rw Rlm) := kRl.slice 168
theorem szRl_cells : Sz kRl.cells 2 := fun m => kRl.len m
theorem kindRl : Kind Tryz.prog 168 kRl.cells (.agg #[.slice none 0 0, .slice none 0 0]) 2 48 where
  elem := by unfold ElemK; kernel_rfl
  zs := rfl
  pos := by decide
  size := szRl_cells
  one := fun m u hu => kRl.one m u hu
def okLRl (l : List Rlt) : Prop := l.length ≤ 9223372036854775807 ∧ ∀ x ∈ l, okRl x
section
variable {w : World} {V : Value} {l : List Rlt} {B E : Nat}
theorem kLRl_at (h : kLRl.At w V l) : ∃ ad n cap L, V = .slice ad n cap ∧ n = L.length ∧ L.map kRl.strip = l ∧ HoldsK kRl.cells 2 w (.slice ad n cap) L ∧ ∀ x ∈ L, kRl.holds w x := by
  obtain ⟨⟨ad, n, cap, L⟩, hV, hl, hh, hel⟩ := h
  exact ⟨ad, n, cap, L, hV, HoldsK.lenEq (show HoldsK kRl.cells 2 w (.slice ad n cap) L from hh), hl, hh, hel⟩
theorem kLRl_shapeA (h : kLRl.At w V l) : ∃ x n c, V = .slice x n c ∧ kLRl.At w (.slice x n c) l := by
  obtain ⟨ad, n, cap, L, rfl, -⟩ := kLRl_at h
  exact ⟨ad, n, cap, rfl, h⟩
/-- The element at place j: its cells, what it reads as. -/
theorem kLRl_elem {x : Option Addr} {n cap : Nat} {L : List Rlm} (h : HoldsK kRl.cells 2 w (.slice x n cap) L) (hel : ∀ y ∈ L, kRl.holds w y) {j : Nat} (hj : j < L.length) :
    ∃ (b off : Nat) (x0 : Option Addr) (n0 c0 : Nat) (x1 : Option Addr) (n1 c1 : Nat), x = some ⟨b, off, none⟩ ∧ kRl.cells (nth L j) = [.slice x0 n0 c0, .slice x1 n1 c1] ∧ w.cell? ⟨b, off + j * 2, none⟩ = some (.slice x0 n0 c0) ∧ w.cell? ⟨b, off + j * 2 + 1, none⟩ = some (.slice x1 n1 c1) ∧ kRl.At w (.agg #[.slice x0 n0 c0, .slice x1 n1 c1]) (kRl.strip (nth L j)) := by
  obtain ⟨b, off, hx, hc⟩ := h.at szRl_cells hj
  obtain ⟨x0, n0, c0, x1, n1, c1, e, ha⟩ := kRl_shapeA (Kd.at_of (k := kRl) (hel _ (nth_mem hj)))
  have d : kRl.cells (nth L j) = [.slice x0 n0 c0, .slice x1 n1 c1] := by injection e with e; exact congrArg Array.toList e
  rw [d] at hc
  exact ⟨b, off, x0, n0, c0, x1, n1, c1, hx, d, by have := hc 0 (by decide); simpa [Nat.add_assoc] using this, by have := hc 1 (by decide); simpa [Nat.add_assoc] using this, ha⟩
end

def inLRl (l : List Rlt) : Prop := l.length ≤ 9223372036854775807 ∧ ∀ x ∈ l, inRl x
theorem inLRl.ok {l : List Rlt} (h : inLRl l) : okLRl l := ⟨h.1, fun x hx => (h.2 x hx).ok⟩
def adLRl (l : List Rlt) : Nat := bulkK adRl l
/-! ### as a field of a struct (kstruct.py's LIST) -/
end Go.Proofs.YtcidfmmeonhkhaaGreatDoor.Row
/- Names in the words that kslice.py wants. No conditions but that lengths fit. -/
namespace Go.Proofs.YtcidfmmeonhkhaaGreatDoor.Row
open Go.ChangeShapes Go.WideShapes Go.ChangeAt Go.RowKit Go.Instr
set_option linter.unusedVariables false
set_option maxRecDepth 100000

abbrev Nnt := List ByteArray
abbrev Nnm := Rw ByteArray
abbrev kNn : Kd Nnt Nnm := kN
abbrev wtNn (x : Nnt) : Nat := bulk x
abbrev adNn (x : Nnt) : Nat := x.length
abbrev okNn (x : Nnt) : Prop := okN x
abbrev inNn (x : Nnt) : Prop := okN x
theorem okN.ok {x : List ByteArray} (h : okN x) : okNn x := h
theorem kNn_shapeA {w : World} {V : Value} {x : Nnt} (h : kNn.At w V x) : ∃ (y : Option Addr) (n c : Nat), V = .agg #[.slice y n c] ∧ kNn.At w (.agg #[.slice y n c]) x := kN_shapeA h
end Go.Proofs.YtcidfmmeonhkhaaGreatDoor.Row
/- Lists of names in the words of kinds: sz, to, eq. No conditions but that lengths fit. -/
namespace Go.Proofs.YtcidfmmeonhkhaaGreatDoor.Row
open Go.ChangeShapes Go.WideShapes Go.ChangeAt Go.RowKit Go.Instr
set_option linter.unusedVariables false
set_option maxRecDepth 100000

def kLNn : Kd (List Nnt) (Rw Nnm) := kNn.slice 32
theorem szNn_cells : Sz kNn.cells 1 := fun m => kNn.len m
theorem kindNn : Kind Tryz.prog 32 kNn.cells (.agg #[.slice none 0 0]) 1 24 where
  elem := by unfold ElemK; kernel_rfl
  zs := rfl
  pos := by decide
  size := szNn_cells
  one := fun m u hu => kNn.one m u hu
def okLNn (l : List Nnt) : Prop := l.length ≤ 9223372036854775807 ∧ ∀ x ∈ l, okNn x
section
variable {w : World} {V : Value} {l : List Nnt} {B E : Nat}
theorem kLNn_at (h : kLNn.At w V l) : ∃ ad n cap L, V = .slice ad n cap ∧ n = L.length ∧ L.map kNn.strip = l ∧ HoldsK kNn.cells 1 w (.slice ad n cap) L ∧ ∀ x ∈ L, kNn.holds w x := by
  obtain ⟨⟨ad, n, cap, L⟩, hV, hl, hh, hel⟩ := h
  exact ⟨ad, n, cap, L, hV, HoldsK.lenEq (show HoldsK kNn.cells 1 w (.slice ad n cap) L from hh), hl, hh, hel⟩
theorem kLNn_shapeA (h : kLNn.At w V l) : ∃ x n c, V = .slice x n c ∧ kLNn.At w (.slice x n c) l := by
  obtain ⟨ad, n, cap, L, rfl, -⟩ := kLNn_at h
  exact ⟨ad, n, cap, rfl, h⟩
theorem kLNn_shape (h : kLNn.In B E w V l) : ∃ x n c, V = .slice x n c ∧ kLNn.In B E w (.slice x n c) l := by
  obtain ⟨ad, n, cap, L, rfl, -⟩ := kLNn_at h.at
  exact ⟨ad, n, cap, rfl, h⟩
/-- The element at place j: its cells, what it reads as. -/
theorem kLNn_elem {x : Option Addr} {n cap : Nat} {L : List Nnm} (h : HoldsK kNn.cells 1 w (.slice x n cap) L) (hel : ∀ y ∈ L, kNn.holds w y) {j : Nat} (hj : j < L.length) :
    ∃ (b off : Nat) (x0 : Option Addr) (n0 c0 : Nat), x = some ⟨b, off, none⟩ ∧ kNn.cells (nth L j) = [.slice x0 n0 c0] ∧ w.cell? ⟨b, off + j, none⟩ = some (.slice x0 n0 c0) ∧ kNn.At w (.agg #[.slice x0 n0 c0]) (kNn.strip (nth L j)) := by
  obtain ⟨b, off, hx, hc⟩ := h.at szNn_cells hj
  obtain ⟨x0, n0, c0, e, ha⟩ := kNn_shapeA (Kd.at_of (k := kNn) (hel _ (nth_mem hj)))
  have d : kNn.cells (nth L j) = [.slice x0 n0 c0] := by injection e with e; exact congrArg Array.toList e
  rw [d] at hc
  exact ⟨b, off, x0, n0, c0, hx, d, by have := hc 0 (by decide); simpa [Nat.add_assoc] using this, ha⟩
end

def inLNn (l : List Nnt) : Prop := l.length ≤ 9223372036854775807 ∧ ∀ x ∈ l, inNn x
theorem inLNn.ok {l : List Nnt} (h : inLNn l) : okLNn l := ⟨h.1, fun x hx => (h.2 x hx).ok⟩
def adLNn (l : List Nnt) : Nat := bulkK adNn l
/-! ### as a field of a struct (kstruct.py's LIST) -/
end Go.Proofs.YtcidfmmeonhkhaaGreatDoor.Row
/- Slices of bytes in the words of kinds: sz, to, eq, mark, held. No conditions but that lengths fit. -/
namespace Go.Proofs.YtcidfmmeonhkhaaGreatDoor.Row
open Go.ChangeShapes Go.WideShapes Go.ChangeAt Go.RowKit Go.Instr
set_option linter.unusedVariables false
set_option maxRecDepth 100000

def okB (l : List Int) : Prop := l.length ≤ 9223372036854775807
end Go.Proofs.YtcidfmmeonhkhaaGreatDoor.Row
/- Data packets in the words of kinds: the kind; sz, to, eq, mark, held. No conditions but that lengths fit. -/
namespace Go.Proofs.YtcidfmmeonhkhaaGreatDoor.Row
open Go.ChangeShapes Go.WideShapes Go.ChangeAt Go.RowKit Go.Instr
set_option linter.unusedVariables false
set_option maxRecDepth 100000

abbrev Dzt := List ByteArray × List Int × List ByteArray × Int × Int
abbrev Dzm := Rw ByteArray × Rw Int × Rw ByteArray × Int × Int
def kDz : Kd Dzt Dzm := (kN.pair (kB.pair (kN.pair (kInt.pair kInt))))
def wtDz (x : Dzt) : Nat := bulk x.1 + x.2.1.length + bulk x.2.2.1
def adDz (x : Dzt) : Nat := x.1.length + x.2.1.length + x.2.2.1.length
def okDz (x : Dzt) : Prop := okN x.1 ∧ okB x.2.1 ∧ okN x.2.2.1
def mkDz (k : Int) (x : Dzt) : Dzt := (marks markT (k) x.1.length, Sl.marks .u8 (k + (x.1.length : Nat)) x.2.1.length, marks markT (k + (x.1.length : Nat) + (x.2.1.length : Nat)) x.2.2.1.length, x.2.2.2.1, x.2.2.2.2)
section
variable {w : World} {V : Value} {x : Dzt} {B E : Nat}
theorem kDz_at (h : kDz.At w V x) : ∃ (x0_0 : Option Addr) (n0_0 c0_0 : Nat) (x1_0 : Option Addr) (n1_0 c1_0 : Nat) (x2_0 : Option Addr) (n2_0 c2_0 : Nat), V = .agg #[.slice x0_0 n0_0 c0_0, .slice x1_0 n1_0 c1_0, .slice x2_0 n2_0 c2_0, .int .i64 x.2.2.2.1, .int .i64 x.2.2.2.2] ∧ kN.At w (.agg #[.slice x0_0 n0_0 c0_0]) x.1 ∧ kB.At w (.slice x1_0 n1_0 c1_0) x.2.1 ∧ kN.At w (.agg #[.slice x2_0 n2_0 c2_0]) x.2.2.1 := by
  obtain ⟨⟨m0, m1, m2, m3, m4⟩, rfl, rfl, g0, g1, g2, g3, g4⟩ := h
  obtain ⟨x0_0, n0_0, c0_0, e0, a0⟩ := kN_shapeA (Kd.at_of (k := kN) g0)
  have d0 : kN.cells m0 = [.slice x0_0 n0_0 c0_0] := by injection e0 with e; exact congrArg Array.toList e
  obtain ⟨x1_0, n1_0, c1_0, e1, a1⟩ := kB_shapeA (Kd.at_of (k := kB) g1)
  have d1 : kB.cells m1 = [.slice x1_0 n1_0 c1_0] := by show [kB.val m1] = _; rw [e1]
  obtain ⟨x2_0, n2_0, c2_0, e2, a2⟩ := kN_shapeA (Kd.at_of (k := kN) g2)
  have d2 : kN.cells m2 = [.slice x2_0 n2_0 c2_0] := by injection e2 with e; exact congrArg Array.toList e
  refine ⟨x0_0, n0_0, c0_0, x1_0, n1_0, c1_0, x2_0, n2_0, c2_0, ?_, e0 ▸ Kd.at_of (k := kN) g0, e1 ▸ Kd.at_of (k := kB) g1, e2 ▸ Kd.at_of (k := kN) g2⟩
  show Value.agg ((kN.cells m0 ++ (kB.cells m1 ++ (kN.cells m2 ++ (kInt.cells m3 ++ (kInt.cells m4)))))).toArray = _
  rw [d0, d1, d2]
  rfl
theorem kDz_shapeA (h : kDz.At w V x) : ∃ (x0_0 : Option Addr) (n0_0 c0_0 : Nat) (x1_0 : Option Addr) (n1_0 c1_0 : Nat) (x2_0 : Option Addr) (n2_0 c2_0 : Nat), V = .agg #[.slice x0_0 n0_0 c0_0, .slice x1_0 n1_0 c1_0, .slice x2_0 n2_0 c2_0, .int .i64 x.2.2.2.1, .int .i64 x.2.2.2.2] ∧ kDz.At w (.agg #[.slice x0_0 n0_0 c0_0, .slice x1_0 n1_0 c1_0, .slice x2_0 n2_0 c2_0, .int .i64 x.2.2.2.1, .int .i64 x.2.2.2.2]) x := by
  obtain ⟨x0_0, n0_0, c0_0, x1_0, n1_0, c1_0, x2_0, n2_0, c2_0, rfl, -⟩ := kDz_at h
  exact ⟨x0_0, n0_0, c0_0, x1_0, n1_0, c1_0, x2_0, n2_0, c2_0, rfl, h⟩
end
/-- It fits, and its numbers are numbers. -/
def inDz (x : Dzt) : Prop := okN x.1 ∧ (okB x.2.1 ∧ ∀ y ∈ x.2.1, (Lit.int .u8 y).wf = true) ∧ okN x.2.2.1 ∧ (Lit.int .i64 x.2.2.2.1).wf = true ∧ (Lit.int .i64 x.2.2.2.2).wf = true
theorem inDz.ok {x : Dzt} (h : inDz x) : okDz x := ⟨h.1, h.2.1.1, h.2.2.1⟩
/-! ### in the laws' words -/
end Go.Proofs.YtcidfmmeonhkhaaGreatDoor.Row
/- Lists of data packets in the words of kinds: sz, to, eq. No conditions but that lengths fit. -/
namespace Go.Proofs.YtcidfmmeonhkhaaGreatDoor.Row
open Go.ChangeShapes Go.WideShapes Go.ChangeAt Go.RowKit Go.Instr
set_option linter.unusedVariables false
set_option maxRecDepth 100000

def kLDz : Kd (List Dzt) (Rw Dzm) := kDz.slice 34
theorem szDz_cells : Sz kDz.cells 5 := fun m => kDz.len m
theorem kindDz : Kind Tryz.prog 34 kDz.cells (.agg #[.slice none 0 0, .slice none 0 0, .slice none 0 0, .int .i64 0, .int .i64 0]) 5 88 where
  elem := by unfold ElemK; kernel_rfl
  zs := rfl
  pos := by decide
  size := szDz_cells
  one := fun m u hu => kDz.one m u hu
def okLDz (l : List Dzt) : Prop := l.length ≤ 9223372036854775807 ∧ ∀ x ∈ l, okDz x
section
variable {w : World} {V : Value} {l : List Dzt} {B E : Nat}
theorem kLDz_at (h : kLDz.At w V l) : ∃ ad n cap L, V = .slice ad n cap ∧ n = L.length ∧ L.map kDz.strip = l ∧ HoldsK kDz.cells 5 w (.slice ad n cap) L ∧ ∀ x ∈ L, kDz.holds w x := by
  obtain ⟨⟨ad, n, cap, L⟩, hV, hl, hh, hel⟩ := h
  exact ⟨ad, n, cap, L, hV, HoldsK.lenEq (show HoldsK kDz.cells 5 w (.slice ad n cap) L from hh), hl, hh, hel⟩
theorem kLDz_shapeA (h : kLDz.At w V l) : ∃ x n c, V = .slice x n c ∧ kLDz.At w (.slice x n c) l := by
  obtain ⟨ad, n, cap, L, rfl, -⟩ := kLDz_at h
  exact ⟨ad, n, cap, rfl, h⟩
/-- The element at place j: its cells, what it reads as. -/
theorem kLDz_elem {x : Option Addr} {n cap : Nat} {L : List Dzm} (h : HoldsK kDz.cells 5 w (.slice x n cap) L) (hel : ∀ y ∈ L, kDz.holds w y) {j : Nat} (hj : j < L.length) :
    ∃ (b off : Nat) (x0 : Option Addr) (n0 c0 : Nat) (x1 : Option Addr) (n1 c1 : Nat) (x2 : Option Addr) (n2 c2 : Nat), x = some ⟨b, off, none⟩ ∧ kDz.cells (nth L j) = [.slice x0 n0 c0, .slice x1 n1 c1, .slice x2 n2 c2, .int .i64 (kDz.strip (nth L j)).2.2.2.1, .int .i64 (kDz.strip (nth L j)).2.2.2.2] ∧ w.cell? ⟨b, off + j * 5, none⟩ = some (.slice x0 n0 c0) ∧ w.cell? ⟨b, off + j * 5 + 1, none⟩ = some (.slice x1 n1 c1) ∧ w.cell? ⟨b, off + j * 5 + 2, none⟩ = some (.slice x2 n2 c2) ∧ w.cell? ⟨b, off + j * 5 + 3, none⟩ = some (.int .i64 (kDz.strip (nth L j)).2.2.2.1) ∧ w.cell? ⟨b, off + j * 5 + 4, none⟩ = some (.int .i64 (kDz.strip (nth L j)).2.2.2.2) ∧ kDz.At w (.agg #[.slice x0 n0 c0, .slice x1 n1 c1, .slice x2 n2 c2, .int .i64 (kDz.strip (nth L j)).2.2.2.1, .int .i64 (kDz.strip (nth L j)).2.2.2.2]) (kDz.strip (nth L j)) := by
  obtain ⟨b, off, hx, hc⟩ := h.at szDz_cells hj
  obtain ⟨x0, n0, c0, x1, n1, c1, x2, n2, c2, e, ha⟩ := kDz_shapeA (Kd.at_of (k := kDz) (hel _ (nth_mem hj)))
  have d : kDz.cells (nth L j) = [.slice x0 n0 c0, .slice x1 n1 c1, .slice x2 n2 c2, .int .i64 (kDz.strip (nth L j)).2.2.2.1, .int .i64 (kDz.strip (nth L j)).2.2.2.2] := by injection e with e; exact congrArg Array.toList e
  rw [d] at hc
  exact ⟨b, off, x0, n0, c0, x1, n1, c1, x2, n2, c2, hx, d, by have := hc 0 (by decide); simpa [Nat.add_assoc] using this, by have := hc 1 (by decide); simpa [Nat.add_assoc] using this, by have := hc 2 (by decide); simpa [Nat.add_assoc] using this, by have := hc 3 (by decide); simpa [Nat.add_assoc] using this, by have := hc 4 (by decide); simpa [Nat.add_assoc] using this, ha⟩
end

def inLDz (l : List Dzt) : Prop := l.length ≤ 9223372036854775807 ∧ ∀ x ∈ l, inDz x
theorem inLDz.ok {l : List Dzt} (h : inLDz l) : okLDz l := ⟨h.1, fun x hx => (h.2 x hx).ok⟩
def adLDz (l : List Dzt) : Nat := bulkK adDz l
/-! ### as a field of a struct (kstruct.py's LIST) -/
end Go.Proofs.YtcidfmmeonhkhaaGreatDoor.Row
/- The policy of trust in the words of kinds: the kind; sz, to, eq, mark, held. No conditions but that lengths fit. -/
namespace Go.Proofs.YtcidfmmeonhkhaaGreatDoor.Row
open Go.ChangeShapes Go.WideShapes Go.ChangeAt Go.RowKit Go.Instr
set_option linter.unusedVariables false
set_option maxRecDepth 100000

abbrev Tpt := List Kyt × List Rlt × List Nnt × List Dzt
set_option synthInstance.maxSize 100000 in
instance : DecidableEq Tpt := inferInstance
abbrev Tpm := Rw Kym × Rw Rlm × Rw Nnm × Rw Dzm
def kTp : Kd Tpt Tpm := (kLKy.pair (kLRl.pair (kLNn.pair kLDz)))
theorem aggTp : Ret.AggOf Tryz.prog 29 4 := ⟨by kernel_rfl, by kernel_rfl⟩
def wtTp (x : Tpt) : Nat := bulkK wtKy x.1 + bulkK wtRl x.2.1 + bulkK wtNn x.2.2.1 + bulkK wtDz x.2.2.2
def adTp (x : Tpt) : Nat := bulkK adKy x.1 + bulkK adRl x.2.1 + bulkK adNn x.2.2.1 + bulkK adDz x.2.2.2
def okTp (x : Tpt) : Prop := okLKy x.1 ∧ okLRl x.2.1 ∧ okLNn x.2.2.1 ∧ okLDz x.2.2.2
section
variable {w : World} {V : Value} {x : Tpt} {B E : Nat}
theorem kTp_at (h : kTp.At w V x) : ∃ (x0_0 : Option Addr) (n0_0 c0_0 : Nat) (x1_0 : Option Addr) (n1_0 c1_0 : Nat) (x2_0 : Option Addr) (n2_0 c2_0 : Nat) (x3_0 : Option Addr) (n3_0 c3_0 : Nat), V = .agg #[.slice x0_0 n0_0 c0_0, .slice x1_0 n1_0 c1_0, .slice x2_0 n2_0 c2_0, .slice x3_0 n3_0 c3_0] ∧ kLKy.At w (.slice x0_0 n0_0 c0_0) x.1 ∧ kLRl.At w (.slice x1_0 n1_0 c1_0) x.2.1 ∧ kLNn.At w (.slice x2_0 n2_0 c2_0) x.2.2.1 ∧ kLDz.At w (.slice x3_0 n3_0 c3_0) x.2.2.2 := by
  obtain ⟨⟨m0, m1, m2, m3⟩, rfl, rfl, g0, g1, g2, g3⟩ := h
  obtain ⟨x0_0, n0_0, c0_0, e0, a0⟩ := kLKy_shapeA (Kd.at_of (k := kLKy) g0)
  have d0 : kLKy.cells m0 = [.slice x0_0 n0_0 c0_0] := by show [kLKy.val m0] = _; rw [e0]
  obtain ⟨x1_0, n1_0, c1_0, e1, a1⟩ := kLRl_shapeA (Kd.at_of (k := kLRl) g1)
  have d1 : kLRl.cells m1 = [.slice x1_0 n1_0 c1_0] := by show [kLRl.val m1] = _; rw [e1]
  obtain ⟨x2_0, n2_0, c2_0, e2, a2⟩ := kLNn_shapeA (Kd.at_of (k := kLNn) g2)
  have d2 : kLNn.cells m2 = [.slice x2_0 n2_0 c2_0] := by show [kLNn.val m2] = _; rw [e2]
  obtain ⟨x3_0, n3_0, c3_0, e3, a3⟩ := kLDz_shapeA (Kd.at_of (k := kLDz) g3)
  have d3 : kLDz.cells m3 = [.slice x3_0 n3_0 c3_0] := by show [kLDz.val m3] = _; rw [e3]
  refine ⟨x0_0, n0_0, c0_0, x1_0, n1_0, c1_0, x2_0, n2_0, c2_0, x3_0, n3_0, c3_0, ?_, e0 ▸ Kd.at_of (k := kLKy) g0, e1 ▸ Kd.at_of (k := kLRl) g1, e2 ▸ Kd.at_of (k := kLNn) g2, e3 ▸ Kd.at_of (k := kLDz) g3⟩
  show Value.agg ((kLKy.cells m0 ++ (kLRl.cells m1 ++ (kLNn.cells m2 ++ (kLDz.cells m3))))).toArray = _
  rw [d0, d1, d2, d3]
  rfl
theorem kTp_shapeA (h : kTp.At w V x) : ∃ (x0_0 : Option Addr) (n0_0 c0_0 : Nat) (x1_0 : Option Addr) (n1_0 c1_0 : Nat) (x2_0 : Option Addr) (n2_0 c2_0 : Nat) (x3_0 : Option Addr) (n3_0 c3_0 : Nat), V = .agg #[.slice x0_0 n0_0 c0_0, .slice x1_0 n1_0 c1_0, .slice x2_0 n2_0 c2_0, .slice x3_0 n3_0 c3_0] ∧ kTp.At w (.agg #[.slice x0_0 n0_0 c0_0, .slice x1_0 n1_0 c1_0, .slice x2_0 n2_0 c2_0, .slice x3_0 n3_0 c3_0]) x := by
  obtain ⟨x0_0, n0_0, c0_0, x1_0, n1_0, c1_0, x2_0, n2_0, c2_0, x3_0, n3_0, c3_0, rfl, -⟩ := kTp_at h
  exact ⟨x0_0, n0_0, c0_0, x1_0, n1_0, c1_0, x2_0, n2_0, c2_0, x3_0, n3_0, c3_0, rfl, h⟩
end
/-- It fits, and its numbers are numbers. -/
def inTp (x : Tpt) : Prop := inLKy x.1 ∧ inLRl x.2.1 ∧ inLNn x.2.2.1 ∧ inLDz x.2.2.2
theorem inTp.ok {x : Tpt} (h : inTp x) : okTp x := ⟨h.1.ok, h.2.1.ok, h.2.2.1.ok, h.2.2.2.ok⟩
/-! ### in the laws' words -/
end Go.Proofs.YtcidfmmeonhkhaaGreatDoor.Row
/- Kinds whose texts and bytes lie in blocks that are known by their type alone (a name out of a text may begin anywhere, two may share one block): what keeps them: a cursor that goes on, a variable that is stored, a list that grows. For draws. No conditions. -/
namespace Go.Proofs.YtcidfmmeonhkhaaGreatDoor.Row
open Go.ChangeShapes Go.WideShapes Go.ChangeAt Go.RowKit Go.Instr
set_option linter.unusedVariables false
set_option maxRecDepth 100000

/-- The block of an address. -/
def adBlk : Option Addr → List Nat
  | some ⟨b, _, none⟩ => [b]
  | _ => []
theorem adBlk_some {a : Option Addr} {g : Nat} (h : g ∈ adBlk a) : ∃ off, a = some ⟨g, off, none⟩ := by
  unfold adBlk at h
  split at h
  · rename_i b off
    rw [List.mem_singleton.1 h]
    exact ⟨_, rfl⟩
  · cases h
/-- A slice of scalars in a block of its type, from B on. -/
def softS {α : Type} (e : TypeId) (enc : α → Value) (h1 : ∀ x, (enc x).oneCell' = true) : Kd (List α) (Rw α) where
  strip := (Kd.slice e (Kd.scalar enc h1)).strip
  cells := (Kd.slice e (Kd.scalar enc h1)).cells
  size := 1
  val := Rw.v
  len := fun _ => rfl
  one := (Kd.slice e (Kd.scalar enc h1)).one
  holds := (Kd.slice e (Kd.scalar enc h1)).holds
  own := fun B w r => (Kd.slice e (Kd.scalar enc h1)).holds w r ∧ ∀ b off, r.ad = some ⟨b, off, none⟩ → B ≤ b ∧ ∃ cur, w.heap[b]? = some (.cells cur e)
  blocks := fun r => adBlk r.ad
  holds_on := (Kd.slice e (Kd.scalar enc h1)).holds_on
  own_holds := fun h => h.1
  own_keep := fun {B w w' r} h hg => by
    obtain ⟨⟨⟨x, cap, hv, hc, hh⟩, -⟩, ht⟩ := h
    have hx : r.ad = x := by injection hv
    refine ⟨⟨⟨x, cap, hv, hc, ?_⟩, fun _ _ => trivial⟩, fun b off e1 => ?_⟩
    · rcases hh with h0 | ⟨b, off, rfl, hcell⟩
      · exact Or.inl h0
      · refine Or.inr ⟨b, off, rfl, fun j hj => ?_⟩
        obtain ⟨u, h2, h3⟩ := hcell j hj
        exact ⟨u, h2, by rw [World.cell?_of_block (w := w) (hg b (by rw [hx]; exact List.mem_singleton.2 rfl))]; exact h3⟩
    · obtain ⟨h2, cur, h3⟩ := ht b off e1
      exact ⟨h2, cur, by rw [hg b (by rw [e1]; exact List.mem_singleton.2 rfl)]; exact h3⟩
  own_lt := fun {B w r} h g hg => by
    obtain ⟨off, e1⟩ := adBlk_some hg
    obtain ⟨h2, cur, h3⟩ := h.2 g off e1
    exact ⟨h2, (Array.getElem?_eq_some_iff.1 h3).1⟩
  own_mono := fun {B B' w r} h hB => ⟨h.1, fun b off e1 => ⟨Nat.le_trans hB (h.2 b off e1).1, (h.2 b off e1).2⟩⟩
section
variable {α M β N : Type} {k : Kd α M} {l : Kd β N} {e e' ty : TypeId} {B B' C p g i : Nat} {w w' : World} {m : M} {r : Rw M} {x : M}
theorem noRow_soft {α : Type} {enc : α → Value} {h1 : ∀ x, (enc x).oneCell' = true} (hne : e' ≠ e) : (softS e' enc h1).NoRow e := fun B w r h g hg cs hc => by
  obtain ⟨off, e1⟩ := adBlk_some hg
  obtain ⟨-, cur, h3⟩ := h.2 g off e1
  rw [h3] at hc
  injection hc with hc
  injection hc with h4 h5
  exact hne h5
theorem Kd.own_on (h : k.own B w m) (hb : Below w.heap.size w w') : k.own B w' m := k.own_keep h fun g hg => hb.block g (k.own_lt h g hg).2
theorem Kd.own_cur (h : k.own B w m) (hk : Draw.Keep p w w') (hp : p < B) : k.own B w' m := k.own_keep h fun g hg => hk.block g (k.own_lt h g hg).2 (by have := (k.own_lt h g hg).1; omega)
theorem Kd.own_setT (hN : k.NoRow ty) {cs : Array Value} {u : Value} (h : k.own B w m) (hb : Ret.Blk w g cs ty) : k.own B (w.setCell ⟨g, i, none⟩ u) m :=
  k.own_keep h fun q hq => Go.RowKit.Below.heap_setCell w ⟨g, i, none⟩ u q (fun e1 => by
    have e2 : q = g := e1
    exact hN B w m h q hq cs (by rw [e2]; exact hb))
theorem Kd.own_rowT (hN : k.NoRow e) {v : Value} {β : Type} {enc : β → List Value} {sz C : Nat} {L : List β} (h : k.own B w m) (ho : OwnK e enc sz C w v L) (hg : w.grownBy w' v.ownBlock) : k.own B w' m :=
  k.own_keep h fun q hq => hg.block q (k.own_lt h q hq).2 (fun e1 => by
    obtain ⟨cs, hc⟩ := ho.row e1.symm
    exact hN B w m h q hq cs hc)
/-- A list grows by the elements of another one. -/
theorem Kd.own_push (hN : k.NoRow e) {L : List M} (h : (k.slice e).own B w r) (hx : ∀ y ∈ L, k.own B w y) {ad : Option Addr} {n cap : Nat} (ho : OwnK e k.cells k.size B w' (.slice ad n cap) (r.els ++ L)) (hg : w.grownBy w' r.v.ownBlock) : (k.slice e).own B w' ⟨ad, n, cap, r.els ++ L⟩ := by
  refine ⟨ho, fun y hy => ?_⟩
  rcases List.mem_append.1 hy with hy | hy
  · exact Kd.own_rowT hN (h.2 y hy) h.1 hg
  · exact Kd.own_rowT hN (hx y hy) h.1 hg
/-- What is the call's own lies so, too. -/
theorem softS_own {α : Type} {enc : α → Value} {h1 : ∀ x, (enc x).oneCell' = true} {r : Rw α} (h : (Kd.slice e (Kd.scalar enc h1)).own B w r) : (softS e enc h1).own B w r :=
  ⟨(Kd.slice e (Kd.scalar enc h1)).own_holds h, fun b off e1 => by
    have h2 := h.1.row (g := b) (by rw [show r.v = .slice r.ad r.n r.cap from rfl, e1]; rcases h.1.2 with ⟨h3, -⟩ | ⟨g2, cap, cur, h3, -⟩
                                    · rw [show r.v = .slice r.ad r.n r.cap from rfl, e1] at h3; cases h3
                                    · rfl)
    exact ⟨(h.1.lt b (by rw [show r.v = .slice r.ad r.n r.cap from rfl, e1]; rfl)).1, h2⟩⟩
end
/-! ### names, bytes, keys, rules, packets, lists of them, the policy -/
def sN : Kd (List ByteArray) (Rw ByteArray) := (softS 9 Value.string (fun _ => rfl)).wrap
def sB : Kd (List Int) (Rw Int) := softS 5 (Value.int .u8) (fun _ => rfl)
def sKy : Kd Kyt Kym := sN.pair kInt
def sRl : Kd Rlt Rlm := sN.pair sN
def sDz : Kd Dzt Dzm := sN.pair (sB.pair (sN.pair (kInt.pair kInt)))
def sLKy : Kd (List Kyt) (Rw Kym) := sKy.slice 156
def sLRl : Kd (List Rlt) (Rw Rlm) := sRl.slice 168
def sLNn : Kd (List Nnt) (Rw Nnm) := sN.slice 32
def sLDz : Kd (List Dzt) (Rw Dzm) := sDz.slice 34
def sTp : Kd Tpt Tpm := sLKy.pair (sLRl.pair (sLNn.pair sLDz))
theorem noRow_sN {t : TypeId} (h : 9 ≠ t) : sN.NoRow t := (noRow_soft h).wrap
theorem noRow_sB {t : TypeId} (h : 5 ≠ t) : sB.NoRow t := noRow_soft h
theorem noRow_sKy {t : TypeId} (h : 9 ≠ t) : sKy.NoRow t := (noRow_sN h).pair Kd.noRow_scalar
theorem noRow_sRl {t : TypeId} (h : 9 ≠ t) : sRl.NoRow t := (noRow_sN h).pair (noRow_sN h)
theorem noRow_sDz {t : TypeId} (h : 9 ≠ t) (g : 5 ≠ t) : sDz.NoRow t := (noRow_sN h).pair ((noRow_sB g).pair ((noRow_sN h).pair (Kd.noRow_scalar.pair Kd.noRow_scalar)))
section
variable {B E : Nat} {w : World} {V : Value} {ad : Option Addr} {n c : Nat} {l : List ByteArray}
theorem sN_of (h : HB B w (.slice ad n c) l) : sN.own B w ⟨ad, n, c, l⟩ :=
  ⟨⟨holdsK_single.2 h.1, fun _ _ => trivial⟩, fun b off e => h.2 b off n c (by rw [show ad = some ⟨b, off, none⟩ from e])⟩
theorem sN_own {m : Rw ByteArray} (h : kN.own B w m) : sN.own B w m := softS_own h
theorem sB_own {m : Rw Int} (h : kB.own B w m) : sB.own B w m := softS_own h
theorem sDz_own {m : Dzm} (h : kDz.own B w m) : sDz.own B w m := ⟨sN_own h.1, sB_own h.2.1, sN_own h.2.2.1, h.2.2.2⟩
theorem sTp_at {m : Tpm} (h : sTp.own B w m) : kTp.At w (kTp.val m) (kTp.strip m) := Kd.at_of (k := kTp) (sTp.own_holds h)
theorem sDz_at {m : Dzm} (h : sDz.own B w m) : kDz.At w (kDz.val m) (kDz.strip m) := Kd.at_of (k := kDz) (sDz.own_holds h)
theorem sN_at {m : Rw ByteArray} (h : sN.own B w m) : kN.At w (kN.val m) (kN.strip m) := Kd.at_of (k := kN) (sN.own_holds h)
theorem sLKy_at {m : Rw Kym} (h : sLKy.own B w m) : kLKy.At w (kLKy.val m) (kLKy.strip m) := Kd.at_of (k := kLKy) (sLKy.own_holds h)
end
end Go.Proofs.YtcidfmmeonhkhaaGreatDoor.Row
/- Contracts of the helpers by which the laws measure, copy, compare, mark and look at slices of bindings (two strings each). No conditions but that lengths fit. -/
namespace Go.Proofs.YtcidfmmeonhkhaaGreatDoor.Row
open Go.ChangeShapes Go.WideShapes Go.ChangeAt Go.RowKit Go.Instr
set_option linter.unusedVariables false
set_option maxRecDepth 100000

/-- A binding: its letter and its value. -/
def encBd (x : ByteArray × ByteArray) : List Value := [.string x.1, .string x.2]
theorem szBd : Sz encBd 2 := fun _ => rfl
theorem kindBd : Kind Tryz.prog 255 encBd (.agg #[.string ByteArray.empty, .string ByteArray.empty]) 2 32 where
  elem := by unfold ElemK; kernel_rfl
  zs := rfl
  pos := by decide
  size := szBd
  one := by intro x u hu; simp [encBd] at hu; rcases hu with rfl | rfl <;> rfl
theorem bdAt {w : World} {x : Option Addr} {n cap : Nat} {l : List (ByteArray × ByteArray)} (h : HoldsK encBd 2 w (.slice x n cap) l) {k : Nat} (hk : k < l.length) :
    ∃ b off, x = some ⟨b, off, none⟩ ∧ w.cell? ⟨b, off + k * 2, none⟩ = some (.string (nth l k).1) ∧ w.cell? ⟨b, off + k * 2 + 1, none⟩ = some (.string (nth l k).2) := by
  obtain ⟨b, off, hx, hc⟩ := h.at szBd hk
  exact ⟨b, off, hx, by have := hc 0 (by decide); simpa [encBd] using this, by have := hc 1 (by decide); simpa [encBd, Nat.add_assoc] using this⟩

/-- Length and sizes of a list of bindings together, up to place k. -/
def bulk2To (l : List (ByteArray × ByteArray)) (k : Nat) : Nat := l.length + ((l.take k).map (fun x => x.1.size + x.2.size)).sum
def bulk2 (l : List (ByteArray × ByteArray)) : Nat := bulk2To l l.length
def szL2 (l : List (ByteArray × ByteArray)) (left : Int) : Int := if (bulk2 l : Int) ≤ left then left - bulk2 l else -1
/-! ### comparing -/
def eqBd (l m : List (ByteArray × ByteArray)) : Bool := decide (l = m)
theorem tl_dec (a b : ByteArray) : (!(a.toList == b.toList)) = !(decide (a = b)) := by
  by_cases h : a = b
  · rw [tl_eq h]; simp [h]
  · rw [tl_ne h]; simp [h]

/-! ### marking -/
/-- The elements that a marking writes: from k on, two numbers an element. -/
def mark2 (k : Int) : Nat → List (ByteArray × ByteArray)
  | 0 => []
  | n + 1 => mark2 k n ++ [(markT (k + 2 * n), markT (k + 2 * n + 1))]
def marked2 (k : Int) (l : List (ByteArray × ByteArray)) (j : Nat) : List (ByteArray × ByteArray) := mark2 k j ++ l.drop j
end Go.Proofs.YtcidfmmeonhkhaaGreatDoor.Row
/- What a pattern's parts are: a variable (a question mark and a letter), the program's and the model's test of it; the texts * and **; which parts are right. No conditions but that lengths fit. -/
namespace Go.Proofs.YtcidfmmeonhkhaaGreatDoor.Row
open Go.ChangeShapes Go.WideShapes Go.ChangeAt Go.RowKit Go.Instr
set_option linter.unusedVariables false
set_option maxRecDepth 100000

def letterP (s : ByteArray) : Bool := decide (∃ h : s.size = 2, (s[0]'(by omega)).toNat = 63 ∧ 97 ≤ (s[1]'(by omega)).toNat ∧ (s[1]'(by omega)).toNat ≤ 122)
theorem letterP_size {s : ByteArray} (h : ¬ s.size = 2) : letterP s = false := decide_eq_false fun ⟨e, _⟩ => h e
theorem letterP_0 {s : ByteArray} (h : s.size = 2) (h0 : ¬ (s[0]'(by omega)).toNat = 63) : letterP s = false := decide_eq_false fun ⟨e, h1, _⟩ => h0 h1
theorem letterP_1 {s : ByteArray} (h : s.size = 2) (h0 : ¬ (97 ≤ (s[1]'(by omega)).toNat ∧ (s[1]'(by omega)).toNat ≤ 122)) : letterP s = false := decide_eq_false fun ⟨e, _, h1⟩ => h0 h1
theorem letterP_yes {s : ByteArray} (h : s.size = 2) (h0 : (s[0]'(by omega)).toNat = 63) (h1 : 97 ≤ (s[1]'(by omega)).toNat ∧ (s[1]'(by omega)).toNat ≤ 122) : letterP s = true := decide_eq_true ⟨h, h0, h1⟩
theorem letterP_iff {s : ByteArray} : letterP s = true ↔ ∃ h : s.size = 2, (s[0]'(by omega)).toNat = 63 ∧ 97 ≤ (s[1]'(by omega)).toNat ∧ (s[1]'(by omega)).toNat ≤ 122 := by unfold letterP; exact decide_eq_true_iff

set_option maxHeartbeats 1000000 in
theorem isVariable (s : ByteArray) (w : World) (hl : s.size ≤ 140737488351232) :
    Calls Tryz.prog 216 #[.string s] w fun e w' => e = .returned (.bool (letterP s)) ∧ w = w' := by
  by_cases h2 : s.size = 2
  · have hb0 := (s[0]'(by omega)).toNat_lt
    have hb1 := (s[1]'(by omega)).toNat_lt
    by_cases h0 : (s[0]'(by omega)).toNat = 63
    · by_cases ha : 97 ≤ (s[1]'(by omega)).toNat
      · by_cases hz : (s[1]'(by omega)).toNat ≤ 122
        · have HV := Lib.hid (letterP_yes h2 h0 ⟨ha, hz⟩)
          have t0 : (((s[0]'(by omega)).toNat : Int) == 63) = true := by simp [h0]
          clear h0
          go_enter Tryz.func216, Tryz.ntmps216
          go_wp2
          go_ret
          refine ⟨ret_bool ?_, rfl⟩
          rw [HV.out]; exact decide_eq_true (by omega)
        · have HV := Lib.hid (letterP_1 h2 (fun e => hz e.2))
          have t0 : (((s[0]'(by omega)).toNat : Int) == 63) = true := by simp [h0]
          clear h0
          go_enter Tryz.func216, Tryz.ntmps216
          go_wp2
          go_ret
          refine ⟨ret_bool ?_, rfl⟩
          rw [HV.out]; exact decide_eq_false (by omega)
      · have HV := Lib.hid (letterP_1 h2 (fun e => ha e.1))
        have t0 : (((s[0]'(by omega)).toNat : Int) == 63) = true := by simp [h0]
        clear h0
        go_enter Tryz.func216, Tryz.ntmps216
        go_wp2
        go_ret
        exact ⟨ret_bool HV.out.symm, rfl⟩
    · have HV := Lib.hid (letterP_0 h2 h0)
      have t0 : (((s[0]'(by omega)).toNat : Int) == 63) = false := by simp; omega
      clear h0
      go_enter Tryz.func216, Tryz.ntmps216
      go_wp2
      go_ret
      exact ⟨ret_bool HV.out.symm, rfl⟩
  · have HV := Lib.hid (letterP_size h2)
    have t0 : (((s.size : Nat) : Int) == 2) = false := by simp; omega
    clear h2
    go_enter Tryz.func216, Tryz.ntmps216
    go_wp2
    go_ret
    exact ⟨ret_bool HV.out.symm, rfl⟩

set_option maxHeartbeats 1000000 in
theorem l5Letter (s : ByteArray) (w : World) (hl : s.size ≤ 140737488351232) :
    Calls Tryz.prog 195 #[.string s] w fun e w' => e = .returned (.bool (letterP s)) ∧ w = w' := by
  by_cases h2 : s.size = 2
  · have hb0 := (s[0]'(by omega)).toNat_lt
    have hb1 := (s[1]'(by omega)).toNat_lt
    by_cases h0 : (s[0]'(by omega)).toNat = 63
    · have t0 : (((s[0]'(by omega)).toNat : Int) == 63) = true := by simp [h0]
      by_cases ha : 97 ≤ (s[1]'(by omega)).toNat ∧ (s[1]'(by omega)).toNat ≤ 122
      · have HV := Lib.hid (letterP_yes h2 h0 ha)
        have ha1 : (97 : Int) ≤ ((s[1]'(by omega)).toNat : Int) := by omega
        have ha2 : ((s[1]'(by omega)).toNat : Int) ≤ 122 := by omega
        clear h0 ha
        go_enter Tryz.func195, Tryz.ntmps195
        go_wp2_with fail
        refine (Num.specIn_true ha1 ha2 _).mono ?_
        rintro e w2 ⟨rfl, rfl⟩
        go_wp2
        go_ret
        exact ⟨ret_bool HV.out.symm, rfl⟩
      · have HV := Lib.hid (letterP_1 h2 ha)
        have hn : ¬ ((97 : Int) ≤ ((s[1]'(by omega)).toNat : Int) ∧ ((s[1]'(by omega)).toNat : Int) ≤ 122) := by omega
        have HNN := Lib.hid hn
        clear h0 ha hn
        go_enter Tryz.func195, Tryz.ntmps195
        go_wp2_with fail
        refine (Num.specIn_false HNN.out _).mono ?_
        rintro e w2 ⟨rfl, rfl⟩
        go_wp2
        go_ret
        exact ⟨ret_bool HV.out.symm, rfl⟩
    · have HV := Lib.hid (letterP_0 h2 h0)
      have t0 : (((s[0]'(by omega)).toNat : Int) == 63) = false := by simp; omega
      clear h0
      go_enter Tryz.func195, Tryz.ntmps195
      go_wp2
      go_ret
      exact ⟨ret_bool HV.out.symm, rfl⟩
  · have HV := Lib.hid (letterP_size h2)
    have t0 : (((s.size : Nat) : Int) == 2) = false := by simp; omega
    clear h2
    go_enter Tryz.func195, Tryz.ntmps195
    go_wp2
    go_ret
    exact ⟨ret_bool HV.out.symm, rfl⟩

end Go.Proofs.YtcidfmmeonhkhaaGreatDoor.Row
