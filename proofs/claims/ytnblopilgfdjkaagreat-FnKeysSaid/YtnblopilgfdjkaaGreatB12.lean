/- Contracts and mathematics, joined: ParseN, DrawT0. No conditions but those that each states. -/
import Derived.Test.YtnblopilgfdjkaaGreatB11
import Derived.Test.YtnblopilgfdjkaaGreatB4
import Derived.Test.YtnblopilgfdjkaaGreatB9
/- Contracts of ParseName, the program's and the reference model's. No conditions but that lengths fit. -/
namespace Go.Proofs.YtnblopilgfdjkaaGreat.Row
open Go.ChangeShapes Go.WideShapes Go.ChangeAt Go.RowKit Go.Instr
set_option linter.unusedVariables false
set_option maxRecDepth 100000

theorem bulk_goS : ∀ (t cur : List UInt8), bulk ((goS cur t).map mk) = cur.length + t.length + 1
  | [], cur => by simp [goS, bulk_one, mk_size]; omega
  | c :: t, cur => by
    unfold goS
    split
    · rw [List.map_cons, bulk_cons, bulk_goS t, mk_size]; simp; omega
    · rw [bulk_goS t]; simp; omega
theorem bulk_split (s : ByteArray) : bulk (splitB s) = s.size + 1 := by
  unfold splitB; rw [bulk_goS, bl_length]; simp
theorem split_pos (s : ByteArray) : 0 < (splitB s).length := by
  unfold splitB; rw [List.length_map]
  exact List.length_pos_iff.2 (goS_ne _ _)

theorem tl47 : (mk [47]).toList = [47] := ByteArray.toList_mk [47]
theorem tl0 : (mk []).toList = [] := ByteArray.toList_mk []

set_option maxHeartbeats 2000000 in
theorem specParseName (s : ByteArray) (w : World) (hs : s.size ≤ 10000000) :
    Calls Tryz.prog 60 #[.string s] w (GivesHB w (pN s) (pOk s)) := by
  have HB0 := Lib.hid ((Below.refl w.heap.size w).alloc (Nat.le_refl _) (.cells #[.slice none 0 0] 27))
  have HR := Lib.hid (Ret.NC.new' (w := w) (.slice none 0 0) 27 rfl)
  by_cases h47 : s = mk [47]
  · obtain ⟨p1, p2⟩ := pOk_slash
    rw [← h47] at p1 p2
    have HP := Lib.hid p1; have HPN := Lib.hid p2
    have hq : (s.toList == [47]) = true := by rw [h47, tl47]; rfl
    clear p1 p2 h47
    go_enter Tryz.func60, Tryz.ntmps60
    go_wp2
    refine bodyPost_ret (Ret.results_ct rfl _ _ w.heap.size [_] rfl aggN (Ret.one HR.out.1)) rfl ?_
    exact ⟨_, ret_nb HP.out.symm, by rw [HPN.out]; exact Holds.nil _ _, HB0.out⟩
  · have h47l : s.toList ≠ [47] := fun e => h47 (toList_inj (e.trans tl47.symm))
    have hq : (s.toList == [47]) = false := by simpa using h47l
    have H47 := Lib.hid h47
    have hpos := split_pos s
    have hbk := bulk_split s
    have hlb := bulk_len (splitB s)
    obtain ⟨n, hn⟩ : ∃ n, n = (splitB s).length := ⟨_, rfl⟩
    rw [← hn] at hpos hlb
    have hnb : n ≤ 10000001 := by omega
    have HN := Lib.hid hn
    have HBK := Lib.hid hbk
    clear h47 h47l hn hbk hlb
    go_enter Tryz.func60, Tryz.ntmps60
    go_wp2_with fail
    refine (l4Split s _ hs).mono ?_
    rintro e w1 ⟨v1, rfl, ho1, hb1⟩
    have HB1 := Lib.hid (HB0.out.trans (hb1.mono HB0.out.size))
    have HR1 := Lib.hid (HR.out.on hb1)
    obtain ⟨g, c1, rfl, hg1, hg2, hc1⟩ : ∃ g c1, v1 = .slice (some ⟨g, 0, none⟩) n c1 ∧ w.heap.size + 1 ≤ g ∧ g < w1.heap.size ∧ n ≤ c1 := by
      rcases ho1.form with ⟨_, h2⟩ | ⟨g, c1, h1, h2, h3, h4, h5⟩
      · exact absurd (congrArg List.length h2) (by rw [← HN.out]; simp; omega)
      · exact ⟨g, c1, by rw [h1, HN.out], by simpa using h2, h3, by rw [HN.out]; exact h4⟩
    have HH1 := Lib.hid ho1.holds
    clear ho1 hb1
    by_cases h2 : n = 1
    · subst h2
      have HP := Lib.hid (split_no H47.out (fun rest h hr => by
        have h3 := HN.out
        rw [h] at h3
        simp at h3
        exact absurd h3 hr))
      have HPN := Lib.hid (pN_no HP.out)
      by_cases hc : c1 = 1
      · subst hc
        obtain ⟨hk2, hf2⟩ := HR1.out.alloc (.cells #[.slice (some ⟨g, 0, none⟩) 0 0] 27)
        obtain ⟨q1, q2, q3⟩ := endN (w := w) (g := w.heap.size) (B := w.heap.size + 1) (v := .slice none 0 0) (l := []) (by omega) (by omega) (Own.nil _ _ _ _) hk2 (HB1.out.alloc HB1.out.size (.cells #[.slice (some ⟨g, 0, none⟩) 0 0] 27))
        have HQ1 := Lib.hid q1; have HQ2 := Lib.hid q2; have HQ3 := Lib.hid q3
        clear q1 q2 q3
        go_wp2
        refine bodyPost_ret (Ret.results_ct rfl _ _ w.heap.size [_] rfl aggN (Ret.one HQ1.out)) rfl ?_
        exact ⟨_, ret_nb HP.out.symm, by rw [HPN.out]; exact HQ2.out.holds, HQ3.out⟩
      · have hc2 : ¬ c1 - 1 = 0 := by omega
        obtain ⟨hk2, hf2⟩ := HR1.out.alloc (.cells #[.slice (some ⟨g, 1, none⟩) 0 (c1 - 1)] 27)
        obtain ⟨q1, q2, q3⟩ := endN (w := w) (g := w.heap.size) (B := w.heap.size + 1) (v := .slice none 0 0) (l := []) (by omega) (by omega) (Own.nil _ _ _ _) hk2 (HB1.out.alloc HB1.out.size (.cells #[.slice (some ⟨g, 1, none⟩) 0 (c1 - 1)] 27))
        have HQ1 := Lib.hid q1; have HQ2 := Lib.hid q2; have HQ3 := Lib.hid q3
        clear q1 q2 q3
        go_wp2
        refine bodyPost_ret (Ret.results_ct rfl _ _ w.heap.size [_] rfl aggN (Ret.one HQ1.out)) rfl ?_
        exact ⟨_, ret_nb HP.out.symm, by rw [HPN.out]; exact HQ2.out.holds, HQ3.out⟩
    · have hn2 : 2 ≤ n := by omega
      have hn3 : decide ((n : Int) < 2) = false := by simp; omega
      have hc2 : ¬ c1 = 1 := by omega
      obtain ⟨b0, off0, he0, hcell⟩ := HH1.out.at (j := 0) (by rw [← HN.out]; omega)
      cases he0
      have HD := Lib.hid ((HH1.out.drop (j := 1) (by rw [← HN.out]; omega)).on ((Below.refl _ _).alloc (Nat.le_refl _) (.cells #[.slice (some ⟨g, 1, none⟩) (n - 1) (c1 - 1)] 27)))
      have HL := Lib.hid (show splitB s = nth (splitB s) 0 :: (splitB s).drop 1 by
        have := drop_nth (l := splitB s) (k := 0) (by rw [← HN.out]; omega)
        rw [List.drop_zero] at this
        exact this)
      have HDN := Lib.hid (show (splitB s).drop 1 ≠ [] by
        intro e
        have := congrArg List.length e
        rw [List.length_drop, ← HN.out] at this
        simp at this; omega)
      have HBD := Lib.hid (show bulk ((splitB s).drop 1) ≤ 100000000 by
        have h3 := HBK.out
        rw [HL.out, bulk_cons] at h3
        omega)
      have HR2 := Lib.hid (HR1.out.alloc (.cells #[.slice (some ⟨g, 1, none⟩) (n - 1) (c1 - 1)] 27))
      have HT2 := Lib.hid (Ret.NC.new' (w := w1) (.slice (some ⟨g, 1, none⟩) (n - 1) (c1 - 1)) 27 rfl)
      have HB2 := Lib.hid (HB1.out.alloc HB1.out.size (.cells #[.slice (some ⟨g, 1, none⟩) (n - 1) (c1 - 1)] 27))
      rw [Nat.add_zero] at hcell
      by_cases hx : nth (splitB s) 0 = mk []
      · have hxe : (nth (splitB s) 0).toList.isEmpty = true := by rw [hx, tl0]; rfl
        have HX := Lib.hid hx
        clear hx
        go_wp2_with fail
        refine (specValidName _ _ _ HD.out HBD.out).mono ?_
        rintro e w3 ⟨rfl, hb3⟩
        have HR3 := Lib.hid (HR2.out.on hb3)
        have HT3 := Lib.hid (HT2.out.on hb3)
        have HD3 := Lib.hid (HD.out.on hb3)
        have HB3 := Lib.hid (HB2.out.trans (hb3.mono HB2.out.size))
        clear hb3
        cases hv : validN ((splitB s).drop 1) with
        | true =>
          obtain ⟨p1, p2⟩ := split_yes (by have := HL.out; rw [HX.out] at this; exact this) HDN.out hv
          have HP := Lib.hid p1; have HPN := Lib.hid p2
          obtain ⟨hk2, hf2⟩ := HR3.out
          obtain ⟨hk3, -⟩ := HT3.out
          have HQ1 := Lib.hid (Ret.set_same (v := .slice (some ⟨g, 1, none⟩) (n - 1) (c1 - 1)) hk2)
          have HQ2 := Lib.hid (HD3.out.grown (Ret.grownBy_set w3 ⟨w.heap.size, 0, none⟩ (.slice (some ⟨g, 1, none⟩) (n - 1) (c1 - 1))) (fun g1 h1 e1 => by simp [Value.ownBlock] at h1 e1; omega))
          have HQ3 := Lib.hid (HB3.out.setCell (p := ⟨w.heap.size, 0, none⟩) (Nat.le_refl _) (.slice (some ⟨g, 1, none⟩) (n - 1) (c1 - 1)))
          clear p1 p2 hv
          go_wp2
          refine bodyPost_ret (Ret.results_ct rfl _ _ w.heap.size [_] rfl aggN (Ret.one HQ1.out)) rfl ?_
          exact ⟨_, ret_nb HP.out.symm, by rw [HPN.out]; exact HQ2.out, HQ3.out⟩
        | false =>
          have HP := Lib.hid (split_no H47.out (fun rest h hr => by
            have h3 := HL.out
            rw [h] at h3
            have h4 := (List.cons.inj h3).2
            rw [h4, ← h]; exact hv))
          have HPN := Lib.hid (pN_no HP.out)
          obtain ⟨hk2, hf2⟩ := HR3.out
          obtain ⟨q1, q2, q3⟩ := endN (w := w) (g := w.heap.size) (B := w.heap.size + 1) (v := .slice none 0 0) (l := []) (by omega) (by omega) (Own.nil _ _ _ _) hk2 HB3.out
          have HQ1 := Lib.hid q1; have HQ2 := Lib.hid q2; have HQ3 := Lib.hid q3
          clear q1 q2 q3 hv
          go_wp2
          refine bodyPost_ret (Ret.results_ct rfl _ _ w.heap.size [_] rfl aggN (Ret.one HQ1.out)) rfl ?_
          exact ⟨_, ret_nb HP.out.symm, by rw [HPN.out]; exact HQ2.out.holds, HQ3.out⟩
      · have hxe : (nth (splitB s) 0).toList.isEmpty = false := by
          have : (nth (splitB s) 0).toList ≠ [] := fun e => hx (toList_inj (e.trans tl0.symm))
          simpa using this
        have HP := Lib.hid (split_no H47.out (fun rest h hr => by
          have h3 := HL.out
          rw [h] at h3
          exact absurd (by rw [h]; exact (List.cons.inj h3).1.symm) hx))
        have HPN := Lib.hid (pN_no HP.out)
        clear hx
        obtain ⟨hk2, hf2⟩ := HR2.out
        obtain ⟨q1, q2, q3⟩ := endN (w := w) (g := w.heap.size) (B := w.heap.size + 1) (v := .slice none 0 0) (l := []) (by omega) (by omega) (Own.nil _ _ _ _) hk2 HB2.out
        have HQ1 := Lib.hid q1; have HQ2 := Lib.hid q2; have HQ3 := Lib.hid q3
        clear q1 q2 q3
        go_wp2
        refine bodyPost_ret (Ret.results_ct rfl _ _ w.heap.size [_] rfl aggN (Ret.one HQ1.out)) rfl ?_
        exact ⟨_, ret_nb HP.out.symm, by rw [HPN.out]; exact HQ2.out.holds, HQ3.out⟩

end Go.Proofs.YtnblopilgfdjkaaGreat.Row
/- Helpers for the model's draws of data packets. What was in memory stays as it was, but for the cursor. -/
namespace Go.Proofs.YtnblopilgfdjkaaGreat.Draw
open Go.ChangeShapes Go.WideShapes Go.ChangeAt Go.RowKit Go.Instr
open Go.Proofs.YtnblopilgfdjkaaGreat.Row (bulk bulk_append bulk_one bulk_nil bulk_cons Dt dc aggD bulkD advD WfD DHold DOwn)
open Go.Proofs.YtnblopilgfdjkaaGreat.Ret (NC Blk Box)
set_option linter.unusedVariables false
set_option maxRecDepth 100000

theorem Cur.setI {w0 : World} {p : Nat} {v : Value} {l : List UInt8} {w : World} (hc : Cur w0 p v l w) {g : Nat} (i : Nat) (hg : w0.heap.size ≤ g) (hp : g ≠ p) (u : Value) : Cur w0 p v l (w.setCell ⟨g, i, none⟩ u) :=
  hc.grown (Ret.grownBy_set w ⟨g, i, none⟩ u) (fun q hq => by
    have : q = g := by simpa using hq.symm
    exact ⟨by omega, by omega⟩)
theorem Keep.setI {p : Nat} {w w1 : World} (hk : Keep p w w1) {g : Nat} (i : Nat) (hg : w.heap.size ≤ g) (u : Value) : Keep p w (w1.setCell ⟨g, i, none⟩ u) :=
  hk.grown (Ret.grownBy_set w1 ⟨g, i, none⟩ u) (fun q hq => by
    have : q = g := by simpa using hq.symm
    omega)
theorem blk_keep {w w' : World} {g p : Nat} {cs : Array Value} {t : TypeId} (h : Blk w g cs t) (hk : Keep p w w') (hne : g ≠ p) : Blk w' g cs t := (hk.block g h.lt hne).trans h
section
variable {W : World} {g q p : Nat} {a b c : Value} {f s : Int} {t : TypeId} {w0 w : World} {v0 : Value} {l0 : List UInt8}
theorem blk5 {cs : Array Value} (h : Blk W g cs t) (hne : g ≠ q) : Blk (((((W.setCell ⟨q, 0, none⟩ (a)).setCell ⟨q, 1, none⟩ (b)).setCell ⟨q, 2, none⟩ (c)).setCell ⟨q, 3, none⟩ (.int .i64 f)).setCell ⟨q, 4, none⟩ (.int .i64 s)) g cs t := (((((h.other (a := ⟨q, 0, none⟩) (fun e => hne e.symm) (a)).other (a := ⟨q, 1, none⟩) (fun e => hne e.symm) (b)).other (a := ⟨q, 2, none⟩) (fun e => hne e.symm) (c)).other (a := ⟨q, 3, none⟩) (fun e => hne e.symm) (.int .i64 f)).other (a := ⟨q, 4, none⟩) (fun e => hne e.symm) (.int .i64 s))
theorem box5 {u : Value} (h : Box W g u t) (hne : g ≠ q) : Box (((((W.setCell ⟨q, 0, none⟩ (a)).setCell ⟨q, 1, none⟩ (b)).setCell ⟨q, 2, none⟩ (c)).setCell ⟨q, 3, none⟩ (.int .i64 f)).setCell ⟨q, 4, none⟩ (.int .i64 s)) g u t := blk5 h hne
theorem rown5 {α : Type} [Inhabited α] {enc : α → Value} {e : TypeId} {B : Nat} {v : Value} {l : List α} (h : Row.Own e enc B W v l) (hq : q < B) : Row.Own e enc B (((((W.setCell ⟨q, 0, none⟩ (a)).setCell ⟨q, 1, none⟩ (b)).setCell ⟨q, 2, none⟩ (c)).setCell ⟨q, 3, none⟩ (.int .i64 f)).setCell ⟨q, 4, none⟩ (.int .i64 s)) v l := (Row.own_set (g := q) (i := 4) (u := .int .i64 s) (Row.own_set (g := q) (i := 3) (u := .int .i64 f) (Row.own_set (g := q) (i := 2) (u := c) (Row.own_set (g := q) (i := 1) (u := b) (Row.own_set (g := q) (i := 0) (u := a) h hq) hq) hq) hq) hq)
theorem own5 {k : IntKind} {e : TypeId} {B : Nat} {v : Value} {l : List Int} (h : Sl.Own e k B W v l) (hq : q < B) : Sl.Own e k B (((((W.setCell ⟨q, 0, none⟩ (a)).setCell ⟨q, 1, none⟩ (b)).setCell ⟨q, 2, none⟩ (c)).setCell ⟨q, 3, none⟩ (.int .i64 f)).setCell ⟨q, 4, none⟩ (.int .i64 s)) v l := rown5 (enc := Value.int k) h hq
theorem set5 {a1 b1 c1 : Value} {f1 s1 : Int} (h : Blk W q (dc a1 b1 c1 f1 s1) t) : Blk (((((W.setCell ⟨q, 0, none⟩ (a)).setCell ⟨q, 1, none⟩ (b)).setCell ⟨q, 2, none⟩ (c)).setCell ⟨q, 3, none⟩ (.int .i64 f)).setCell ⟨q, 4, none⟩ (.int .i64 s)) q (dc a b c f s) t := (((((h.set 0 (a)).set 1 (b)).set 2 (c)).set 3 (.int .i64 f)).set 4 (.int .i64 s))
theorem below5 {B : Nat} (h : Below B w0 W) (hq : B ≤ q) : Below B w0 (((((W.setCell ⟨q, 0, none⟩ (a)).setCell ⟨q, 1, none⟩ (b)).setCell ⟨q, 2, none⟩ (c)).setCell ⟨q, 3, none⟩ (.int .i64 f)).setCell ⟨q, 4, none⟩ (.int .i64 s)) := (((((h.setCell (p := ⟨q, 0, none⟩) hq (a)).setCell (p := ⟨q, 1, none⟩) hq (b)).setCell (p := ⟨q, 2, none⟩) hq (c)).setCell (p := ⟨q, 3, none⟩) hq (.int .i64 f)).setCell (p := ⟨q, 4, none⟩) hq (.int .i64 s))
theorem cur5 (h : Cur w0 p v0 l0 W) (hg : w0.heap.size ≤ q) (hp : q ≠ p) : Cur w0 p v0 l0 (((((W.setCell ⟨q, 0, none⟩ (a)).setCell ⟨q, 1, none⟩ (b)).setCell ⟨q, 2, none⟩ (c)).setCell ⟨q, 3, none⟩ (.int .i64 f)).setCell ⟨q, 4, none⟩ (.int .i64 s)) := (((((h.setI 0 hg hp (a)).setI 1 hg hp (b)).setI 2 hg hp (c)).setI 3 hg hp (.int .i64 f)).setI 4 hg hp (.int .i64 s))
theorem keep5 (h : Keep p w W) (hq : w.heap.size ≤ q) : Keep p w (((((W.setCell ⟨q, 0, none⟩ (a)).setCell ⟨q, 1, none⟩ (b)).setCell ⟨q, 2, none⟩ (c)).setCell ⟨q, 3, none⟩ (.int .i64 f)).setCell ⟨q, 4, none⟩ (.int .i64 s)) := (((((h.setI 0 hq (a)).setI 1 hq (b)).setI 2 hq (c)).setI 3 hq (.int .i64 f)).setI 4 hq (.int .i64 s))
theorem keepC5 (h : Blk W g (dc a b c f s) t) : W.cell? ⟨g, 0, none⟩ = some a ∧ W.cell? ⟨g, 1, none⟩ = some b ∧ W.cell? ⟨g, 2, none⟩ = some c ∧ W.cell? ⟨g, 3, none⟩ = some (.int .i64 f) ∧ W.cell? ⟨g, 4, none⟩ = some (.int .i64 s) := ⟨h.cell 0, h.cell 1, h.cell 2, h.cell 3, h.cell 4⟩
end
/-- A packet's slices, each of the call's own. -/
def DO3 (B : Nat) (w : World) (a b c : Value) (x : Dt) : Prop := Row.Own 9 Value.string B w a x.1 ∧ Sl.Own 5 .u8 B w b x.2.1 ∧ Row.Own 9 Value.string B w c x.2.2.1
section
variable {B p : Nat} {w w' : World} {a b c : Value} {x : Dt}
theorem DO3.of (h : DOwn B w a b c x) : DO3 B w a b c x := ⟨h.1, h.2.1, h.2.2.1⟩
theorem DO3.on (h : DO3 B w a b c x) (hb : Below w.heap.size w w') : DO3 B w' a b c x := ⟨h.1.on hb, Sl.Own.on h.2.1 hb, h.2.2.on hb⟩
theorem DO3.keep (h : DO3 B w a b c x) (hk : Keep p w w') (hp : p < B) : DO3 B w' a b c x := ⟨rown_keep h.1 hk hp, own_keep h.2.1 hk hp, rown_keep h.2.2 hk hp⟩
theorem DO3.mono {B' : Nat} (h : DO3 B w a b c x) (hB : B' ≤ B) : DO3 B' w a b c x := ⟨h.1.mono hB, Sl.Own.mono h.2.1 hB, h.2.2.mono hB⟩
theorem DO3.hold (h : DO3 B w a b c x) : DHold w a b c x := ⟨h.1.holds, Sl.Own.holds h.2.1, h.2.2.holds⟩
theorem DO3.shape (h : DO3 B w a b c x) : ∃ xa na ca xb nb cb xc nc cc, a = .slice xa na ca ∧ b = .slice xb nb cb ∧ c = .slice xc nc cc := h.hold.shape
theorem DO3.five {q : Nat} {a1 b1 c1 : Value} {f s : Int} (h : DO3 B w a b c x) (hq : q < B) : DO3 B (((((w.setCell ⟨q, 0, none⟩ (a1)).setCell ⟨q, 1, none⟩ (b1)).setCell ⟨q, 2, none⟩ (c1)).setCell ⟨q, 3, none⟩ (.int .i64 f)).setCell ⟨q, 4, none⟩ (.int .i64 s)) a b c x := ⟨rown5 h.1 hq, own5 h.2.1 hq, rown5 h.2.2 hq⟩
end
/-- A row of one element type and a variable of another type are different blocks. -/
theorem own_ne_blk {α : Type} [Inhabited α] {enc : α → Value} {e t : TypeId} {B g : Nat} {w : World} {v : Value} {l : List α} {cs : Array Value} (h : Row.Own e enc B w v l) (hb : Blk w g cs t) (hne : e ≠ t) : ∀ q, v.ownBlock = some q → q ≠ g := by
  intro q hq e1
  subst e1
  rcases h.2 with h2 | ⟨g2, cap, cur, hv, hg, hh, r⟩
  · rw [h2.1] at hq; cases hq
  · rw [hv] at hq
    obtain rfl : g2 = q := Option.some.inj hq
    have h3 : w.heap[g2]? = some (.cells cs t) := hb
    rw [hh] at h3
    have h4 := Option.some.inj h3
    injection h4 with h5 h6 h7
    exact hne h6
theorem rown_setT {α : Type} [Inhabited α] {enc : α → Value} {e t : TypeId} {B g i : Nat} {w : World} {v u : Value} {l : List α} {cs : Array Value} (h : Row.Own e enc B w v l) (hb : Blk w g cs t) (hne : e ≠ t) : Row.Own e enc B (w.setCell ⟨g, i, none⟩ u) v l :=
  h.grown (Ret.grownBy_set w ⟨g, i, none⟩ u) (by
    cases hv : v.ownBlock with
    | none => exact Or.inl rfl
    | some q => exact Or.inr fun e => own_ne_blk h hb hne q hv (Option.some.inj e))
theorem own_setT {k : IntKind} {e t : TypeId} {B g i : Nat} {w : World} {v u : Value} {l : List Int} {cs : Array Value} (h : Sl.Own e k B w v l) (hb : Blk w g cs t) (hne : e ≠ t) : Sl.Own e k B (w.setCell ⟨g, i, none⟩ u) v l := rown_setT (enc := Value.int k) h hb hne
theorem DO3.setT {B g i : Nat} {w : World} {a b c u : Value} {x : Dt} {cs : Array Value} (h : DO3 B w a b c x) (hb : Blk w g cs 31) : DO3 B (w.setCell ⟨g, i, none⟩ u) a b c x := ⟨rown_setT h.1 hb (by decide), own_setT h.2.1 hb (by decide), rown_setT h.2.2 hb (by decide)⟩
theorem DO3.fiveT {B q : Nat} {w : World} {a b c a1 b1 c1 : Value} {f s : Int} {x : Dt} {cs : Array Value} (h : DO3 B w a b c x) (hb : Blk w q cs 31) : DO3 B (((((w.setCell ⟨q, 0, none⟩ (a1)).setCell ⟨q, 1, none⟩ (b1)).setCell ⟨q, 2, none⟩ (c1)).setCell ⟨q, 3, none⟩ (.int .i64 f)).setCell ⟨q, 4, none⟩ (.int .i64 s)) a b c x := ((((h.setT hb).setT (hb.set 0 a1)).setT ((hb.set 0 a1).set 1 b1)).setT (((hb.set 0 a1).set 1 b1).set 2 c1)).setT ((((hb.set 0 a1).set 1 b1).set 2 c1).set 3 (.int .i64 f))
/-- A drawn packet: its parts in blocks from B on, small, its numbers fit. -/
def DataIn (B : Nat) (V : Value) (w : World) : Prop := ∃ xa na ca xb nb cb xc nc cc, ∃ y : Dt, V = .agg #[.slice xa na ca, .slice xb nb cb, .slice xc nc cc, .int .i64 y.2.2.2.1, .int .i64 y.2.2.2.2] ∧ DO3 B w (.slice xa na ca) (.slice xb nb cb) (.slice xc nc cc) y ∧ bulkD y ≤ 3000 ∧ WfD y
theorem wfS {l : List ByteArray} (h : bulk l ≤ 100000) : ∀ x ∈ l, x.size ≤ maxLen := fun y hy => by
  obtain ⟨k, hk, rfl⟩ := List.getElem_of_mem hy
  have h1 := Row.size_bulk (l := l) hk
  rw [Row.nth_eq hk] at h1
  have h2 : maxLen = 9223372036854775807 := rfl
  omega
theorem wfB {l : List Int} (h : Sl.Byt l) : ∀ x ∈ l, (Lit.int .u8 x).wf = true := fun x hx => by
  have h1 := h x hx
  have e1 : IntKind.u8.min = 0 := rfl
  have e2 : IntKind.u8.max = 255 := rfl
  simp [Lit.wf, e1, e2, h1.1, h1.2]
theorem wfD_of {x : Dt} (h1 : bulkD x ≤ 3000) (h2 : Sl.Byt x.2.1) (h3 : (Lit.int .i64 x.2.2.2.1).wf = true) (h4 : (Lit.int .i64 x.2.2.2.2).wf = true) : WfD x := by
  unfold bulkD at h1
  exact ⟨wfS (by omega), wfB h2, wfS (by omega), h3, h4⟩
theorem strPick3 (w0 : World) (p : Nat) (v : Value) (l : List UInt8) (w : World) (hc : Cur w0 p v l w) {q : Nat} {a b c : ByteArray} {t : TypeId} (hb : Blk w q #[.string a, .string b, .string c] t) (hq : q ≠ p) (k : Nat) (ha : a.size ≤ k) (hbk : b.size ≤ k) (hck : c.size ≤ k) :
    Calls Tryz.prog 31 #[.pointer (some ⟨p, 0, none⟩), .slice (some ⟨q, 0, none⟩) 3 3] w (Drawn w0 p v l w (StrUpto k)) := by
  refine (strOf w0 p v l w q [.string a, .string b, .string c] 3 rfl (by decide) (by decide) hc hq (fun j hj => ?_)).mono fun e w' h => ?_
  · have h3 : j < 3 := hj
    rw [hb.cell]
    obtain rfl | rfl | rfl : j = 0 ∨ j = 1 ∨ j = 2 := by omega
    all_goals rfl
  · obtain ⟨x, e1, e2, e3⟩ := h
    refine ⟨x, e1, ?_, e3⟩
    simp only [List.mem_cons, List.not_mem_nil, or_false] at e2
    rcases e2 with rfl | rfl | rfl
    · exact ⟨_, rfl, ha⟩
    · exact ⟨_, rfl, hbk⟩
    · exact ⟨_, rfl, hck⟩
set_option maxHeartbeats 1000000 in
theorem l8Secret (w0 : World) (p : Nat) (v : Value) (l : List UInt8) (w : World) (hc : Cur w0 p v l w) :
    Calls Tryz.prog 100 #[.pointer (some ⟨p, 0, none⟩)] w (Drawn w0 p v l w (IntIn 100 104)) := by
  have HD := Lib.hid (below w0 p v l w 5 hc); clear hc
  go_enter Tryz.func100, Tryz.ntmps100
  go_wp2_with fail
  refine HD.out.mono ?_
  rintro e w1 ⟨y, rfl, ⟨r, rfl, hr, _⟩, hc, hk⟩
  have hr := hr (by omega)
  have HC := Lib.hid hc; have HK := Lib.hid hk; clear hc hk HD
  go_wp2_with fail
  go_ret
  exact ⟨_, rfl, ⟨100 + r, rfl, by omega, by omega⟩, HC.out, HK.out⟩
/-- No cell is a text. -/
def NoStr (cs : Array Value) : Prop := ∀ (i : Nat) (s : ByteArray), cs[i]? ≠ some (.string s)
theorem noStr1 (x : Option Addr) (n c : Nat) : NoStr #[.slice x n c] := fun i s h => by
  rcases i with _ | i
  · cases h
  · simp at h
theorem noStrD (xa xb xc : Option Addr) (na ca nb cb nc cc : Nat) (f s : Int) : NoStr (dc (.slice xa na ca) (.slice xb nb cb) (.slice xc nc cc) f s) := fun i s h => by
  rcases i with _ | _ | _ | _ | _ | i
  · cases h
  · cases h
  · cases h
  · cases h
  · cases h
  · simp at h
theorem holdS_ne {w : World} {x : Option Addr} {n c g : Nat} {l : List ByteArray} {cs : Array Value} {t : TypeId} (h : Row.Holds Value.string w (.slice x n c) l) (hb : Blk w g cs t) (hn : NoStr cs) : l = [] ∨ ∀ q, (Value.slice x n c).ownBlock = some q → q ≠ g := by
  obtain ⟨x', cap, hv, hc, hh⟩ := h
  cases hv
  rcases hh with h1 | ⟨b, off, rfl, h2⟩
  · exact Or.inl h1
  · by_cases hl : l = []
    · exact Or.inl hl
    · refine Or.inr fun q hq e => ?_
      have h0 : 0 < l.length := List.length_pos_iff.2 hl
      have h3 := h2 0 h0
      have h4 : b = q := by simpa [Value.ownBlock] using hq
      subst h4
      subst e
      rw [hb.cell] at h3
      exact hn _ _ h3
theorem holdS_set {w : World} {x : Option Addr} {n c g i : Nat} {l : List ByteArray} {cs : Array Value} {t : TypeId} {u : Value} (h : Row.Holds Value.string w (.slice x n c) l) (hb : Blk w g cs t) (hn : NoStr cs) : Row.Holds Value.string (w.setCell ⟨g, i, none⟩ u) (.slice x n c) l := by
  have h9 := holdS_ne h hb hn
  obtain ⟨x', cap, hv, hc, hh⟩ := h
  cases hv
  refine ⟨x, _, rfl, hc, ?_⟩
  rcases h9 with h9 | h9
  · exact Or.inl h9
  rcases hh with h1 | ⟨b, off, rfl, h2⟩
  · exact Or.inl h1
  · refine Or.inr ⟨b, off, rfl, fun j hj => ?_⟩
    have h3 : b ≠ g := h9 b rfl
    exact (World.cell?_of_block (w := w) (Go.RowKit.Below.heap_setCell _ _ _ _ h3)).trans (h2 j hj)
theorem holdS_five {w : World} {x xa xb xc ya yb yc : Option Addr} {n c q na ca nb cb nc cc ma da mb db mc dc' : Nat} {l : List ByteArray} {t : TypeId} {f s f1 s1 : Int} (h : Row.Holds Value.string w (.slice x n c) l) (hb : Blk w q (dc (.slice xa na ca) (.slice xb nb cb) (.slice xc nc cc) f s) t) : Row.Holds Value.string (((((w.setCell ⟨q, 0, none⟩ (.slice ya ma da)).setCell ⟨q, 1, none⟩ (.slice yb mb db)).setCell ⟨q, 2, none⟩ (.slice yc mc dc')).setCell ⟨q, 3, none⟩ (.int .i64 f1)).setCell ⟨q, 4, none⟩ (.int .i64 s1)) (.slice x n c) l := by
  have b1 := hb.set 0 (.slice ya ma da)
  have b2 := b1.set 1 (.slice yb mb db)
  have b3 := b2.set 2 (.slice yc mc dc')
  have b4 := b3.set 3 (.int .i64 f1)
  exact holdS_set (holdS_set (holdS_set (holdS_set (holdS_set h hb (noStrD _ _ _ _ _ _ _ _ _ _ _)) b1 (noStrD ya xb xc ma da nb cb nc cc f s)) b2 (noStrD ya yb xc ma da mb db nc cc f s)) b3 (noStrD ya yb yc ma da mb db mc dc' f s)) b4 (noStrD ya yb yc ma da mb db mc dc' f1 s)
theorem holdS_keep {w0 : World} {p : Nat} {v : Value} {l0 : List UInt8} {w w' : World} {x : Option Addr} {n c : Nat} {l : List ByteArray} (h : Row.Holds Value.string w (.slice x n c) l) (hc : Cur w0 p v l0 w) (hk : Keep p w w') : Row.Holds Value.string w' (.slice x n c) l := by
  obtain ⟨i, k, h0, h1, hrow⟩ := hc.row
  obtain ⟨bx, bn, bv⟩ := bytes_at hc.bytes
  obtain ⟨x', cap, hv, hcap, hh⟩ := h
  cases hv
  refine ⟨x, _, rfl, hcap, ?_⟩
  rcases hh with h2 | ⟨b, off, rfl, h2⟩
  · exact Or.inl h2
  by_cases hl : l = []
  · exact Or.inl hl
  · refine Or.inr ⟨b, off, rfl, fun j hj => hk.cell (h2 j hj) ?_⟩
    intro e
    have e2 : b = p := e
    subst e2
    have h3 := h2 0 (List.length_pos_iff.2 hl)
    have h4 : Blk w b _ _ := hrow
    rw [h4.cell] at h3
    obtain ⟨rfl, -⟩ := bv
    obtain ⟨m, hm⟩ : ∃ m, m = off + 0 := ⟨_, rfl⟩
    rw [← hm] at h3
    clear hm
    rcases m with _ | _ | _ | m
    · cases h3
    · cases h3
    · cases h3
    · simp at h3
set_option maxHeartbeats 1000000 in
theorem l4OfO (s : ByteArray) (w : World) (hs : s.size ≤ 10000000) :
    Calls Tryz.prog 30 #[.string s] w fun e w' => ∃ u, e = .returned (.agg #[u]) ∧ Row.Holds Value.string w' u (Row.pN s) ∧ Below w.heap.size w w' := by
  have HB0 := Lib.hid ((Below.refl w.heap.size w).alloc (Nat.le_refl _) (.cells #[.slice none 0 0] 27))
  have HX0 := Lib.hid (Box.new w (.slice none 0 0) 27)
  have HP := Lib.hid (Row.specParseName s (w.alloc (.cells #[.slice none 0 0] 27)) hs)
  go_enter Tryz.func30, Tryz.ntmps30
  go_wp2_with fail
  refine HP.out.mono ?_
  rintro e w1 ⟨u, rfl, ho, hb⟩
  obtain ⟨x, n, c, rfl, -, -, ho⟩ := ho.shapeN
  have ha := (Below.refl w1.heap.size w1).alloc (Nat.le_refl _) (.cells #[.slice x n c] 27)
  have HX1 := Lib.hid ((HX0.out.on hb).on ha)
  have HO1 := Lib.hid (ho.on ha)
  have hq := (Box.new w1 (.slice x n c) 27).cell
  have hz := HX1.out.cell
  have hf := HX1.out.frozen
  have HBF := Lib.hid ((HB0.out.trans (hb.mono HB0.out.size)).trans (ha.mono (Nat.le_trans HB0.out.size hb.size)))
  have HW := Lib.hid (HBF.out.grown (Ret.grownBy_set _ ⟨w.heap.size, 0, none⟩ (.slice x n c)) HBF.out.size (fun g hg => by cases hg; exact Nat.le_refl _))
  have HH := Lib.hid (holdS_set (i := 0) (u := .slice x n c) HO1.out HX1.out (noStr1 _ _ _))
  have HC := Lib.hid (Ret.set_same (v := .slice x n c) HX1.out.cell)
  clear ha ho hb
  go_wp2_with fail
  refine bodyPost_ret (Ret.results_c rfl _ _ w.heap.size [_] rfl Row.aggN (Ret.one HC.out)) rfl ?_
  exact ⟨_, rfl, HH.out, HW.out⟩
theorem signV (xa xb xc : Option Addr) (na ca nb cb nc cc : Nat) (x : Dt) (t : Int) (w : World) (h : DHold w (.slice xa na ca) (.slice xb nb cb) (.slice xc nc cc) x) (hB : Sl.Byt x.2.1) (hl : bulkD x ≤ 1200000) :
    Calls Tryz.prog 37 #[.int .i64 t, .agg #[.slice xa na ca, .slice xb nb cb, .slice xc nc cc, .int .i64 x.2.2.2.1, .int .i64 x.2.2.2.2]] w fun e w' => ∃ ya ma da yb mb db yc mc dc_, ∃ M : Int, e = .returned (.agg #[.slice ya ma da, .slice yb mb db, .slice yc mc dc_, .int .i64 x.2.2.2.1, .int .i64 M]) ∧ DO3 w.heap.size w' (.slice ya ma da) (.slice yb mb db) (.slice yc mc dc_) (x.1, x.2.1, x.2.2.1, x.2.2.2.1, M) ∧ M = Seal.mac t (Row.portD x) ∧ Below w.heap.size w w' := by
  refine (Row.specSignData _ _ _ x t w h hB (Row.smD_of hl)).mono ?_
  rintro e w' ⟨a, b, c, rfl, ho, hb⟩
  obtain ⟨ya, ma, da, yb, mb, db, yc, mc, dc_, rfl, rfl, rfl⟩ := ho.hold.shape
  exact ⟨ya, ma, da, yb, mb, db, yc, mc, dc_, _, rfl, DO3.of ho, rfl, hb⟩
end Go.Proofs.YtnblopilgfdjkaaGreat.Draw
