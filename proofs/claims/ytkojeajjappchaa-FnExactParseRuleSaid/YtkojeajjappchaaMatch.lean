/- Contracts of matchParts (the parts of a pattern against those of a name) and of Match, the program's and the model's. No conditions but that lengths fit. -/
import Derived.Test.YtkojeajjappchaaStep
import Derived.Test.YtkojeajjappchaaNameLaw
namespace Go.Proofs.Ytkojeajjappchaa.Row
open Go.ChangeShapes Go.WideShapes Go.ChangeAt Go.RowKit Go.Instr
set_option linter.unusedVariables false
set_option maxRecDepth 100000

/-- The parts of a pattern against those of a name, with the bindings so far. -/
def matchL : List ByteArray → List ByteArray → List (ByteArray × ByteArray) → Option (List (ByteArray × ByteArray))
  | [], [], l => some l
  | [], _ :: _, _ => none
  | s :: ps, [], l => if s = star2B then some l else none
  | s :: ps, t :: ts, l => if s = star2B then some l else match stepM s t l with
    | none => none
    | some m => matchL ps ts m
theorem drop_nth {α : Type} [Inhabited α] {l : List α} {k : Nat} (h : k < l.length) : l.drop k = nth l k :: l.drop (k + 1) := by rw [nth_eq h]; exact List.drop_eq_getElem_cons h
theorem matchL_rest {p q : List ByteArray} {l : List (ByteArray × ByteArray)} {k : Nat} (hk : k < p.length) (h : nth p k = star2B) : matchL (p.drop k) (q.drop k) l = some l := by
  rw [drop_nth hk]
  cases q.drop k with
  | nil => unfold matchL; rw [if_pos h]
  | cons a r => unfold matchL; rw [if_pos h]
theorem matchL_short {p q : List ByteArray} {l : List (ByteArray × ByteArray)} {k : Nat} (hk : k < p.length) (h : ¬ nth p k = star2B) (hq : ¬ k < q.length) : matchL (p.drop k) (q.drop k) l = none := by
  rw [drop_nth hk, List.drop_eq_nil_of_le (show q.length ≤ k by omega)]
  unfold matchL; rw [if_neg h]
theorem matchL_no {p q : List ByteArray} {l : List (ByteArray × ByteArray)} {k : Nat} (hk : k < p.length) (h : ¬ nth p k = star2B) (hq : k < q.length) (hs : stepM (nth p k) (nth q k) l = none) : matchL (p.drop k) (q.drop k) l = none := by
  rw [drop_nth hk, drop_nth hq]
  unfold matchL; rw [if_neg h, hs]
theorem matchL_on {p q : List ByteArray} {l m : List (ByteArray × ByteArray)} {k : Nat} (hk : k < p.length) (h : ¬ nth p k = star2B) (hq : k < q.length) (hs : stepM (nth p k) (nth q k) l = some m) : matchL (p.drop k) (q.drop k) l = matchL (p.drop (k + 1)) (q.drop (k + 1)) m := by
  rw [drop_nth hk, drop_nth hq]
  conv => lhs; unfold matchL
  rw [if_neg h, hs]
theorem matchL_end {p q : List ByteArray} {l : List (ByteArray × ByteArray)} (hq : p.length ≤ q.length) : matchL (p.drop p.length) (q.drop p.length) l = if q.length = p.length then some l else none := by
  rw [List.drop_length]
  by_cases h : q.length = p.length
  · rw [List.drop_eq_nil_of_le (show q.length ≤ p.length by omega), if_pos h]; rfl
  · rw [drop_nth (show p.length < q.length by omega), if_neg h]; rfl
theorem validPat_elem {p : List ByteArray} (h : validPat p = true) {k : Nat} (hk : k < p.length) : validP (nth p k) = true ∨ nth p k = starB ∨ letterP (nth p k) = true ∨ nth p k = star2B := by
  rcases elemP_iff.1 ((validPat_iff.1 h).2 k hk) with h | h | h | h
  · exact Or.inl h
  · exact Or.inr (Or.inl h)
  · exact Or.inr (Or.inr (Or.inl h))
  · exact Or.inr (Or.inr (Or.inr h.1))
theorem encPt_notrest {s : ByteArray} (h : validP s = true ∨ s = starB ∨ letterP s = true) : ∃ t v, encPt s = .iface t v ∧ ∀ w : World, (Instr.typeAssert (.iface t v) 96 113 true).run Try.prog w = .ok (.tuple #[.agg #[], .bool false]) w := by
  rcases h with h | h | h
  · exact ⟨_, _, encPt_lit h, fun w => as_lit_rest _ w⟩
  · exact ⟨_, _, encPt_any h, fun w => as_any_rest _ w⟩
  · exact ⟨_, _, encPt_var h, fun w => as_var_rest _ w⟩
theorem matchPartU (s t : ByteArray) (u v : Value) (hu : encPt s = u) (l : List (ByteArray × ByteArray)) (B : Nat) (w : World) (hs : validP s = true ∨ s = starB ∨ letterP s = true) (h : OwnK 92 encBd 2 B w v l) (hB : B ≤ w.heap.size) (hl : l.length ≤ 10000000) :
    Calls Try.prog 95 #[u, .string t, v] w (GivesStep B w l (stepM s t l)) := hu ▸ matchPart s t v l B w hs h hB hl
/-- What matchParts answers. -/
def GivesM (B : Nat) (w : World) (o : Option (List (ByteArray × ByteArray))) (e : Ending) (w' : World) : Prop :=
  ∃ v, e = .returned (.tuple #[v, .bool o.isSome]) ∧ (∀ m, o = some m → OwnK 92 encBd 2 B w' v m) ∧ Below B w w'

theorem Far.below {α : Type} [Inhabited α] {enc : α → Value} {B : Nat} {w w' : World} {v : Value} {l : List α} (h : Far enc B w v l) (hb : Below B w w') : Holds enc w' v l := by
  obtain ⟨x, cap, hv, hc, hh⟩ := h
  refine ⟨x, cap, hv, hc, ?_⟩
  rcases hh with h1 | ⟨b, off, hx, hlt, h2⟩
  · exact Or.inl h1
  · exact Or.inr ⟨b, off, hx, fun j hj => by rw [hb.cell (p := ⟨b, off + j, none⟩) hlt]; exact h2 j hj⟩
theorem Far.shapeN {α : Type} [Inhabited α] {enc : α → Value} {B : Nat} {w : World} {v : Value} {l : List α} (h : Far enc B w v l) : ∃ x n cap, v = .slice x n cap ∧ n = l.length ∧ n ≤ cap ∧ Far enc B w (.slice x n cap) l := by
  obtain ⟨x, cap, rfl, hc, ho⟩ := h
  exact ⟨x, _, cap, rfl, rfl, hc, x, cap, rfl, hc, ho⟩

set_option maxHeartbeats 2000000 in
theorem matchParts (vp vt v : Value) (p q : List ByteArray) (l : List (ByteArray × ByteArray)) (B : Nat) (w : World) (hv : validPat p = true) (hp : Far encPt B w vp p) (hq : Far Value.string B w vt q) (hql : q.length ≤ 100000000) (h : OwnK 92 encBd 2 B w v l) (hB : B ≤ w.heap.size) (hl : l.length ≤ 5000000) :
    Calls Try.prog 89 #[vp, vt, v] w (GivesM B w (matchL p q l)) := by
  obtain ⟨xp, np, cp, rfl, hnp, hcp, hp⟩ := hp.shapeN
  obtain ⟨xq, nq, cq, rfl, hnq, hcq, hq⟩ := hq.shapeN
  have hp6 := (validPat_iff.1 hv).1
  rw [← hnp] at hp6
  rw [← hnq] at hql
  have HV := Lib.hid hv; have HP := Lib.hid hp; have HQ := Lib.hid hq; have HNP := Lib.hid hnp; have HNQ := Lib.hid hnq; have HO := Lib.hid h
  clear hv hp hq hnp hnq h
  go_enter Try.func89, Try.ntmps89
  go_wp2_with fail
  go_loopw [2, 16] (fun lv iv wr => ∃ (k m : Nat) (cur : List (ByteArray × ByteArray)), k ≤ np ∧ k ≤ nq ∧ iv = .int .i64 k ∧ m ≤ 5000000 + k ∧ Hid (cur.length = m) ∧ Hid (matchL (p.drop k) (q.drop k) cur = matchL p q l) ∧ Hid (OwnK 92 encBd 2 B wr lv cur) ∧ Hid (Below B w wr) ∧ B ≤ wr.heap.size) (fun _ iv _ => np - (intOf iv).toNat)
  case atStart => exact ⟨0, l.length, l, Nat.zero_le _, Nat.zero_le _, rfl, by omega, Lib.hid rfl, Lib.hid rfl, HO, Lib.hid (Below.refl _ _), hB⟩
  case round =>
    obtain ⟨k, m, cur, hk, hkq, rfl, hm, hml, hI, ho, hb, hBr⟩ := hrel
    by_cases hlt : k < np
    · have hkp : k < p.length := by have := HNP.out; omega
      obtain ⟨b, off, rfl, hc⟩ := (HP.out.below hb.out).at hkp
      by_cases hr : nth p k = star2B
      · rw [encPt_rest hr] at hc
        have hk1 := fun w => as_rest (.agg #[]) w
        have HM := Lib.hid ((hI.out).symm.trans (matchL_rest hkp hr))
        clear hkp hr
        go_wp2_with fail
        go_ret2
        exact ⟨_, ret_three (by rw [HM.out]; rfl), fun m' hm' => by rw [HM.out] at hm'; cases hm'; exact ho.out.on ((Below.refl _ _).alloc (Nat.le_refl _) _), hb.out.alloc hBr _⟩
      · have hs3 : validP (nth p k) = true ∨ nth p k = starB ∨ letterP (nth p k) = true := by
          rcases validPat_elem HV.out hkp with h | h | h | h
          · exact Or.inl h
          · exact Or.inr (Or.inl h)
          · exact Or.inr (Or.inr h)
          · exact absurd h hr
        obtain ⟨t5, v5, h5, hk1⟩ := encPt_notrest hs3
        rw [h5] at hc
        have H5 := Lib.hid h5; have HS3 := Lib.hid hs3; have HR := Lib.hid hr
        have HKP := Lib.hid hkp
        clear h5 hs3 hr hkp
        by_cases hlq : k < nq
        · have hkq2 : k < q.length := by have := HNQ.out; omega
          obtain ⟨b', off', rfl, hd⟩ := (HQ.out.below hb.out).at hkq2
          have HKQ := Lib.hid hkq2
          have hdr : (wr.alloc (.cells #[] 113)).cell? ⟨b', off' + k, none⟩ = some (.string (nth q k)) := by rw [World.cell?_alloc_past _ _ _ (cell_lt hd)]; exact hd
          have HO1 := Lib.hid (ho.out.on ((Below.refl _ _).alloc (Nat.le_refl _) (.cells #[] 113)))
          have HB1 := Lib.hid (hb.out.alloc hBr (.cells #[] 113))
          have HCUR := Lib.hid (show cur.length ≤ 10000000 by rw [hml.out]; omega)
          clear hkq2 hd
          go_wp2_with fail
          refine (matchPartU (nth p k) (nth q k) _ _ H5.out cur B _ HS3.out HO1.out (by simp; omega) HCUR.out).mono ?_
          rintro e w2 ⟨v2, rfl, ho2, hb2⟩
          have HO2 := Lib.hid ho2
          have HB2 := Lib.hid (HB1.out.trans hb2)
          have hB2 : B ≤ w2.heap.size := by have := hb2.size; simp at this; omega
          clear ho2 hb2 hc hdr hk1
          cases hst : stepM (nth p k) (nth q k) cur with
          | none =>
            have HM := Lib.hid ((hI.out).symm.trans (matchL_no HKP.out HR.out HKQ.out hst))
            simp only [Option.isSome_none]
            clear hst
            go_wp2_with fail
            go_ret2
            exact ⟨_, ret_three (by rw [HM.out]; rfl), fun m' hm' => (by rw [HM.out] at hm'; cases hm'), HB2.out⟩
          | some nx =>
            have HM := Lib.hid ((matchL_on HKP.out HR.out HKQ.out hst).symm.trans hI.out)
            have hnl := stepM_len hst
            rw [hml.out] at hnl
            have HO3 := Lib.hid (show OwnK 92 encBd 2 B w2 v2 nx by have := HO2.out; rw [hst] at this; exact this)
            simp only [Option.isSome_some]
            clear hst
            go_wp2_with fail
            go_roundw
            case rel => exact ⟨k + 1, nx.length, nx, by omega, by omega, by go_num, by omega, Lib.hid rfl, HM, HO3, HB2, hB2⟩
            case measure => simp [intOf]; omega
        · obtain rfl : k = nq := by omega
          have HM := Lib.hid ((hI.out).symm.trans (matchL_short HKP.out HR.out (by have := HNQ.out; omega)))
          clear hlq
          go_wp2_with fail
          go_ret2
          exact ⟨_, ret_three (by rw [HM.out]; rfl), fun m' hm' => (by rw [HM.out] at hm'; cases hm'), hb.out.alloc hBr _⟩
    · obtain rfl : k = np := by omega
      have HM := Lib.hid ((hI.out).symm.trans (show matchL (p.drop k) (q.drop k) cur = if q.length = p.length then some cur else none by
        have e := matchL_end (p := p) (q := q) (l := cur) (by have := HNP.out; have := HNQ.out; omega)
        rw [← HNP.out] at e
        rw [← HNP.out]; exact e))
      clear hlt
      go_wp2_with fail
      go_ret2
      refine ⟨_, ret_three ?_, fun m' hm' => ?_, hb.out⟩
      · rw [HM.out]
        by_cases e : q.length = p.length
        · rw [if_pos e]; have := HNP.out; have := HNQ.out; simp; omega
        · rw [if_neg e]; have := HNP.out; have := HNQ.out; simp; omega
      · rw [HM.out] at hm'
        by_cases e : q.length = p.length
        · rw [if_pos e] at hm'; cases hm'; exact ho.out
        · rw [if_neg e] at hm'; cases hm'
end Go.Proofs.Ytkojeajjappchaa.Row
