/- Contracts and mathematics, joined: Match, Match2, Match3. No conditions but those that each states. -/
import Derived.Test.YtcidfmmeonhkhaaGreatDoorB6
import Derived.Test.YtcidfmmeonhkhaaGreatDoorB1
import Derived.Test.YtcidfmmeonhkhaaGreatDoorB4
/- Contracts of matchParts (the parts of a pattern against those of a name) and of Match, the program's and the model's. No conditions but that lengths fit. -/
namespace Go.Proofs.YtcidfmmeonhkhaaGreatDoor.Row
open Go.ChangeShapes Go.WideShapes Go.ChangeAt Go.RowKit Go.Instr
set_option linter.unusedVariables false
set_option maxRecDepth 100000

/-- The parts of a pattern against those of a name, with the bindings so far. -/
def matchL : List ByteArray → List ByteArray → List (ByteArray × ByteArray) → Option (List (ByteArray × ByteArray))
  | [], [], l => some l
  | [], _ :: _, _ => none
  | s :: ps, [], l => if s = star2B then some l else none
  | s :: ps, t :: ts, l => if s = star2B then some l else match stepM s t l with
    | none => none
    | some m => matchL ps ts m
theorem matchL_rest {p q : List ByteArray} {l : List (ByteArray × ByteArray)} {k : Nat} (hk : k < p.length) (h : nth p k = star2B) : matchL (p.drop k) (q.drop k) l = some l := by
  rw [drop_nth hk]
  cases q.drop k with
  | nil => unfold matchL; rw [if_pos h]
  | cons a r => unfold matchL; rw [if_pos h]
theorem matchL_short {p q : List ByteArray} {l : List (ByteArray × ByteArray)} {k : Nat} (hk : k < p.length) (h : ¬ nth p k = star2B) (hq : ¬ k < q.length) : matchL (p.drop k) (q.drop k) l = none := by
  rw [drop_nth hk, List.drop_eq_nil_of_le (show q.length ≤ k by omega)]
  unfold matchL; rw [if_neg h]
theorem matchL_no {p q : List ByteArray} {l : List (ByteArray × ByteArray)} {k : Nat} (hk : k < p.length) (h : ¬ nth p k = star2B) (hq : k < q.length) (hs : stepM (nth p k) (nth q k) l = none) : matchL (p.drop k) (q.drop k) l = none := by
  rw [drop_nth hk, drop_nth hq]
  unfold matchL; rw [if_neg h, hs]
theorem matchL_on {p q : List ByteArray} {l m : List (ByteArray × ByteArray)} {k : Nat} (hk : k < p.length) (h : ¬ nth p k = star2B) (hq : k < q.length) (hs : stepM (nth p k) (nth q k) l = some m) : matchL (p.drop k) (q.drop k) l = matchL (p.drop (k + 1)) (q.drop (k + 1)) m := by
  rw [drop_nth hk, drop_nth hq]
  conv => lhs; unfold matchL
  rw [if_neg h, hs]
theorem matchL_end {p q : List ByteArray} {l : List (ByteArray × ByteArray)} (hq : p.length ≤ q.length) : matchL (p.drop p.length) (q.drop p.length) l = if q.length = p.length then some l else none := by
  rw [List.drop_length]
  by_cases h : q.length = p.length
  · rw [List.drop_eq_nil_of_le (show q.length ≤ p.length by omega), if_pos h]; rfl
  · rw [drop_nth (show p.length < q.length by omega), if_neg h]; rfl
theorem validPat_elem {p : List ByteArray} (h : validPat p = true) {k : Nat} (hk : k < p.length) : validP (nth p k) = true ∨ nth p k = starB ∨ letterP (nth p k) = true ∨ nth p k = star2B := by
  rcases elemP_iff.1 ((validPat_iff.1 h).2 k hk) with h | h | h | h
  · exact Or.inl h
  · exact Or.inr (Or.inl h)
  · exact Or.inr (Or.inr (Or.inl h))
  · exact Or.inr (Or.inr (Or.inr h.1))
theorem encPt_notrest {s : ByteArray} (h : validP s = true ∨ s = starB ∨ letterP s = true) : ∃ t v, encPt s = .iface t v ∧ ∀ w : World, (Instr.typeAssert (.iface t v) 257 272 true).run Tryz.prog w = .ok (.tuple #[.agg #[], .bool false]) w := by
  rcases h with h | h | h
  · exact ⟨_, _, encPt_lit h, fun w => as_lit_rest _ w⟩
  · exact ⟨_, _, encPt_any h, fun w => as_any_rest _ w⟩
  · exact ⟨_, _, encPt_var h, fun w => as_var_rest _ w⟩
theorem matchPartU (s t : ByteArray) (u v : Value) (hu : encPt s = u) (l : List (ByteArray × ByteArray)) (B : Nat) (w : World) (hs : validP s = true ∨ s = starB ∨ letterP s = true) (h : OwnK 255 encBd 2 B w v l) (hB : B ≤ w.heap.size) (hl : l.length ≤ 10000000) :
    Calls Tryz.prog 233 #[u, .string t, v] w (GivesStep B w l (stepM s t l)) := hu ▸ matchPart s t v l B w hs h hB hl
/-- What matchParts answers. -/
def GivesM (B : Nat) (w : World) (o : Option (List (ByteArray × ByteArray))) (e : Ending) (w' : World) : Prop :=
  ∃ v, e = .returned (.tuple #[v, .bool o.isSome]) ∧ (∀ m, o = some m → OwnK 255 encBd 2 B w' v m) ∧ Below B w w'

theorem Far.below {α : Type} [Inhabited α] {enc : α → Value} {B : Nat} {w w' : World} {v : Value} {l : List α} (h : Far enc B w v l) (hb : Below B w w') : Holds enc w' v l := by
  obtain ⟨x, cap, hv, hc, hh⟩ := h
  refine ⟨x, cap, hv, hc, ?_⟩
  rcases hh with h1 | ⟨b, off, hx, hlt, h2⟩
  · exact Or.inl h1
  · exact Or.inr ⟨b, off, hx, fun j hj => by rw [hb.cell (p := ⟨b, off + j, none⟩) hlt]; exact h2 j hj⟩
theorem Far.shapeN {α : Type} [Inhabited α] {enc : α → Value} {B : Nat} {w : World} {v : Value} {l : List α} (h : Far enc B w v l) : ∃ x n cap, v = .slice x n cap ∧ n = l.length ∧ n ≤ cap ∧ Far enc B w (.slice x n cap) l := by
  obtain ⟨x, cap, rfl, hc, ho⟩ := h
  exact ⟨x, _, cap, rfl, rfl, hc, x, cap, rfl, hc, ho⟩

set_option maxHeartbeats 2000000 in
theorem matchParts (vp vt v : Value) (p q : List ByteArray) (l : List (ByteArray × ByteArray)) (B : Nat) (w : World) (hv : validPat p = true) (hp : Far encPt B w vp p) (hq : Far Value.string B w vt q) (hql : q.length ≤ 100000000) (h : OwnK 255 encBd 2 B w v l) (hB : B ≤ w.heap.size) (hl : l.length ≤ 5000000) :
    Calls Tryz.prog 230 #[vp, vt, v] w (GivesM B w (matchL p q l)) := by
  obtain ⟨xp, np, cp, rfl, hnp, hcp, hp⟩ := hp.shapeN
  obtain ⟨xq, nq, cq, rfl, hnq, hcq, hq⟩ := hq.shapeN
  have hp6 := (validPat_iff.1 hv).1
  rw [← hnp] at hp6
  rw [← hnq] at hql
  have HV := Lib.hid hv; have HP := Lib.hid hp; have HQ := Lib.hid hq; have HNP := Lib.hid hnp; have HNQ := Lib.hid hnq; have HO := Lib.hid h
  clear hv hp hq hnp hnq h
  go_enter Tryz.func230, Tryz.ntmps230
  go_wp2_with fail
  go_loopw [2, 16] (fun lv iv wr => ∃ (k m : Nat) (cur : List (ByteArray × ByteArray)), k ≤ np ∧ k ≤ nq ∧ iv = .int .i64 k ∧ m ≤ 5000000 + k ∧ Hid (cur.length = m) ∧ Hid (matchL (p.drop k) (q.drop k) cur = matchL p q l) ∧ Hid (OwnK 255 encBd 2 B wr lv cur) ∧ Hid (Below B w wr) ∧ B ≤ wr.heap.size) (fun _ iv _ => np - (intOf iv).toNat)
  case atStart => exact ⟨0, l.length, l, Nat.zero_le _, Nat.zero_le _, rfl, by omega, Lib.hid rfl, Lib.hid rfl, HO, Lib.hid (Below.refl _ _), hB⟩
  case round =>
    obtain ⟨k, m, cur, hk, hkq, rfl, hm, hml, hI, ho, hb, hBr⟩ := hrel
    by_cases hlt : k < np
    · have hkp : k < p.length := by have := HNP.out; omega
      obtain ⟨b, off, rfl, hc⟩ := (HP.out.below hb.out).at hkp
      by_cases hr : nth p k = star2B
      · rw [encPt_rest hr] at hc
        have hk1 := fun w => as_rest (.agg #[]) w
        have HM := Lib.hid ((hI.out).symm.trans (matchL_rest hkp hr))
        clear hkp hr
        go_wp2_with fail
        go_ret2
        exact ⟨_, ret_three (by rw [HM.out]; rfl), fun m' hm' => by rw [HM.out] at hm'; cases hm'; exact ho.out.on ((Below.refl _ _).alloc (Nat.le_refl _) _), hb.out.alloc hBr _⟩
      · have hs3 : validP (nth p k) = true ∨ nth p k = starB ∨ letterP (nth p k) = true := by
          rcases validPat_elem HV.out hkp with h | h | h | h
          · exact Or.inl h
          · exact Or.inr (Or.inl h)
          · exact Or.inr (Or.inr h)
          · exact absurd h hr
        obtain ⟨t5, v5, h5, hk1⟩ := encPt_notrest hs3
        rw [h5] at hc
        have H5 := Lib.hid h5; have HS3 := Lib.hid hs3; have HR := Lib.hid hr
        have HKP := Lib.hid hkp
        clear h5 hs3 hr hkp
        by_cases hlq : k < nq
        · have hkq2 : k < q.length := by have := HNQ.out; omega
          obtain ⟨b', off', rfl, hd⟩ := (HQ.out.below hb.out).at hkq2
          have HKQ := Lib.hid hkq2
          have hdr : (wr.alloc (.cells #[] 272)).cell? ⟨b', off' + k, none⟩ = some (.string (nth q k)) := by rw [World.cell?_alloc_past _ _ _ (cell_lt hd)]; exact hd
          have HO1 := Lib.hid (ho.out.on ((Below.refl _ _).alloc (Nat.le_refl _) (.cells #[] 272)))
          have HB1 := Lib.hid (hb.out.alloc hBr (.cells #[] 272))
          have HCUR := Lib.hid (show cur.length ≤ 10000000 by rw [hml.out]; omega)
          clear hkq2 hd
          go_wp2_with fail
          refine (matchPartU (nth p k) (nth q k) _ _ H5.out cur B _ HS3.out HO1.out (by simp; omega) HCUR.out).mono ?_
          rintro e w2 ⟨v2, rfl, ho2, hb2⟩
          have HO2 := Lib.hid ho2
          have HB2 := Lib.hid (HB1.out.trans hb2)
          have hB2 : B ≤ w2.heap.size := by have := hb2.size; simp at this; omega
          clear ho2 hb2 hc hdr hk1
          cases hst : stepM (nth p k) (nth q k) cur with
          | none =>
            have HM := Lib.hid ((hI.out).symm.trans (matchL_no HKP.out HR.out HKQ.out hst))
            simp only [Option.isSome_none]
            clear hst
            go_wp2_with fail
            go_ret2
            exact ⟨_, ret_three (by rw [HM.out]; rfl), fun m' hm' => (by rw [HM.out] at hm'; cases hm'), HB2.out⟩
          | some nx =>
            have HM := Lib.hid ((matchL_on HKP.out HR.out HKQ.out hst).symm.trans hI.out)
            have hnl := stepM_len hst
            rw [hml.out] at hnl
            have HO3 := Lib.hid (show OwnK 255 encBd 2 B w2 v2 nx by have := HO2.out; rw [hst] at this; exact this)
            simp only [Option.isSome_some]
            clear hst
            go_wp2_with fail
            go_roundw
            case rel => exact ⟨k + 1, nx.length, nx, by omega, by omega, by go_num, by omega, Lib.hid rfl, HM, HO3, HB2, hB2⟩
            case measure => simp [intOf]; omega
        · obtain rfl : k = nq := by omega
          have HM := Lib.hid ((hI.out).symm.trans (matchL_short HKP.out HR.out (by have := HNQ.out; omega)))
          clear hlq
          go_wp2_with fail
          go_ret2
          exact ⟨_, ret_three (by rw [HM.out]; rfl), fun m' hm' => (by rw [HM.out] at hm'; cases hm'), hb.out.alloc hBr _⟩
    · obtain rfl : k = np := by omega
      have HM := Lib.hid ((hI.out).symm.trans (show matchL (p.drop k) (q.drop k) cur = if q.length = p.length then some cur else none by
        have e := matchL_end (p := p) (q := q) (l := cur) (by have := HNP.out; have := HNQ.out; omega)
        rw [← HNP.out] at e
        rw [← HNP.out]; exact e))
      clear hlt
      go_wp2_with fail
      go_ret2
      refine ⟨_, ret_three ?_, fun m' hm' => ?_, hb.out⟩
      · rw [HM.out]
        by_cases e : q.length = p.length
        · rw [if_pos e]; have := HNP.out; have := HNQ.out; simp; omega
        · rw [if_neg e]; have := HNP.out; have := HNQ.out; simp; omega
      · rw [HM.out] at hm'
        by_cases e : q.length = p.length
        · rw [if_pos e] at hm'; cases hm'; exact ho.out
        · rw [if_neg e] at hm'; cases hm'
end Go.Proofs.YtcidfmmeonhkhaaGreatDoor.Row
/- Contracts of Match and Matches, the program's and the model's. No conditions but that lengths fit. -/
namespace Go.Proofs.YtcidfmmeonhkhaaGreatDoor.Row
open Go.ChangeShapes Go.WideShapes Go.ChangeAt Go.RowKit Go.Instr
set_option linter.unusedVariables false
set_option maxRecDepth 100000

def matchB (p q : List ByteArray) (l : List (ByteArray × ByteArray)) : Option (List (ByteArray × ByteArray)) := if validPat p = true ∧ validN q = true then matchL p q l else none
theorem matchB_no1 {p q : List ByteArray} {l : List (ByteArray × ByteArray)} (h : validPat p = false) : matchB p q l = none := if_neg (by rw [h]; simp)
theorem matchB_no2 {p q : List ByteArray} {l : List (ByteArray × ByteArray)} (h : validN q = false) : matchB p q l = none := if_neg (by rw [h]; simp)
theorem matchB_yes {p q : List ByteArray} {l : List (ByteArray × ByteArray)} (h1 : validPat p = true) (h2 : validN q = true) : matchB p q l = matchL p q l := if_pos ⟨h1, h2⟩
theorem keepB {B : Nat} {W w1 w2 : World} {a : Addr} {u : Value} (h : w1.cell? a = some u ∧ Below W.heap.size W w1) (ha : a.block < B) (hW : W.heap.size ≤ B) (hb : Below B w1 w2) : w2.cell? a = some u ∧ Below W.heap.size W w2 :=
  ⟨by rw [hb.cell ha]; exact h.1, h.2.trans (hb.mono hW)⟩

theorem HoldsK.belowK {α : Type} {enc : α → List Value} {sz : Nat} {w w1 w2 : World} {v : Value} {l : List α} (h : HoldsK enc sz w1 v l) (h0 : HoldsK enc sz w v l) (hb : Below w.heap.size w1 w2) : HoldsK enc sz w2 v l := by
  obtain ⟨x, cap, rfl, hc, hh⟩ := h
  obtain ⟨x', cap', hv', hc', hh'⟩ := h0
  cases hv'
  refine ⟨x, cap, rfl, hc, ?_⟩
  rcases hh with h1 | ⟨b, off, hx, h2⟩
  · exact Or.inl h1
  · rcases hh' with h1 | ⟨b', off', hx', h2'⟩
    · exact Or.inl h1
    · rw [hx] at hx'
      cases hx'
      refine Or.inr ⟨b, off, hx, fun j hj => ?_⟩
      obtain ⟨u, h3, h4⟩ := h2 j hj
      obtain ⟨u', h3', h4'⟩ := h2' j hj
      exact ⟨u, h3, by rw [hb.cell (p := ⟨b, off + j, none⟩) (cell_lt h4')]; exact h4⟩

set_option maxHeartbeats 2000000 in
theorem implMatch (vp vq v : Value) (p q : List ByteArray) (l : List (ByteArray × ByteArray)) (w : World) (hp : Holds Value.string w vp p) (hq : Holds Value.string w vq q) (hv : HoldsK encBd 2 w v l) (hpb : bulk p ≤ 100000000) (hqb : bulk q ≤ 100000000) (hl : l.length ≤ 2000000) :
    Calls Tryz.prog 220 #[.agg #[vp], .agg #[vq], v] w (GivesStep w.heap.size w l (matchB p q l)) := by
  obtain ⟨xp, np, cp, rfl, hnp, hcp, hp⟩ := hp.shapeN
  obtain ⟨xq, nq, cq, rfl, hnq, hcq, hq⟩ := hq.shapeN
  obtain ⟨x, n, c, rfl, hn, hc, hv⟩ := hv.shapeN
  have b0 := ((Below.refl w.heap.size w).alloc (Nat.le_refl _) (.cells #[.slice xp np cp] 166)).alloc (by simp) (.cells #[.slice xq nq cq] 32)
  have HP := Lib.hid (hp.on b0); have HQ := Lib.hid (hq.on b0); have HV := Lib.hid (hv.on b0)
  have HC := Lib.hid (Ret.Box.new (w.alloc (.cells #[.slice xp np cp] 166)) (.slice xq nq cq) 32)
  have HB0 := Lib.hid b0; have HPB := Lib.hid hpb; have HQB := Lib.hid hqb
  clear hp hq hv b0 hnp hnq hn hpb hqb
  go_enter Tryz.func220, Tryz.ntmps220
  go_wp2_with fail
  refine (readParts _ p _ HP.out HPB.out).mono ?_
  rintro e w1 ⟨v1, rfl, ho1, hb1⟩
  obtain ⟨x1, n1, c1, rfl, hn1, hc1, ho1⟩ := ho1.shapeN
  have HB1 := Lib.hid (HB0.out.trans (hb1.mono HB0.out.size))
  have HQ1 := Lib.hid (HQ.out.on hb1); have HV1 := Lib.hid (HV.out.on hb1); have HC1 := Lib.hid (HC.out.on hb1)
  have HO1 := Lib.hid ho1
  clear ho1 hb1 hn1
  cases hvp : validPat p with
  | false =>
    have HM := Lib.hid (matchB_no1 (q := q) (l := l) hvp)
    clear hvp
    go_wp2_with fail
    refine (cloneBd _ l _ HV1.out (by omega)).mono ?_
    rintro e w2 ⟨v2, rfl, ho2, hb2⟩
    have HO2 := Lib.hid (ho2.mono HB1.out.size); have HB2 := Lib.hid (HB1.out.trans (hb2.mono HB1.out.size))
    clear ho2 hb2
    go_wp2_with fail
    go_ret2
    exact ⟨_, ret_three (by rw [HM.out]; rfl), by rw [HM.out]; exact HO2.out, HB2.out⟩
  | true =>
    have HVP := Lib.hid hvp
    have HO1 := Lib.hid (show Own 257 encPt _ w1 (.slice x1 n1 c1) p by have := HO1.out; rw [hvp] at this; exact this)
    clear hvp
    have hc1 := HC1.out.cell
    simp only [World.size_alloc] at hc1
    go_wp2_with fail
    refine (implValidName _ q _ HQ1.out HQB.out).mono ?_
    rintro e w2 ⟨rfl, hb2⟩
    have HB2 := Lib.hid (HB1.out.trans (hb2.mono HB1.out.size))
    have HQ2 := Lib.hid (HQ1.out.on hb2); have HV2 := Lib.hid (HV1.out.on hb2); have HC2 := Lib.hid (HC1.out.on hb2); have HO2 := Lib.hid (HO1.out.on hb2)
    clear hc1 hb2
    cases hvn : validN q with
    | false =>
      have HM := Lib.hid (matchB_no2 (p := p) (l := l) hvn)
      clear hvn
      go_wp2_with fail
      refine (cloneBd _ l _ HV2.out (by omega)).mono ?_
      rintro e w3 ⟨v3, rfl, ho3, hb3⟩
      have HO3 := Lib.hid (ho3.mono HB2.out.size); have HB3 := Lib.hid (HB2.out.trans (hb3.mono HB2.out.size))
      clear ho3 hb3
      go_wp2_with fail
      go_ret2
      exact ⟨_, ret_three (by rw [HM.out]; rfl), by rw [HM.out]; exact HO3.out, HB3.out⟩
    | true =>
      have HM := Lib.hid (matchB_yes (l := l) HVP.out hvn)
      have hq6 := (validN_iff.1 hvn).1
      have HQ6 := Lib.hid (show q.length ≤ 100000000 by omega)
      clear hvn hq6
      have hdr : Below w2.heap.size w2 w2.drew := (Below.refl _ _).drew
      have HBd := Lib.hid (HB2.out.trans (hdr.mono HB2.out.size))
      have HQd := Lib.hid (HQ2.out.on hdr); have HVd := Lib.hid (HV2.out.on hdr); have HCd := Lib.hid (HC2.out.on hdr); have HOd := Lib.hid (HO2.out.on hdr)
      clear hdr
      have hcd := HCd.out.cell
      simp only [World.size_alloc] at hcd
      have KS := Lib.hid (show w2.drew.cell? ⟨w.heap.size + 1, 0, none⟩ = some (.slice xq nq cq) ∧ Below w.heap.size w w2.drew from ⟨hcd, HBd.out⟩)
      have HLT := Lib.hid (show w.heap.size + 1 < w2.drew.heap.size from cell_lt hcd)
      clear hcd
      go_wp2_with fail
      go_region_held3 (fun w' => w'.cell? ⟨w.heap.size + 1, 0, none⟩ = some (.slice xq nq cq) ∧ Below w.heap.size w w') (first | exact KS.out | exact keepB KS.out HLT.out (by have := HLT.out; omega) hb3 | exact keepB (keepB KS.out HLT.out (by have := HLT.out; omega) hb3) HLT.out (by have := HLT.out; omega) hb4) ((first | (go_at_call 229; refine (cloneBd _ l _ HVd.out (by omega)).mono ?_; rintro e w3 ⟨v3, rfl, ho3, hb3⟩) | (go_at_call 230; refine (matchParts _ _ _ p q l w2.drew.heap.size _ HVP.out ((Holds.far HOd.out.holds).on hb3) ((Holds.far HQd.out).on hb3) HQ6.out ho3 hb3.size (by omega)).mono ?_; rintro e w4 ⟨v4, rfl, hm4, hb4⟩)))
      have HB3 := Lib.hid (HBd.out.trans (hb3.mono HBd.out.size))
      have HB4 := Lib.hid (HB3.out.trans (hb4.mono HBd.out.size))
      have HS4 := Lib.hid (show w.heap.size ≤ w4.heap.size from HB4.out.size)
      have HV4 := Lib.hid (show HoldsK encBd 2 w4 (.slice x n c) l from (HVd.out.on hb3).belowK HVd.out hb4)
      have HM4 := Lib.hid (fun m hm => OwnK.mono (hm4 m hm) (show w.heap.size ≤ w2.drew.heap.size from HBd.out.size))
      clear ho3 hb3 hm4 hb4
      cases hml : matchL p q l with
      | none =>
        have HMM := Lib.hid (HM.out.trans hml)
        simp only [Option.isSome_none]
        clear hml
        go_wp2_with fail
        refine (cloneBd _ l _ HV4.out (by omega)).mono ?_
        rintro e w5 ⟨v5, rfl, ho5, hb5⟩
        have HO5 := Lib.hid (ho5.mono HS4.out); have HB5 := Lib.hid (HB4.out.trans (hb5.mono HS4.out))
        clear ho5 hb5
        go_wp2_with fail
        go_ret2
        exact ⟨_, ret_three (by rw [HMM.out]; rfl), by rw [HMM.out]; exact HO5.out, HB5.out⟩
      | some m =>
        have HMM := Lib.hid (HM.out.trans hml)
        have HO5 := Lib.hid (HM4.out m hml)
        simp only [Option.isSome_some]
        clear hml
        go_wp2_with fail
        go_ret2
        exact ⟨_, ret_three (by rw [HMM.out]; rfl), by rw [HMM.out]; exact HO5.out, HB4.out⟩

end Go.Proofs.YtcidfmmeonhkhaaGreatDoor.Row
/- Contracts of the model's Match and Matches. No conditions but that lengths fit. -/
namespace Go.Proofs.YtcidfmmeonhkhaaGreatDoor.Row
open Go.ChangeShapes Go.WideShapes Go.ChangeAt Go.RowKit Go.Instr
set_option linter.unusedVariables false
set_option maxRecDepth 100000

theorem _root_.Go.Proofs.YtcidfmmeonhkhaaGreatDoor.Ret.Box.below {w w' : World} {g B : Nat} {u : Value} {t : TypeId} (h : Ret.Box w g u t) (hg : g < B) (hb : Below B w w') : Ret.Box w' g u t := (hb.block g hg).trans h

/-- What Match answers, in one name each. -/
def mOk (p q : List ByteArray) (l : List (ByteArray × ByteArray)) : Bool := (matchB p q l).isSome
def mOut (p q : List ByteArray) (l : List (ByteArray × ByteArray)) : List (ByteArray × ByteArray) := (matchB p q l).getD l
theorem matchL_len : ∀ (p q : List ByteArray) (l m : List (ByteArray × ByteArray)), matchL p q l = some m → m.length ≤ l.length + p.length
  | [], [], l, m, h => by simp [matchL] at h; rw [h]; simp
  | [], _ :: _, l, m, h => by simp [matchL] at h
  | s :: ps, [], l, m, h => by
    unfold matchL at h
    split at h
    · cases h; omega
    · cases h
  | s :: ps, t :: ts, l, m, h => by
    unfold matchL at h
    split at h
    · cases h; omega
    · split at h
      · cases h
      · rename_i hs
        have h1 := stepM_len hs
        have h2 := matchL_len ps ts _ m h
        simp; omega
theorem mOut_len (p q : List ByteArray) (l : List (ByteArray × ByteArray)) : (mOut p q l).length ≤ l.length + 6 := by
  unfold mOut matchB
  split
  · rename_i h
    cases hm : matchL p q l with
    | none => simp
    | some m =>
      have h1 := matchL_len p q l m hm
      have h2 := (validPat_iff.1 h.1).1
      simp; omega
  · simp
theorem implMatchX (vp vq v : Value) (p q : List ByteArray) (l : List (ByteArray × ByteArray)) (w : World) (hp : Holds Value.string w vp p) (hq : Holds Value.string w vq q) (hv : HoldsK encBd 2 w v l) (hpb : bulk p ≤ 100000000) (hqb : bulk q ≤ 100000000) (hl : l.length ≤ 2000000) :
    Calls Tryz.prog 220 #[.agg #[vp], .agg #[vq], v] w fun e w' => ∃ v', e = .returned (.tuple #[v', .bool (mOk p q l)]) ∧ OwnK 255 encBd 2 w.heap.size w' v' (mOut p q l) ∧ Below w.heap.size w w' :=
  implMatch vp vq v p q l w hp hq hv hpb hqb hl
end Go.Proofs.YtcidfmmeonhkhaaGreatDoor.Row
