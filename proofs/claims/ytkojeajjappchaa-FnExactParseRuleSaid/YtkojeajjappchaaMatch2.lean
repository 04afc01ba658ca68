/- Contracts of Match and Matches, the program's and the model's. No conditions but that lengths fit. -/
import Derived.Test.YtkojeajjappchaaMatch
import Derived.Test.YtkojeajjappchaaValid
namespace Go.Proofs.Ytkojeajjappchaa.Row
open Go.ChangeShapes Go.WideShapes Go.ChangeAt Go.RowKit Go.Instr
set_option linter.unusedVariables false
set_option maxRecDepth 100000

def matchB (p q : List ByteArray) (l : List (ByteArray × ByteArray)) : Option (List (ByteArray × ByteArray)) := if validPat p = true ∧ validN q = true then matchL p q l else none
theorem matchB_no1 {p q : List ByteArray} {l : List (ByteArray × ByteArray)} (h : validPat p = false) : matchB p q l = none := if_neg (by rw [h]; simp)
theorem matchB_no2 {p q : List ByteArray} {l : List (ByteArray × ByteArray)} (h : validN q = false) : matchB p q l = none := if_neg (by rw [h]; simp)
theorem matchB_yes {p q : List ByteArray} {l : List (ByteArray × ByteArray)} (h1 : validPat p = true) (h2 : validN q = true) : matchB p q l = matchL p q l := if_pos ⟨h1, h2⟩
theorem keepB {B : Nat} {W w1 w2 : World} {a : Addr} {u : Value} (h : w1.cell? a = some u ∧ Below W.heap.size W w1) (ha : a.block < B) (hW : W.heap.size ≤ B) (hb : Below B w1 w2) : w2.cell? a = some u ∧ Below W.heap.size W w2 :=
  ⟨by rw [hb.cell ha]; exact h.1, h.2.trans (hb.mono hW)⟩

theorem HoldsK.belowK {α : Type} {enc : α → List Value} {sz : Nat} {w w1 w2 : World} {v : Value} {l : List α} (h : HoldsK enc sz w1 v l) (h0 : HoldsK enc sz w v l) (hb : Below w.heap.size w1 w2) : HoldsK enc sz w2 v l := by
  obtain ⟨x, cap, rfl, hc, hh⟩ := h
  obtain ⟨x', cap', hv', hc', hh'⟩ := h0
  cases hv'
  refine ⟨x, cap, rfl, hc, ?_⟩
  rcases hh with h1 | ⟨b, off, hx, h2⟩
  · exact Or.inl h1
  · rcases hh' with h1 | ⟨b', off', hx', h2'⟩
    · exact Or.inl h1
    · rw [hx] at hx'
      cases hx'
      refine Or.inr ⟨b, off, hx, fun j hj => ?_⟩
      obtain ⟨u, h3, h4⟩ := h2 j hj
      obtain ⟨u', h3', h4'⟩ := h2' j hj
      exact ⟨u, h3, by rw [hb.cell (p := ⟨b, off + j, none⟩) (cell_lt h4')]; exact h4⟩

set_option maxHeartbeats 2000000 in
theorem implMatch (vp vq v : Value) (p q : List ByteArray) (l : List (ByteArray × ByteArray)) (w : World) (hp : Holds Value.string w vp p) (hq : Holds Value.string w vq q) (hv : HoldsK encBd 2 w v l) (hpb : bulk p ≤ 100000000) (hqb : bulk q ≤ 100000000) (hl : l.length ≤ 2000000) :
    Calls Try.prog 74 #[.agg #[vp], .agg #[vq], v] w (GivesStep w.heap.size w l (matchB p q l)) := by
  obtain ⟨xp, np, cp, rfl, hnp, hcp, hp⟩ := hp.shapeN
  obtain ⟨xq, nq, cq, rfl, hnq, hcq, hq⟩ := hq.shapeN
  obtain ⟨x, n, c, rfl, hn, hc, hv⟩ := hv.shapeN
  have b0 := ((Below.refl w.heap.size w).alloc (Nat.le_refl _) (.cells #[.slice xp np cp] 29)).alloc (by simp) (.cells #[.slice xq nq cq] 45)
  have HP := Lib.hid (hp.on b0); have HQ := Lib.hid (hq.on b0); have HV := Lib.hid (hv.on b0)
  have HC := Lib.hid (Ret.Box.new (w.alloc (.cells #[.slice xp np cp] 29)) (.slice xq nq cq) 45)
  have HB0 := Lib.hid b0; have HPB := Lib.hid hpb; have HQB := Lib.hid hqb
  clear hp hq hv b0 hnp hnq hn hpb hqb
  go_enter Try.func74, Try.ntmps74
  go_wp2_with fail
  refine (readParts _ p _ HP.out HPB.out).mono ?_
  rintro e w1 ⟨v1, rfl, ho1, hb1⟩
  obtain ⟨x1, n1, c1, rfl, hn1, hc1, ho1⟩ := ho1.shapeN
  have HB1 := Lib.hid (HB0.out.trans (hb1.mono HB0.out.size))
  have HQ1 := Lib.hid (HQ.out.on hb1); have HV1 := Lib.hid (HV.out.on hb1); have HC1 := Lib.hid (HC.out.on hb1)
  have HO1 := Lib.hid ho1
  clear ho1 hb1 hn1
  cases hvp : validPat p with
  | false =>
    have HM := Lib.hid (matchB_no1 (q := q) (l := l) hvp)
    clear hvp
    go_wp2_with fail
    refine (cloneBd _ l _ HV1.out (by omega)).mono ?_
    rintro e w2 ⟨v2, rfl, ho2, hb2⟩
    have HO2 := Lib.hid (ho2.mono HB1.out.size); have HB2 := Lib.hid (HB1.out.trans (hb2.mono HB1.out.size))
    clear ho2 hb2
    go_wp2_with fail
    go_ret2
    exact ⟨_, ret_three (by rw [HM.out]; rfl), by rw [HM.out]; exact HO2.out, HB2.out⟩
  | true =>
    have HVP := Lib.hid hvp
    have HO1 := Lib.hid (show Own 96 encPt _ w1 (.slice x1 n1 c1) p by have := HO1.out; rw [hvp] at this; exact this)
    clear hvp
    have hc1 := HC1.out.cell
    simp only [World.size_alloc] at hc1
    go_wp2_with fail
    refine (implValidName _ q _ HQ1.out HQB.out).mono ?_
    rintro e w2 ⟨rfl, hb2⟩
    have HB2 := Lib.hid (HB1.out.trans (hb2.mono HB1.out.size))
    have HQ2 := Lib.hid (HQ1.out.on hb2); have HV2 := Lib.hid (HV1.out.on hb2); have HC2 := Lib.hid (HC1.out.on hb2); have HO2 := Lib.hid (HO1.out.on hb2)
    clear hc1 hb2
    cases hvn : validN q with
    | false =>
      have HM := Lib.hid (matchB_no2 (p := p) (l := l) hvn)
      clear hvn
      go_wp2_with fail
      refine (cloneBd _ l _ HV2.out (by omega)).mono ?_
      rintro e w3 ⟨v3, rfl, ho3, hb3⟩
      have HO3 := Lib.hid (ho3.mono HB2.out.size); have HB3 := Lib.hid (HB2.out.trans (hb3.mono HB2.out.size))
      clear ho3 hb3
      go_wp2_with fail
      go_ret2
      exact ⟨_, ret_three (by rw [HM.out]; rfl), by rw [HM.out]; exact HO3.out, HB3.out⟩
    | true =>
      have HM := Lib.hid (matchB_yes (l := l) HVP.out hvn)
      have hq6 := (validN_iff.1 hvn).1
      have HQ6 := Lib.hid (show q.length ≤ 100000000 by omega)
      clear hvn hq6
      have hdr : Below w2.heap.size w2 w2.drew := (Below.refl _ _).drew
      have HBd := Lib.hid (HB2.out.trans (hdr.mono HB2.out.size))
      have HQd := Lib.hid (HQ2.out.on hdr); have HVd := Lib.hid (HV2.out.on hdr); have HCd := Lib.hid (HC2.out.on hdr); have HOd := Lib.hid (HO2.out.on hdr)
      clear hdr
      have hcd := HCd.out.cell
      simp only [World.size_alloc] at hcd
      have KS := Lib.hid (show w2.drew.cell? ⟨w.heap.size + 1, 0, none⟩ = some (.slice xq nq cq) ∧ Below w.heap.size w w2.drew from ⟨hcd, HBd.out⟩)
      have HLT := Lib.hid (show w.heap.size + 1 < w2.drew.heap.size from cell_lt hcd)
      clear hcd
      go_wp2_with fail
      go_region_held3 (fun w' => w'.cell? ⟨w.heap.size + 1, 0, none⟩ = some (.slice xq nq cq) ∧ Below w.heap.size w w') (first | exact KS.out | exact keepB KS.out HLT.out (by have := HLT.out; omega) hb3 | exact keepB (keepB KS.out HLT.out (by have := HLT.out; omega) hb3) HLT.out (by have := HLT.out; omega) hb4) ((first | (go_at_call 88; refine (cloneBd _ l _ HVd.out (by omega)).mono ?_; rintro e w3 ⟨v3, rfl, ho3, hb3⟩) | (go_at_call 89; refine (matchParts _ _ _ p q l w2.drew.heap.size _ HVP.out ((Holds.far HOd.out.holds).on hb3) ((Holds.far HQd.out).on hb3) HQ6.out ho3 hb3.size (by omega)).mono ?_; rintro e w4 ⟨v4, rfl, hm4, hb4⟩)))
      have HB3 := Lib.hid (HBd.out.trans (hb3.mono HBd.out.size))
      have HB4 := Lib.hid (HB3.out.trans (hb4.mono HBd.out.size))
      have HS4 := Lib.hid (show w.heap.size ≤ w4.heap.size from HB4.out.size)
      have HV4 := Lib.hid (show HoldsK encBd 2 w4 (.slice x n c) l from (HVd.out.on hb3).belowK HVd.out hb4)
      have HM4 := Lib.hid (fun m hm => OwnK.mono (hm4 m hm) (show w.heap.size ≤ w2.drew.heap.size from HBd.out.size))
      clear ho3 hb3 hm4 hb4
      cases hml : matchL p q l with
      | none =>
        have HMM := Lib.hid (HM.out.trans hml)
        simp only [Option.isSome_none]
        clear hml
        go_wp2_with fail
        refine (cloneBd _ l _ HV4.out (by omega)).mono ?_
        rintro e w5 ⟨v5, rfl, ho5, hb5⟩
        have HO5 := Lib.hid (ho5.mono HS4.out); have HB5 := Lib.hid (HB4.out.trans (hb5.mono HS4.out))
        clear ho5 hb5
        go_wp2_with fail
        go_ret2
        exact ⟨_, ret_three (by rw [HMM.out]; rfl), by rw [HMM.out]; exact HO5.out, HB5.out⟩
      | some m =>
        have HMM := Lib.hid (HM.out.trans hml)
        have HO5 := Lib.hid (HM4.out m hml)
        simp only [Option.isSome_some]
        clear hml
        go_wp2_with fail
        go_ret2
        exact ⟨_, ret_three (by rw [HMM.out]; rfl), by rw [HMM.out]; exact HO5.out, HB4.out⟩

end Go.Proofs.Ytkojeajjappchaa.Row
