/- Contracts and mathematics, joined: Match3, Split, Shelf, Form. No conditions but those that each states. -/
import Derived.Test.YtkojeajjappchaaGreatB4
import Derived.Test.YtkojeajjappchaaGreatB3
import Derived.Lib.OthersKept
import Derived.Shelf.Strings.Builder1
import Derived.Shelf.Strings.Builder2
import Derived.Shelf.Strings.OnBuilder
import Derived.Shelf.Strings.Search1
import Derived.Shelf.Strings.Search2
import Derived.Shelf.Strings.Cut
import Derived.Shelf.LaysM
import Derived.Shelf.Strings.Shaped
import Derived.Shelf.Slices.Equal
import Derived.Shelf.Slices.Empties2
import Derived.Test.YtkojeajjappchaaGreatProg
/- Contracts of the model's Match and Matches. No conditions but that lengths fit. -/
namespace Go.Proofs.YtkojeajjappchaaGreat.Row
open Go.ChangeShapes Go.WideShapes Go.ChangeAt Go.RowKit Go.Instr
set_option linter.unusedVariables false
set_option maxRecDepth 100000

theorem OwnK.belowB {α : Type} {e : TypeId} {enc : α → List Value} {sz B B' : Nat} {w w' : World} {v : Value} {l : List α} (h : OwnK e enc sz B w v l) (hlt : ∀ g, v.ownBlock = some g → g < B') (hb : Below B' w w') : OwnK e enc sz B w' v l := by
  refine ⟨h.1, ?_⟩
  rcases h.2 with h2 | ⟨g, cap, cur, rfl, hg, hh, r⟩
  · exact Or.inl h2
  · exact Or.inr ⟨g, cap, cur, rfl, hg, (hb.block g (hlt g rfl)).trans hh, r⟩
theorem _root_.Go.Proofs.YtkojeajjappchaaGreat.Ret.Box.below {w w' : World} {g B : Nat} {u : Value} {t : TypeId} (h : Ret.Box w g u t) (hg : g < B) (hb : Below B w w') : Ret.Box w' g u t := (hb.block g hg).trans h

set_option maxHeartbeats 4000000 in
theorem specMatch (vp vq v : Value) (p q : List ByteArray) (l : List (ByteArray × ByteArray)) (w : World) (hp : Holds Value.string w vp p) (hq : Holds Value.string w vq q) (hv : HoldsK encBd 2 w v l) (hpb : bulk p ≤ 100000000) (hqb : bulk q ≤ 100000000) (hl : l.length ≤ 2000000) :
    Calls Tryz.prog 40 #[.agg #[vp], .agg #[vq], v] w (GivesStep w.heap.size w l (matchB p q l)) := by
  obtain ⟨xp, np, cp, rfl, hnp, hcp, hp⟩ := hp.shapeN
  obtain ⟨xq, nq, cq, rfl, hnq, hcq, hq⟩ := hq.shapeN
  obtain ⟨x, n, c, rfl, hn, hc, hv⟩ := hv.shapeN
  have HSZ := Lib.hid (fun k (hk : k < p.length) => size_nth hpb hk)
  have hpl := bigLen hpb
  have hql := bigLen hqb
  rw [← hnp] at hpl
  rw [← hnq] at hql
  have HP := Lib.hid hp; have HQ := Lib.hid hq; have HV := Lib.hid hv; have HPB := Lib.hid hpb; have HQB := Lib.hid hqb; have HNP := Lib.hid hnp; have HNQ := Lib.hid hnq
  have HB0 := Lib.hid (((Below.refl w.heap.size w).alloc (Nat.le_refl _) (.cells #[.slice xp np cp] 26)).alloc (by simp) (.cells #[.slice xq nq cq] 29))
  have HCP0 := Lib.hid ((Ret.Box.new w (.slice xp np cp) 26).on ((Below.refl _ _).alloc (Nat.le_refl _) (.cells #[.slice xq nq cq] 29)))
  have HCQ0 := Lib.hid (Ret.Box.new' (w := w.alloc (.cells #[.slice xp np cp] 26)) (.slice xq nq cq) 29 (n := w.heap.size + 1) (by simp))
  clear hp hq hv hnp hnq hn hpb hqb
  have b1 := (Below.refl ((w.alloc (.cells #[.slice xp np cp] 26)).alloc (.cells #[.slice xq nq cq] 29)).heap.size ((w.alloc (.cells #[.slice xp np cp] 26)).alloc (.cells #[.slice xq nq cq] 29))).alloc (Nat.le_refl _) (.cells #[] 88)
  have HO0 : Hid (OwnK 88 encBd 2 (w.heap.size + 1 + 1) (((w.alloc (.cells #[.slice xp np cp] 26)).alloc (.cells #[.slice xq nq cq] 29)).alloc (.cells #[] 88)) (.slice (some ⟨w.heap.size + 1 + 1, 0, none⟩) 0 0) []) := Lib.hid (by simpa using ownK_empty encBd 2 88 ((w.alloc (.cells #[.slice xp np cp] 26)).alloc (.cells #[.slice xq nq cq] 29)))
  have HB1 := Lib.hid (HB0.out.trans (b1.mono HB0.out.size))
  have HCP1 := Lib.hid (HCP0.out.on b1); have HCQ1 := Lib.hid (HCQ0.out.on b1)
  clear b1
  go_enter Tryz.func40, Tryz.ntmps40
  go_wp2_with (at_builtin; refine wpList_appK kindBd (B := w.heap.size + 1 + 1) (l := []) (m := l) rfl _ _ rfl Tryz.underlying69 rfl rfl HO0.out (HV.out.on HB1.out) (by simp; omega) (by unfold maxLen; simp; omega) (by simp) ?_)
  intro vN w2 hoN hgN
  have HB2 := Lib.hid (HB1.out.grown hgN HB1.out.size (fun g hh => by have := (HO0.out.lt g hh).1; omega))
  have HCP2 := Lib.hid (HCP1.out.grown hgN (fun e => by have := (HO0.out.lt _ e.symm).1; omega))
  have HCQ2 := Lib.hid (HCQ1.out.grown hgN (fun e => by have := (HO0.out.lt _ e.symm).1; omega))
  obtain ⟨xN, nN, cN, rfl, hnN, hcN, hoN⟩ := hoN.shapeN
  have HON := Lib.hid (hoN.mono (show w.heap.size ≤ w.heap.size + 1 + 1 by omega))
  clear hoN hgN hnN
  have hcp2 := HCP2.out.cell
  go_wp2_with fail
  refine (specValidPattern _ p _ (HP.out.on HB2.out) HPB.out).mono ?_
  rintro e w3 ⟨rfl, hb3⟩
  have HB3 := Lib.hid (HB2.out.trans (hb3.mono HB2.out.size))
  have HCP3 := Lib.hid (HCP2.out.on hb3); have HCQ3 := Lib.hid (HCQ2.out.on hb3); have HON3 := Lib.hid (HON.out.on hb3)
  clear hcp2 hb3
  cases hvp : validPat p with
  | false =>
    have HM := Lib.hid (matchB_no1 (q := q) (l := l) hvp)
    clear hvp
    go_wp2_with fail
    go_ret2
    exact ⟨_, ret_three (by rw [HM.out]; rfl), by rw [HM.out]; exact HON3.out, HB3.out⟩
  | true =>
  have HVP := Lib.hid hvp
  clear hvp
  have hcq3 := HCQ3.out.cell
  go_wp2_with fail
  refine (specValidName _ q _ (HQ.out.on HB3.out) HQB.out).mono ?_
  rintro e w4 ⟨rfl, hb4⟩
  have HB4 := Lib.hid (HB3.out.trans (hb4.mono HB3.out.size))
  have HCP4 := Lib.hid (HCP3.out.on hb4); have HCQ4 := Lib.hid (HCQ3.out.on hb4); have HON4 := Lib.hid (HON3.out.on hb4)
  clear hcq3 hb4
  cases hvn : validN q with
  | false =>
    have HM := Lib.hid (matchB_no2 (p := p) (l := l) hvn)
    clear hvn
    go_wp2_with fail
    go_ret2
    exact ⟨_, ret_three (by rw [HM.out]; rfl), by rw [HM.out]; exact HON4.out, HB4.out⟩
  | true =>
  have HM := Lib.hid (matchB_yes (l := l) HVP.out hvn)
  have hp6 := (validPat_iff.1 HVP.out).1
  rw [← HNP.out] at hp6
  clear hvn
  have HE := Lib.hid (ownK_empty encBd 2 88 w4)
  have HB5 := Lib.hid (HB4.out.alloc HB4.out.size (.cells #[] 88))
  have HCP5 := Lib.hid (HCP4.out.on ((Below.refl _ _).alloc (Nat.le_refl _) (.cells #[] 88))); have HCQ5 := Lib.hid (HCQ4.out.on ((Below.refl _ _).alloc (Nat.le_refl _) (.cells #[] 88))); have HON5 := Lib.hid (HON4.out.on ((Below.refl _ _).alloc (Nat.le_refl _) (.cells #[] 88)))
  have HNB := Lib.hid (fun g hg => (HON4.out.lt g hg).2)
  have HPL := Lib.hid (show w.heap.size < w4.heap.size ∧ w.heap.size + 1 < w4.heap.size from ⟨HCP4.out.lt, HCQ4.out.lt⟩)
  go_wp2_with (at_builtin; refine wpList_appK kindBd (B := w4.heap.size) (l := []) (m := l) rfl _ _ rfl Tryz.underlying69 rfl rfl HE.out (HV.out.on HB5.out) (by simp; omega) (by unfold maxLen; simp; omega) (by simp) ?_)
  intro vO w6 hoO hgO
  have HB6 := Lib.hid (HB5.out.grown hgO HB5.out.size (fun g hh => by have := (HE.out.lt g hh).1; have := HPL.out.1; omega))
  have HCP6 := Lib.hid (HCP5.out.grown hgO (fun e => by have := (HE.out.lt _ e.symm).1; have := HPL.out.1; omega))
  have HCQ6 := Lib.hid (HCQ5.out.grown hgO (fun e => by have := (HE.out.lt _ e.symm).1; have := HPL.out.2; omega))
  have HON6 := Lib.hid (HON5.out.belowB HNB.out ((Below.refl w4.heap.size _).grown hgO (by simp) (fun g hh => (HE.out.lt g hh).1)))
  have HZ6 : w4.heap.size ≤ w6.heap.size := by have := hgO.size; simp at this; omega
  have HO6 := Lib.hid hoO
  clear hoO hgO
  go_wp2_with fail
  clear HB5 HCP5 HCQ5 HON5 HB4 HCP4 HCQ4 HON4 HB3 HCP3 HCQ3 HON3 HB2 HCP2 HCQ2 HB1 HCP1 HCQ1 HB0 HCP0 HCQ0 HO0 HE HPB HQB HV hv hp hq
  go_loopw [9, 10] (fun ov iv wr => ∃ (k m : Nat) (cur : List (ByteArray × ByteArray)), k ≤ np ∧ k ≤ nq ∧ iv = .int .i64 k ∧ m ≤ 2000000 + k ∧ Hid (cur.length = m) ∧ Hid (matchL (p.drop k) (q.drop k) cur = matchL p q l) ∧ Hid (OwnK 88 encBd 2 w4.heap.size wr ov cur) ∧ Hid (OwnK 88 encBd 2 w.heap.size wr (.slice xN nN cN) l) ∧ Hid (Ret.Box wr w.heap.size (.slice xp np cp) 26) ∧ Hid (Ret.Box wr (w.heap.size + 1) (.slice xq nq cq) 29) ∧ Hid (Below w.heap.size w wr) ∧ w4.heap.size ≤ wr.heap.size) (fun _ iv _ => np - (intOf iv).toNat)
  case atStart => exact ⟨0, l.length, l, Nat.zero_le _, Nat.zero_le _, rfl, by omega, Lib.hid rfl, Lib.hid rfl, HO6, HON6, HCP6, HCQ6, HB6, HZ6⟩
  case round =>
    obtain ⟨k, m, cur, hk, hkq, rfl, hm, hml, hI, ho, hon, hcp, hcq, hb, hz⟩ := hrel
    have hcpc := hcp.out.cell
    have hcqc := hcq.out.cell
    have HOW := Lib.hid (ho.out.mono (show w.heap.size ≤ w4.heap.size by have := HPL.out.1; omega))
    by_cases hlt : k < np
    · have hkp : k < p.length := by have := HNP.out; omega
      obtain ⟨b, off, rfl, hc⟩ := (HP.out.on hb.out).at hkp
      by_cases hr : nth p k = star2B
      · have HMM := Lib.hid ((hI.out).symm.trans (matchL_rest hkp hr))
        have hq2 : ((nth p k).toList == [42, 42]) = true := star2_yes hr
        clear hkp hr
        go_wp2_with fail
        go_ret2
        exact ⟨_, ret_three (by rw [HM.out, HMM.out]; rfl), by rw [HM.out, HMM.out]; exact HOW.out, hb.out⟩
      · have hq2 : ((nth p k).toList == [42, 42]) = false := star2_no hr
        have HR := Lib.hid hr; have HKP := Lib.hid hkp
        clear hr hkp
        by_cases hlq : k < nq
        · have hkq2 : k < q.length := by have := HNQ.out; omega
          obtain ⟨b', off', rfl, hd⟩ := (HQ.out.on hb.out).at hkq2
          have HKQ := Lib.hid hkq2
          have HNO := Lib.hid (fun (h : stepM (nth p k) (nth q k) cur = none) => HM.out.trans ((hI.out).symm.trans (matchL_no HKP.out HR.out HKQ.out h)))
          have HON := Lib.hid (fun nx (h : stepM (nth p k) (nth q k) cur = some nx) => (matchL_on HKP.out HR.out HKQ.out h).symm.trans hI.out)
          clear hkq2
          by_cases hs : nth p k = starB
          · have hq1 : ((nth p k).toList == [42]) = true := star_yes hs
            have HI2 := Lib.hid (HON.out cur (stepM_any hs))
            clear hs
            go_wp2_with fail
            go_roundw
            case rel => exact ⟨k + 1, m, cur, by omega, by omega, by go_num, by omega, hml, HI2, ho, hon, hcp, hcq, hb, hz⟩
            case measure => simp [intOf]; omega
          · have hq1 : ((nth p k).toList == [42]) = false := star_no hs
            have HS := Lib.hid hs
            clear hs
            cases hx : letterP (nth p k) with
            | true =>
              have HX := Lib.hid hx
              have HST := Lib.hid (stepM_var (t := nth q k) (l := cur) hx)
              clear hx
              obtain ⟨x9, n9, c9, rfl, hn8, hc9, -⟩ := ho.out.shapeN
              have hn9 : n9 = m := hn8.trans hml.out
              clear hn8
              subst hn9
              go_wp2_with fail
              refine (l5Letter _ _ (by have := HSZ.out k HKP.out; omega)).mono ?_
              rintro e w7 ⟨rfl, rfl⟩
              rw [HX.out]
              go_wp2_with fail
              refine (l5Find _ cur _ _ ho.out.holds (by rw [hml.out]; omega)).mono ?_
              rintro e w7 ⟨rfl, hw7⟩
              subst hw7
              rcases ixB_cases cur (nth p k) with ⟨h1, -, h2⟩ | ⟨i, hi, h1, h3, h2⟩
              · rw [h1]
                have HI2 := Lib.hid (HON.out (cur ++ [(nth p k, nth q k)]) (by rw [HST.out, if_neg h2]))
                have HA := Lib.hid (ho.out.on ((Below.refl _ _).alloc (Nat.le_refl _) (.cells #[.string (nth p k), .string (nth q k)] 88)))
                have HAB := Lib.hid (hb.out.alloc hb.out.size (.cells #[.string (nth p k), .string (nth q k)] 88))
                have HA4 := Lib.hid ((Below.refl w4.heap.size wr).alloc hz (.cells #[.string (nth p k), .string (nth q k)] 88))
                clear h1 h2
                go_wp2_with (at_builtin; refine wpList_appK kindBd (B := w4.heap.size) (l := cur) (m := [(nth p k, nth q k)]) rfl _ _ rfl Tryz.underlying69 rfl rfl HA.out (holdsK_one szBd 88 _ (nth p k, nth q k)) (by rw [hml.out]; simp; omega) (by rw [hml.out]; unfold maxLen; simp; omega) (by simp; omega) ?_)
                intro v8 w8 ho8 hg8
                have hb8 := HA4.out.grown hg8 (by simp; omega) (fun g hh => (HA.out.lt g hh).1)
                have HO8 := Lib.hid ho8
                have HON8 := Lib.hid (hon.out.belowB HNB.out hb8)
                have HCP8 := Lib.hid (hcp.out.below HPL.out.1 hb8); have HCQ8 := Lib.hid (hcq.out.below HPL.out.2 hb8)
                have HB8 := Lib.hid (hb.out.trans (hb8.mono (by have := HPL.out.1; omega)))
                have hz8 : w4.heap.size ≤ w8.heap.size := Nat.le_trans hz hb8.size
                have HL8 := Lib.hid (show (cur ++ [(nth p k, nth q k)]).length = n9 + 1 by rw [List.length_append, hml.out]; rfl)
                clear ho8 hg8 hb8
                go_wp2_with fail
                go_roundw
                case rel => exact ⟨k + 1, n9 + 1, _, by omega, by omega, by go_num, by omega, HL8, HI2, HO8, HON8, HCP8, HCQ8, HB8, hz8⟩
                case measure => simp [intOf]; omega
              · rw [h1]
                obtain ⟨b9, off9, rfl, -, hc2⟩ := bdAt ho.out.holds (k := i) hi
                have hi2 : i < n9 := by have := hml.out; omega
                by_cases he : (nth cur i).2 = nth q k
                · have HI2 := Lib.hid (HON.out cur (by rw [HST.out, h3, if_pos hi, if_pos he]))
                  have ht := tl_eq he
                  clear h1 h2 h3 hi he
                  go_wp2_with fail
                  go_quiet (fail)
                  go_wp2_with fail
                  go_roundw
                  case rel => exact ⟨k + 1, n9, cur, by omega, by omega, by go_num, by omega, hml, HI2, Lib.hid (ho.out.on (below_drewN (Below.refl _ _) _)), Lib.hid (hon.out.on (below_drewN (Below.refl _ _) _)), Lib.hid (hcp.out.on (below_drewN (Below.refl _ _) _)), Lib.hid (hcq.out.on (below_drewN (Below.refl _ _) _)), Lib.hid (below_drewN hb.out _), hz⟩
                  case measure => simp [intOf]; omega
                · have HMM := Lib.hid (HNO.out (by rw [HST.out, h3, if_pos hi, if_neg he]))
                  have ht := tl_ne he
                  clear h1 h2 h3 hi he
                  go_wp2_with fail
                  go_quiet (fail)
                  go_wp2_with fail
                  go_ret2
                  exact ⟨_, ret_three (by rw [HMM.out]; rfl), by rw [HMM.out]; exact hon.out.on (below_drewN (Below.refl _ _) _), below_drewN hb.out _⟩
            | false =>
              have HX := Lib.hid hx
              have HST := Lib.hid (show stepM (nth p k) (nth q k) cur = if nth p k = nth q k then some cur else none by unfold stepM; rw [if_neg HS.out, if_neg (by rw [hx]; simp)])
              clear hx
              by_cases he : nth p k = nth q k
              · have HI2 := Lib.hid (HON.out cur (by rw [HST.out, if_pos he]))
                have ht := tl_eq he
                clear he
                go_wp2_with fail
                refine (l5Letter _ _ (by have := HSZ.out k HKP.out; omega)).mono ?_
                rintro e w7 ⟨rfl, rfl⟩
                rw [HX.out]
                go_wp2_with fail
                go_roundw
                case rel => exact ⟨k + 1, m, cur, by omega, by omega, by go_num, by omega, hml, HI2, ho, hon, hcp, hcq, hb, hz⟩
                case measure => simp [intOf]; omega
              · have HMM := Lib.hid (HNO.out (by rw [HST.out, if_neg he]))
                have ht := tl_ne he
                clear he
                go_wp2_with fail
                refine (l5Letter _ _ (by have := HSZ.out k HKP.out; omega)).mono ?_
                rintro e w7 ⟨rfl, rfl⟩
                rw [HX.out]
                go_wp2_with fail
                go_ret2
                exact ⟨_, ret_three (by rw [HMM.out]; rfl), by rw [HMM.out]; exact hon.out, hb.out⟩
        · obtain rfl : k = nq := by omega
          have HMM := Lib.hid (HM.out.trans ((hI.out).symm.trans (matchL_short HKP.out HR.out (by have := HNQ.out; omega))))
          clear hlq
          go_wp2_with fail
          go_ret2
          exact ⟨_, ret_three (by rw [HMM.out]; rfl), by rw [HMM.out]; exact hon.out, hb.out⟩
    · obtain rfl : k = np := by omega
      have HMM := Lib.hid (HM.out.trans ((hI.out).symm.trans (show matchL (p.drop k) (q.drop k) cur = if q.length = p.length then some cur else none by
        have e := matchL_end (p := p) (q := q) (l := cur) (by have := HNP.out; have := HNQ.out; omega)
        rw [← HNP.out] at e
        rw [← HNP.out]; exact e)))
      clear hlt
      by_cases he : nq = k
      · have ht : (((nq : Nat) : Int) != ((k : Nat) : Int)) = false := by simp [he]
        have HM2 := Lib.hid (HMM.out.trans (if_pos (by have := HNP.out; have := HNQ.out; omega)))
        clear he
        go_wp2_with fail
        go_ret2
        exact ⟨_, ret_three (by rw [HM2.out]; rfl), by rw [HM2.out]; exact HOW.out, hb.out⟩
      · have ht : (((nq : Nat) : Int) != ((k : Nat) : Int)) = true := by simp; omega
        have HM2 := Lib.hid (HMM.out.trans (if_neg (by have := HNP.out; have := HNQ.out; omega)))
        clear he
        go_wp2_with fail
        go_ret2
        exact ⟨_, ret_three (by rw [HM2.out]; rfl), by rw [HM2.out]; exact hon.out, hb.out⟩

/-- What Match answers, in one name each. -/
def mOk (p q : List ByteArray) (l : List (ByteArray × ByteArray)) : Bool := (matchB p q l).isSome
def mOut (p q : List ByteArray) (l : List (ByteArray × ByteArray)) : List (ByteArray × ByteArray) := (matchB p q l).getD l
theorem matchL_len : ∀ (p q : List ByteArray) (l m : List (ByteArray × ByteArray)), matchL p q l = some m → m.length ≤ l.length + p.length
  | [], [], l, m, h => by simp [matchL] at h; rw [h]; simp
  | [], _ :: _, l, m, h => by simp [matchL] at h
  | s :: ps, [], l, m, h => by
    unfold matchL at h
    split at h
    · cases h; omega
    · cases h
  | s :: ps, t :: ts, l, m, h => by
    unfold matchL at h
    split at h
    · cases h; omega
    · split at h
      · cases h
      · rename_i hs
        have h1 := stepM_len hs
        have h2 := matchL_len ps ts _ m h
        simp; omega
theorem mOut_len (p q : List ByteArray) (l : List (ByteArray × ByteArray)) : (mOut p q l).length ≤ l.length + 6 := by
  unfold mOut matchB
  split
  · rename_i h
    cases hm : matchL p q l with
    | none => simp
    | some m =>
      have h1 := matchL_len p q l m hm
      have h2 := (validPat_iff.1 h.1).1
      simp; omega
  · simp
theorem implMatchX (vp vq v : Value) (p q : List ByteArray) (l : List (ByteArray × ByteArray)) (w : World) (hp : Holds Value.string w vp p) (hq : Holds Value.string w vq q) (hv : HoldsK encBd 2 w v l) (hpb : bulk p ≤ 100000000) (hqb : bulk q ≤ 100000000) (hl : l.length ≤ 2000000) :
    Calls Tryz.prog 61 #[.agg #[vp], .agg #[vq], v] w fun e w' => ∃ v', e = .returned (.tuple #[v', .bool (mOk p q l)]) ∧ OwnK 88 encBd 2 w.heap.size w' v' (mOut p q l) ∧ Below w.heap.size w w' :=
  implMatch vp vq v p q l w hp hq hv hpb hqb hl
theorem specMatchX (vp vq v : Value) (p q : List ByteArray) (l : List (ByteArray × ByteArray)) (w : World) (hp : Holds Value.string w vp p) (hq : Holds Value.string w vq q) (hv : HoldsK encBd 2 w v l) (hpb : bulk p ≤ 100000000) (hqb : bulk q ≤ 100000000) (hl : l.length ≤ 2000000) :
    Calls Tryz.prog 40 #[.agg #[vp], .agg #[vq], v] w fun e w' => ∃ v', e = .returned (.tuple #[v', .bool (mOk p q l)]) ∧ OwnK 88 encBd 2 w.heap.size w' v' (mOut p q l) ∧ Below w.heap.size w w' :=
  specMatch vp vq v p q l w hp hq hv hpb hqb hl
end Go.Proofs.YtkojeajjappchaaGreat.Row
/- Contracts of the functions that split a text at its slashes, the program's (without the empty pieces, rune by rune) and the reference model's (all pieces, byte by byte). No conditions but that lengths fit. -/
namespace Go.Proofs.YtkojeajjappchaaGreat.Row
open Go.ChangeShapes Go.WideShapes Go.ChangeAt Go.RowKit Go.Instr
set_option linter.unusedVariables false
set_option maxRecDepth 100000

theorem natne {a b : Nat} (h : a ≠ b) : ((a : Int) == (b : Int)) = false := beq_eq_false_iff_ne.2 (by omega)
theorem nat47 {x : Nat} (h : x ≠ 47) : ((x : Int) == 47) = false := beq_eq_false_iff_ne.2 (by omega)
theorem byte47 {c : UInt8} : c = 47 ↔ c.toNat = 47 := by
  constructor
  · rintro rfl; rfl
  · intro h; apply UInt8.toNat_inj.1; rw [h]; rfl

/-- Where the reference model's loop stands: the pieces so far, and the rest. -/
def SpI (s : ByteArray) (k f : Nat) (L : List ByteArray) : Prop :=
  (k ≤ s.size → splitB s = L ++ (goS (seg s f k) (rest s k)).map mk) ∧ (k = s.size + 1 → splitB s = L)
theorem SpI.start (s : ByteArray) : SpI s 0 0 [] := ⟨fun _ => by unfold splitB; rw [seg_self]; rfl, fun h => by omega⟩
theorem SpI.cut {s : ByteArray} {k f : Nat} {L : List ByteArray} (h : SpI s k f L) (hk : k ≤ s.size) (hf : f ≤ k) (hc : ∀ h : k < s.size, s[k]'h = 47) : SpI s (k + 1) (k + 1) (L ++ [s.extract f k]) := by
  have h1 := h.1 hk
  by_cases hl : k < s.size
  · rw [goS_slash s hl (hc hl)] at h1
    refine ⟨fun _ => ?_, fun e => by omega⟩
    rw [h1, extract_seg]; simp
  · obtain rfl : k = s.size := by omega
    rw [goS_end] at h1
    refine ⟨fun e => by omega, fun _ => ?_⟩
    rw [h1, extract_seg]; simp
theorem SpI.on {s : ByteArray} {k f : Nat} {L : List ByteArray} (h : SpI s k f L) (hf : f ≤ k) (hl : k < s.size) (hc : s[k]'hl ≠ 47) : SpI s (k + 1) f L := by
  have h1 := h.1 (by omega)
  rw [goS_byte s hf hl hc] at h1
  exact ⟨fun _ => h1, fun e => by omega⟩

set_option maxHeartbeats 2000000 in
theorem l4Split (s : ByteArray) (w : World) (hs : s.size ≤ 10000000) :
    Calls Tryz.prog 34 #[.string s, .int .u8 47] w (GivesS w (splitB s)) := by
  have H0 := Lib.hid (own_empty Value.string 9 w)
  have B0 := Lib.hid ((Below.refl w.heap.size w).alloc (Nat.le_refl _) (.cells #[] 9))
  go_enter Tryz.func34, Tryz.ntmps34
  go_wp2_with fail
  go_loopw [5, 6, 7] (fun rv fv iv wr => ∃ (k f m : Nat) (L : List ByteArray), k ≤ s.size + 1 ∧ f ≤ k ∧ m ≤ k ∧ iv = .int .i64 k ∧ fv = .int .i64 f ∧ Hid (L.length = m) ∧ Hid (Own 9 Value.string w.heap.size wr rv L) ∧ Hid (Below w.heap.size w wr) ∧ Hid (SpI s k f L)) (fun _ _ iv _ => s.size + 1 - (intOf iv).toNat)
  case atStart => exact ⟨0, 0, 0, [], by omega, Nat.le_refl _, Nat.le_refl _, rfl, rfl, Lib.hid rfl, H0, B0, Lib.hid (SpI.start s)⟩
  case round =>
    obtain ⟨k, f, m, L, hk, hf, hm, rfl, rfl, hL, ho, hb, hI⟩ := hrel
    by_cases hle : k ≤ s.size
    · by_cases hcut : ∀ h : k < s.size, s[k]'h = 47
      · have HI2 := Lib.hid (hI.out.cut hle hf hcut)
        have HO := Lib.hid (ho.out.on ((Below.refl _ _).alloc (Nat.le_refl _) (.cells #[.string (s.extract f k)] 9)))
        have HL2 := Lib.hid (show (L ++ [s.extract f k]).length = m + 1 by rw [List.length_append, hL.out]; rfl)
        have hlm : (L.length + [s.extract f k].length) * 16 ≤ 140737488355328 := by rw [hL.out]; simp; omega
        have hlx : L.length + [s.extract f k].length ≤ maxLen := by rw [hL.out]; unfold maxLen; simp; omega
        have HLM := Lib.hid hlm; have HLX := Lib.hid hlx
        clear hlm hlx
        by_cases hlt : k < s.size
        · have hne : ((k : Int) == (s.size : Int)) = false := natne (Nat.ne_of_lt hlt)
          have hb47 : (((s[k]'hlt).toNat : Int) == 47) = true := by
            have := byte47.1 (hcut hlt)
            rw [this]; rfl
          clear hcut
          go_wp2_with (at_builtin; refine wpList_app (enc := Value.string) (B := w.heap.size) (l := L) (m := [s.extract f k]) rfl _ _ rfl Tryz.underlying24 elemSTR rfl rfl rfl HO.out (holds_one Value.string 9 _ _) oneStr HLM.out HLX.out (Nat.le_trans hb.out.size (by simp)) ?_)
          intro v2 w2 ho2 hg2
          have HO2 := Lib.hid ho2
          have HB2 := Lib.hid ((hb.out.alloc hb.out.size (.cells #[.string (s.extract f k)] 9)).grown hg2 (Nat.le_trans hb.out.size (by simp)) (fun g hh => (HO.out.lt g hh).1))
          clear ho2 hg2
          go_wp2_with fail
          go_roundw
          case rel => exact ⟨k + 1, k + 1, m + 1, _, by omega, Nat.le_refl _, by omega, by go_num, by go_num, HL2, HO2, HB2, HI2⟩
          case measure => simp [intOf]; omega
        · obtain rfl : k = s.size := by omega
          clear hcut
          go_wp2_with (at_builtin; refine wpList_app (enc := Value.string) (B := w.heap.size) (l := L) (m := [s.extract f s.size]) rfl _ _ rfl Tryz.underlying24 elemSTR rfl rfl rfl HO.out (holds_one Value.string 9 _ _) oneStr HLM.out HLX.out (Nat.le_trans hb.out.size (by simp)) ?_)
          intro v2 w2 ho2 hg2
          have HO2 := Lib.hid ho2
          have HB2 := Lib.hid ((hb.out.alloc hb.out.size (.cells #[.string (s.extract f s.size)] 9)).grown hg2 (Nat.le_trans hb.out.size (by simp)) (fun g hh => (HO.out.lt g hh).1))
          clear ho2 hg2
          go_wp2_with fail
          go_roundw
          case rel => exact ⟨s.size + 1, s.size + 1, m + 1, _, by omega, Nat.le_refl _, by omega, by go_num, by go_num, HL2, HO2, HB2, HI2⟩
          case measure => simp [intOf]
      · have hlt : k < s.size := by
          by_cases h : k < s.size
          · exact h
          · exact absurd (fun h2 => absurd h2 h) hcut
        have hc : s[k]'hlt ≠ 47 := fun e => hcut (fun _ => e)
        have HI2 := Lib.hid (hI.out.on hf hlt hc)
        have hne : ((k : Int) == (s.size : Int)) = false := natne (Nat.ne_of_lt hlt)
        have hb47 : (((s[k]'hlt).toNat : Int) == 47) = false := nat47 (fun e => hc (byte47.2 e))
        clear hcut hc
        go_wp2_with fail
        go_roundw
        case rel => exact ⟨k + 1, f, m, L, by omega, by omega, by omega, by go_num, rfl, hL, ho, hb, HI2⟩
        case measure => simp [intOf]; omega
    · obtain rfl : k = s.size + 1 := by omega
      have HE := Lib.hid (hI.out.2 rfl)
      clear hle
      go_wp2_with fail
      go_ret
      exact ⟨_, rfl, by rw [HE.out]; exact ho.out, hb.out⟩

theorem iterPos_of {w : World} {k : Nat} {s : ByteArray} {p : Nat} (h : w.heap[k]? = some (.stringIter s p)) : w.iterPos k = p := by simp [World.iterPos, h]
/-! ### the program's way: rune by rune, over the text with a slash behind it -/
theorem grownBy_iterAt (w : World) (k : Nat) (s : ByteArray) (pos : Nat) : w.grownBy (w.iterAt k s pos) (some k) :=
  ⟨rfl, rfl, rfl, by rw [Lib.iterAt_size]; exact Nat.le_refl _, fun i hi hne => Lib.iterAt_other w k i s pos (fun e => hne (by rw [e]))⟩
theorem Own.noIter {α : Type} [Inhabited α] {enc : α → Value} {e : TypeId} {B : Nat} {w : World} {v : Value} {l : List α} (h : Own e enc B w v l) {k : Nat} {s : ByteArray} {pos : Nat} (hk : w.heap[k]? = some (.stringIter s pos)) : v.ownBlock ≠ some k := by
  rcases h.2 with ⟨rfl, _⟩ | ⟨g, cap, cur, rfl, _, hg, _⟩
  · simp [Value.ownBlock]
  · intro e1
    have : g = k := by simpa [Value.ownBlock] using e1
    rw [this, hk] at hg
    cases hg
theorem Own.iterAt {α : Type} [Inhabited α] {enc : α → Value} {e : TypeId} {B : Nat} {w : World} {v : Value} {l : List α} (h : Own e enc B w v l) {k : Nat} {s : ByteArray} {pos : Nat} (hk : w.heap[k]? = some (.stringIter s pos)) (pos' : Nat) : Own e enc B (w.iterAt k s pos') v l :=
  h.grown (grownBy_iterAt w k s pos') (Or.inr (h.noIter hk))
theorem slash_size (s : ByteArray) : (s ++ { data := #[47] }).size = s.size + 1 := by rw [ByteArray.size_append]; rfl
theorem slash_lt (s : ByteArray) {i : Nat} (h : i < s.size) (h2 : i < (s ++ { data := #[47] }).size) : (s ++ { data := #[47] })[i]'h2 = s[i]'h := by
  rw [← bl_get _ i h2, ← bl_get s i h]
  simp only [bl_append]
  rw [List.getElem_append_left]
theorem slash_end (s : ByteArray) (h2 : s.size < (s ++ { data := #[47] }).size) : (s ++ { data := #[47] })[s.size]'h2 = 47 := by
  rw [← bl_get _ s.size h2]
  simp only [bl_append]
  rw [List.getElem_append_right (by rw [bl_length]; exact Nat.le_refl _)]
  simp [bl]
/-- A slash among the runes is a slash among the bytes. -/
theorem rune47 {t : ByteArray} {pos : Nat} (h : pos < t.size) : (Utf8.decode t pos).1 = 47 ↔ t[pos]'h = 47 := by
  by_cases ha : (t[pos]'h).toNat < 128
  · rw [decode_ascii t pos h ha, byte47]
  · have h1 := (decode_high t pos h (by omega)).1
    constructor
    · intro e; omega
    · intro e; rw [byte47] at e; omega
theorem rune47_width {t : ByteArray} {pos : Nat} (h : pos < t.size) (e : t[pos]'h = 47) : (Utf8.decode t pos).2 = 1 := by
  rw [byte47] at e
  rw [decode_ascii t pos h (by omega)]
theorem width_pos' (t : ByteArray) {pos : Nat} (h : pos < t.size) : 1 ≤ (Utf8.decode t pos).2 := by
  by_cases ha : (t[pos]'h).toNat < 128
  · rw [decode_ascii t pos h ha]; exact Nat.le_refl _
  · exact (decode_high t pos h (by omega)).2
/-- A rune that is no slash: none of its bytes is one, and it ends before the text does. -/
theorem rune_run (s : ByteArray) {pos : Nat} (h : pos < (s ++ { data := #[47] }).size) (hr : (Utf8.decode (s ++ { data := #[47] }) pos).1 ≠ 47) :
    ∃ hm : pos + (Utf8.decode (s ++ { data := #[47] }) pos).2 ≤ s.size, ∀ j (hj : j < (Utf8.decode (s ++ { data := #[47] }) pos).2), s[pos + j]'(by omega) ≠ 47 := by
  have hsz := slash_size s
  have hbyte : ∀ j, j < (Utf8.decode (s ++ { data := #[47] }) pos).2 → ∃ hq : pos + j < (s ++ { data := #[47] }).size, (s ++ { data := #[47] })[pos + j]'hq ≠ 47 := by
    intro j hj
    by_cases h0 : j = 0
    · subst h0
      exact ⟨h, fun e => hr ((rune47 h).2 e)⟩
    · obtain ⟨hq, hb⟩ := decode_cont _ pos j (by omega) hj
      exact ⟨hq, fun e => by rw [byte47] at e; omega⟩
  have hin : ∀ j, j < (Utf8.decode (s ++ { data := #[47] }) pos).2 → ∃ hq : pos + j < s.size, s[pos + j]'hq ≠ 47 := by
    intro j hj
    obtain ⟨hq, hne⟩ := hbyte j hj
    by_cases hl : pos + j < s.size
    · rw [slash_lt s hl hq] at hne
      exact ⟨hl, hne⟩
    · have he : pos + j = s.size := by omega
      exact absurd (by
        have := slash_end s (by omega)
        simp only [he]; exact this) hne
  have hw := width_pos' _ h
  obtain ⟨hl, _⟩ := hin ((Utf8.decode (s ++ { data := #[47] }) pos).2 - 1) (by omega)
  exact ⟨by omega, fun j hj => (hin j hj).2⟩

def SpN (s : ByteArray) (k f : Nat) (L : List ByteArray) : Prop :=
  (k ≤ s.size → partsB s = L ++ ((goS (seg s f k) (rest s k)).map mk).filter fullB) ∧ (k = s.size + 1 → partsB s = L)
theorem SpN.start (s : ByteArray) : SpN s 0 0 [] := ⟨fun _ => by unfold partsB splitB; rw [seg_self]; rfl, fun h => by omega⟩
theorem seg_full {s : ByteArray} {f k : Nat} (hf : f ≤ k) (hk : k ≤ s.size) : fullB (mk (seg s f k)) = decide (f < k) := by
  unfold fullB
  rw [mk_size, seg_length s hf hk]
  congr 1
  apply propext; omega
theorem SpN.cut {s : ByteArray} {k f : Nat} {L : List ByteArray} (h : SpN s k f L) (hk : k ≤ s.size) (hf : f ≤ k) (hc : ∀ h : k < s.size, s[k]'h = 47) : SpN s (k + 1) (k + 1) (if f < k then L ++ [s.extract f k] else L) := by
  have h1 := h.1 hk
  have hfull := seg_full (s := s) hf hk
  by_cases hl : k < s.size
  · rw [goS_slash s hl (hc hl), List.map_cons, List.filter_cons, hfull] at h1
    refine ⟨fun _ => ?_, fun e => by omega⟩
    rw [h1, extract_seg]
    by_cases hfk : f < k
    · simp [hfk]
    · simp [hfk]
  · obtain rfl : k = s.size := by omega
    rw [goS_end, List.map_cons, List.filter_cons, hfull] at h1
    refine ⟨fun e => by omega, fun _ => ?_⟩
    rw [h1, extract_seg]
    by_cases hfk : f < s.size
    · simp [hfk]
    · simp [hfk]
theorem SpN.on {s : ByteArray} {k f : Nat} {L : List ByteArray} (h : SpN s k f L) (hf : f ≤ k) {m : Nat} (h0 : 1 ≤ m) (hm : k + m ≤ s.size) (hc : ∀ j (hj : j < m), s[k + j]'(by omega) ≠ 47) : SpN s (k + m) f L := by
  have h1 := h.1 (by omega)
  rw [goS_bytes s hf m hm hc] at h1
  exact ⟨fun _ => h1, fun e => by omega⟩

set_option maxRecDepth 100000 in
set_option maxHeartbeats 2000000 in
theorem splitParts (s : ByteArray) (w : World) (hs : s.size ≤ 10000000) :
    Calls Tryz.prog 57 #[.string s] w (GivesS w (partsB s)) := by
  have H0 := Lib.hid ((own_empty Value.string 9 w).on ((Below.refl _ _).alloc (Nat.le_refl _) (.stringIter (s ++ { data := #[47] }) 0)))
  have B0 := Lib.hid (((Below.refl w.heap.size w).alloc (Nat.le_refl _) (.cells #[] 9)).alloc (by simp) (.stringIter (s ++ { data := #[47] }) 0))
  have I0 := Lib.hid (show ((w.alloc (.cells #[] 9)).alloc (.stringIter (s ++ { data := #[47] }) 0)).heap[w.heap.size + 1]? = some (.stringIter (s ++ { data := #[47] }) 0) by
    have := World.iter_heap (w.alloc (.cells #[] 9)) (s ++ { data := #[47] }) 0
    simpa [World.iter] using this)
  have HZ := Lib.hid (slash_size s)
  go_enter Tryz.func57, Tryz.ntmps57
  go_wp2_with fail
  go_loopw [3, 4] (fun rv fv wr => ∃ (k f m : Nat) (L : List ByteArray), k ≤ s.size + 1 ∧ f ≤ k ∧ m ≤ k ∧ fv = .int .i64 f ∧ wr.iterPos (w.heap.size + 1) = k ∧ Hid (wr.heap[w.heap.size + 1]? = some (.stringIter (s ++ { data := #[47] }) k)) ∧ Hid (L.length = m) ∧ Hid (Own 9 Value.string w.heap.size wr rv L) ∧ Hid (Below w.heap.size w wr) ∧ Hid (SpN s k f L)) (fun _ _ wr => s.size + 1 - wr.iterPos (w.heap.size + 1))
  case atStart => exact ⟨0, 0, 0, [], by omega, Nat.le_refl _, Nat.le_refl _, rfl, iterPos_of I0.out, I0, Lib.hid rfl, H0, B0, Lib.hid (SpN.start s)⟩
  case round =>
    obtain ⟨k, f, m, L, hk, hf, hm, rfl, hpos, hit, hL, ho, hb, hI⟩ := hrel
    have HP := Lib.hid hpos
    clear hpos
    by_cases hle : k ≤ s.size
    · have hlt : k < (s ++ { data := #[47] }).size := by rw [HZ.out]; omega
      have hnx : ∀ ty, (Instr.next (.pointer (some ⟨w.heap.size + 1, 0, none⟩)) true ty).run Tryz.prog wr = _ := fun ty => Lib.run_next_any_at wr (w.heap.size + 1) (s ++ { data := #[47] }) k ty hit.out hlt
      have HB1 := Lib.hid (Lib.below_iterAt hb.out (k := w.heap.size + 1) (by omega) (s ++ { data := #[47] }) (k + (Utf8.decode (s ++ { data := #[47] }) k).2))
      have HO1 := Lib.hid (ho.out.iterAt hit.out (k + (Utf8.decode (s ++ { data := #[47] }) k).2))
      have HI1 := Lib.hid (Lib.iterAt_heap wr (w.heap.size + 1) (s ++ { data := #[47] }) k (k + (Utf8.decode (s ++ { data := #[47] }) k).2) hit.out)
      by_cases hr : (Utf8.decode (s ++ { data := #[47] }) k).1 = 47
      · have he47 := (rune47 hlt).1 hr
        have hw1 := rune47_width hlt he47
        have hcut : ∀ h : k < s.size, s[k]'h = 47 := fun h => by rw [← slash_lt s h hlt]; exact he47
        have HI2 := Lib.hid (hI.out.cut hle hf hcut)
        have hrb : (((Utf8.decode (s ++ { data := #[47] }) k).1 : Int) != 47) = false := by rw [hr]; rfl
        rw [hw1] at hnx HB1 HO1 HI1
        clear he47 hw1 hcut hr
        by_cases hfk : f < k
        · have HI3 := Lib.hid (show SpN s (k + 1) (k + 1) (L ++ [s.extract f k]) by have := HI2.out; rwa [if_pos hfk] at this)
          have HO := Lib.hid (HO1.out.on ((Below.refl _ _).alloc (Nat.le_refl _) (.cells #[.string (s.extract f k)] 9)))
          have HL2 := Lib.hid (show (L ++ [s.extract f k]).length = m + 1 by rw [List.length_append, hL.out]; rfl)
          have HLM := Lib.hid (show (L.length + [s.extract f k].length) * 16 ≤ 140737488355328 by rw [hL.out]; simp; omega)
          have HLX := Lib.hid (show L.length + [s.extract f k].length ≤ maxLen by rw [hL.out]; unfold maxLen; simp; omega)
          go_wp2_with (at_builtin; refine wpList_app (enc := Value.string) (B := w.heap.size) (l := L) (m := [s.extract f k]) rfl _ _ rfl Tryz.underlying24 elemSTR rfl rfl rfl HO.out (holds_one Value.string 9 _ _) oneStr HLM.out HLX.out (Nat.le_trans HB1.out.size (by simp)) ?_)
          intro v2 w2 ho2 hg2
          have HO2 := Lib.hid ho2
          have HB2 := Lib.hid ((HB1.out.alloc HB1.out.size (.cells #[.string (s.extract f k)] 9)).grown hg2 (Nat.le_trans HB1.out.size (by simp)) (fun g hh => (HO.out.lt g hh).1))
          have HIT := Lib.hid (show w2.heap[w.heap.size + 1]? = some (.stringIter (s ++ { data := #[47] }) (k + 1)) by
            rw [hg2.block (w.heap.size + 1) (by have := (Array.getElem?_eq_some_iff.1 HI1.out).1; simp; omega) (fun e => (HO1.out.noIter HI1.out) e.symm)]
            exact ((Below.refl _ _).alloc (Nat.le_refl _) _).block (w.heap.size + 1) (Array.getElem?_eq_some_iff.1 HI1.out).1 |>.trans HI1.out)
          clear ho2 hg2
          have HQ := Lib.hid (iterPos_of HIT.out)
          go_wp2_with fail
          go_roundw
          case rel => exact ⟨k + 1, k + 1, m + 1, _, by omega, Nat.le_refl _, by omega, by go_num, HQ.out, HIT, HL2, HO2, HB2, HI3⟩
          case measure => rw [HQ.out, HP.out]; omega
        · have HI3 := Lib.hid (show SpN s (k + 1) (k + 1) L by have := HI2.out; rwa [if_neg hfk] at this)
          have HQ := Lib.hid (iterPos_of HI1.out)
          go_wp2_with fail
          go_roundw
          case rel => exact ⟨k + 1, k + 1, m, L, by omega, Nat.le_refl _, by omega, by go_num, HQ.out, HI1, hL, HO1, HB1, HI3⟩
          case measure => rw [HQ.out, HP.out]; omega
      · obtain ⟨hm2, hall⟩ := rune_run s hlt hr
        have hwp := width_pos' _ hlt
        have HI2 := Lib.hid (hI.out.on hf hwp hm2 hall)
        have hrb : (((Utf8.decode (s ++ { data := #[47] }) k).1 : Int) != 47) = true := by
          have : (((Utf8.decode (s ++ { data := #[47] }) k).1 : Int)) ≠ 47 := by omega
          simpa using this
        clear hall hr
        have HQ := Lib.hid (iterPos_of HI1.out)
        go_wp2_with fail
        go_roundw
        case rel => exact ⟨k + (Utf8.decode (s ++ { data := #[47] }) k).2, f, m, L, by omega, by omega, by omega, rfl, HQ.out, HI1, hL, HO1, HB1, HI2⟩
        case measure => rw [HQ.out, HP.out]; omega
    · obtain rfl : k = s.size + 1 := by omega
      have HE := Lib.hid (hI.out.2 rfl)
      have hnx : ∀ ty, (Instr.next (.pointer (some ⟨w.heap.size + 1, 0, none⟩)) true ty).run Tryz.prog wr = _ := fun ty => Lib.run_next_end_at wr (w.heap.size + 1) (s ++ { data := #[47] }) (s.size + 1) ty hit.out (by rw [HZ.out]; omega)
      clear hle
      go_wp2_with fail
      go_ret
      exact ⟨_, rfl, by rw [HE.out]; exact ho.out, hb.out⟩

end Go.Proofs.YtkojeajjappchaaGreat.Row
/- The contracts of the library that are proved once over any program, laid at this seat in plain words. -/
namespace Go.Proofs
open Go.Shelf
def Tryz.lays169_ren : Go.Shelf.Ren := ⟨fun | 169 => 98 | n => n, fun | 70 => 119 | 9 => 9 | 0 => 0 | 72 => 121 | 37 => 22 | 127 => 138 | 3 => 3 | 5 => 5 | n => n, fun | n => n⟩
def Tryz.lays241_ren : Go.Shelf.Ren := ⟨fun | 241 => 107 | 277 => 111 | n => n, fun | 70 => 119 | 3 => 3 | 0 => 0 | 72 => 121 | 37 => 22 | 5 => 5 | n => n, fun | n => n⟩
def Tryz.lays165_ren : Go.Shelf.Ren := ⟨fun | 165 => 96 | 240 => 106 | 241 => 107 | 276 => 110 | 277 => 111 | n => n, fun | 70 => 119 | 3 => 3 | 0 => 0 | 4 => 4 | 9 => 9 | 20 => 20 | 72 => 121 | 37 => 22 | 164 => 141 | 5 => 5 | n => n, fun | n => n⟩
def Tryz.lays156_ren : Go.Shelf.Ren := ⟨fun | 156 => 84 | 165 => 96 | 166 => 97 | 169 => 98 | 240 => 106 | 241 => 107 | 276 => 110 | 277 => 111 | n => n, fun | 31 => 24 | 9 => 9 | 3 => 3 | 4 => 4 | 0 => 0 | 20 => 20 | 72 => 121 | 76 => 125 | 70 => 119 | 37 => 22 | 75 => 124 | 127 => 138 | 164 => 141 | 5 => 5 | 80 => 127 | n => n, fun | n => n⟩
theorem Tryz.lays156 : Go.Proofs.Lays.n156 Tryz.prog Tryz.lays156_ren := {
  mixed := by kernel_rfl
  f156 := Tryz.func84.trans (congrArg some (by kernel_rfl))
  f165 := Tryz.func96.trans (congrArg some (by kernel_rfl))
  f166 := Tryz.func97.trans (congrArg some (by kernel_rfl))
  f169 := Tryz.func98.trans (congrArg some (by kernel_rfl))
  f240 := Tryz.func106.trans (congrArg some (by kernel_rfl))
  f241 := Tryz.func107.trans (congrArg some (by kernel_rfl))
  f276 := Tryz.func110.trans (congrArg some (by kernel_rfl))
  f277 := Tryz.func111.trans (congrArg some (by kernel_rfl))
  t0 := Tryz.underlying0
  a0 := Tryz.isAgg0
  z0 := Tryz.sizeOf0
  v0 := Tryz.zeroValue0
  t3 := Tryz.underlying3
  a3 := Tryz.isAgg3
  z3 := Tryz.sizeOf3
  v3 := Tryz.zeroValue3
  t4 := Tryz.underlying4
  a4 := Tryz.isAgg4
  z4 := Tryz.sizeOf4
  v4 := Tryz.zeroValue4
  t9 := Tryz.underlying9
  a9 := Tryz.isAgg9
  z9 := Tryz.sizeOf9
  v9 := Tryz.zeroValue9
  t20 := Tryz.underlying20
  a20 := Tryz.isAgg20
  z20 := Tryz.sizeOf20
  v20 := Tryz.zeroValue20
  t31 := Tryz.underlying24
  a31 := Tryz.isAgg24
  z31 := Tryz.sizeOf24
  v31 := Tryz.zeroValue24
  t37 := Tryz.underlying22
  a37 := Tryz.isAgg22
  z37 := Tryz.sizeOf22
  v37 := Tryz.zeroValue22
  t70 := Tryz.underlying119
  a70 := Tryz.isAgg119
  z70 := Tryz.sizeOf119
  v70 := Tryz.zeroValue119
  t72 := Tryz.underlying121
  a72 := Tryz.isAgg121
  z72 := Tryz.sizeOf121
  v72 := Tryz.zeroValue121
  t75 := Tryz.underlying124
  a75 := Tryz.isAgg124
  z75 := Tryz.sizeOf124
  v75 := Tryz.zeroValue124
  t76 := Tryz.underlying125
  a76 := Tryz.isAgg125
  z76 := Tryz.sizeOf125
  v76 := Tryz.zeroValue125
  t127 := Tryz.underlying138
  a127 := Tryz.isAgg138
  z127 := Tryz.sizeOf138
  v127 := Tryz.zeroValue138
  t164 := Tryz.underlying141
  a164 := Tryz.isAgg141
  z164 := Tryz.sizeOf141
  v164 := Tryz.zeroValue141 }
theorem Tryz.Builder_Extra_156 : Builder.Extra Tryz.prog Tryz.lays156_ren := {
  sizeBuilder := by kernel_rfl
  liesBuilder := by kernel_rfl
  t5 := Tryz.underlying5
  a5 := Tryz.isAgg5
  z5 := Tryz.sizeOf5
  v5 := Tryz.zeroValue5
  infoByte := by kernel_rfl
  cellsByte := by kernel_rfl
  sizeByte := by kernel_rfl
  neB5 := by decide }
open Go.RowKit in
/-- No element: the empty string; the world is as it was. (Whatever the slice's address and capacity: a nil slice too.) (LAID: no walk: one application.) -/
theorem Tryz.strings_Join_none (a : Option Addr) (c : Nat) (sep : ByteArray) (w : World) :
    Calls Tryz.prog 84 #[.slice a 0 c, .string sep] w fun e w' => e = .returned (.string ⟨#[]⟩) ∧ w' = w := Any.strings_Join_none Tryz.lays156 Tryz.Builder_Extra_156 a c sep w
open Go.RowKit in
/-- strings.Join: "Join concatenates the elements of its first argument to create a single string. The separator string sep is placed between elements in the resulting string.": HOWEVER MANY ELEMENTS. Below the heap's end the world is as it was. (LAID: no walk: one application.) -/
theorem Tryz.strings_Join (bk o c : Nat) (xs : List ByteArray) (sep : ByteArray) (w : World) (hcells : ∀ (j : Nat) x, xs[j]? = some x → w.cell? ⟨bk, o + j, none⟩ = some (.string x)) (hbk : bk < w.heap.size) (hN : xs.length ≤ 140737488355328) (hcap : xs.length ≤ c) (hlen : (Lib.join (xs.map (·.data.toList)) sep.data.toList).length ≤ 140737488355328) :
    Calls Tryz.prog 84 #[.slice (some ⟨bk, o, none⟩) xs.length c, .string sep] w fun e w' => e = .returned (.string ⟨(Lib.join (xs.map (·.data.toList)) sep.data.toList).toArray⟩) ∧ Below w.heap.size w w' := Any.strings_Join Tryz.lays156 Tryz.Builder_Extra_156 bk o c xs sep w hcells hbk hN hcap hlen
def Tryz.lays217_ren : Go.Shelf.Ren := ⟨fun | 217 => 90 | 266 => 101 | n => n, fun | 9 => 9 | 5 => 5 | 3 => 3 | n => n, fun | n => n⟩
def Tryz.lays224_ren : Go.Shelf.Ren := ⟨fun | 224 => 92 | n => n, fun | 3 => 3 | n => n, fun | n => n⟩
def Tryz.lays314_ren : Go.Shelf.Ren := ⟨fun | 314 => 102 | n => n, fun | 9 => 9 | 51 => 134 | 3 => 3 | 4 => 4 | 5 => 5 | 46 => 112 | n => n, fun | n => n⟩
def Tryz.lays267_ren : Go.Shelf.Ren := ⟨fun | 267 => 93 | 314 => 102 | n => n, fun | 9 => 9 | 3 => 3 | 146 => 135 | 51 => 134 | 4 => 4 | 5 => 5 | 46 => 112 | n => n, fun | n => n⟩
def Tryz.lays219_ren : Go.Shelf.Ren := ⟨fun | 219 => 80 | 217 => 90 | 225 => 91 | 224 => 92 | 267 => 93 | 266 => 101 | 314 => 102 | n => n, fun | 9 => 9 | 3 => 3 | 4 => 4 | 5 => 5 | 46 => 112 | 146 => 135 | 51 => 134 | n => n, fun | 1 => 0 | n => n⟩
def Tryz.lays220_ren : Go.Shelf.Ren := ⟨fun | 220 => 56 | 219 => 80 | 217 => 90 | 225 => 91 | 224 => 92 | 267 => 93 | 266 => 101 | 314 => 102 | n => n, fun | 9 => 9 | 4 => 4 | 3 => 3 | 5 => 5 | 46 => 112 | 146 => 135 | 51 => 134 | n => n, fun | 1 => 0 | n => n⟩
def Tryz.lays145_ren : Go.Shelf.Ren := ⟨fun | 145 => 32 | 220 => 56 | 219 => 80 | 217 => 90 | 225 => 91 | 224 => 92 | 267 => 93 | 266 => 101 | 314 => 102 | n => n, fun | 9 => 9 | 4 => 4 | 59 => 55 | 3 => 3 | 5 => 5 | 46 => 112 | 146 => 135 | 51 => 134 | n => n, fun | 1 => 0 | n => n⟩
theorem Tryz.lays145 : Go.Proofs.Lays.n145 Tryz.prog Tryz.lays145_ren := {
  mixed := by kernel_rfl
  f145 := Tryz.func32.trans (congrArg some (by kernel_rfl))
  f217 := Tryz.func90.trans (congrArg some (by kernel_rfl))
  f219 := Tryz.func80.trans (congrArg some (by kernel_rfl))
  f220 := Tryz.func56.trans (congrArg some (by kernel_rfl))
  f224 := Tryz.func92.trans (congrArg some (by kernel_rfl))
  f225 := Tryz.func91.trans (congrArg some (by kernel_rfl))
  f266 := Tryz.func101.trans (congrArg some (by kernel_rfl))
  f267 := Tryz.func93.trans (congrArg some (by kernel_rfl))
  f314 := Tryz.func102.trans (congrArg some (by kernel_rfl))
  t3 := Tryz.underlying3
  a3 := Tryz.isAgg3
  z3 := Tryz.sizeOf3
  v3 := Tryz.zeroValue3
  t4 := Tryz.underlying4
  a4 := Tryz.isAgg4
  z4 := Tryz.sizeOf4
  v4 := Tryz.zeroValue4
  t5 := Tryz.underlying5
  a5 := Tryz.isAgg5
  z5 := Tryz.sizeOf5
  v5 := Tryz.zeroValue5
  t9 := Tryz.underlying9
  a9 := Tryz.isAgg9
  z9 := Tryz.sizeOf9
  v9 := Tryz.zeroValue9
  t46 := Tryz.underlying112
  a46 := Tryz.isAgg112
  z46 := Tryz.sizeOf112
  v46 := Tryz.zeroValue112
  t51 := Tryz.underlying134
  a51 := Tryz.isAgg134
  z51 := Tryz.sizeOf134
  v51 := Tryz.zeroValue134
  t59 := Tryz.underlying55
  a59 := Tryz.isAgg55
  z59 := Tryz.sizeOf55
  v59 := Tryz.zeroValue55
  t146 := Tryz.underlying135
  a146 := Tryz.isAgg135
  z146 := Tryz.sizeOf135
  v146 := Tryz.zeroValue135
  g1 := by kernel_rfl }
open Go.RowKit Go.Lib in
/-- strings.Cut: "Cut slices s around the first instance of sep, returning the text before and after sep. The found result reports whether sep appears in s. If sep does not appear in s, cut returns s, "", false.": IT RETURNS 'Lib.cut s sep'; the world is as it was but for the count of draws. (LAID: no walk: one application.) -/
theorem Tryz.strings_Cut (s sep : ByteArray) (m : Int) (w : World) (hs : s.size < 4294967281) (hm : w.cell? ⟨0, 0, none⟩ = some (.int .i64 m)) :
    Calls Tryz.prog 32 #[.string s, .string sep] w fun e w' => e = .returned (.tuple #[.string ⟨(Lib.cut s.data.toList sep.data.toList).1.toArray⟩, .string ⟨(Lib.cut s.data.toList sep.data.toList).2.1.toArray⟩, .bool (Lib.cut s.data.toList sep.data.toList).2.2]) ∧ ∃ n, w' = w.drewN n := Any.strings_Cut Tryz.lays145 s sep m w hs hm
def Tryz.laysM219_ren : Go.Shelf.Ren := ⟨fun | 219 => 80 | 217 => 90 | 225 => 91 | 224 => 92 | 267 => 93 | 266 => 101 | 314 => 102 | n => n, fun | 9 => 9 | 3 => 3 | 4 => 4 | 5 => 5 | 46 => 112 | 146 => 135 | 51 => 134 | n => n, fun | 1 => 0 | n => n⟩
def Tryz.laysM220_ren : Go.Shelf.Ren := ⟨fun | 220 => 56 | 219 => 80 | 217 => 90 | 225 => 91 | 224 => 92 | 267 => 93 | 266 => 101 | 314 => 102 | n => n, fun | 9 => 9 | 4 => 4 | 3 => 3 | 5 => 5 | 46 => 112 | 146 => 135 | 51 => 134 | n => n, fun | 1 => 0 | n => n⟩
def Tryz.laysM145_ren : Go.Shelf.Ren := ⟨fun | 145 => 32 | 220 => 56 | 219 => 80 | 217 => 90 | 225 => 91 | 224 => 92 | 267 => 93 | 266 => 101 | 314 => 102 | n => n, fun | 9 => 9 | 4 => 4 | 59 => 55 | 3 => 3 | 5 => 5 | 46 => 112 | 146 => 135 | 51 => 134 | n => n, fun | 1 => 0 | n => n⟩
def Tryz.lays193_ren : Go.Shelf.Ren := ⟨fun | 193 => 66 | n => n, fun | 31 => 24 | 9 => 9 | 4 => 4 | 3 => 3 | 0 => 0 | n => n, fun | n => n⟩
end Go.Proofs
/- Contracts of FormatName, the program's and the reference model's: each part behind a slash; a slash alone where there is none. No conditions but that lengths fit. -/
namespace Go.Proofs.YtkojeajjappchaaGreat.Row
open Go.ChangeShapes Go.WideShapes Go.ChangeAt Go.RowKit Go.Instr
set_option linter.unusedVariables false
set_option maxRecDepth 100000

/-- The text behind the first k parts. -/
def fT (l : List ByteArray) (k : Nat) : ByteArray := mk (Lib.joinTail [47] ((l.map bl).take k))
theorem fT_zero (l : List ByteArray) : fT l 0 = mk [] := by simp [fT, Lib.joinTail]
theorem fT_succ (l : List ByteArray) {k : Nat} (h : k < l.length) : fT l (k + 1) = fT l k ++ mk [47] ++ nth l k := by
  unfold fT
  rw [Lib.joinTail_take_succ [47] _ k (bl (nth l k)) (by rw [List.getElem?_map, nth_eq h, List.getElem?_eq_getElem h]; rfl), ← mk_append, ← mk_append, mk_bl]
theorem fT_size (l : List ByteArray) : ∀ k, k ≤ l.length → (fT l k).size + l.length = bulkTo l k + k
  | 0, _ => by rw [fT_zero, mk_size, bulkTo_zero]; simp
  | k + 1, h => by
    have ih := fT_size l k (by omega)
    rw [fT_succ l (by omega), ByteArray.size_append, ByteArray.size_append, mk_size, bulkTo_succ l (by omega)]
    simp; omega
theorem fT_le (l : List ByteArray) {k : Nat} (h : k ≤ l.length) : (fT l k).size ≤ bulk l := by
  have h1 := fT_size l k h
  have h2 := bulkTo_le l k
  omega
theorem fT_all {l : List ByteArray} (h : l ≠ []) : fT l l.length = fmtS l := by
  unfold fT fmtS fmtL
  rw [List.take_of_length_le (by simp)]
  obtain ⟨x, r, rfl⟩ : ∃ x r, l = x :: r := by
    cases l with
    | nil => exact absurd rfl h
    | cons x r => exact ⟨x, r, rfl⟩
  rw [List.map_cons, Lib.join_cons]
  congr 1
theorem join_size (l : List ByteArray) : (Lib.join (l.map bl) [47]).length ≤ bulk l := by
  by_cases h : l = []
  · subst h; simp [Lib.join_nil]
  · have h1 := congrArg ByteArray.size (fT_all h)
    have h2 := fT_le l (Nat.le_refl l.length)
    rw [h1] at h2
    unfold fmtS fmtL at h2
    rw [mk_size] at h2
    simp at h2; omega

set_option maxHeartbeats 1000000 in
theorem implFormatName (v : Value) (l : List ByteArray) (w : World) (h : Holds Value.string w v l) (hl : bulk l ≤ 100000000) :
    Calls Tryz.prog 64 #[.agg #[v]] w fun e w' => e = .returned (.string (fmtS l)) ∧ Below w.heap.size w w' := by
  obtain ⟨x, n, cap, rfl, hn, hcap, hh⟩ := h.shapeN
  have hjs := join_size l
  have hll := bigLen hl
  have HB := Lib.hid ((Below.refl w.heap.size w).alloc (Nat.le_refl _) (.cells #[.slice x n cap] 29))
  have HJ : Hid (∀ W, Holds Value.string W (.slice x n cap) l → Calls Tryz.prog 84 #[.slice x n cap, .string (mk [47])] W fun e w' => e = .returned (.string (mk (Lib.join (l.map bl) [47]))) ∧ Below W.heap.size W w') := by
    refine Lib.hid fun W hW => ?_
    obtain ⟨x', cap', hv, hc', hh'⟩ := hW
    cases hv
    by_cases hne : l = []
    · subst hne
      refine (Tryz.strings_Join_none x cap (mk [47]) W).mono ?_
      rintro e w' ⟨rfl, rfl⟩
      exact ⟨rfl, Below.refl _ _⟩
    · rcases hh' with h0 | ⟨b, off, rfl, hc⟩
      · exact absurd h0 hne
      · have hlp : 0 < l.length := List.length_pos_iff.2 hne
        exact Tryz.strings_Join b off cap l (mk [47]) W (fun j y hy => by
          have hj : j < l.length := (List.getElem?_eq_some_iff.1 hy).1
          rw [hc j hj, nth_eq hj]
          rw [List.getElem?_eq_getElem hj] at hy
          cases hy; rfl) (by have := cell_lt (hc 0 hlp); exact this) (by omega) hc' (by show (Lib.join (l.map bl) [47]).length ≤ _; omega)
  obtain ⟨jn, hjn⟩ : ∃ jn, jn = mk (Lib.join (l.map bl) [47]) := ⟨_, rfl⟩
  have hjz : jn.size ≤ 100000000 := by rw [hjn, mk_size]; omega
  rw [← hjn] at HJ
  have HE := Lib.hid (show mk [47] ++ jn = fmtS l by rw [hjn, mk_append]; rfl)
  have HH := Lib.hid (hh.on HB.out)
  clear hh h hn hjn
  go_enter Tryz.func64, Tryz.ntmps64
  go_wp2_with fail
  refine (HJ.out _ HH.out).mono ?_
  rintro e w' ⟨rfl, hb⟩
  have HB2 := Lib.hid (HB.out.trans (hb.mono (by simp))); clear hb
  go_wp2
  go_ret
  exact ⟨ret_str HE.out, HB2.out⟩

set_option maxHeartbeats 1000000 in
theorem specFormatName (v : Value) (l : List ByteArray) (w : World) (h : Holds Value.string w v l) (hl : bulk l ≤ 100000000) :
    Calls Tryz.prog 65 #[.agg #[v]] w fun e w' => e = .returned (.string (fmtS l)) ∧ Below w.heap.size w w' := by
  obtain ⟨x, n, cap, rfl, hn, hcap, hh⟩ := h.shapeN
  have hll := bigLen hl
  have HSZ := Lib.hid (fun k (hk : k ≤ l.length) => Nat.le_trans (fT_le l hk) hl)
  have HNZ := Lib.hid (fun k (hk : k < l.length) => size_nth hl hk)
  have HB := Lib.hid ((Below.refl w.heap.size w).alloc (Nat.le_refl _) (.cells #[.slice x n cap] 29))
  have HH := Lib.hid (hh.on HB.out)
  have HN := Lib.hid hn
  rw [← hn] at hll
  clear hh h hn hl
  go_enter Tryz.func65, Tryz.ntmps65
  go_wp2_with fail
  go_loop [3, 4] (fun sv iv => ∃ (k : Nat) (s : ByteArray), k ≤ n ∧ iv = .int .i64 k ∧ sv = .string s ∧ s.size ≤ 100000000 ∧ Hid (s = fT l k)) (fun _ iv => n - (intOf iv).toNat)
  case atStart => exact ⟨0, mk [], Nat.zero_le _, rfl, rfl, by rw [mk_size]; simp, Lib.hid (fT_zero l).symm⟩
  case round =>
    obtain ⟨k, s, hk, rfl, rfl, hs, he⟩ := hrel
    by_cases hlt : k < n
    · have hlen := HN.out
      obtain ⟨b, off, rfl, hc⟩ := HH.out.at (j := k) (by omega)
      have hz := HNZ.out k (by omega)
      have HS2 := Lib.hid (fT_succ l (k := k) (by omega))
      have HZ2 := Lib.hid (HSZ.out (k + 1) (by omega))
      clear hlen
      go_wp2
      go_round
      case rel => exact ⟨k + 1, _, by omega, by go_num, rfl, by have := HZ2.out; rw [HS2.out, ← he.out] at this; exact this, Lib.hid (by rw [HS2.out, he.out]; rfl)⟩
      case measure => simp [intOf]; omega
    · obtain rfl : k = n := by omega
      clear hlt
      by_cases h0 : k = 0
      · subst h0
        have HE := Lib.hid (show fmtS l = mk [47] by
          have : l = [] := List.eq_nil_of_length_eq_zero HN.out.symm
          rw [this, fmtS_nil])
        go_wp2
        go_ret
        exact ⟨ret_str HE.out.symm, HB.out⟩
      · have hne : ((k : Int) == 0) = false := by simpa using h0
        have HE := Lib.hid (show s = fmtS l by
          have h1 : l ≠ [] := fun e => h0 (by rw [HN.out, e]; rfl)
          rw [he.out, HN.out, fT_all h1])
        clear h0
        go_wp2
        go_ret
        exact ⟨ret_str HE.out, HB.out⟩

end Go.Proofs.YtkojeajjappchaaGreat.Row
