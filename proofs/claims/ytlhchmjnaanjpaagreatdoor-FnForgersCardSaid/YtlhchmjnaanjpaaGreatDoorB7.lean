/- Contracts and mathematics, joined: Match3. No conditions but those that each states. -/
import Derived.Test.YtlhchmjnaanjpaaGreatDoorB6
/- Contracts of the model's Match and Matches. No conditions but that lengths fit. -/
namespace Go.Proofs.YtlhchmjnaanjpaaGreatDoor.Row
open Go.ChangeShapes Go.WideShapes Go.ChangeAt Go.RowKit Go.Instr
set_option linter.unusedVariables false
set_option maxRecDepth 100000
theorem OwnK.belowB {α : Type} {e : TypeId} {enc : α → List Value} {sz B B' : Nat} {w w' : World} {v : Value} {l : List α} (h : OwnK e enc sz B w v l) (hlt : ∀ g, v.ownBlock = some g → g < B') (hb : Below B' w w') : OwnK e enc sz B w' v l := by
  refine ⟨h.1, ?_⟩
  rcases h.2 with h2 | ⟨g, cap, cur, rfl, hg, hh, r⟩
  · exact Or.inl h2
  · exact Or.inr ⟨g, cap, cur, rfl, hg, (hb.block g (hlt g rfl)).trans hh, r⟩
theorem _root_.Go.Proofs.YtlhchmjnaanjpaaGreatDoor.Ret.Box.below {w w' : World} {g B : Nat} {u : Value} {t : TypeId} (h : Ret.Box w g u t) (hg : g < B) (hb : Below B w w') : Ret.Box w' g u t := (hb.block g hg).trans h
set_option maxHeartbeats 4000000 in
theorem specMatch (vp vq v : Value) (p q : List ByteArray) (l : List (ByteArray × ByteArray)) (w : World) (hp : Holds Value.string w vp p) (hq : Holds Value.string w vq q) (hv : HoldsK encBd 2 w v l) (hpb : bulk p ≤ 100000000) (hqb : bulk q ≤ 100000000) (hl : l.length ≤ 2000000) :
    Calls Tryz.prog 157 #[.agg #[vp], .agg #[vq], v] w (GivesStep w.heap.size w l (matchB p q l)) := by
  obtain ⟨xp, np, cp, rfl, hnp, hcp, hp⟩ := hp.shapeN
  obtain ⟨xq, nq, cq, rfl, hnq, hcq, hq⟩ := hq.shapeN
  obtain ⟨x, n, c, rfl, hn, hc, hv⟩ := hv.shapeN
  have HSZ := Lib.hid (fun k (hk : k < p.length) => size_nth hpb hk)
  have hpl := bigLen hpb
  have hql := bigLen hqb
  rw [← hnp] at hpl
  rw [← hnq] at hql
  have HP := Lib.hid hp; have HQ := Lib.hid hq; have HV := Lib.hid hv; have HPB := Lib.hid hpb; have HQB := Lib.hid hqb; have HNP := Lib.hid hnp; have HNQ := Lib.hid hnq
  have HB0 := Lib.hid (((Below.refl w.heap.size w).alloc (Nat.le_refl _) (.cells #[.slice xp np cp] 129)).alloc (by simp) (.cells #[.slice xq nq cq] 32))
  have HCP0 := Lib.hid ((Ret.Box.new w (.slice xp np cp) 129).on ((Below.refl _ _).alloc (Nat.le_refl _) (.cells #[.slice xq nq cq] 32)))
  have HCQ0 := Lib.hid (Ret.Box.new' (w := w.alloc (.cells #[.slice xp np cp] 129)) (.slice xq nq cq) 32 (n := w.heap.size + 1) (by simp))
  clear hp hq hv hnp hnq hn hpb hqb
  have b1 := (Below.refl ((w.alloc (.cells #[.slice xp np cp] 129)).alloc (.cells #[.slice xq nq cq] 32)).heap.size ((w.alloc (.cells #[.slice xp np cp] 129)).alloc (.cells #[.slice xq nq cq] 32))).alloc (Nat.le_refl _) (.cells #[] 204)
  have HO0 : Hid (OwnK 204 encBd 2 (w.heap.size + 1 + 1) (((w.alloc (.cells #[.slice xp np cp] 129)).alloc (.cells #[.slice xq nq cq] 32)).alloc (.cells #[] 204)) (.slice (some ⟨w.heap.size + 1 + 1, 0, none⟩) 0 0) []) := Lib.hid (by simpa using ownK_empty encBd 2 204 ((w.alloc (.cells #[.slice xp np cp] 129)).alloc (.cells #[.slice xq nq cq] 32)))
  have HB1 := Lib.hid (HB0.out.trans (b1.mono HB0.out.size))
  have HCP1 := Lib.hid (HCP0.out.on b1); have HCQ1 := Lib.hid (HCQ0.out.on b1)
  clear b1
  go_enter Tryz.func157, Tryz.ntmps157
  go_wp2_with (at_builtin; refine wpList_appK kindBd (B := w.heap.size + 1 + 1) (l := []) (m := l) rfl _ _ rfl Tryz.underlying190 rfl rfl HO0.out (HV.out.on HB1.out) (by simp; omega) (by unfold maxLen; simp; omega) (by simp) ?_)
  intro vN w2 hoN hgN
  have HB2 := Lib.hid (HB1.out.grown hgN HB1.out.size (fun g hh => by have := (HO0.out.lt g hh).1; omega))
  have HCP2 := Lib.hid (HCP1.out.grown hgN (fun e => by have := (HO0.out.lt _ e.symm).1; omega))
  have HCQ2 := Lib.hid (HCQ1.out.grown hgN (fun e => by have := (HO0.out.lt _ e.symm).1; omega))
  obtain ⟨xN, nN, cN, rfl, hnN, hcN, hoN⟩ := hoN.shapeN
  have HON := Lib.hid (hoN.mono (show w.heap.size ≤ w.heap.size + 1 + 1 by omega))
  clear hoN hgN hnN
  have hcp2 := HCP2.out.cell
  go_wp2_with fail
  refine (specValidPattern _ p _ (HP.out.on HB2.out) HPB.out).mono ?_
  rintro e w3 ⟨rfl, hb3⟩
  have HB3 := Lib.hid (HB2.out.trans (hb3.mono HB2.out.size))
  have HCP3 := Lib.hid (HCP2.out.on hb3); have HCQ3 := Lib.hid (HCQ2.out.on hb3); have HON3 := Lib.hid (HON.out.on hb3)
  clear hcp2 hb3
  cases hvp : validPat p with
  | false =>
    have HM := Lib.hid (matchB_no1 (q := q) (l := l) hvp)
    clear hvp
    go_wp2_with fail
    go_ret2
    exact ⟨_, ret_three (by rw [HM.out]; rfl), by rw [HM.out]; exact HON3.out, HB3.out⟩
  | true =>
  have HVP := Lib.hid hvp
  clear hvp
  have hcq3 := HCQ3.out.cell
  go_wp2_with fail
  refine (specValidName _ q _ (HQ.out.on HB3.out) HQB.out).mono ?_
  rintro e w4 ⟨rfl, hb4⟩
  have HB4 := Lib.hid (HB3.out.trans (hb4.mono HB3.out.size))
  have HCP4 := Lib.hid (HCP3.out.on hb4); have HCQ4 := Lib.hid (HCQ3.out.on hb4); have HON4 := Lib.hid (HON3.out.on hb4)
  clear hcq3 hb4
  cases hvn : validN q with
  | false =>
    have HM := Lib.hid (matchB_no2 (p := p) (l := l) hvn)
    clear hvn
    go_wp2_with fail
    go_ret2
    exact ⟨_, ret_three (by rw [HM.out]; rfl), by rw [HM.out]; exact HON4.out, HB4.out⟩
  | true =>
  have HM := Lib.hid (matchB_yes (l := l) HVP.out hvn)
  have hp6 := (validPat_iff.1 HVP.out).1
  rw [← HNP.out] at hp6
  clear hvn
  have HE := Lib.hid (ownK_empty encBd 2 204 w4)
  have HB5 := Lib.hid (HB4.out.alloc HB4.out.size (.cells #[] 204))
  have HCP5 := Lib.hid (HCP4.out.on ((Below.refl _ _).alloc (Nat.le_refl _) (.cells #[] 204))); have HCQ5 := Lib.hid (HCQ4.out.on ((Below.refl _ _).alloc (Nat.le_refl _) (.cells #[] 204))); have HON5 := Lib.hid (HON4.out.on ((Below.refl _ _).alloc (Nat.le_refl _) (.cells #[] 204)))
  have HNB := Lib.hid (fun g hg => (HON4.out.lt g hg).2)
  have HPL := Lib.hid (show w.heap.size < w4.heap.size ∧ w.heap.size + 1 < w4.heap.size from ⟨HCP4.out.lt, HCQ4.out.lt⟩)
  go_wp2_with (at_builtin; refine wpList_appK kindBd (B := w4.heap.size) (l := []) (m := l) rfl _ _ rfl Tryz.underlying190 rfl rfl HE.out (HV.out.on HB5.out) (by simp; omega) (by unfold maxLen; simp; omega) (by simp) ?_)
  intro vO w6 hoO hgO
  have HB6 := Lib.hid (HB5.out.grown hgO HB5.out.size (fun g hh => by have := (HE.out.lt g hh).1; have := HPL.out.1; omega))
  have HCP6 := Lib.hid (HCP5.out.grown hgO (fun e => by have := (HE.out.lt _ e.symm).1; have := HPL.out.1; omega))
  have HCQ6 := Lib.hid (HCQ5.out.grown hgO (fun e => by have := (HE.out.lt _ e.symm).1; have := HPL.out.2; omega))
  have HON6 := Lib.hid (HON5.out.belowB HNB.out ((Below.refl w4.heap.size _).grown hgO (by simp) (fun g hh => (HE.out.lt g hh).1)))
  have HZ6 : w4.heap.size ≤ w6.heap.size := by have := hgO.size; simp at this; omega
  have HO6 := Lib.hid hoO
  clear hoO hgO
  go_wp2_with fail
  clear HB5 HCP5 HCQ5 HON5 HB4 HCP4 HCQ4 HON4 HB3 HCP3 HCQ3 HON3 HB2 HCP2 HCQ2 HB1 HCP1 HCQ1 HB0 HCP0 HCQ0 HO0 HE HPB HQB HV hv hp hq
  go_loopw [9, 10] (fun ov iv wr => ∃ (k m : Nat) (cur : List (ByteArray × ByteArray)), k ≤ np ∧ k ≤ nq ∧ iv = .int .i64 k ∧ m ≤ 2000000 + k ∧ Hid (cur.length = m) ∧ Hid (matchL (p.drop k) (q.drop k) cur = matchL p q l) ∧ Hid (OwnK 204 encBd 2 w4.heap.size wr ov cur) ∧ Hid (OwnK 204 encBd 2 w.heap.size wr (.slice xN nN cN) l) ∧ Hid (Ret.Box wr w.heap.size (.slice xp np cp) 129) ∧ Hid (Ret.Box wr (w.heap.size + 1) (.slice xq nq cq) 32) ∧ Hid (Below w.heap.size w wr) ∧ w4.heap.size ≤ wr.heap.size) (fun _ iv _ => np - (intOf iv).toNat)
  case atStart => exact ⟨0, l.length, l, Nat.zero_le _, Nat.zero_le _, rfl, by omega, Lib.hid rfl, Lib.hid rfl, HO6, HON6, HCP6, HCQ6, HB6, HZ6⟩
  case round =>
    obtain ⟨k, m, cur, hk, hkq, rfl, hm, hml, hI, ho, hon, hcp, hcq, hb, hz⟩ := hrel
    have hcpc := hcp.out.cell
    have hcqc := hcq.out.cell
    have HOW := Lib.hid (ho.out.mono (show w.heap.size ≤ w4.heap.size by have := HPL.out.1; omega))
    by_cases hlt : k < np
    · have hkp : k < p.length := by have := HNP.out; omega
      obtain ⟨b, off, rfl, hc⟩ := (HP.out.on hb.out).at hkp
      by_cases hr : nth p k = star2B
      · have HMM := Lib.hid ((hI.out).symm.trans (matchL_rest hkp hr))
        have hq2 : ((nth p k).toList == [42, 42]) = true := star2_yes hr
        clear hkp hr
        go_wp2_with fail
        go_ret2
        exact ⟨_, ret_three (by rw [HM.out, HMM.out]; rfl), by rw [HM.out, HMM.out]; exact HOW.out, hb.out⟩
      · have hq2 : ((nth p k).toList == [42, 42]) = false := star2_no hr
        have HR := Lib.hid hr; have HKP := Lib.hid hkp
        clear hr hkp
        by_cases hlq : k < nq
        · have hkq2 : k < q.length := by have := HNQ.out; omega
          obtain ⟨b', off', rfl, hd⟩ := (HQ.out.on hb.out).at hkq2
          have HKQ := Lib.hid hkq2
          have HNO := Lib.hid (fun (h : stepM (nth p k) (nth q k) cur = none) => HM.out.trans ((hI.out).symm.trans (matchL_no HKP.out HR.out HKQ.out h)))
          have HON := Lib.hid (fun nx (h : stepM (nth p k) (nth q k) cur = some nx) => (matchL_on HKP.out HR.out HKQ.out h).symm.trans hI.out)
          clear hkq2
          by_cases hs : nth p k = starB
          · have hq1 : ((nth p k).toList == [42]) = true := star_yes hs
            have HI2 := Lib.hid (HON.out cur (stepM_any hs))
            clear hs
            go_wp2_with fail
            go_roundw
            case rel => exact ⟨k + 1, m, cur, by omega, by omega, by go_num, by omega, hml, HI2, ho, hon, hcp, hcq, hb, hz⟩
            case measure => simp [intOf]; omega
          · have hq1 : ((nth p k).toList == [42]) = false := star_no hs
            have HS := Lib.hid hs
            clear hs
            cases hx : letterP (nth p k) with
            | true =>
              have HX := Lib.hid hx
              have HST := Lib.hid (stepM_var (t := nth q k) (l := cur) hx)
              clear hx
              obtain ⟨x9, n9, c9, rfl, hn8, hc9, -⟩ := ho.out.shapeN
              have hn9 : n9 = m := hn8.trans hml.out
              clear hn8
              subst hn9
              go_wp2_with fail
              refine (l5Letter _ _ (by have := HSZ.out k HKP.out; omega)).mono ?_
              rintro e w7 ⟨rfl, rfl⟩
              rw [HX.out]
              go_wp2_with fail
              refine (l5Find _ cur _ _ ho.out.holds (by rw [hml.out]; omega)).mono ?_
              rintro e w7 ⟨rfl, hw7⟩
              subst hw7
              rcases ixB_cases cur (nth p k) with ⟨h1, -, h2⟩ | ⟨i, hi, h1, h3, h2⟩
              · rw [h1]
                have HI2 := Lib.hid (HON.out (cur ++ [(nth p k, nth q k)]) (by rw [HST.out, if_neg h2]))
                have HA := Lib.hid (ho.out.on ((Below.refl _ _).alloc (Nat.le_refl _) (.cells #[.string (nth p k), .string (nth q k)] 204)))
                have HAB := Lib.hid (hb.out.alloc hb.out.size (.cells #[.string (nth p k), .string (nth q k)] 204))
                have HA4 := Lib.hid ((Below.refl w4.heap.size wr).alloc hz (.cells #[.string (nth p k), .string (nth q k)] 204))
                clear h1 h2
                go_wp2_with (at_builtin; refine wpList_appK kindBd (B := w4.heap.size) (l := cur) (m := [(nth p k, nth q k)]) rfl _ _ rfl Tryz.underlying190 rfl rfl HA.out (holdsK_one szBd 204 _ (nth p k, nth q k)) (by rw [hml.out]; simp; omega) (by rw [hml.out]; unfold maxLen; simp; omega) (by simp; omega) ?_)
                intro v8 w8 ho8 hg8
                have hb8 := HA4.out.grown hg8 (by simp; omega) (fun g hh => (HA.out.lt g hh).1)
                have HO8 := Lib.hid ho8
                have HON8 := Lib.hid (hon.out.belowB HNB.out hb8)
                have HCP8 := Lib.hid (hcp.out.below HPL.out.1 hb8); have HCQ8 := Lib.hid (hcq.out.below HPL.out.2 hb8)
                have HB8 := Lib.hid (hb.out.trans (hb8.mono (by have := HPL.out.1; omega)))
                have hz8 : w4.heap.size ≤ w8.heap.size := Nat.le_trans hz hb8.size
                have HL8 := Lib.hid (show (cur ++ [(nth p k, nth q k)]).length = n9 + 1 by rw [List.length_append, hml.out]; rfl)
                clear ho8 hg8 hb8
                go_wp2_with fail
                go_roundw
                case rel => exact ⟨k + 1, n9 + 1, _, by omega, by omega, by go_num, by omega, HL8, HI2, HO8, HON8, HCP8, HCQ8, HB8, hz8⟩
                case measure => simp [intOf]; omega
              · rw [h1]
                obtain ⟨b9, off9, rfl, -, hc2⟩ := bdAt ho.out.holds (k := i) hi
                have hi2 : i < n9 := by have := hml.out; omega
                by_cases he : (nth cur i).2 = nth q k
                · have HI2 := Lib.hid (HON.out cur (by rw [HST.out, h3, if_pos hi, if_pos he]))
                  have ht := tl_eq he
                  clear h1 h2 h3 hi he
                  go_wp2_with fail
                  go_quiet (fail)
                  go_wp2_with fail
                  go_roundw
                  case rel => exact ⟨k + 1, n9, cur, by omega, by omega, by go_num, by omega, hml, HI2, Lib.hid (ho.out.on (below_drewN (Below.refl _ _) _)), Lib.hid (hon.out.on (below_drewN (Below.refl _ _) _)), Lib.hid (hcp.out.on (below_drewN (Below.refl _ _) _)), Lib.hid (hcq.out.on (below_drewN (Below.refl _ _) _)), Lib.hid (below_drewN hb.out _), hz⟩
                  case measure => simp [intOf]; omega
                · have HMM := Lib.hid (HNO.out (by rw [HST.out, h3, if_pos hi, if_neg he]))
                  have ht := tl_ne he
                  clear h1 h2 h3 hi he
                  go_wp2_with fail
                  go_quiet (fail)
                  go_wp2_with fail
                  go_ret2
                  exact ⟨_, ret_three (by rw [HMM.out]; rfl), by rw [HMM.out]; exact hon.out.on (below_drewN (Below.refl _ _) _), below_drewN hb.out _⟩
            | false =>
              have HX := Lib.hid hx
              have HST := Lib.hid (show stepM (nth p k) (nth q k) cur = if nth p k = nth q k then some cur else none by unfold stepM; rw [if_neg HS.out, if_neg (by rw [hx]; simp)])
              clear hx
              by_cases he : nth p k = nth q k
              · have HI2 := Lib.hid (HON.out cur (by rw [HST.out, if_pos he]))
                have ht := tl_eq he
                clear he
                go_wp2_with fail
                refine (l5Letter _ _ (by have := HSZ.out k HKP.out; omega)).mono ?_
                rintro e w7 ⟨rfl, rfl⟩
                rw [HX.out]
                go_wp2_with fail
                go_roundw
                case rel => exact ⟨k + 1, m, cur, by omega, by omega, by go_num, by omega, hml, HI2, ho, hon, hcp, hcq, hb, hz⟩
                case measure => simp [intOf]; omega
              · have HMM := Lib.hid (HNO.out (by rw [HST.out, if_neg he]))
                have ht := tl_ne he
                clear he
                go_wp2_with fail
                refine (l5Letter _ _ (by have := HSZ.out k HKP.out; omega)).mono ?_
                rintro e w7 ⟨rfl, rfl⟩
                rw [HX.out]
                go_wp2_with fail
                go_ret2
                exact ⟨_, ret_three (by rw [HMM.out]; rfl), by rw [HMM.out]; exact hon.out, hb.out⟩
        · obtain rfl : k = nq := by omega
          have HMM := Lib.hid (HM.out.trans ((hI.out).symm.trans (matchL_short HKP.out HR.out (by have := HNQ.out; omega))))
          clear hlq
          go_wp2_with fail
          go_ret2
          exact ⟨_, ret_three (by rw [HMM.out]; rfl), by rw [HMM.out]; exact hon.out, hb.out⟩
    · obtain rfl : k = np := by omega
      have HMM := Lib.hid (HM.out.trans ((hI.out).symm.trans (show matchL (p.drop k) (q.drop k) cur = if q.length = p.length then some cur else none by
        have e := matchL_end (p := p) (q := q) (l := cur) (by have := HNP.out; have := HNQ.out; omega)
        rw [← HNP.out] at e
        rw [← HNP.out]; exact e)))
      clear hlt
      by_cases he : nq = k
      · have ht : (((nq : Nat) : Int) != ((k : Nat) : Int)) = false := by simp [he]
        have HM2 := Lib.hid (HMM.out.trans (if_pos (by have := HNP.out; have := HNQ.out; omega)))
        clear he
        go_wp2_with fail
        go_ret2
        exact ⟨_, ret_three (by rw [HM2.out]; rfl), by rw [HM2.out]; exact HOW.out, hb.out⟩
      · have ht : (((nq : Nat) : Int) != ((k : Nat) : Int)) = true := by simp; omega
        have HM2 := Lib.hid (HMM.out.trans (if_neg (by have := HNP.out; have := HNQ.out; omega)))
        clear he
        go_wp2_with fail
        go_ret2
        exact ⟨_, ret_three (by rw [HM2.out]; rfl), by rw [HM2.out]; exact hon.out, hb.out⟩
def mOk (p q : List ByteArray) (l : List (ByteArray × ByteArray)) : Bool := (matchB p q l).isSome
def mOut (p q : List ByteArray) (l : List (ByteArray × ByteArray)) : List (ByteArray × ByteArray) := (matchB p q l).getD l
theorem matchL_len : ∀ (p q : List ByteArray) (l m : List (ByteArray × ByteArray)), matchL p q l = some m → m.length ≤ l.length + p.length
  | [], [], l, m, h => by simp [matchL] at h; rw [h]; simp
  | [], _ :: _, l, m, h => by simp [matchL] at h
  | s :: ps, [], l, m, h => by
    unfold matchL at h
    split at h
    · cases h; omega
    · cases h
  | s :: ps, t :: ts, l, m, h => by
    unfold matchL at h
    split at h
    · cases h; omega
    · split at h
      · cases h
      · rename_i hs
        have h1 := stepM_len hs
        have h2 := matchL_len ps ts _ m h
        simp; omega
theorem mOut_len (p q : List ByteArray) (l : List (ByteArray × ByteArray)) : (mOut p q l).length ≤ l.length + 6 := by
  unfold mOut matchB
  split
  · rename_i h
    cases hm : matchL p q l with
    | none => simp
    | some m =>
      have h1 := matchL_len p q l m hm
      have h2 := (validPat_iff.1 h.1).1
      simp; omega
  · simp
theorem implMatchX (vp vq v : Value) (p q : List ByteArray) (l : List (ByteArray × ByteArray)) (w : World) (hp : Holds Value.string w vp p) (hq : Holds Value.string w vq q) (hv : HoldsK encBd 2 w v l) (hpb : bulk p ≤ 100000000) (hqb : bulk q ≤ 100000000) (hl : l.length ≤ 2000000) :
    Calls Tryz.prog 169 #[.agg #[vp], .agg #[vq], v] w fun e w' => ∃ v', e = .returned (.tuple #[v', .bool (mOk p q l)]) ∧ OwnK 204 encBd 2 w.heap.size w' v' (mOut p q l) ∧ Below w.heap.size w w' :=
  implMatch vp vq v p q l w hp hq hv hpb hqb hl
theorem specMatchX (vp vq v : Value) (p q : List ByteArray) (l : List (ByteArray × ByteArray)) (w : World) (hp : Holds Value.string w vp p) (hq : Holds Value.string w vq q) (hv : HoldsK encBd 2 w v l) (hpb : bulk p ≤ 100000000) (hqb : bulk q ≤ 100000000) (hl : l.length ≤ 2000000) :
    Calls Tryz.prog 157 #[.agg #[vp], .agg #[vq], v] w fun e w' => ∃ v', e = .returned (.tuple #[v', .bool (mOk p q l)]) ∧ OwnK 204 encBd 2 w.heap.size w' v' (mOut p q l) ∧ Below w.heap.size w w' :=
  specMatch vp vq v p q l w hp hq hv hpb hqb hl
end Go.Proofs.YtlhchmjnaanjpaaGreatDoor.Row
