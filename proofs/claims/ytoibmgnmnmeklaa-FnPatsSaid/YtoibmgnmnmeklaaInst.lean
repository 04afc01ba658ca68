/- Contracts of Instantiate, the program's (through an interface's methods) and the model's. No conditions but that lengths fit. -/
import Derived.Test.YtoibmgnmnmeklaaPParse
import Derived.Test.YtoibmgnmnmeklaaMatch2
namespace Go.Proofs.Ytoibmgnmnmeklaa.Row
open Go.ChangeShapes Go.WideShapes Go.ChangeAt Go.RowKit Go.Instr
set_option linter.unusedVariables false
set_option maxRecDepth 100000

/-- What the bindings make of a part: in the model, in the program. -/
def inst1 (l : List (ByteArray × ByteArray)) (s : ByteArray) : ByteArray := if letterP s = true then bvB l s else s
def instI (l : List (ByteArray × ByteArray)) (s : ByteArray) : ByteArray := if validP s = true then s else if letterP s = true then bvB l s else ByteArray.empty
def instOk (p : List ByteArray) (l : List (ByteArray × ByteArray)) : Bool := validPat p && validN (p.map (inst1 l))
def instN (p : List ByteArray) (l : List (ByteArray × ByteArray)) : List ByteArray := if instOk p l = true then p.map (inst1 l) else []
theorem instN_yes {p : List ByteArray} {l : List (ByteArray × ByteArray)} (h : instOk p l = true) : instN p l = p.map (inst1 l) := if_pos h
theorem instN_no {p : List ByteArray} {l : List (ByteArray × ByteArray)} (h : instOk p l = false) : instN p l = [] := if_neg (by rw [h]; simp)
theorem instN_valid (p : List ByteArray) (l : List (ByteArray × ByteArray)) : validN (instN p l) = true := by
  cases h : instOk p l with
  | true => rw [instN_yes h]; unfold instOk at h; exact ((Bool.and_eq_true _ _).mp h).2
  | false => rw [instN_no h]; exact validN_iff.2 ⟨by simp, by simp⟩
theorem instN_len (p : List ByteArray) (l : List (ByteArray × ByteArray)) : (instN p l).length ≤ 6 := (validN_iff.1 (instN_valid p l)).1
/-- In a right pattern both ways make the same right parts. -/
theorem inst_same {p : List ByteArray} {l : List (ByteArray × ByteArray)} (hp : validPat p = true) : validN (p.map (instI l)) = validN (p.map (inst1 l)) ∧ (validN (p.map (inst1 l)) = true → p.map (instI l) = p.map (inst1 l)) := by
  have key : ∀ s ∈ p, validP (instI l s) = validP (inst1 l s) ∧ (validP (inst1 l s) = true → instI l s = inst1 l s) := by
    intro s hs
    obtain ⟨j, hj, rfl⟩ := List.getElem_of_mem hs
    have he := (validPat_iff.1 hp).2 j hj
    rw [nth_eq hj] at he
    unfold instI inst1
    rcases elemP_iff.1 he with h | h | h | ⟨h, _⟩
    · rw [if_pos h, if_neg (by rw [valid_letterP h]; simp)]; exact ⟨rfl, fun _ => rfl⟩
    · rw [h, if_neg (by rw [star_validP]; simp), if_neg (by rw [star_letterP]; simp), if_neg (by rw [star_letterP]; simp), empty_validP, star_validP]; exact ⟨rfl, fun e => by cases e⟩
    · rw [if_neg (by rw [letter_validP h]; simp), if_pos h, if_pos h]; exact ⟨rfl, fun _ => rfl⟩
    · rw [h, if_neg (by rw [star2_validP]; simp), if_neg (by rw [star2_letterP]; simp), if_neg (by rw [star2_letterP]; simp), empty_validP, star2_validP]; exact ⟨rfl, fun e => by cases e⟩
  refine ⟨?_, fun h => ?_⟩
  · unfold validN
    congr 1
    refine propext ⟨fun ⟨h1, h2⟩ => ⟨by simpa using h1, fun x hx => ?_⟩, fun ⟨h1, h2⟩ => ⟨by simpa using h1, fun x hx => ?_⟩⟩
    · obtain ⟨s, hs, rfl⟩ := List.mem_map.1 hx
      rw [← (key s hs).1]; exact h2 _ (List.mem_map.2 ⟨s, hs, rfl⟩)
    · obtain ⟨s, hs, rfl⟩ := List.mem_map.1 hx
      rw [(key s hs).1]; exact h2 _ (List.mem_map.2 ⟨s, hs, rfl⟩)
  · refine List.map_congr_left fun s hs => ?_
    exact (key s hs).2 ((validN_iff.1 h).2 _ (List.mem_map.2 ⟨s, hs, rfl⟩))
/-- Sizes: a binding's value is no longer than the bindings together. -/
theorem bv_size (l : List (ByteArray × ByteArray)) (s : ByteArray) : (bvB l s).size ≤ bulk2 l := by
  unfold bvB
  split
  · rename_i h
    have h1 := bulk2To_succ l h
    have h2 := bulk2To_le l (fi l s + 1)
    omega
  · simp
theorem bulk_map_le (f : ByteArray → ByteArray) (m : Nat) : ∀ p : List ByteArray, (∀ s ∈ p, (f s).size ≤ m) → bulk (p.map f) ≤ p.length * (m + 1)
  | [], _ => by simp [bulk_nil]
  | a :: r, h => by
    have h1 := bulk_map_le f m r (fun s hs => h s (List.mem_cons_of_mem _ hs))
    have h2 := h a (List.mem_cons_self ..)
    rw [List.map_cons, bulk_cons, List.length_cons, Nat.add_mul]
    omega
theorem bulk_inst (p : List ByteArray) (l : List (ByteArray × ByteArray)) (h6 : p.length ≤ 6) (hp : bulk p ≤ 2000000) (hl : bulk2 l ≤ 2000000) : bulk (p.map (inst1 l)) ≤ 100000000 := by
  have := bulk_map_le (inst1 l) 2000000 p (fun s hs => by
    unfold inst1
    split
    · exact Nat.le_trans (bv_size l s) hl
    · obtain ⟨j, hj, rfl⟩ := List.getElem_of_mem hs
      have := size_nth hp hj
      rwa [nth_eq hj] at this)
  have h2 : p.length * (2000000 + 1) ≤ 6 * (2000000 + 1) := Nat.mul_le_mul_right _ h6
  omega
theorem bulk_instI (p : List ByteArray) (l : List (ByteArray × ByteArray)) (h6 : p.length ≤ 6) (hp : bulk p ≤ 2000000) (hl : bulk2 l ≤ 2000000) : bulk (p.map (instI l)) ≤ 100000000 := by
  have := bulk_map_le (instI l) 2000000 p (fun s hs => by
    unfold instI
    split
    · obtain ⟨j, hj, rfl⟩ := List.getElem_of_mem hs
      have := size_nth hp hj
      rwa [nth_eq hj] at this
    · split
      · exact Nat.le_trans (bv_size l s) hl
      · simp)
  have h2 : p.length * (2000000 + 1) ≤ 6 * (2000000 + 1) := Nat.mul_le_mul_right _ h6
  omega
def mapTo (f : ByteArray → ByteArray) (p : List ByteArray) (k : Nat) : List ByteArray := (p.take k).map f
theorem mapTo_succ (f : ByteArray → ByteArray) {p : List ByteArray} {k : Nat} (h : k < p.length) : mapTo f p k ++ [f (nth p k)] = mapTo f p (k + 1) := by
  unfold mapTo
  rw [nth_eq h, List.take_succ_eq_append_getElem h, List.map_append]; rfl

set_option maxHeartbeats 2000000 in
theorem specInstantiate (vp v : Value) (p : List ByteArray) (l : List (ByteArray × ByteArray)) (w : World) (hp : Holds Value.string w vp p) (hv : HoldsK encBd 2 w v l) (hpb : bulk p ≤ 2000000) (hlb : bulk2 l ≤ 2000000) :
    Calls Try.prog 21 #[.agg #[vp], v] w (GivesNB w (instN p l) (instOk p l)) := by
  obtain ⟨xp, np, cp, rfl, hnp, hcp, hp⟩ := hp.shapeN
  obtain ⟨x, n, c, rfl, hn, hc, hv⟩ := hv.shapeN
  have HSZ := Lib.hid (fun k (hk : k < p.length) => size_nth hpb hk)
  have hpl := bigLen hpb
  have hll := Nat.le_trans (bulk2_len l) hlb
  rw [← hnp] at hpl
  have HP := Lib.hid hp; have HV := Lib.hid hv; have HPB := Lib.hid hpb; have HLB := Lib.hid hlb; have HNP := Lib.hid hnp
  have b0 := (((Below.refl w.heap.size w).alloc (Nat.le_refl _) (.cells #[.slice xp np cp] 26)).alloc (by simp) (.cells #[.slice none 0 0] 27)).alloc (by simp; omega) (.cells #[.slice none 0 0] 27)
  have HB0 := Lib.hid b0
  have HC0 : Hid (Ret.Box (((w.alloc (.cells #[.slice xp np cp] 26)).alloc (.cells #[.slice none 0 0] 27)).alloc (.cells #[.slice none 0 0] 27)) w.heap.size (.slice xp np cp) 26) := Lib.hid ((Ret.Box.new w _ _).on (((Below.refl _ _).alloc (Nat.le_refl _) _).alloc (by simp) _))
  have HR0 : Hid (Ret.Box (((w.alloc (.cells #[.slice xp np cp] 26)).alloc (.cells #[.slice none 0 0] 27)).alloc (.cells #[.slice none 0 0] 27)) (w.heap.size + 1) (.slice none 0 0) 27) := Lib.hid ((Ret.Box.new' (w := w.alloc (.cells #[.slice xp np cp] 26)) (.slice none 0 0) 27 (by simp)).on ((Below.refl _ _).alloc (Nat.le_refl _) _))
  have HT0 : Hid (Ret.Box (((w.alloc (.cells #[.slice xp np cp] 26)).alloc (.cells #[.slice none 0 0] 27)).alloc (.cells #[.slice none 0 0] 27)) (w.heap.size + 1 + 1) (.slice none 0 0) 27) := Lib.hid (Ret.Box.new' (.slice none 0 0) 27 (by simp))
  have HO0 : Hid (Own 9 Value.string (w.heap.size + 1 + 1 + 1) (((w.alloc (.cells #[.slice xp np cp] 26)).alloc (.cells #[.slice none 0 0] 27)).alloc (.cells #[.slice none 0 0] 27)) (.slice none 0 0) []) := Lib.hid (Own.nil _ _ _ _)
  clear hp hv hnp hn hpb hlb b0
  go_enter Try.func21, Try.ntmps21
  go_wp2_with fail
  go_loopw [7] (fun iv wr => ∃ (k m : Nat) (u : Value), k ≤ np ∧ iv = .int .i64 k ∧ Hid ((p.take k).length = k) ∧ Hid (Own 9 Value.string (w.heap.size + 1 + 1 + 1) wr u (mapTo (inst1 l) p k)) ∧ Hid (Ret.Box wr (w.heap.size + 1 + 1) u 27) ∧ Hid (Ret.Box wr (w.heap.size + 1) (.slice none 0 0) 27) ∧ Hid (Ret.Box wr w.heap.size (.slice xp np cp) 26) ∧ Hid (Below w.heap.size w wr)) (fun iv _ => np - (intOf iv).toNat)
  case atStart => exact ⟨0, 0, _, Nat.zero_le _, rfl, Lib.hid rfl, HO0, HT0, HR0, HC0, HB0⟩
  case round =>
    obtain ⟨k, m, u, hk, rfl, hkl, ho, ht, hr, hc, hb⟩ := hrel
    have hcc := hc.out.cell
    by_cases hlt : k < np
    · have hkp : k < p.length := by have := HNP.out; omega
      obtain ⟨b, off, rfl, hd⟩ := (HP.out.on hb.out).at hkp
      have HKP := Lib.hid hkp
      clear hkp
      go_wp2_with fail
      refine (l5Letter _ _ (by have := HSZ.out k HKP.out; omega)).mono ?_
      rintro e w1 ⟨rfl, hw1⟩
      subst hw1
      cases hx : letterP (nth p k) with
      | true =>
        have HE := Lib.hid (show inst1 l (nth p k) = bvB l (nth p k) from if_pos hx)
        clear hx
        go_wp2_with fail
        refine (specBindingValue _ l _ _ (HV.out.on hb.out) (by omega)).mono ?_
        rintro e w1 ⟨rfl, hw1⟩
        subst hw1
        have htc := ht.out.cell
        have HA := Lib.hid (ho.out.on ((Below.refl _ _).alloc (Nat.le_refl _) (.cells #[.string (bvB l (nth p k))] 9)))
        have HT1 := Lib.hid (ht.out.on ((Below.refl _ _).alloc (Nat.le_refl _) (.cells #[.string (bvB l (nth p k))] 9))); have HR1 := Lib.hid (hr.out.on ((Below.refl _ _).alloc (Nat.le_refl _) (.cells #[.string (bvB l (nth p k))] 9))); have HC1 := Lib.hid (hc.out.on ((Below.refl _ _).alloc (Nat.le_refl _) (.cells #[.string (bvB l (nth p k))] 9)))
        have HB1 := Lib.hid (hb.out.alloc hb.out.size (.cells #[.string (bvB l (nth p k))] 9))
        have HLEN := Lib.hid (show (mapTo (inst1 l) p k).length = k by unfold mapTo; rw [List.length_map]; exact hkl.out)
        have HX := Lib.hid (show mapTo (inst1 l) p k ++ [bvB l (nth p k)] = mapTo (inst1 l) p (k + 1) by rw [← mapTo_succ (inst1 l) HKP.out, HE.out])
        have HBS := Lib.hid (show w.heap.size + 1 + 1 < wr.heap.size from ht.out.lt)
        go_wp2_with (at_builtin; refine wpList_app (enc := Value.string) (B := w.heap.size + 1 + 1 + 1) (l := mapTo (inst1 l) p k) (m := [bvB l (nth p k)]) rfl _ _ rfl Try.underlying24 elemSTR rfl rfl rfl HA.out (holds_one Value.string 9 _ _) oneStr (by rw [HLEN.out]; simp; omega) (by rw [HLEN.out]; unfold maxLen; simp; omega) (by have := HBS.out; simp; omega) ?_)
        intro v2 w2 ho2 hg2
        rw [HX.out] at ho2
        have hT := HT1.out.grown hg2 (fun e => by have := (HA.out.lt _ e.symm).1; omega)
        have hR := HR1.out.grown hg2 (fun e => by have := (HA.out.lt _ e.symm).1; omega)
        have hC := HC1.out.grown hg2 (fun e => by have := (HA.out.lt _ e.symm).1; omega)
        have hB := HB1.out.grown hg2 (by have := HBS.out; simp; omega) (fun g hh => by have := (HA.out.lt g hh).1; omega)
        have HT2 := Lib.hid (hT.set v2)
        have hgs : w2.grownBy (w2.setCell ⟨w.heap.size + 1 + 1, 0, none⟩ v2) (some (w.heap.size + 1 + 1)) := Ret.grownBy_set w2 ⟨w.heap.size + 1 + 1, 0, none⟩ v2
        have HR2 := Lib.hid (hR.grown hgs (fun e => by have := Option.some.inj e; omega)); have HC2 := Lib.hid (hC.grown hgs (fun e => by have := Option.some.inj e; omega))
        have HO2 := Lib.hid (ho2.grown hgs (nb ho2 (by omega)))
        have HB2 := Lib.hid (hB.setCell (p := ⟨w.heap.size + 1 + 1, 0, none⟩) (Nat.le_trans (Nat.le_succ _) (Nat.le_succ _)) v2)
        have htc2 := hT.cell
        have htf2 := hT.frozen
        have HKL2 := Lib.hid (show (p.take (k + 1)).length = k + 1 by rw [List.length_take]; have := HKP.out; omega)
        clear ho2 hg2 hT hR hC hB hgs htc
        obtain ⟨x2, n2, c2, rfl, -, -, -⟩ := HO2.out.shapeN
        go_wp2_with fail
        go_roundw
        case rel => exact ⟨k + 1, 0, _, by omega, by go_num, HKL2, HO2, HT2, HR2, HC2, HB2⟩
        case measure => simp [intOf]; omega
      | false =>
        have HE := Lib.hid (show inst1 l (nth p k) = nth p k from if_neg (by rw [hx]; simp))
        clear hx
        have htc := ht.out.cell
        have HA := Lib.hid (ho.out.on ((Below.refl _ _).alloc (Nat.le_refl _) (.cells #[.string (nth p k)] 9)))
        have HT1 := Lib.hid (ht.out.on ((Below.refl _ _).alloc (Nat.le_refl _) (.cells #[.string (nth p k)] 9))); have HR1 := Lib.hid (hr.out.on ((Below.refl _ _).alloc (Nat.le_refl _) (.cells #[.string (nth p k)] 9))); have HC1 := Lib.hid (hc.out.on ((Below.refl _ _).alloc (Nat.le_refl _) (.cells #[.string (nth p k)] 9)))
        have HB1 := Lib.hid (hb.out.alloc hb.out.size (.cells #[.string (nth p k)] 9))
        have HLEN := Lib.hid (show (mapTo (inst1 l) p k).length = k by unfold mapTo; rw [List.length_map]; exact hkl.out)
        have HX := Lib.hid (show mapTo (inst1 l) p k ++ [nth p k] = mapTo (inst1 l) p (k + 1) by rw [← mapTo_succ (inst1 l) HKP.out, HE.out])
        have HBS := Lib.hid (show w.heap.size + 1 + 1 < wr.heap.size from ht.out.lt)
        go_wp2_with (at_builtin; refine wpList_app (enc := Value.string) (B := w.heap.size + 1 + 1 + 1) (l := mapTo (inst1 l) p k) (m := [nth p k]) rfl _ _ rfl Try.underlying24 elemSTR rfl rfl rfl HA.out (holds_one Value.string 9 _ _) oneStr (by rw [HLEN.out]; simp; omega) (by rw [HLEN.out]; unfold maxLen; simp; omega) (by have := HBS.out; simp; omega) ?_)
        intro v2 w2 ho2 hg2
        rw [HX.out] at ho2
        have hT := HT1.out.grown hg2 (fun e => by have := (HA.out.lt _ e.symm).1; omega)
        have hR := HR1.out.grown hg2 (fun e => by have := (HA.out.lt _ e.symm).1; omega)
        have hC := HC1.out.grown hg2 (fun e => by have := (HA.out.lt _ e.symm).1; omega)
        have hB := HB1.out.grown hg2 (by have := HBS.out; simp; omega) (fun g hh => by have := (HA.out.lt g hh).1; omega)
        have HT2 := Lib.hid (hT.set v2)
        have hgs : w2.grownBy (w2.setCell ⟨w.heap.size + 1 + 1, 0, none⟩ v2) (some (w.heap.size + 1 + 1)) := Ret.grownBy_set w2 ⟨w.heap.size + 1 + 1, 0, none⟩ v2
        have HR2 := Lib.hid (hR.grown hgs (fun e => by have := Option.some.inj e; omega)); have HC2 := Lib.hid (hC.grown hgs (fun e => by have := Option.some.inj e; omega))
        have HO2 := Lib.hid (ho2.grown hgs (nb ho2 (by omega)))
        have HB2 := Lib.hid (hB.setCell (p := ⟨w.heap.size + 1 + 1, 0, none⟩) (Nat.le_trans (Nat.le_succ _) (Nat.le_succ _)) v2)
        have htc2 := hT.cell
        have htf2 := hT.frozen
        have HKL2 := Lib.hid (show (p.take (k + 1)).length = k + 1 by rw [List.length_take]; have := HKP.out; omega)
        clear ho2 hg2 hT hR hC hB hgs htc
        obtain ⟨x2, n2, c2, rfl, -, -, -⟩ := HO2.out.shapeN
        go_wp2_with fail
        go_roundw
        case rel => exact ⟨k + 1, 0, _, by omega, by go_num, HKL2, HO2, HT2, HR2, HC2, HB2⟩
        case measure => simp [intOf]; omega
    · obtain rfl : k = np := by omega
      have HTK := Lib.hid (show p.take k = p by rw [HNP.out]; exact List.take_length)
      have HO := Lib.hid (show Own 9 Value.string (w.heap.size + 1 + 1 + 1) wr u (p.map (inst1 l)) by have := ho.out; unfold mapTo at this; rwa [HTK.out] at this)
      clear hlt
      go_wp2_with fail
      refine (specValidPattern _ p _ (HP.out.on hb.out) (by have := HPB.out; omega)).mono ?_
      rintro e w1 ⟨rfl, hb1⟩
      have HB1 := Lib.hid (hb.out.trans (hb1.mono hb.out.size))
      have HO1 := Lib.hid (HO.out.on hb1); have HT1 := Lib.hid (ht.out.on hb1); have HR1 := Lib.hid (hr.out.on hb1)
      clear hb1 hcc
      cases hv : validPat p with
      | false =>
        have HP := Lib.hid (show instOk p l = false by unfold instOk; rw [hv]; rfl)
        have HPN := Lib.hid (instN_no HP.out)
        clear hv
        obtain ⟨hk2, hf2⟩ := HR1.out.nc
        obtain ⟨q1, q2, q3⟩ := endN (w := w) (g := w.heap.size + 1) (B := w.heap.size + 1 + 1) (v := .slice none 0 0) (l := []) (by omega) (by omega) (Own.nil _ _ _ _) hk2 HB1.out
        have HQ1 := Lib.hid q1; have HQ2 := Lib.hid q2; have HQ3 := Lib.hid q3
        clear q1 q2 q3
        go_wp2
        refine bodyPost_ret (Ret.results_ct rfl _ _ (w.heap.size + 1) [_] rfl aggN (Ret.one HQ1.out)) rfl ?_
        exact ⟨_, ret_nb HP.out.symm, by rw [HPN.out]; exact HQ2.out, HQ3.out⟩
      | true =>
        have HVP := Lib.hid hv
        have HBI := Lib.hid (bulk_inst p l (validPat_iff.1 hv).1 HPB.out HLB.out)
        have htc := HT1.out.cell
        clear hv
        obtain ⟨x2, n2, c2, rfl, -, -, -⟩ := HO1.out.shapeN
        go_wp2_with fail
        refine (specValidName _ _ _ HO1.out.holds HBI.out).mono ?_
        rintro e w3 ⟨rfl, hb3⟩
        have HR3 := Lib.hid (HR1.out.on hb3)
        have HO3 := Lib.hid (HO1.out.on hb3)
        have HB3 := Lib.hid (HB1.out.trans (hb3.mono HB1.out.size))
        have HT3 := Lib.hid (HT1.out.on hb3)
        clear hb3 htc
        cases hn : validN (p.map (inst1 l)) with
        | true =>
          have HP := Lib.hid (show instOk p l = true by unfold instOk; rw [HVP.out, hn]; rfl)
          have HPN := Lib.hid (instN_yes HP.out)
          clear hn
          have ht3 := HT3.out.cell
          obtain ⟨hk2, hf2⟩ := HR3.out.nc
          obtain ⟨q1, q2, q3⟩ := endN (w := w) (g := w.heap.size + 1) (by omega) (by omega) HO3.out hk2 HB3.out
          have HQ1 := Lib.hid q1; have HQ2 := Lib.hid q2; have HQ3 := Lib.hid q3
          clear q1 q2 q3
          go_wp2
          refine bodyPost_ret (Ret.results_ct rfl _ _ (w.heap.size + 1) [_] rfl aggN (Ret.one HQ1.out)) rfl ?_
          exact ⟨_, ret_nb HP.out.symm, by rw [HPN.out]; exact HQ2.out, HQ3.out⟩
        | false =>
          have HP := Lib.hid (show instOk p l = false by unfold instOk; rw [HVP.out, hn]; rfl)
          have HPN := Lib.hid (instN_no HP.out)
          clear hn
          obtain ⟨hk2, hf2⟩ := HR3.out.nc
          obtain ⟨q1, q2, q3⟩ := endN (w := w) (g := w.heap.size + 1) (B := w.heap.size + 1 + 1) (v := .slice none 0 0) (l := []) (by omega) (by omega) (Own.nil _ _ _ _) hk2 HB3.out
          have HQ1 := Lib.hid q1; have HQ2 := Lib.hid q2; have HQ3 := Lib.hid q3
          clear q1 q2 q3
          go_wp2
          refine bodyPost_ret (Ret.results_ct rfl _ _ (w.heap.size + 1) [_] rfl aggN (Ret.one HQ1.out)) rfl ?_
          exact ⟨_, ret_nb HP.out.symm, by rw [HPN.out]; exact HQ2.out, HQ3.out⟩
end Go.Proofs.Ytoibmgnmnmeklaa.Row
