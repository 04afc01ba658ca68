/- Contracts of ValidPattern, the program's and the model's. No conditions but that lengths fit. -/
import Derived.Test.YtkojeajjappchaaVPat
namespace Go.Proofs.Ytkojeajjappchaa.Row
open Go.ChangeShapes Go.WideShapes Go.ChangeAt Go.RowKit Go.Instr
set_option linter.unusedVariables false
set_option maxRecDepth 100000

set_option maxHeartbeats 1000000 in
theorem implValidPattern (v : Value) (l : List ByteArray) (w : World) (h : Holds Value.string w v l) (hl : bulk l ≤ 100000000) :
    Calls Try.prog 43 #[.agg #[v]] w fun e w' => e = .returned (.bool (validPat l)) ∧ Below w.heap.size w w' := by
  obtain ⟨x, n, cap, rfl, hn, hcap, hh⟩ := h.shapeN
  have HL := Lib.hid hl
  have HH := Lib.hid (hh.on ((Below.refl w.heap.size w).alloc (Nat.le_refl _) (.cells #[.slice x n cap] 29)))
  have HB0 := Lib.hid ((Below.refl w.heap.size w).alloc (Nat.le_refl _) (.cells #[.slice x n cap] 29))
  clear hn h hh hl
  go_enter Try.func43, Try.ntmps43
  go_wp2_with fail
  refine (readParts _ l _ HH.out HL.out).mono ?_
  rintro e w1 ⟨v1, rfl, ho, hb⟩
  have HB1 := Lib.hid (HB0.out.trans (hb.mono HB0.out.size))
  clear ho hb
  go_wp2
  go_ret
  exact ⟨rfl, HB1.out⟩

set_option maxHeartbeats 2000000 in
theorem specValidPattern (v : Value) (l : List ByteArray) (w : World) (h : Holds Value.string w v l) (hl : bulk l ≤ 100000000) :
    Calls Try.prog 39 #[.agg #[v]] w fun e w' => e = .returned (.bool (validPat l)) ∧ Below w.heap.size w w' := by
  obtain ⟨x, n, cap, rfl, hn, hcap, hh⟩ := h.shapeN
  have hll := bigLen hl
  have HS := Lib.hid (fun k (hk : k < l.length) => size_nth hl hk)
  rw [← hn] at hll
  have HN := Lib.hid hn
  have HH := Lib.hid hh
  have HB0 := Lib.hid ((Below.refl w.heap.size w).alloc (Nat.le_refl _) (.cells #[.slice x n cap] 29))
  have HC0 := Lib.hid (Ret.Box.new w (.slice x n cap) 29)
  clear hn h hh hl
  go_enter Try.func39, Try.ntmps39
  go_wp2_with fail
  go_loopw [3] (fun i wr => ∃ k : Nat, k ≤ n ∧ i = .int .i64 k ∧ Hid (allE l k) ∧ Hid (Ret.Box wr w.heap.size (.slice x n cap) 29) ∧ Hid (Below w.heap.size w wr)) (fun i _ => n - (intOf i).toNat)
  case atStart => exact ⟨0, Nat.zero_le _, rfl, Lib.hid (allE_zero l), HC0, HB0⟩
  case round =>
    obtain ⟨k, hk, rfl, ha, hc, hb⟩ := hrel
    have hc1 := hc.out.cell
    by_cases hlt : k < n
    · have hlen := HN.out
      obtain ⟨b, off, rfl, hd⟩ := (HH.out.on hb.out).at (j := k) (by omega)
      have hsz := HS.out k (by omega)
      clear hlen
      have HE := Lib.hid (fun (he : elemP (nth l k) (decide (k + 1 = l.length)) = true) => allE_succ ha.out he)
      by_cases hv : validP (nth l k) = true
      · have HA := Lib.hid (HE.out (elemP_iff.2 (Or.inl hv)))
        have HV := Lib.hid hv
        clear HE hv
        go_wp2_with fail
        refine (specValidPart _ _ (by omega)).mono ?_
        rintro e w2 ⟨rfl, rfl⟩
        rw [HV.out]
        go_wp2_with fail
        go_roundw
        case rel => exact ⟨k + 1, by omega, by go_num, HA, hc, hb⟩
        case measure => simp [intOf]; omega
      · have hv : validP (nth l k) = false := by simpa using hv
        have HV := Lib.hid hv
        by_cases hs : nth l k = starB
        · have HA := Lib.hid (HE.out (elemP_iff.2 (Or.inr (Or.inl hs))))
          have HQ := Lib.hid (show ((nth l k).toList == [42]) = true from star_yes hs)
          clear HE hv hs
          go_wp2_with fail
          refine (specValidPart _ _ (by omega)).mono ?_
          rintro e w2 ⟨rfl, rfl⟩
          rw [HV.out]
          have hq := HQ.out
          go_wp2_with fail
          go_roundw
          case rel => exact ⟨k + 1, by omega, by go_num, HA, hc, hb⟩
          case measure => simp [intOf]; omega
        · have HQ := Lib.hid (show ((nth l k).toList == [42]) = false from star_no hs)
          by_cases hx : letterP (nth l k) = true
          · have HA := Lib.hid (HE.out (elemP_iff.2 (Or.inr (Or.inr (Or.inl hx)))))
            have HX := Lib.hid hx
            clear HE hv hs hx
            go_wp2_with fail
            refine (specValidPart _ _ (by omega)).mono ?_
            rintro e w2 ⟨rfl, rfl⟩
            rw [HV.out]
            have hq := HQ.out
            go_wp2_with fail
            refine (l5Letter _ _ (by omega)).mono ?_
            rintro e w2 ⟨rfl, rfl⟩
            rw [HX.out]
            go_wp2_with fail
            go_roundw
            case rel => exact ⟨k + 1, by omega, by go_num, HA, hc, hb⟩
            case measure => simp [intOf]; omega
          · have hx : letterP (nth l k) = false := by simpa using hx
            have HX := Lib.hid hx
            by_cases h2 : nth l k = star2B
            · have HQ2 := Lib.hid (star2_yes h2)
              by_cases hlast : k + 1 = n
              · have HA := Lib.hid (HE.out (elemP_iff.2 (Or.inr (Or.inr (Or.inr ⟨h2, decide_eq_true (by have := HN.out; omega)⟩)))))
                have hl1 : ¬ ((k : Int) < (n : Int) - 1) := by omega
                clear HE hv hs hx h2
                go_wp2_with fail
                refine (specValidPart _ _ (by omega)).mono ?_
                rintro e w2 ⟨rfl, rfl⟩
                rw [HV.out]
                have hq := HQ.out
                go_wp2_with fail
                refine (l5Letter _ _ (by omega)).mono ?_
                rintro e w2 ⟨rfl, rfl⟩
                rw [HX.out]
                have hq2 := HQ2.out
                go_wp2_with fail
                go_roundw
                case rel => exact ⟨k + 1, by omega, by go_num, HA, hc, hb⟩
                case measure => simp [intOf]; omega
              · have HN2 := Lib.hid (validPat_not (l := l) (k := k) (by have := HN.out; omega) (elemP_no hv hs hx (fun e => by have := of_decide_eq_true e.2; have := HN.out; omega)))
                have hl1 : ((k : Int) < (n : Int) - 1) := by omega
                clear HE hv hs hx h2
                go_wp2_with fail
                refine (specValidPart _ _ (by omega)).mono ?_
                rintro e w2 ⟨rfl, rfl⟩
                rw [HV.out]
                have hq := HQ.out
                go_wp2_with fail
                refine (l5Letter _ _ (by omega)).mono ?_
                rintro e w2 ⟨rfl, rfl⟩
                rw [HX.out]
                have hq2 := HQ2.out
                go_wp2_with fail
                go_ret
                exact ⟨ret_bool HN2.out.symm, hb.out⟩
            · have HN2 := Lib.hid (validPat_not (l := l) (k := k) (by have := HN.out; omega) (elemP_no hv hs hx (fun e => h2 e.1)))
              have HQ2 := Lib.hid (star2_no h2)
              clear HE hv hs hx h2
              go_wp2_with fail
              refine (specValidPart _ _ (by omega)).mono ?_
              rintro e w2 ⟨rfl, rfl⟩
              rw [HV.out]
              have hq := HQ.out
              go_wp2_with fail
              refine (l5Letter _ _ (by omega)).mono ?_
              rintro e w2 ⟨rfl, rfl⟩
              rw [HX.out]
              have hq2 := HQ2.out
              go_wp2_with fail
              go_ret
              exact ⟨ret_bool HN2.out.symm, hb.out⟩
    · obtain rfl : k = n := by omega
      have HV := Lib.hid (validPat_all (HN.out ▸ ha.out))
      clear hlt
      go_wp2
      go_ret
      refine ⟨ret_bool ?_, hb.out⟩
      rw [HV.out, ← HN.out]
      simp
      omega

end Go.Proofs.Ytkojeajjappchaa.Row
