/- Contracts of ValidTable, the program's and the model's. No conditions but that lengths fit. -/
import Derived.Test.YtihcebjbkifbpaaTabReg
namespace Go.Proofs.Ytihcebjbkifbpaa.Row
open Go.ChangeShapes Go.WideShapes Go.ChangeAt Go.RowKit Go.Instr
set_option linter.unusedVariables false
set_option maxRecDepth 100000

/-- Entry j is in order: its name is valid, and greater than the one ahead. -/
def okE (T : List (List ByteArray × Int)) (j : Nat) : Prop := validN (nth T j).1 = true ∧ (0 < j → cmpL (nth T (j - 1)).1 (nth T j).1 < 0)
instance (T : List (List ByteArray × Int)) (j : Nat) : Decidable (okE T j) := by unfold okE; infer_instance
def validT (T : List (List ByteArray × Int)) : Bool := decide (T.length ≤ 20 ∧ ∀ j, j < T.length → okE T j)
def okTb (T : List (List ByteArray × Int)) (k : Nat) : Prop := ∀ j, j < k → okE T j
theorem okTb_zero (T : List (List ByteArray × Int)) : okTb T 0 := fun j h => absurd h (by omega)
theorem okTb_succ {T : List (List ByteArray × Int)} {k : Nat} (h : okTb T k) (hk : okE T k) : okTb T (k + 1) := fun j hj => by
  by_cases e : j = k
  · subst e; exact hk
  · exact h j (by omega)
theorem validT_not {T : List (List ByteArray × Int)} {k : Nat} (hk : k < T.length) (h : ¬ okE T k) : validT T = false := by
  unfold validT; exact decide_eq_false (fun e => h (e.2 k hk))
theorem validT_all {T : List (List ByteArray × Int)} (h : okTb T T.length) : validT T = decide (T.length ≤ 20) := by
  unfold validT
  by_cases e : T.length ≤ 20
  · rw [decide_eq_true e]; exact decide_eq_true ⟨e, h⟩
  · rw [decide_eq_false e]; exact decide_eq_false (fun e2 => e e2.1)
theorem validT_iff {T : List (List ByteArray × Int)} : validT T = true ↔ T.length ≤ 20 ∧ ∀ j, j < T.length → okE T j := by unfold validT; exact decide_eq_true_iff

set_option maxHeartbeats 2000000 in
theorem implValidTable (v : Value) (T : List (List ByteArray × Int)) (w : World) (h : TabHolds w v T) (hl : T.length ≤ 100000000) (hT : smT T) :
    Calls Try.prog 30 #[v] w fun e w' => e = .returned (.bool (validT T)) ∧ Below w.heap.size w w' := by
  obtain ⟨L, rfl, h⟩ := h
  obtain ⟨x, n, cx, rfl, hn, hcx, hh⟩ := h.shapeN
  rw [strip_length, ← hn] at hl
  have HN := Lib.hid hn
  have HH := Lib.hid hh
  have HT := Lib.hid hT
  clear hn h hh hT
  go_enter Try.func30, Try.ntmps30
  go_wp2
  go_loopw [7] (fun i wr => ∃ k : Nat, k ≤ n ∧ i = .int .i64 k ∧ Hid (okTb (strip L) k) ∧ Hid (Below w.heap.size w wr)) (fun i _ => n - (intOf i).toNat)
  case atStart => exact ⟨0, Nat.zero_le _, rfl, Lib.hid (okTb_zero _), Lib.hid (Below.refl _ _)⟩
  case round =>
    obtain ⟨k, hk, rfl, ha, hb⟩ := hrel
    by_cases hlt : k < n
    · have hlen := HN.out
      obtain ⟨b, off, rfl, hc, hd, hnm⟩ := (HH.out.on hb.out).at (k := k) (by omega)
      have HS := Lib.hid (smT_ps HT.out (k := k) (by omega))
      have e1 := strip_nth (L := L) (k := k) (by omega)
      have HE := Lib.hid e1
      have HB1 := Lib.hid ((Below.refl wr.heap.size wr).alloc (Nat.le_refl _) (.cells #[.slice (nth L k).ad (nth L k).n (nth L k).cap, .int .i64 (nth L k).val] 44))
      have HNM := Lib.hid (hnm.on HB1.out)
      clear hlen e1 hnm
      go_wp2_with fail
      refine (iValV _ rfl HNM.out HS.out).mono ?_
      rintro e w1 ⟨rfl, hb1⟩
      have HC2 := Lib.hid (var2 hb1).1
      have HB2 := Lib.hid (hb.out.trans ((HB1.out.trans (hb1.mono HB1.out.size)).mono hb.out.size))
      have HNM2 := Lib.hid (HNM.out.on hb1)
      clear hc hd hb1
      by_cases hv : validN (nth L k).ps = true
      · rw [hv]
        by_cases hk0 : k = 0
        · subst hk0
          have HA := Lib.hid (okTb_succ ha.out ⟨by rw [HE.out]; exact hv, fun e => absurd e (by omega)⟩)
          clear hv
          go_wp2_with (go_quiet (fail))
          all_goals
            go_roundw
            case rel => exact ⟨0 + 1, by omega, by go_num, HA, Lib.hid (below_drewN HB2.out _)⟩
            case measure => simp [intOf]; omega
        · obtain ⟨j, rfl⟩ : ∃ j, k = j + 1 := ⟨k - 1, by omega⟩
          obtain ⟨b', off', hxx, hc, -, hnm'⟩ := (HH.out.on HB2.out).at (k := j) (by have := HN.out; omega)
          cases hxx
          have hpos : 0 < (j + 1 : Int) := by omega
          have hj0 : (0 : Int) ≤ (j : Int) := by omega
          have hj1 : (j : Int) < (n : Int) := by omega
          have hj2 : wrap64 (j : Int) = (j : Int) := Go.IntWalk.wrap64_in _ (by omega)
          have hj3 : (j : Int) + 1 - 1 = (j : Int) := by omega
          have hj4 : wrap64 ((j : Int) + 1 - 1) = (j : Int) := by rw [hj3]; exact hj2
          have hj5 : IntKind.i64.wrap ((j : Int) + 1 - 1) = (j : Int) := by rw [Go.IntWalk.i64_left, hj3]; exact hj2
          have hj6 : IntKind.i64.wrap (j : Int) = (j : Int) := by rw [Go.IntWalk.i64_left]; exact hj2
          have HC1 := Lib.hid hc
          have HNM1 := Lib.hid hnm'
          have HL1 := Lib.hid (smT_psl HT.out (k := j) (by have := HN.out; omega)); have HL2 := Lib.hid (Nat.le_trans (bulk_len _) HS.out)
          have hc2 := HC2.out
          have HV := Lib.hid hv
          clear hv hnm' hk0
          go_wp2_with fail
          have KS := Lib.hid (show w1.drew.cell? ⟨b, off + j * 2, none⟩ = some (.slice (nth L j).ad (nth L j).n (nth L j).cap) ∧ w1.drew.cell? ⟨wr.heap.size, 0, none⟩ = some (.slice (nth L (j + 1)).ad (nth L (j + 1)).n (nth L (j + 1)).cap) ∧ Below w.heap.size w w1.drew from ⟨HC1.out, HC2.out, HB2.out.drew⟩)
          obtain ⟨c, hcc⟩ : ∃ c, cmpL (nth L j).ps (nth L (j + 1)).ps = c := ⟨_, rfl⟩
          have HCC := Lib.hid hcc
          by_cases hc0 : c < 0
          · have hcl : decide (0 ≤ c) = false := by simpa using hc0
            have HA := Lib.hid (okTb_succ ha.out ⟨HE.out ▸ HV.out, fun _ => by rw [HE.out, Nat.add_sub_cancel, strip_nth (by have := HN.out; omega)]; exact hcc ▸ hc0⟩)
            clear hcc hc hc2
            go_region_held3 (fun w' => w'.cell? ⟨b, off + j * 2, none⟩ = some (.slice (nth L j).ad (nth L j).n (nth L j).cap) ∧ w'.cell? ⟨wr.heap.size, 0, none⟩ = some (.slice (nth L (j + 1)).ad (nth L (j + 1)).n (nth L (j + 1)).cap) ∧ Below w.heap.size w w') (first | exact KS.out | exact keepN2 KS.out hbr) ((go_at_call 68; refine (iCmpV c HCC.out (HNM1.out.on (Below.refl _ _).drew) (HNM2.out.on (Below.refl _ _).drew) HL1.out HL2.out).mono ?_; rintro e w2 ⟨rfl, hbr⟩))
            all_goals
              have HB3 := Lib.hid (keepN2 KS.out hbr).2.2
              clear hbr
              go_wp2_with fail
              go_roundw
              case rel => exact ⟨j + 1 + 1, by omega, by go_num, HA, HB3⟩
              case measure => simp [intOf]; omega
          · have hcl : decide (0 ≤ c) = true := by simpa using hc0
            have HA := Lib.hid (validT_not (T := strip L) (k := j + 1) (by have := HN.out; rw [strip_length]; omega) (fun e => hc0 (by have := e.2 (by omega); rwa [HE.out, Nat.add_sub_cancel, strip_nth (by have := HN.out; omega), show cmpL (nth L j).t.1 (nth L (j + 1)).t.1 = c from hcc] at this)))
            clear hcc hc hc2
            go_region_held3 (fun w' => w'.cell? ⟨b, off + j * 2, none⟩ = some (.slice (nth L j).ad (nth L j).n (nth L j).cap) ∧ w'.cell? ⟨wr.heap.size, 0, none⟩ = some (.slice (nth L (j + 1)).ad (nth L (j + 1)).n (nth L (j + 1)).cap) ∧ Below w.heap.size w w') (first | exact KS.out | exact keepN2 KS.out hbr) ((go_at_call 68; refine (iCmpV c HCC.out (HNM1.out.on (Below.refl _ _).drew) (HNM2.out.on (Below.refl _ _).drew) HL1.out HL2.out).mono ?_; rintro e w2 ⟨rfl, hbr⟩))
            all_goals
              have HB3 := Lib.hid (keepN2 KS.out hbr).2.2
              clear hbr
              go_wp2_with fail
              go_ret
              exact ⟨ret_bool HA.out.symm, HB3.out⟩
      · have hv2 : validN (nth L k).ps = false := by simpa using hv
        have HA := Lib.hid (validT_not (T := strip L) (k := k) (by have := HN.out; rw [strip_length]; omega) (fun e => hv (by have := e.1; rwa [HE.out] at this)))
        rw [hv2]
        clear hv hv2
        go_wp2_with fail
        go_ret
        exact ⟨ret_bool HA.out.symm, HB2.out⟩
    · obtain rfl : k = n := by omega
      have HV := Lib.hid (validT_all (T := strip L) (by rw [strip_length, ← HN.out]; exact ha.out))
      rw [strip_length, ← HN.out] at HV
      clear hlt
      go_wp2
      go_ret
      refine ⟨ret_bool ?_, hb.out⟩
      rw [HV.out]
      exact decide_eq_decide.2 (by omega)

set_option maxHeartbeats 4000000 in
theorem specValidTable (v : Value) (T : List (List ByteArray × Int)) (w : World) (h : TabHolds w v T) (hl : T.length ≤ 100000000) (hT : smT T) :
    Calls Try.prog 31 #[v] w fun e w' => e = .returned (.bool (validT T)) ∧ Below w.heap.size w w' := by
  obtain ⟨L, rfl, h⟩ := h
  obtain ⟨x, n, cx, rfl, hn, hcx, hh⟩ := h.shapeN
  rw [strip_length, ← hn] at hl
  have HN := Lib.hid hn
  have HH := Lib.hid hh
  have HT := Lib.hid hT
  clear hn h hh hT
  go_enter Try.func31, Try.ntmps31
  go_wp2
  go_loopw [3] (fun i wr => ∃ k : Nat, k ≤ n ∧ i = .int .i64 k ∧ Hid (okTb (strip L) k) ∧ Hid (Below w.heap.size w wr)) (fun i _ => n - (intOf i).toNat)
  case atStart => exact ⟨0, Nat.zero_le _, rfl, Lib.hid (okTb_zero _), Lib.hid (Below.refl _ _)⟩
  case round =>
    obtain ⟨k, hk, rfl, ha, hb⟩ := hrel
    by_cases hlt : k < n
    · have hlen := HN.out
      obtain ⟨b, off, rfl, hc, hd, hnm⟩ := (HH.out.on hb.out).at (k := k) (by omega)
      have HS := Lib.hid (smT_ps HT.out (k := k) (by omega))
      have HE := Lib.hid (strip_nth (L := L) (k := k) (by omega))
      have HC := Lib.hid hc
      have HNM := Lib.hid (hnm.on (Below.refl wr.heap.size wr).drew)
      clear hlen
      by_cases hv : validN (nth L k).ps = true
      · have HV := Lib.hid hv
        by_cases hk0 : k = 0
        · subst hk0
          have HA := Lib.hid (okTb_succ ha.out ⟨by rw [HE.out]; exact hv, fun e => absurd e (by omega)⟩)
          clear hv hc hd
          have hnn : n ≤ 100000000 := hl
          go_wp2_with fail
          refine regV2 (by omega) hnn (Lib.hid (by simpa using HC.out)) (Lib.hid hnm) HS HV ?_
          intro u10 u11 u12 u13 u14 u15 u16 u17 u18 u19 u20 u21 u22 u23 u24 u25 u26 u27 u28 u29 u30 u31 u32 u33 u34 wx hb1
          have HB3 := Lib.hid (hb.out.trans (hb1.mono hb.out.size))
          clear hb1
          go_wp2_with fail
          go_roundw
          case rel => exact ⟨0 + 1, by omega, by go_num, HA, HB3⟩
          case measure => simp [intOf]; omega
        · obtain ⟨j, rfl⟩ : ∃ j, k = j + 1 := ⟨k - 1, by omega⟩
          obtain ⟨b', off', hxx, hcj, -, hnm'⟩ := (HH.out.on hb.out).at (k := j) (by have := HN.out; omega)
          cases hxx
          have hpos : 0 < (j + 1 : Int) := by omega
          have hj0 : (0 : Int) ≤ (j : Int) := by omega
          have hj1 : (j : Int) < (n : Int) := by omega
          have hj2 : wrap64 (j : Int) = (j : Int) := Go.IntWalk.wrap64_in _ (by omega)
          have hj3 : (j : Int) + 1 - 1 = (j : Int) := by omega
          have hj4 : wrap64 ((j : Int) + 1 - 1) = (j : Int) := by rw [hj3]; exact hj2
          have hj5 : IntKind.i64.wrap ((j : Int) + 1 - 1) = (j : Int) := by rw [Go.IntWalk.i64_left, hj3]; exact hj2
          have hj7 : (0 : Int) ≤ (j : Int) + 1 := by omega
          have hj8 : (j : Int) + 1 < (n : Int) := by omega
          have hj6 : IntKind.i64.wrap (j : Int) = (j : Int) := by rw [Go.IntWalk.i64_left]; exact hj2
          have HNM1 := Lib.hid (hnm'.on (Below.refl wr.heap.size wr).drew)
          have HL1 := Lib.hid (smT_psl HT.out (k := j) (by have := HN.out; omega)); have HL2 := Lib.hid (Nat.le_trans (bulk_len _) HS.out)
          have KS := Lib.hid (show wr.drew.cell? ⟨b, off + j * 2, none⟩ = some (.slice (nth L j).ad (nth L j).n (nth L j).cap) ∧ wr.drew.cell? ⟨b, off + (j + 1) * 2, none⟩ = some (.slice (nth L (j + 1)).ad (nth L (j + 1)).n (nth L (j + 1)).cap) ∧ Below w.heap.size w wr.drew from ⟨hcj, HC.out, hb.out.drew⟩)
          clear hnm' hnm hk0
          obtain ⟨c, hcc⟩ : ∃ c, cmpL (nth L j).ps (nth L (j + 1)).ps = c := ⟨_, rfl⟩
          have HCC := Lib.hid hcc
          by_cases hc0 : c < 0
          · have hcl : decide (0 ≤ c) = false := by simpa using hc0
            have HA := Lib.hid (okTb_succ ha.out ⟨HE.out ▸ HV.out, fun _ => by rw [HE.out, Nat.add_sub_cancel, strip_nth (by have := HN.out; omega)]; exact hcc ▸ hc0⟩)
            clear hcc hc hcj hd hv
            go_wp2_with fail
            (first | go_region_held3 (fun w' => w'.cell? ⟨b, off + j * 2, none⟩ = some (.slice (nth L j).ad (nth L j).n (nth L j).cap) ∧ w'.cell? ⟨b, off + (j + 1) * 2, none⟩ = some (.slice (nth L (j + 1)).ad (nth L (j + 1)).n (nth L (j + 1)).cap) ∧ Below w.heap.size w w') (first | exact KS.out | exact keepN2 KS.out hb1 | exact keepN2 (keepN2 KS.out hb1) hb2) ((first | (go_at_call 69; refine (sValV true HV.out HNM.out HS.out).mono ?_; rintro e w1 ⟨rfl, hb1⟩) | (go_at_call 53; refine (sCmpV c HCC.out (HNM1.out.on hb1) (HNM.out.on hb1) HL1.out HL2.out).mono ?_; rintro e w2 ⟨rfl, hb2⟩))) | fail)
            all_goals
              have HB3 := Lib.hid (keepN2 (keepN2 KS.out hb1) hb2).2.2
              clear hb1 hb2
              go_wp2_with fail
              go_roundw
              case rel => exact ⟨j + 1 + 1, by omega, by go_num, HA, HB3⟩
              case measure => simp [intOf]; omega
          · have hcl : decide (0 ≤ c) = true := by simpa using hc0
            have HA := Lib.hid (validT_not (T := strip L) (k := j + 1) (by have := HN.out; rw [strip_length]; omega) (fun e => hc0 (by have := e.2 (by omega); rwa [HE.out, Nat.add_sub_cancel, strip_nth (by have := HN.out; omega), show cmpL (nth L j).t.1 (nth L (j + 1)).t.1 = c from hcc] at this)))
            clear hcc hc hcj hd hv
            go_wp2_with fail
            (first | go_region_held3 (fun w' => w'.cell? ⟨b, off + j * 2, none⟩ = some (.slice (nth L j).ad (nth L j).n (nth L j).cap) ∧ w'.cell? ⟨b, off + (j + 1) * 2, none⟩ = some (.slice (nth L (j + 1)).ad (nth L (j + 1)).n (nth L (j + 1)).cap) ∧ Below w.heap.size w w') (first | exact KS.out | exact keepN2 KS.out hb1 | exact keepN2 (keepN2 KS.out hb1) hb2) ((first | (go_at_call 69; refine (sValV true HV.out HNM.out HS.out).mono ?_; rintro e w1 ⟨rfl, hb1⟩) | (go_at_call 53; refine (sCmpV c HCC.out (HNM1.out.on hb1) (HNM.out.on hb1) HL1.out HL2.out).mono ?_; rintro e w2 ⟨rfl, hb2⟩))) | fail)
            all_goals
              have HB3 := Lib.hid (keepN2 (keepN2 KS.out hb1) hb2).2.2
              clear hb1 hb2
              go_wp2_with fail
              go_ret
              exact ⟨ret_bool HA.out.symm, HB3.out⟩
      · have HV := Lib.hid (show validN (nth L k).ps = false by simpa using hv)
        have HA := Lib.hid (validT_not (T := strip L) (k := k) (by have := HN.out; rw [strip_length]; omega) (fun e => hv (by have := e.1; rwa [HE.out] at this)))
        clear hv hc hd
        go_wp2_with fail
        refine regV1 hlt hl (Lib.hid HC.out) (Lib.hid hnm) HS HV ?_
        intro u10 u11 u12 u13 u14 u15 u16 u17 u18 u19 u20 u21 u22 u23 u24 u25 u26 u27 u28 u29 u30 u31 u32 u33 u34 wx hb1
        have HB3 := Lib.hid (hb.out.trans (hb1.mono hb.out.size))
        clear hb1
        go_wp2_with fail
        go_ret
        exact ⟨ret_bool HA.out.symm, HB3.out⟩
    · obtain rfl : k = n := by omega
      have HV := Lib.hid (validT_all (T := strip L) (by rw [strip_length, ← HN.out]; exact ha.out))
      rw [strip_length, ← HN.out] at HV
      clear hlt
      go_wp2
      go_ret
      refine ⟨ret_bool ?_, hb.out⟩
      rw [HV.out]
      exact decide_eq_decide.2 (by omega)
end Go.Proofs.Ytihcebjbkifbpaa.Row
