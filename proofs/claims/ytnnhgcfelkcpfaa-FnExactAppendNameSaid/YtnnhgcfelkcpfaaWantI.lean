/- Contract of the program's DecodeInterest. No conditions but that lengths fit. -/
import Derived.Test.YtnnhgcfelkcpfaaWantD
import Derived.Test.YtnnhgcfelkcpfaaWantQ
namespace Go.Proofs.Ytnnhgcfelkcpfaa.Row
open Go.ChangeShapes Go.WideShapes Go.ChangeAt Go.RowKit Go.Instr
set_option linter.unusedVariables false
set_option maxRecDepth 100000

set_option maxHeartbeats 8000000 in
theorem implDecodeInterest (v : Value) (b : List Int) (w : World) (h : Sl.Holds .u8 w v b) (hB : Sl.Byt b) (hl : b.length ≤ 100000000) :
    Calls Try.prog 32 #[v] w (GivesWB w (dcW b).1 (dcW b).2) := by
  unfold GivesWB
  obtain ⟨x, cx, rfl, hcx, hh⟩ := h.shape
  obtain ⟨m, hm⟩ : ∃ m, m = b.length := ⟨_, rfl⟩
  rw [← hm] at hcx hh hl ⊢
  have hb0 := (Below.refl w.heap.size w).alloc (Nat.le_refl _) (.cells (wc (.slice none 0 0) 0 0 0) 31)
  have HB0 := Lib.hid hb0
  have HX0 := Lib.hid (Ret.Blk.new w (wc (.slice none 0 0) 0 0 0) 31)
  have HH0 := Lib.hid hh
  have HBY := Lib.hid hB
  have HM := Lib.hid hm
  have HR := Lib.hid (implReadName _ b 0 _ (hh.on hb0) hB (by rw [← hm]; exact hl))
  clear h hh hB hb0 hm
  obtain ⟨l, hl1⟩ : ∃ l, l = (rdN b 0).1 := ⟨_, rfl⟩
  obtain ⟨j, hj⟩ : ∃ j, j = (rdN b 0).2.1 := ⟨_, rfl⟩
  obtain ⟨ok, hok⟩ : ∃ z, z = (rdN b 0).2.2 := ⟨_, rfl⟩
  rw [← hl1, ← hj, ← hok] at HR
  have HL := Lib.hid hl1; have HJ := Lib.hid hj; have HOK := Lib.hid hok
  clear hl1 hj hok
  go_enter Try.func32, Try.ntmps32
  go_wp2_with fail
  refine HR.out.mono ?_
  rintro e w1 ⟨v1, rfl, ho1, hb1⟩
  obtain ⟨x1, n1, c1, rfl, -, hc1, ho1⟩ := ho1.shapeN
  have hal := (Below.refl w1.heap.size w1).alloc (Nat.le_refl _) (.cells #[.slice x1 n1 c1] 29)
  have hs1 := hb1.size
  simp only [World.size_alloc] at hs1
  have HSZ := Lib.hid (show w.heap.size < w1.heap.size by omega)
  have HO1 := Lib.hid ((ho1.on hal).mono (show w.heap.size + 1 ≤ _ by simp))
  have HX1 := Lib.hid ((HX0.out.on hb1).on hal)
  have HY1 := Lib.hid (Ret.Box.new w1 (.slice x1 n1 c1) 29)
  have HB1 := Lib.hid ((HB0.out.trans (hb1.mono HB0.out.size)).trans (hal.mono (Nat.le_trans HB0.out.size hb1.size)))
  clear ho1 hb1 hal hs1 HX0 HR
  cases ok with
  | false =>
    have HV := Lib.hid (dcW_no (b := b) (fun e => by rw [← HOK.out] at e; cases e.1))
    have HE := Lib.hid (endW (a := 0) (b := 0) (c := 0) HX1.out (Own.nil _ _ (w.heap.size + 1) _) (Or.inl (Nat.lt_succ_self _)) HB1.out)
    have t0 := HX1.out.frozen 0; have t1 := HX1.out.frozen 1; have t2 := HX1.out.frozen 2; have t3 := HX1.out.frozen 3
    have r0 := HX1.out.cell 0; have r1 := HX1.out.cell 1; have r2 := HX1.out.cell 2; have r3 := HX1.out.cell 3
    simp only [wc, List.getElem?_toArray, List.getElem?_cons_zero, List.getElem?_cons_succ] at r0 r1 r2 r3
    go_wp2_with fail
    refine bodyPost_ret (Ret.results_ct rfl _ _ w.heap.size (wc (.slice none 0 0) 0 0 0).toList rfl aggW HE.out.1.cells) rfl ?_
    rw [HV.out]
    exact ⟨_, rfl, HE.out.2.1, HE.out.2.2⟩
  | true =>
    have HD := Lib.hid (Sl.implDecodeInts _ b j 3 _ (HH0.out.on HB1.out) HBY.out (by rw [← HM.out]; exact hl))
    obtain ⟨is_, his⟩ : ∃ l, l = (Sl.readIs b j 3).1 := ⟨_, rfl⟩
    obtain ⟨nx, hnx⟩ : ∃ l, l = (Sl.readIs b j 3).2.1 := ⟨_, rfl⟩
    obtain ⟨k2, hk2⟩ : ∃ l, l = (Sl.readIs b j 3).2.2 := ⟨_, rfl⟩
    rw [← his, ← hnx, ← hk2] at HD
    have HIS := Lib.hid his; have HNX := Lib.hid hnx; have HK2 := Lib.hid hk2
    clear his hnx hk2
    go_wp2_with fail
    refine HD.out.mono ?_
    rintro e w2 ⟨v2, rfl, ho2, hb2⟩
    obtain ⟨x2, c2, rfl, hc2, ho2⟩ := ho2.holds.shape
    obtain ⟨n2, hn2⟩ : ∃ n, n = is_.length := ⟨_, rfl⟩
    rw [← hn2] at ho2
    have HN2 := Lib.hid hn2
    rw [← hn2]
    have HO2 := Lib.hid (HO1.out.on hb2)
    have HX2 := Lib.hid (HX1.out.on hb2)
    have HY2 := Lib.hid (HY1.out.on hb2)
    have HB2 := Lib.hid (HB1.out.trans (hb2.mono HB1.out.size))
    have HI2 := Lib.hid ho2
    clear ho2 hb2 hc2 hn2 HD HX1 HY1 HO1
    have HVN : Hid (validN l = true) := Lib.hid (by rw [HL.out]; exact rdN_valid HOK.out.symm)
    cases k2 with
    | false =>
      have HV := Lib.hid (dcW_no (b := b) (fun e => by have h9 := e.2.1; rw [← HJ.out, ← HK2.out] at h9; cases h9))
      have HE := Lib.hid (endW (a := 0) (b := 0) (c := 0) HX2.out (Own.nil _ _ (w.heap.size + 1) _) (Or.inl (Nat.lt_succ_self _)) HB2.out)
      have t0 := HX2.out.frozen 0; have t1 := HX2.out.frozen 1; have t2 := HX2.out.frozen 2; have t3 := HX2.out.frozen 3
      have r0 := HX2.out.cell 0; have r1 := HX2.out.cell 1; have r2 := HX2.out.cell 2; have r3 := HX2.out.cell 3
      simp only [wc, List.getElem?_toArray, List.getElem?_cons_zero, List.getElem?_cons_succ] at r0 r1 r2 r3
      go_wp2_with fail
      refine bodyPost_ret (Ret.results_ct rfl _ _ w.heap.size (wc (.slice none 0 0) 0 0 0).toList rfl aggW HE.out.1.cells) rfl ?_
      rw [HV.out]
      exact ⟨_, rfl, HE.out.2.1, HE.out.2.2⟩
    | true =>
      by_cases hnm : nx = (m : Int)
      · have hd : (nx != (m : Int)) = false := by simp [hnm]
        have h3 : n2 = 3 := by rw [HN2.out, HIS.out]; exact readI3 HK2.out.symm
        subst h3
        obtain ⟨bb, off, hx2, hc⟩ := HI2.out.at (j := 0) (by rw [← HN2.out]; omega)
        subst hx2
        obtain ⟨i0, hi0⟩ : ∃ z, z = Sl.nth is_ 0 := ⟨_, rfl⟩
        obtain ⟨i1, hi1⟩ : ∃ z, z = Sl.nth is_ 1 := ⟨_, rfl⟩
        obtain ⟨i2, hi2⟩ : ∃ z, z = Sl.nth is_ 2 := ⟨_, rfl⟩
        have q0 : w2.cell? ⟨bb, off, none⟩ = some (.int .i64 i0) := by rw [hi0]; exact hc
        have q1 : w2.cell? ⟨bb, off + 1, none⟩ = some (.int .i64 i1) := by
          obtain ⟨b', o', e, hc1⟩ := HI2.out.at (j := 1) (by rw [← HN2.out]; omega)
          cases e; rw [hi1]; exact hc1
        have q2 : w2.cell? ⟨bb, off + 2, none⟩ = some (.int .i64 i2) := by
          obtain ⟨b', o', e, hc1⟩ := HI2.out.at (j := 2) (by rw [← HN2.out]; omega)
          cases e; rw [hi2]; exact hc1
        have HG : Hid (gotW b = (l, i0, i1, i2)) := Lib.hid (by unfold gotW; rw [← HL.out, ← HJ.out, ← HIS.out, ← hi0, ← hi1, ← hi2])
        have hy2 := HY2.out.cell
        have HNM : Hid (nx = (b.length : Int)) := Lib.hid (by rw [hnm, HM.out])
        clear hc hi0 hi1 hi2 hnm
        have ha := (Below.refl w2.heap.size w2).alloc (Nat.le_refl _) (.cells #[.slice none 0 0, .int .i64 0, .int .i64 0, .int .i64 0] 31)
        have q0a := (ha.cell (cell_lt q0)).trans q0
        have q1a := (ha.cell (cell_lt q1)).trans q1
        have q2a := (ha.cell (cell_lt q2)).trans q2
        have hy2a := (ha.cell (cell_lt hy2)).trans hy2
        clear ha
        go_wp2_with fail
        go_region
        clear q0a q1a q2a hy2a q0 q1 q2 hy2 hd
        have haw : Below w2.heap.size w2 ((w2.alloc (.cells (wc (.slice x1 n1 c1) i0 i1 i2) 31)).drew) := ((Below.refl _ _).alloc (Nat.le_refl _) _).drew
        have HO3 := Lib.hid (HO2.out.on haw)
        have HX3 := Lib.hid (HX2.out.on haw)
        have HB3 := Lib.hid (HB2.out.trans (haw.mono HB2.out.size))
        have HZ3 := Lib.hid ((Ret.Blk.new w2 (wc (.slice x1 n1 c1) i0 i1 i2) 31).on (show Below _ _ ((w2.alloc (.cells (wc (.slice x1 n1 c1) i0 i1 i2) 31)).drew) from (Below.refl _ _).drew))
        have p0 := HZ3.out.cell 0; have p1 := HZ3.out.cell 1; have p2 := HZ3.out.cell 2; have p3 := HZ3.out.cell 3
        simp only [wc, List.getElem?_toArray, List.getElem?_cons_zero, List.getElem?_cons_succ] at p0 p1 p2 p3
        obtain ⟨z, hz⟩ : ∃ z, validW (l, i0, i1, i2) = z := ⟨_, rfl⟩
        have HZ := Lib.hid hz
        have HBK := Lib.hid (bulk_valid HVN.out)
        clear haw
        go_wp2_with fail
        refine (implValidInterest _ (l, i0, i1, i2) _ HO3.out.holds (by have := HBK.out; simp only; omega)).mono ?_
        rintro e w3 ⟨rfl, hb3⟩
        rw [hz]
        have HO4 := Lib.hid (HO3.out.on hb3)
        have HX4 := Lib.hid (HX3.out.on hb3)
        have HZ4 := Lib.hid (HZ3.out.on hb3)
        have HB4 := Lib.hid (HB3.out.trans (hb3.mono HB3.out.size))
        clear hb3 hz p0 p1 p2 p3
        cases z with
        | false =>
          have HV := Lib.hid (dcW_no (b := b) (fun e => by have h9 := e.2.2.2; rw [HG.out, HZ.out] at h9; cases h9))
          have HE := Lib.hid (endW (a := 0) (b := 0) (c := 0) HX4.out (Own.nil _ _ (w.heap.size + 1) _) (Or.inl (Nat.lt_succ_self _)) HB4.out)
          have t0 := HX4.out.frozen 0; have t1 := HX4.out.frozen 1; have t2 := HX4.out.frozen 2; have t3 := HX4.out.frozen 3
          have r0 := HX4.out.cell 0; have r1 := HX4.out.cell 1; have r2 := HX4.out.cell 2; have r3 := HX4.out.cell 3
          simp only [wc, List.getElem?_toArray, List.getElem?_cons_zero, List.getElem?_cons_succ] at r0 r1 r2 r3
          go_wp2_with fail
          refine bodyPost_ret (Ret.results_ct rfl _ _ w.heap.size (wc (.slice none 0 0) 0 0 0).toList rfl aggW HE.out.1.cells) rfl ?_
          rw [HV.out]
          exact ⟨_, rfl, HE.out.2.1, HE.out.2.2⟩
        | true =>
          have HV := Lib.hid (dcW_yes (b := b) ⟨HOK.out.symm, by rw [← HJ.out, ← HK2.out], by rw [← HJ.out, ← HNX.out]; exact HNM.out, by rw [HG.out]; exact HZ.out⟩)
          have HE := Lib.hid (endW (a := i0) (b := i1) (c := i2) HX4.out HO4.out (Or.inl (Nat.lt_succ_self _)) HB4.out)
          have t0 := HX4.out.frozen 0; have t1 := HX4.out.frozen 1; have t2 := HX4.out.frozen 2; have t3 := HX4.out.frozen 3
          have r0 := HX4.out.cell 0; have r1 := HX4.out.cell 1; have r2 := HX4.out.cell 2; have r3 := HX4.out.cell 3
          simp only [wc, List.getElem?_toArray, List.getElem?_cons_zero, List.getElem?_cons_succ] at r0 r1 r2 r3
          have p0 := HZ4.out.cell 0; have p1 := HZ4.out.cell 1; have p2 := HZ4.out.cell 2; have p3 := HZ4.out.cell 3
          simp only [wc, List.getElem?_toArray, List.getElem?_cons_zero, List.getElem?_cons_succ] at p0 p1 p2 p3
          go_wp2_with fail
          refine bodyPost_ret (Ret.results_ct rfl _ _ w.heap.size (wc (.slice x1 n1 c1) i0 i1 i2).toList rfl aggW HE.out.1.cells) rfl ?_
          rw [HV.out, HG.out]
          exact ⟨_, rfl, HE.out.2.1, HE.out.2.2⟩
      · have hd : (nx != (m : Int)) = true := by simpa using hnm
        have HV := Lib.hid (dcW_no (b := b) (fun e => hnm (by have h9 := e.2.2.1; rw [← HJ.out, ← HNX.out, ← HM.out] at h9; exact h9)))
        clear hnm
        have HE := Lib.hid (endW (a := 0) (b := 0) (c := 0) HX2.out (Own.nil _ _ (w.heap.size + 1) _) (Or.inl (Nat.lt_succ_self _)) HB2.out)
        have t0 := HX2.out.frozen 0; have t1 := HX2.out.frozen 1; have t2 := HX2.out.frozen 2; have t3 := HX2.out.frozen 3
        have r0 := HX2.out.cell 0; have r1 := HX2.out.cell 1; have r2 := HX2.out.cell 2; have r3 := HX2.out.cell 3
        simp only [wc, List.getElem?_toArray, List.getElem?_cons_zero, List.getElem?_cons_succ] at r0 r1 r2 r3
        go_wp2_with fail
        refine bodyPost_ret (Ret.results_ct rfl _ _ w.heap.size (wc (.slice none 0 0) 0 0 0).toList rfl aggW HE.out.1.cells) rfl ?_
        rw [HV.out]
        exact ⟨_, rfl, HE.out.2.1, HE.out.2.2⟩
end Go.Proofs.Ytnnhgcfelkcpfaa.Row
