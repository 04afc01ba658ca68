/- Contracts of the program's functions on interests: validity, AppendName, the numbers, copy, the hop limit. No conditions but that lengths fit. -/
import Derived.Test.YtnnhgcfelkcpfaaWantE
import Derived.Test.YtnnhgcfelkcpfaaClone
namespace Go.Proofs.Ytnnhgcfelkcpfaa.Row
open Go.ChangeShapes Go.WideShapes Go.ChangeAt Go.RowKit Go.Instr
set_option linter.unusedVariables false
set_option maxRecDepth 100000

set_option maxHeartbeats 4000000 in
theorem implValidInterest (v : Value) (x : Wt) (w : World) (h : Holds Value.string w v x.1) (hl : bulk x.1 ≤ 9000000) :
    Calls Try.prog 13 #[.agg (wc v x.2.1 x.2.2.1 x.2.2.2)] w fun e w' => e = .returned (.bool (validW x)) ∧ Below w.heap.size w w' := by
  obtain ⟨l, a, b, c⟩ := x
  simp only at h hl ⊢
  obtain ⟨y, q, cy, rfl, hq, hcy, hg⟩ := h.shapeN
  have hb0 := (Below.refl w.heap.size w).alloc (Nat.le_refl _) (.cells (wc (.slice y q cy) a b c) 31)
  have HB := Lib.hid hb0
  have HG := Lib.hid (hg.on hb0)
  have X0 := Lib.hid (Ret.Blk.new w (wc (.slice y q cy) a b c) 31)
  have HQ := Lib.hid hq
  clear h hg hq hb0
  obtain ⟨ok, hok⟩ : ∃ z, validN l = z := ⟨_, rfl⟩
  have HOK := Lib.hid hok
  go_enter Try.func13, Try.ntmps13
  go_wp2_with fail
  refine (implValidName _ l _ HG.out (by omega)).mono ?_
  rintro e w1 ⟨rfl, hb⟩
  rw [hok]
  have Y0 := Lib.hid (X0.out.on hb)
  have HB2 := Lib.hid (HB.out.trans (hb.mono HB.out.size)); clear hb X0 hok
  have q0 : w1.cell? ⟨w.heap.size, 0, none⟩ = some (.slice y q cy) := Y0.out.cell 0
  have q1 : w1.cell? ⟨w.heap.size, 1, none⟩ = some (.int .i64 a) := Y0.out.cell 1
  have q2 : w1.cell? ⟨w.heap.size, 2, none⟩ = some (.int .i64 b) := Y0.out.cell 2
  have q3 : w1.cell? ⟨w.heap.size, 3, none⟩ = some (.int .i64 c) := Y0.out.cell 3
  cases ok with
  | false =>
    have HV := Lib.hid (validW_no1 (x := (l, a, b, c)) HOK.out)
    go_wp2_with fail
    go_ret
    exact ⟨ret_bool HV.out.symm, HB2.out⟩
  | true =>
    by_cases h2 : 0 < q
    · have hd2 : decide ((0 : Int) < (q : Int)) = true := by simp; omega
      by_cases h3 : 0 ≤ a ∧ a ≤ 1000000
      · have HI3 := Lib.hid (fun wx => Num.implIn_true h3.1 h3.2 wx)
        have H3 := Lib.hid h3
        clear h3
        go_wp2_with fail
        refine (HI3.out _).mono ?_
        rintro e w' ⟨rfl, rfl⟩
        by_cases h4 : 0 ≤ b ∧ b ≤ 16
        · have HI4 := Lib.hid (fun wx => Num.implIn_true h4.1 h4.2 wx)
          have H4 := Lib.hid h4
          clear h4
          go_wp2_with fail
          refine (HI4.out _).mono ?_
          rintro e w' ⟨rfl, rfl⟩
          by_cases h5 : 1 ≤ c ∧ c ≤ 20
          · have HI5 := Lib.hid (fun wx => Num.implIn_true h5.1 h5.2 wx)
            have HV := Lib.hid (validW_yes (x := (l, a, b, c)) HOK.out (by rw [← HQ.out]; exact h2) H3.out H4.out h5)
            clear h5
            go_wp2_with fail
            refine (HI5.out _).mono ?_
            rintro e w' ⟨rfl, rfl⟩
            go_wp2_with fail
            go_ret
            exact ⟨ret_bool HV.out.symm, HB2.out⟩
          · have HI5 := Lib.hid (fun wx => Num.implIn_false h5 wx)
            have HV := Lib.hid (validW_no5 (x := (l, a, b, c)) h5)
            clear h5
            go_wp2_with fail
            refine (HI5.out _).mono ?_
            rintro e w' ⟨rfl, rfl⟩
            go_wp2_with fail
            go_ret
            exact ⟨ret_bool HV.out.symm, HB2.out⟩
        · have HI4 := Lib.hid (fun wx => Num.implIn_false h4 wx)
          have HV := Lib.hid (validW_no4 (x := (l, a, b, c)) h4)
          clear h4
          go_wp2_with fail
          refine (HI4.out _).mono ?_
          rintro e w' ⟨rfl, rfl⟩
          go_wp2_with fail
          go_ret
          exact ⟨ret_bool HV.out.symm, HB2.out⟩
      · have HI3 := Lib.hid (fun wx => Num.implIn_false h3 wx)
        have HV := Lib.hid (validW_no3 (x := (l, a, b, c)) h3)
        clear h3
        go_wp2_with fail
        refine (HI3.out _).mono ?_
        rintro e w' ⟨rfl, rfl⟩
        go_wp2_with fail
        go_ret
        exact ⟨ret_bool HV.out.symm, HB2.out⟩
    · have HV := Lib.hid (validW_no2 (x := (l, a, b, c)) (by rw [← HQ.out]; exact h2))
      have hd2 : decide ((0 : Int) < (q : Int)) = false := by simp; omega
      go_wp2_with fail
      go_ret
      exact ⟨ret_bool HV.out.symm, HB2.out⟩

set_option maxHeartbeats 4000000 in
theorem implAppendName (v u : Value) (b : List Int) (l : List ByteArray) (w : World) (h : Sl.Holds .u8 w v b) (g : Holds Value.string w u l) (hb : b.length ≤ 2000000) (hl : bulk l ≤ 1200000) :
    Calls Try.prog 19 #[v, .agg #[u]] w (Sl.GivesB w (appName b l)) := by
  obtain ⟨x, cx, rfl, hcx, hh⟩ := h.shape
  obtain ⟨y, q, cy, rfl, hq, hcy, hg⟩ := g.shapeN
  obtain ⟨m, hm⟩ : ∃ m, m = b.length := ⟨_, rfl⟩
  rw [← hm] at hcx hh hb ⊢
  have HM := Lib.hid hm; have HQ := Lib.hid hq
  have hb0 := (Below.refl w.heap.size w).alloc (Nat.le_refl _) (.cells #[.slice y q cy] 29)
  have HB1 := Lib.hid hb0
  have HH := Lib.hid hh
  have HG := Lib.hid (hg.on hb0)
  have HX := Lib.hid (Ret.Box.new w (.slice y q cy) 29)
  have HBL := Lib.hid hl
  have HG0 := Lib.hid hg
  have hql : q ≤ 1200000 := by rw [hq]; exact Nat.le_trans (bulk_len l) hl
  clear hh h g hg hm hq hb0
  obtain ⟨ok, hok⟩ : ∃ z, validN l = z := ⟨_, rfl⟩
  have HOK := Lib.hid hok
  go_enter Try.func19, Try.ntmps19
  go_wp2_with fail
  refine (implValidName _ l _ HG.out (by omega)).mono ?_
  rintro e w2 ⟨rfl, hb2⟩
  rw [hok]
  have HB2 := Lib.hid (HB1.out.trans (hb2.mono HB1.out.size))
  have HX2 := Lib.hid (HX.out.on hb2)
  have HH2 := Lib.hid (HH.out.on HB2.out)
  have hx2 := HX2.out.cell
  clear hb2 hok
  cases ok with
  | false =>
    have HV : Hid (appName b l = b) := Lib.hid (by unfold appName; rw [if_neg (by rw [HOK.out]; simp)])
    have HOE := Lib.hid (Sl.own_empty .u8 5 w2)
    have HHE := Lib.hid (HH2.out.on ((Below.refl _ _).alloc (Nat.le_refl _) (.cells #[] 5)))
    have HBE := Lib.hid (HB2.out.alloc HB2.out.size (.cells #[] 5))
    go_wp2_with (at_builtin; refine Sl.wpList_app (k := .u8) (B := w2.heap.size) (l := []) (m := b) rfl _ _ rfl Try.underlying35 Sl.elemBYTE rfl rfl rfl HOE.out HHE.out ?_ (by decide) ?_ ?_)
    · have := HM.out; simp; omega
    · simp
    intro v1 w1 ho hg
    have HB := Lib.hid (HBE.out.grown hg HBE.out.size (fun g e => by cases e; exact HB2.out.size))
    have HO := Lib.hid (show Sl.Own 5 .u8 w.heap.size w1 v1 b from ho.mono HB2.out.size)
    clear ho hg
    go_wp2_with fail
    go_ret
    exact ⟨_, rfl, by rw [HV.out]; exact HO.out, HB.out⟩
  | true =>
    have HV : Hid (appName b l = b ++ encN l) := Lib.hid (by unfold appName; rw [if_pos HOK.out])
    go_wp2_with fail
    refine (Sl.implAppendVarint _ b q _ HH2.out (by rw [← HM.out]; omega)).mono ?_
    rintro e w3 ⟨v3, rfl, ho3, hb3⟩
    have HO3 := Lib.hid (show Sl.Own 5 .u8 w.heap.size w3 v3 (b ++ Var.var q ++ encPs (l.take 0)) by rw [List.take_zero, show encPs [] = [] from rfl, List.append_nil]; exact ho3.mono HB2.out.size)
    have HB3 := Lib.hid (HB2.out.trans (hb3.mono HB2.out.size))
    have HX3 := Lib.hid (HX2.out.on hb3)
    clear ho3 hb3 hx2
    have hx3 := HX3.out.cell
    go_wp2_with fail
    go_loopw [0, 6, 21] (fun tv pv iv wr => ∃ k : Nat, k ≤ q ∧ iv = .int .i64 k ∧ Hid (Sl.Own 5 .u8 w.heap.size wr tv (b ++ Var.var q ++ encPs (l.take k))) ∧ Hid (Below w.heap.size w wr)) (fun _ _ iv _ => q - (intOf iv).toNat)
    case atStart => exact ⟨0, Nat.zero_le _, rfl, HO3, HB3⟩
    case round =>
      obtain ⟨k, hk, rfl, hO, hB⟩ := hrel
      by_cases hlt : k < q
      · obtain ⟨b0, off0, hy, hc⟩ := (HG0.out.on hB.out).at (j := k) (by rw [← HQ.out]; exact hlt)
        subst hy
        have hsz : (nth l k).size ≤ 1200000 := by
          have h2 := size_bulk (l := l) (k := k) (by rw [← HQ.out]; exact hlt)
          have h3 := HBL.out
          omega
        have hle : (encPs (l.take k)).length ≤ 7200000 := by
          have h1 := encPs_len (l.take k)
          have h2 := bulk_take_le l k
          have h3 := HBL.out
          omega
        have hll : (b ++ Var.var q ++ encPs (l.take k)).length ≤ 10000000 := by
          have h1 := Var.var_len q
          rw [List.length_append, List.length_append, ← HM.out]; omega
        have HN := Lib.hid (encPs_next (l := l) (k := k) (by rw [← HQ.out]; exact hlt))
        obtain ⟨cp, wc', e0, h0, b0'⟩ := Sl.conv_bytes wr (nth l k)
        have H0 := Lib.hid h0; have B0 := Lib.hid b0'
        have HLL := Lib.hid hll
        clear h0 b0' hle hll
        go_wp2_with fail
        refine (Sl.implAppendBytes _ _ (b ++ Var.var q ++ encPs (l.take k)) (Sl.bytesOf (nth l k)) wc' (hO.out.on B0.out).holds H0.out HLL.out (by rw [Sl.bytesOf_length]; omega)).mono ?_
        rintro e w4 ⟨v4, rfl, ho4, hb4⟩
        have HB4 := Lib.hid ((hB.out.trans (B0.out.mono hB.out.size)).trans (hb4.mono (Nat.le_trans hB.out.size B0.out.size)))
        have HO4 := Lib.hid (show Sl.Own 5 .u8 w.heap.size w4 v4 (b ++ Var.var q ++ encPs (l.take (k + 1))) by
          have h9 := ho4.mono (Nat.le_trans hB.out.size B0.out.size)
          rw [HN.out, ← List.append_assoc, ← Sl.bytesOf_length, ← List.append_assoc]
          exact h9)
        clear ho4 hb4 e0 hc
        go_wp2_with fail
        go_roundw
        case rel => exact ⟨k + 1, by omega, by go_num, HO4, HB4⟩
        case measure => simp [intOf]; omega
      · obtain rfl : k = q := by omega
        clear hlt
        go_wp2_with fail
        go_ret
        refine ⟨_, rfl, ?_, hB.out⟩
        have h9 := hO.out
        rw [HQ.out, List.take_length] at h9
        rw [HV.out]
        unfold encN
        rw [← List.append_assoc]
        exact h9
end Go.Proofs.Ytnnhgcfelkcpfaa.Row
