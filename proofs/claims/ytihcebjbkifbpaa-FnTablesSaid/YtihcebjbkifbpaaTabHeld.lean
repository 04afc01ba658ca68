/- Contracts of heldTableEntryS (the marks looked at) and sameRows. No conditions but that lengths fit. -/
import Derived.Test.YtihcebjbkifbpaaTabMark
import Derived.Test.YtihcebjbkifbpaaCmp
namespace Go.Proofs.Ytihcebjbkifbpaa.Row
open Go.ChangeShapes Go.WideShapes Go.ChangeAt Go.RowKit Go.Instr
set_option linter.unusedVariables false
set_option maxRecDepth 100000

set_option maxHeartbeats 2000000 in
theorem heldTableEntryS (v : Value) (w : World) (k : Int) (T : List (List ByteArray × Int)) (h : TabHolds w v (markTb k T)) (hl : adv T ≤ 100000000) (h0 : 0 ≤ k) (h1 : k ≤ 10000000000) :
    Calls Try.prog 41 #[v, .int .i64 k] w fun e w' => e = .returned (.int .i64 (k + adv T)) ∧ Below w.heap.size w w' := by
  obtain ⟨L, hL, h⟩ := h
  obtain ⟨x, n, cap, rfl, hn, hcap, hh⟩ := h.shapeN
  have hTn : T.length = n := by rw [← markTb_length k T, ← hL, strip_length]; exact hn.symm
  have hln : n ≤ 100000000 := by have := adv_len T; omega
  have HN := Lib.hid hn
  have HH := Lib.hid hh
  have HL := Lib.hid hL
  have HT := Lib.hid hTn
  have HADV := Lib.hid (fun j => adv_take_le T j)
  clear hh h hn hL hTn
  go_enter Try.func41, Try.ntmps41
  go_wp2
  go_loopw [1, 5] (fun kv i wr => ∃ j : Nat, j ≤ n ∧ i = .int .i64 j ∧ kv = .int .i64 (k + adv (T.take j)) ∧ Hid (Below w.heap.size w wr)) (fun _ i _ => n - (intOf i).toNat)
  case atStart => exact ⟨0, Nat.zero_le _, rfl, by simp [adv], Lib.hid (Below.refl _ _)⟩
  case round =>
    obtain ⟨j, hj, rfl, rfl, hb⟩ := hrel
    by_cases hlt : j < n
    · have hlen := HN.out
      have hTj : j < T.length := by rw [HT.out]; exact hlt
      obtain ⟨b, off, rfl, hc1, hc2, hnm⟩ := (HH.out.on hb.out).at (k := j) (by omega)
      have e1 : (nth L j).t = (marks markT (k + adv (T.take j)) (nth T j).1.length, k + adv (T.take j) + (nth T j).1.length) := by
        rw [← strip_nth (by omega), HL.out, markTb_at k T hTj]
      have e2 : (nth L j).ps = marks markT (k + adv (T.take j)) (nth T j).1.length := congrArg Prod.fst e1
      have e3 : (nth L j).val = k + adv (T.take j) + (nth T j).1.length := congrArg Prod.snd e1
      rw [e2] at hnm
      rw [e3] at hc2
      have hst := adv_take hTj
      have hadv := HADV.out j
      have hadv2 := HADV.out (j + 1)
      have hpl : (nth T j).1.length ≤ 100000000 := by omega
      have ha0 : (adv (T.take j) : Int) ≤ 100000000 := by omega
      have HNM := Lib.hid hnm
      have HST := Lib.hid hst
      clear hlen e1 e2 e3 hst hadv hadv2 hnm hTj
      have hne : (k + (adv (T.take j) : Int) + ((nth T j).1.length : Int) != k + (adv (T.take j) : Int) + ((nth T j).1.length : Int)) = false := by simp
      go_wp2_with fail
      refine (heldStringS _ wr (k + adv (T.take j)) (nth T j).1.length HNM.out hpl (by omega) (by omega)).mono ?_
      rintro e w1 ⟨rfl, hb1⟩
      have hc2' : w1.cell? ⟨b, off + j * 2 + 1, none⟩ = some (.int .i64 (k + adv (T.take j) + (nth T j).1.length)) := by rw [hb1.cell (cell_lt hc2)]; exact hc2
      have HB1 := Lib.hid (hb.out.trans (hb1.mono hb.out.size))
      have hpos : ¬ k + (adv (T.take j) : Int) + ((nth T j).1.length : Int) < 0 := by omega
      clear hc1 hc2 hb1
      go_wp2_with fail
      go_roundw
      case rel => exact ⟨j + 1, by omega, by go_num, by rw [HST.out]; go_num, HB1⟩
      case measure => simp [intOf]; omega
    · obtain rfl : j = n := by omega
      clear hlt
      go_wp2
      go_ret
      exact ⟨ret_int (by rw [List.take_of_length_le (by rw [HT.out]; exact Nat.le_refl _)]), hb.out⟩

theorem sameRows_len (x y : Option Addr) (n m cx cy : Nat) (w : World) (h : (((n : Nat) : Int) != ((m : Nat) : Int)) = true) :
    Calls Try.prog 23 #[.slice x n cx, .slice y m cy] w fun e w' => e = .returned (.bool false) ∧ w = w' := by
  go_enter Try.func23, Try.ntmps23
  go_wp2
  go_ret
  exact ⟨rfl, rfl⟩
theorem sameNameV (v u : Value) (l m : List ByteArray) (w : World) (q : Bool) (hq : eqB l m = q) (h : Holds Value.string w v l) (g : Holds Value.string w u m) (hl : l.length ≤ 140737488351232) (hm : m.length ≤ 140737488351232) :
    Calls Try.prog 58 #[.agg #[v], .agg #[u]] w fun e w' => e = .returned (.bool q) ∧ Below w.heap.size w w' := hq ▸ sameName v u l m w h g hl hm

set_option maxHeartbeats 2000000 in
theorem sameRows (v u : Value) (T U : List (List ByteArray × Int)) (w : World) (h : TabHolds w v T) (g : TabHolds w u U) (hl : T.length ≤ 140737488351232) (hm : U.length ≤ 140737488351232) (hT : smT T) (hU : smT U) :
    Calls Try.prog 23 #[v, u] w fun e w' => e = .returned (.bool (eqT T U)) ∧ Below w.heap.size w w' := by
  obtain ⟨L, rfl, h⟩ := h
  obtain ⟨M, rfl, g⟩ := g
  obtain ⟨x, n, cx, rfl, hn, hcx, hh⟩ := h.shapeN
  obtain ⟨y, m, cy, rfl, hm2, hcy, hg⟩ := g.shapeN
  rw [strip_length, ← hn] at hl
  rw [strip_length, ← hm2] at hm
  by_cases he : n = m
  · subst he
    have HN := Lib.hid hn
    have HM := Lib.hid hm2
    have HH := Lib.hid hh
    have HG := Lib.hid hg
    have HT := Lib.hid hT
    have HU := Lib.hid hU
    have htest : (((n : Nat) : Int) != ((n : Nat) : Int)) = false := by simp
    clear hn h hh g hg hm2 hT hU hm
    go_enter Try.func23, Try.ntmps23
    go_wp2
    go_loopw [5] (fun i wr => ∃ k : Nat, k ≤ n ∧ i = .int .i64 k ∧ Hid (agree (strip L) (strip M) k) ∧ Hid (Below w.heap.size w wr)) (fun i _ => n - (intOf i).toNat)
    case atStart => exact ⟨0, Nat.zero_le _, rfl, Lib.hid (agree_zero _ _), Lib.hid (Below.refl _ _)⟩
    case round =>
      obtain ⟨k, hk, rfl, ha, hb⟩ := hrel
      by_cases hlt : k < n
      · have hlen := HN.out
        have hlen2 := HM.out
        obtain ⟨b, off, rfl, hc, hd, hnm⟩ := (HH.out.on hb.out).at (k := k) (by omega)
        obtain ⟨b', off', rfl, hc', hd', hnm'⟩ := (HG.out.on hb.out).at (k := k) (by omega)
        have HL := Lib.hid (smT_psl HT.out (k := k) (by omega)); have HL' := Lib.hid (smT_psl HU.out (k := k) (by omega))
        have e1 := strip_nth (L := L) (k := k) (by omega)
        have e2 := strip_nth (L := M) (k := k) (by omega)
        have HC := Lib.hid hc; have HD := Lib.hid hd; have HC' := Lib.hid hc'; have HD' := Lib.hid hd'
        have HNM := Lib.hid hnm; have HNM' := Lib.hid hnm'
        by_cases hval : (nth L k).val = (nth M k).val
        · have hv : ((nth L k).val != (nth M k).val) = false := by simp [hval]
          by_cases hq : (nth L k).ps = (nth M k).ps
          · have HE1 := Lib.hid (eqB_true hq)
            have HA := Lib.hid (agree_succ ha.out (by rw [e1, e2]; exact Prod.ext hq hval))
            clear hq hval hlen hlen2 e1 e2 hc hd hc' hd' hnm hnm'
            go_wp2_with fail
            (first | go_region_held3 (fun w' => w'.cell? ⟨b, off + k * 2, none⟩ = some (.slice (nth L k).ad (nth L k).n (nth L k).cap) ∧ w'.cell? ⟨b, off + k * 2 + 1, none⟩ = some (.int .i64 (nth L k).val) ∧ w'.cell? ⟨b', off' + k * 2, none⟩ = some (.slice (nth M k).ad (nth M k).n (nth M k).cap) ∧ w'.cell? ⟨b', off' + k * 2 + 1, none⟩ = some (.int .i64 (nth M k).val) ∧ Below w.heap.size w w') (first | exact keep4 HC.out HD.out HC'.out HD'.out hb.out (Below.refl _ _).drew | exact keep4 HC.out HD.out HC'.out HD'.out hb.out (hb1.mono (Nat.le_refl _)) | exact keep4 HC.out HD.out HC'.out HD'.out hb.out ((Below.refl _ _).drew.trans (hb1.mono (Nat.le_refl _)))) ((go_at_call 58; refine (sameNameV _ _ (nth L k).ps (nth M k).ps _ _ HE1.out (HNM.out.on (Below.refl _ _).drew) (HNM'.out.on (Below.refl _ _).drew) (Nat.le_trans HL.out (by decide)) (Nat.le_trans HL'.out (by decide))).mono ?_; rintro e w1 ⟨rfl, hb1⟩)) | fail)
            all_goals
              have HB2 := Lib.hid (hb.out.drew.trans (hb1.mono hb.out.size))
              clear hb1
              go_wp2_with fail
              go_roundw
              case rel => exact ⟨k + 1, by omega, by go_num, HA, HB2⟩
              case measure => simp [intOf]; omega
          · have HE1 := Lib.hid (eqB_false hq)
            have HA := Lib.hid (eqT_false (differ_at (k := k) (a := strip L) (b := strip M) (by rw [e1, e2]; exact fun e => hq (congrArg Prod.fst e))))
            clear hq hval hlen hlen2 e1 e2 hc hd hc' hd' hnm hnm'
            go_wp2_with fail
            (first | go_region_held3 (fun w' => w'.cell? ⟨b, off + k * 2, none⟩ = some (.slice (nth L k).ad (nth L k).n (nth L k).cap) ∧ w'.cell? ⟨b, off + k * 2 + 1, none⟩ = some (.int .i64 (nth L k).val) ∧ w'.cell? ⟨b', off' + k * 2, none⟩ = some (.slice (nth M k).ad (nth M k).n (nth M k).cap) ∧ w'.cell? ⟨b', off' + k * 2 + 1, none⟩ = some (.int .i64 (nth M k).val) ∧ Below w.heap.size w w') (first | exact keep4 HC.out HD.out HC'.out HD'.out hb.out (Below.refl _ _).drew | exact keep4 HC.out HD.out HC'.out HD'.out hb.out (hb1.mono (Nat.le_refl _)) | exact keep4 HC.out HD.out HC'.out HD'.out hb.out ((Below.refl _ _).drew.trans (hb1.mono (Nat.le_refl _)))) ((go_at_call 58; refine (sameNameV _ _ (nth L k).ps (nth M k).ps _ _ HE1.out (HNM.out.on (Below.refl _ _).drew) (HNM'.out.on (Below.refl _ _).drew) (Nat.le_trans HL.out (by decide)) (Nat.le_trans HL'.out (by decide))).mono ?_; rintro e w1 ⟨rfl, hb1⟩)) | fail)
            all_goals
              have HB2 := Lib.hid (hb.out.drew.trans (hb1.mono hb.out.size))
              clear hb1
              go_wp2_with fail
              go_ret
              exact ⟨ret_bool HA.out.symm, HB2.out⟩
        · have hv : ((nth L k).val != (nth M k).val) = true := by simpa using hval
          have HA := Lib.hid (eqT_false (differ_at (k := k) (a := strip L) (b := strip M) (by rw [e1, e2]; exact fun e => hval (congrArg Prod.snd e))))
          clear hval hlen hlen2 e1 e2 hnm hnm' HC HD HC' HD'
          go_wp2_with (go_quiet (fail))
          all_goals
            go_ret
            exact ⟨ret_bool HA.out.symm, below_drewN hb.out _⟩
      · obtain rfl : k = n := by omega
        have HD := Lib.hid (eqT_true (agree_all (a := strip L) (b := strip M) (by rw [strip_length, strip_length, ← HN.out, ← HM.out]) (by rw [strip_length, ← HN.out]; exact ha.out)))
        clear hlt
        go_wp2
        go_ret
        exact ⟨ret_bool HD.out.symm, hb.out⟩
  · have htest : (((n : Nat) : Int) != ((m : Nat) : Int)) = true := by
      rw [bne_iff_ne]; omega
    rw [eqT_false (fun e => he (by have := congrArg List.length e; rw [strip_length, strip_length] at this; omega))]
    exact (sameRows_len x y _ _ cx cy w htest).mono fun e w' ⟨h1, h2⟩ => ⟨h1, by subst h2; exact Below.refl _ _⟩
end Go.Proofs.Ytihcebjbkifbpaa.Row
