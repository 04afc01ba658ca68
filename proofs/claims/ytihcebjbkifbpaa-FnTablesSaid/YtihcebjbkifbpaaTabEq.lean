/- Contracts of EqualTables, the program's and the model's. No conditions but that lengths fit. -/
import Derived.Test.YtihcebjbkifbpaaTabV
namespace Go.Proofs.Ytihcebjbkifbpaa.Row
open Go.ChangeShapes Go.WideShapes Go.ChangeAt Go.RowKit Go.Instr
set_option linter.unusedVariables false
set_option maxRecDepth 100000

theorem specEqualTables_len (x y : Option Addr) (n m cx cy : Nat) (w : World) (h : (((n : Nat) : Int) != ((m : Nat) : Int)) = true) :
    Calls Try.prog 42 #[.slice x n cx, .slice y m cy] w fun e w' => e = .returned (.bool false) ∧ w = w' := by
  go_enter Try.func42, Try.ntmps42
  go_wp2
  go_ret
  exact ⟨rfl, rfl⟩
set_option maxHeartbeats 2000000 in
theorem specEqualTables (v u : Value) (T U : List (List ByteArray × Int)) (w : World) (h : TabHolds w v T) (g : TabHolds w u U) (hl : T.length ≤ 140737488351232) (hm : U.length ≤ 140737488351232) (hT : smT T) (hU : smT U) :
    Calls Try.prog 42 #[v, u] w fun e w' => e = .returned (.bool (eqT T U)) ∧ Below w.heap.size w w' := by
  obtain ⟨L, rfl, h⟩ := h
  obtain ⟨M, rfl, g⟩ := g
  obtain ⟨x, n, cx, rfl, hn, hcx, hh⟩ := h.shapeN
  obtain ⟨y, m, cy, rfl, hm2, hcy, hg⟩ := g.shapeN
  rw [strip_length, ← hn] at hl
  rw [strip_length, ← hm2] at hm
  by_cases he : n = m
  · subst he
    have HN := Lib.hid hn
    have HM := Lib.hid hm2
    have HH := Lib.hid hh
    have HG := Lib.hid hg
    have HT := Lib.hid hT
    have HU := Lib.hid hU
    have htest : (((n : Nat) : Int) != ((n : Nat) : Int)) = false := by simp
    clear hn h hh g hg hm2 hT hU hm
    go_enter Try.func42, Try.ntmps42
    go_wp2
    go_loopw [5] (fun i wr => ∃ k : Nat, k ≤ n ∧ i = .int .i64 k ∧ Hid (agree (strip L) (strip M) k) ∧ Hid (Below w.heap.size w wr)) (fun i _ => n - (intOf i).toNat)
    case atStart => exact ⟨0, Nat.zero_le _, rfl, Lib.hid (agree_zero _ _), Lib.hid (Below.refl _ _)⟩
    case round =>
      obtain ⟨k, hk, rfl, ha, hb⟩ := hrel
      by_cases hlt : k < n
      · have hlen := HN.out
        have hlen2 := HM.out
        obtain ⟨b, off, rfl, hc, hd, hnm⟩ := (HH.out.on hb.out).at (k := k) (by omega)
        obtain ⟨b', off', rfl, hc', hd', hnm'⟩ := (HG.out.on hb.out).at (k := k) (by omega)
        have HL := Lib.hid (smT_psl HT.out (k := k) (by omega)); have HL' := Lib.hid (smT_psl HU.out (k := k) (by omega))
        have e1 := strip_nth (L := L) (k := k) (by omega)
        have e2 := strip_nth (L := M) (k := k) (by omega)
        have HC := Lib.hid hc; have HD := Lib.hid hd; have HC' := Lib.hid hc'; have HD' := Lib.hid hd'
        have HNM := Lib.hid hnm; have HNM' := Lib.hid hnm'
        by_cases hval : (nth L k).val = (nth M k).val
        · have hv : ((nth L k).val != (nth M k).val) = false := by simp [hval]
          by_cases hq : (nth L k).ps = (nth M k).ps
          · have HE1 := Lib.hid (eqB_true hq)
            have HA := Lib.hid (agree_succ ha.out (by rw [e1, e2]; exact Prod.ext hq hval))
            clear hq hval hlen hlen2 e1 e2 hc hd hc' hd' hnm hnm'
            go_wp2_with fail
            (first | go_region_held3 (fun w' => w'.cell? ⟨b, off + k * 2, none⟩ = some (.slice (nth L k).ad (nth L k).n (nth L k).cap) ∧ w'.cell? ⟨b, off + k * 2 + 1, none⟩ = some (.int .i64 (nth L k).val) ∧ w'.cell? ⟨b', off' + k * 2, none⟩ = some (.slice (nth M k).ad (nth M k).n (nth M k).cap) ∧ w'.cell? ⟨b', off' + k * 2 + 1, none⟩ = some (.int .i64 (nth M k).val) ∧ Below w.heap.size w w') (first | exact keep4 HC.out HD.out HC'.out HD'.out hb.out (Below.refl _ _).drew | exact keep4 HC.out HD.out HC'.out HD'.out hb.out (hb1.mono (Nat.le_refl _)) | exact keep4 HC.out HD.out HC'.out HD'.out hb.out ((Below.refl _ _).drew.trans (hb1.mono (Nat.le_refl _)))) ((go_at_call 63; refine (sEqV _ HE1.out (HNM.out.on (Below.refl _ _).drew) (HNM'.out.on (Below.refl _ _).drew) HL.out HL'.out).mono ?_; rintro e w1 ⟨rfl, hb1⟩)) | fail)
            all_goals
              have HB2 := Lib.hid (hb.out.drew.trans (hb1.mono hb.out.size))
              clear hb1
              go_wp2_with fail
              go_roundw
              case rel => exact ⟨k + 1, by omega, by go_num, HA, HB2⟩
              case measure => simp [intOf]; omega
          · have HE1 := Lib.hid (eqB_false hq)
            have HA := Lib.hid (eqT_false (differ_at (k := k) (a := strip L) (b := strip M) (by rw [e1, e2]; exact fun e => hq (congrArg Prod.fst e))))
            clear hq hval hlen hlen2 e1 e2 hc hd hc' hd' hnm hnm'
            go_wp2_with fail
            (first | go_region_held3 (fun w' => w'.cell? ⟨b, off + k * 2, none⟩ = some (.slice (nth L k).ad (nth L k).n (nth L k).cap) ∧ w'.cell? ⟨b, off + k * 2 + 1, none⟩ = some (.int .i64 (nth L k).val) ∧ w'.cell? ⟨b', off' + k * 2, none⟩ = some (.slice (nth M k).ad (nth M k).n (nth M k).cap) ∧ w'.cell? ⟨b', off' + k * 2 + 1, none⟩ = some (.int .i64 (nth M k).val) ∧ Below w.heap.size w w') (first | exact keep4 HC.out HD.out HC'.out HD'.out hb.out (Below.refl _ _).drew | exact keep4 HC.out HD.out HC'.out HD'.out hb.out (hb1.mono (Nat.le_refl _)) | exact keep4 HC.out HD.out HC'.out HD'.out hb.out ((Below.refl _ _).drew.trans (hb1.mono (Nat.le_refl _)))) ((go_at_call 63; refine (sEqV _ HE1.out (HNM.out.on (Below.refl _ _).drew) (HNM'.out.on (Below.refl _ _).drew) HL.out HL'.out).mono ?_; rintro e w1 ⟨rfl, hb1⟩)) | fail)
            all_goals
              have HB2 := Lib.hid (hb.out.drew.trans (hb1.mono hb.out.size))
              clear hb1
              go_wp2_with fail
              go_ret
              exact ⟨ret_bool HA.out.symm, HB2.out⟩
        · have hv : ((nth L k).val != (nth M k).val) = true := by simpa using hval
          have HA := Lib.hid (eqT_false (differ_at (k := k) (a := strip L) (b := strip M) (by rw [e1, e2]; exact fun e => hval (congrArg Prod.snd e))))
          clear hval hlen hlen2 e1 e2 hnm hnm' HC HD HC' HD'
          go_wp2_with (go_quiet (fail))
          all_goals
            go_ret
            exact ⟨ret_bool HA.out.symm, below_drewN hb.out _⟩
      · obtain rfl : k = n := by omega
        have HD := Lib.hid (eqT_true (agree_all (a := strip L) (b := strip M) (by rw [strip_length, strip_length, ← HN.out, ← HM.out]) (by rw [strip_length, ← HN.out]; exact ha.out)))
        clear hlt
        go_wp2
        go_ret
        exact ⟨ret_bool HD.out.symm, hb.out⟩
  · have htest : (((n : Nat) : Int) != ((m : Nat) : Int)) = true := by
      rw [bne_iff_ne]; omega
    rw [eqT_false (fun e => he (by have := congrArg List.length e; rw [strip_length, strip_length] at this; omega))]
    exact (specEqualTables_len x y _ _ cx cy w htest).mono fun e w' ⟨h1, h2⟩ => ⟨h1, by subst h2; exact Below.refl _ _⟩

theorem equalEntries (v u : Value) (x y : List ByteArray × Int) (w : World) (q : Bool) (hq : decide (x = y) = q) (h : Holds Value.string w v x.1) (g : Holds Value.string w u y.1) (hl : x.1.length ≤ 9000000) (hm : y.1.length ≤ 9000000) :
    Calls Try.prog 66 #[.agg #[v, .int .i64 x.2], .agg #[u, .int .i64 y.2]] w fun e w' => e = .returned (.bool q) ∧ Below w.heap.size w w' := by
  obtain ⟨ps, a⟩ := x
  obtain ⟨qs, b⟩ := y
  simp only at h g hl hm ⊢
  obtain ⟨x, n, cap, rfl, -, hcap, hh⟩ := h.shapeN
  obtain ⟨y, m, cap', rfl, -, hcap', hg⟩ := g.shapeN
  have HB := Lib.hid (((Below.refl w.heap.size w).alloc (Nat.le_refl _) (.cells #[.slice x n cap, .int .i64 a] 44)).alloc (Nat.le_trans (Nat.le_refl _) (by simp)) (.cells #[.slice y m cap', .int .i64 b] 44))
  have HH := Lib.hid (hh.on HB.out); have HG := Lib.hid (hg.on HB.out)
  have HQ := Lib.hid hq
  clear hh hg h g hq
  by_cases he : ps = qs
  · have HE0 := Lib.hid (eqB_true he)
    go_enter Try.func66, Try.ntmps66
    go_wp2_with fail
    refine (iEqV true HE0.out HH.out HG.out hl hm).mono ?_
    rintro e w1 ⟨rfl, hb⟩
    have hq0 : w1.cell? ⟨w.heap.size, 1, none⟩ = some (.int .i64 a) := by rw [hb.cell (by simp <;> omega), World.cell?_alloc_past _ _ _ (by simp <;> omega), World.cell?_alloc_at _ _ _ _ rfl]; rfl
    have hq1 : w1.cell? ⟨w.heap.size + 1, 1, none⟩ = some (.int .i64 b) := by rw [hb.cell (by simp <;> omega), World.cell?_alloc_at _ _ _ _ (by simp)]; rfl
    have HB2 := Lib.hid (HB.out.trans (hb.mono HB.out.size)); clear hb
    by_cases hv : a = b
    · have HE : Hid (q = true) := Lib.hid (by rw [← HQ.out]; simp [he, hv])
      have ht : (a == b) = true := by simp [hv]
      clear he hv
      go_wp2
      go_ret
      exact ⟨ret_bool HE.out.symm, HB2.out⟩
    · have HE : Hid (q = false) := Lib.hid (by rw [← HQ.out]; simp [hv])
      have ht : (a == b) = false := by simpa using hv
      clear he hv
      go_wp2
      go_ret
      exact ⟨ret_bool HE.out.symm, HB2.out⟩
  · have HE0 := Lib.hid (eqB_false he)
    have HE : Hid (q = false) := Lib.hid (by rw [← HQ.out]; simp [he])
    go_enter Try.func66, Try.ntmps66
    go_wp2_with fail
    refine (iEqV false HE0.out HH.out HG.out hl hm).mono ?_
    rintro e w1 ⟨rfl, hb⟩
    have HB2 := Lib.hid (HB.out.trans (hb.mono HB.out.size)); clear hb
    clear he
    go_wp2
    go_ret
    exact ⟨ret_bool HE.out.symm, HB2.out⟩

theorem equalFunc_len (x y : Option Addr) (n m cx cy : Nat) (w : World) (h : (((n : Nat) : Int) != ((m : Nat) : Int)) = true) :
    Calls Try.prog 65 #[.slice x n cx, .slice y m cy, .func (.func 66) #[] #[]] w fun e w' => e = .returned (.bool false) ∧ w = w' := by
  go_enter Try.func65, Try.ntmps65
  go_wp2
  go_ret
  exact ⟨rfl, rfl⟩
set_option maxHeartbeats 2000000 in
theorem equalFunc (v u : Value) (T U : List (List ByteArray × Int)) (w : World) (h : TabHolds w v T) (g : TabHolds w u U) (hl : T.length ≤ 140737488351232) (hm : U.length ≤ 140737488351232) (hT : smT T) (hU : smT U) :
    Calls Try.prog 65 #[v, u, .func (.func 66) #[] #[]] w fun e w' => e = .returned (.bool (eqT T U)) ∧ Below w.heap.size w w' := by
  obtain ⟨L, rfl, h⟩ := h
  obtain ⟨M, rfl, g⟩ := g
  obtain ⟨x, n, cx, rfl, hn, hcx, hh⟩ := h.shapeN
  obtain ⟨y, m, cy, rfl, hm2, hcy, hg⟩ := g.shapeN
  rw [strip_length, ← hn] at hl
  rw [strip_length, ← hm2] at hm
  by_cases he : n = m
  · subst he
    have HN := Lib.hid hn
    have HM := Lib.hid hm2
    have HH := Lib.hid hh
    have HG := Lib.hid hg
    have HT := Lib.hid hT
    have HU := Lib.hid hU
    have htest : (((n : Nat) : Int) != ((n : Nat) : Int)) = false := by simp
    clear hn h hh g hg hm2 hT hU hm
    go_enter Try.func65, Try.ntmps65
    go_wp2
    go_loopw [17] (fun i wr => ∃ k : Nat, k ≤ n ∧ i = .int .i64 k ∧ Hid (agree (strip L) (strip M) k) ∧ Hid (Below w.heap.size w wr)) (fun i _ => n - (intOf i).toNat)
    case atStart => exact ⟨0, Nat.zero_le _, rfl, Lib.hid (agree_zero _ _), Lib.hid (Below.refl _ _)⟩
    case round =>
      obtain ⟨k, hk, rfl, ha, hb⟩ := hrel
      by_cases hlt : k < n
      · have hlen := HN.out
        have hlen2 := HM.out
        obtain ⟨b, off, rfl, hc, hd, hnm⟩ := (HH.out.on hb.out).at (k := k) (by omega)
        obtain ⟨b', off', rfl, hc', hd', hnm'⟩ := (HG.out.on hb.out).at (k := k) (by omega)
        have HL := Lib.hid (smT_psl HT.out (k := k) (by omega)); have HL' := Lib.hid (smT_psl HU.out (k := k) (by omega))
        have e1 := strip_nth (L := L) (k := k) (by omega)
        have e2 := strip_nth (L := M) (k := k) (by omega)
        have hb2 := (((Below.refl wr.heap.size wr).alloc (Nat.le_refl _) (.cells #[.slice (nth L k).ad (nth L k).n (nth L k).cap, .int .i64 (nth L k).val] 44)).alloc (Nat.le_trans (Nat.le_refl _) (by simp)) (.cells #[.slice (nth M k).ad (nth M k).n (nth M k).cap, .int .i64 (nth M k).val] 44))
        have hq1 : (wr.alloc (.cells #[.slice (nth L k).ad (nth L k).n (nth L k).cap, .int .i64 (nth L k).val] 44)).cell? ⟨b', off' + k * 2, none⟩ = some (.slice (nth M k).ad (nth M k).n (nth M k).cap) := by rw [World.cell?_alloc_past _ _ _ (cell_lt hc')]; exact hc'
        have hq2 : (wr.alloc (.cells #[.slice (nth L k).ad (nth L k).n (nth L k).cap, .int .i64 (nth L k).val] 44)).cell? ⟨b', off' + k * 2 + 1, none⟩ = some (.int .i64 (nth M k).val) := by rw [World.cell?_alloc_past _ _ _ (cell_lt hd')]; exact hd'
        have HNM := Lib.hid (hnm.on hb2); have HNM' := Lib.hid (hnm'.on hb2)
        have HB2 := Lib.hid (hb.out.trans (hb2.mono hb.out.size))
        by_cases hq : (nth L k).t = (nth M k).t
        · have HE1 : Hid (decide ((nth L k).t = (nth M k).t) = true) := Lib.hid (decide_eq_true hq)
          have HA := Lib.hid (agree_succ ha.out (by rw [e1, e2, hq]))
          clear hq hlen hlen2 e1 e2 hnm hnm' hb2
          go_wp2_with fail
          refine (equalEntries _ _ (nth L k).t (nth M k).t _ _ HE1.out HNM.out HNM'.out HL.out HL'.out).mono ?_
          rintro e w1 ⟨rfl, hb1⟩
          have HB3 := Lib.hid (HB2.out.trans (hb1.mono HB2.out.size))
          clear hb1 hc hd hc' hd' hq1 hq2
          go_wp2_with fail
          go_roundw
          case rel => exact ⟨k + 1, by omega, by go_num, HA, HB3⟩
          case measure => simp [intOf]; omega
        · have HE1 : Hid (decide ((nth L k).t = (nth M k).t) = false) := Lib.hid (decide_eq_false hq)
          have HA := Lib.hid (eqT_false (differ_at (k := k) (a := strip L) (b := strip M) (by rw [e1, e2]; exact hq)))
          clear hq hlen hlen2 e1 e2 hnm hnm' hb2
          go_wp2_with fail
          refine (equalEntries _ _ (nth L k).t (nth M k).t _ _ HE1.out HNM.out HNM'.out HL.out HL'.out).mono ?_
          rintro e w1 ⟨rfl, hb1⟩
          have HB3 := Lib.hid (HB2.out.trans (hb1.mono HB2.out.size))
          clear hb1 hc hd hc' hd' hq1 hq2
          go_wp2_with fail
          go_ret
          exact ⟨ret_bool HA.out.symm, HB3.out⟩
      · obtain rfl : k = n := by omega
        have HD := Lib.hid (eqT_true (agree_all (a := strip L) (b := strip M) (by rw [strip_length, strip_length, ← HN.out, ← HM.out]) (by rw [strip_length, ← HN.out]; exact ha.out)))
        clear hlt
        go_wp2
        go_ret
        exact ⟨ret_bool HD.out.symm, hb.out⟩
  · have htest : (((n : Nat) : Int) != ((m : Nat) : Int)) = true := by
      rw [bne_iff_ne]; omega
    rw [eqT_false (fun e => he (by have := congrArg List.length e; rw [strip_length, strip_length] at this; omega))]
    exact (equalFunc_len x y _ _ cx cy w htest).mono fun e w' ⟨h1, h2⟩ => ⟨h1, by subst h2; exact Below.refl _ _⟩

theorem implEqualTables (v u : Value) (T U : List (List ByteArray × Int)) (w : World) (h : TabHolds w v T) (g : TabHolds w u U) (hl : T.length ≤ 140737488351232) (hm : U.length ≤ 140737488351232) (hT : smT T) (hU : smT U) :
    Calls Try.prog 29 #[v, u] w fun e w' => e = .returned (.bool (eqT T U)) ∧ Below w.heap.size w w' := by
  have HC := Lib.hid (equalFunc v u T U w h g hl hm hT hU)
  obtain ⟨x, n, cx, rfl, -, -, -⟩ := h.shapeN
  obtain ⟨y, m, cy, rfl, -, -, -⟩ := g.shapeN
  clear h g hT hU
  go_enter Try.func29, Try.ntmps29
  go_wp2_with fail
  refine HC.out.mono ?_
  rintro e w1 ⟨rfl, hb⟩
  have HB := Lib.hid hb; clear hb
  go_wp2_with fail
  go_ret
  exact ⟨rfl, HB.out⟩
end Go.Proofs.Ytihcebjbkifbpaa.Row
