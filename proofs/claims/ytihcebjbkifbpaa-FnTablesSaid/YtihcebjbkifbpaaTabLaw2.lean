/- Contracts of the helpers by which the laws compare, mark and look at tables. No conditions but that lengths fit. -/
import Derived.Test.YtihcebjbkifbpaaTabLaw
namespace Go.Proofs.Ytihcebjbkifbpaa.Row
open Go.ChangeShapes Go.WideShapes Go.ChangeAt Go.RowKit Go.Instr
set_option linter.unusedVariables false
set_option maxRecDepth 100000

/-- All names have parts few and small enough for the contracts. -/
def smT (T : List (List ByteArray × Int)) : Prop := ∀ t ∈ T, bulk t.1 ≤ 9000000
theorem smT_len {T : List (List ByteArray × Int)} (h : smT T) : ∀ t ∈ T, t.1.length ≤ 9000000 := fun t ht => Nat.le_trans (bulk_len _) (h t ht)
theorem smT_of {T : List (List ByteArray × Int)} (h : bulkT T ≤ 9000000) : smT T := fun t ht => Nat.le_trans (bulkT_mem ht) h
theorem smT_ps {L : List Ent} (h : smT (strip L)) {k : Nat} (hk : k < L.length) : bulk (nth L k).ps ≤ 9000000 := h _ (strip_mem (nth_mem hk))
theorem smT_psl {L : List Ent} (h : smT (strip L)) {k : Nat} (hk : k < L.length) : (nth L k).ps.length ≤ 9000000 := Nat.le_trans (bulk_len _) (smT_ps h hk)
def eqT (l m : List (List ByteArray × Int)) : Bool := decide (l = m)
theorem eqT_self (l : List (List ByteArray × Int)) : eqT l l = true := by simp [eqT]
theorem eqT_true {l m : List (List ByteArray × Int)} (h : l = m) : eqT l m = true := by simp [eqT, h]
theorem eqT_false {l m : List (List ByteArray × Int)} (h : l ≠ m) : eqT l m = false := by simp [eqT, h]

theorem eqTableEntry (v u : Value) (x y : List ByteArray × Int) (w : World) (q : Bool) (hq : decide (x = y) = q) (h : Holds Value.string w v x.1) (g : Holds Value.string w u y.1) (hl : x.1.length ≤ 140737488351232) (hm : y.1.length ≤ 140737488351232) :
    Calls Try.prog 73 #[.agg #[v, .int .i64 x.2], .agg #[u, .int .i64 y.2]] w fun e w' => e = .returned (.bool q) ∧ Below w.heap.size w w' := by
  obtain ⟨ps, a⟩ := x
  obtain ⟨qs, b⟩ := y
  simp only at h g hl hm ⊢
  obtain ⟨x, n, cap, rfl, -, hcap, hh⟩ := h.shapeN
  obtain ⟨y, m, cap', rfl, -, hcap', hg⟩ := g.shapeN
  have HB := Lib.hid (((Below.refl w.heap.size w).alloc (Nat.le_refl _) (.cells #[.slice x n cap, .int .i64 a] 44)).alloc (Nat.le_trans (Nat.le_refl _) (by simp)) (.cells #[.slice y m cap', .int .i64 b] 44))
  have HH := Lib.hid (hh.on HB.out); have HG := Lib.hid (hg.on HB.out)
  have HQ := Lib.hid hq
  clear hh hg h g hq
  go_enter Try.func73, Try.ntmps73
  go_wp2_with fail
  refine (eqName _ _ ps qs _ HH.out HG.out hl hm).mono ?_
  rintro e w1 ⟨rfl, hb⟩
  have hq0 : w1.cell? ⟨w.heap.size, 1, none⟩ = some (.int .i64 a) := by rw [hb.cell (by simp <;> omega), World.cell?_alloc_past _ _ _ (by simp <;> omega), World.cell?_alloc_at _ _ _ _ rfl]; rfl
  have hq1 : w1.cell? ⟨w.heap.size + 1, 1, none⟩ = some (.int .i64 b) := by rw [hb.cell (by simp <;> omega), World.cell?_alloc_at _ _ _ _ (by simp)]; rfl
  have HB2 := Lib.hid (HB.out.trans (hb.mono HB.out.size)); clear hb
  by_cases he : ps = qs
  · rw [eqB_true he]
    by_cases hv : a = b
    · have HE : Hid (q = true) := Lib.hid (by rw [← HQ.out]; simp [he, hv])
      have ht : (a != b) = false := by simp [hv]
      clear he hv
      go_wp2
      go_ret
      exact ⟨ret_bool HE.out.symm, HB2.out⟩
    · have HE : Hid (q = false) := Lib.hid (by rw [← HQ.out]; simp [hv])
      have ht : (a != b) = true := by simpa using hv
      clear he hv
      go_wp2
      go_ret
      exact ⟨ret_bool HE.out.symm, HB2.out⟩
  · rw [eqB_false he]
    have HE : Hid (q = false) := Lib.hid (by rw [← HQ.out]; simp [he])
    clear he
    go_wp2
    go_ret
    exact ⟨ret_bool HE.out.symm, HB2.out⟩

theorem eqTableEntryS_len (x y : Option Addr) (n m cx cy : Nat) (w : World) (h : (((n : Nat) : Int) != ((m : Nat) : Int)) = true) :
    Calls Try.prog 35 #[.slice x n cx, .slice y m cy] w fun e w' => e = .returned (.bool false) ∧ w = w' := by
  go_enter Try.func35, Try.ntmps35
  go_wp2
  go_ret
  exact ⟨rfl, rfl⟩

set_option maxHeartbeats 4000000 in
theorem eqTableEntryS (v u : Value) (T U : List (List ByteArray × Int)) (w : World) (h : TabHolds w v T) (g : TabHolds w u U) (hl : T.length ≤ 140737488351232) (hm : U.length ≤ 140737488351232) (hT : smT T) (hU : smT U) :
    Calls Try.prog 35 #[v, u] w fun e w' => e = .returned (.bool (eqT T U)) ∧ Below w.heap.size w w' := by
  obtain ⟨L, rfl, h⟩ := h
  obtain ⟨M, rfl, g⟩ := g
  obtain ⟨x, n, cx, rfl, hn, hcx, hh⟩ := h.shapeN
  obtain ⟨y, m, cy, rfl, hm2, hcy, hg⟩ := g.shapeN
  rw [strip_length, ← hn] at hl
  rw [strip_length, ← hm2] at hm
  by_cases he : n = m
  · subst he
    have HN := Lib.hid hn
    have HM := Lib.hid hm2
    have HH := Lib.hid hh
    have HG := Lib.hid hg
    have HT := Lib.hid hT
    have HU := Lib.hid hU
    have htest : (((n : Nat) : Int) != ((n : Nat) : Int)) = false := by simp
    clear hn h hh g hg hm2 hT hU hm
    go_enter Try.func35, Try.ntmps35
    go_wp2
    go_loopw [5] (fun i wr => ∃ k : Nat, k ≤ n ∧ i = .int .i64 k ∧ Hid (agree (strip L) (strip M) k) ∧ Hid (Below w.heap.size w wr)) (fun i _ => n - (intOf i).toNat)
    case atStart => exact ⟨0, Nat.zero_le _, rfl, Lib.hid (agree_zero _ _), Lib.hid (Below.refl _ _)⟩
    case round =>
      obtain ⟨k, hk, rfl, ha, hb⟩ := hrel
      by_cases hlt : k < n
      · have hlen := HN.out
        have hlen2 := HM.out
        obtain ⟨b, off, rfl, hc, hd, hnm⟩ := (HH.out.on hb.out).at (k := k) (by omega)
        obtain ⟨b', off', rfl, hc', hd', hnm'⟩ := (HG.out.on hb.out).at (k := k) (by omega)
        have HL := Lib.hid (smT_psl HT.out (k := k) (by omega)); have HL' := Lib.hid (smT_psl HU.out (k := k) (by omega))
        have e1 := strip_nth (L := L) (k := k) (by omega)
        have e2 := strip_nth (L := M) (k := k) (by omega)
        have HC := Lib.hid hc; have HD := Lib.hid hd; have HC' := Lib.hid hc'; have HD' := Lib.hid hd'
        have HNM := Lib.hid hnm; have HNM' := Lib.hid hnm'
        by_cases hq : (nth L k).t = (nth M k).t
        · have HE1 : Hid (decide ((nth L k).t = (nth M k).t) = true) := Lib.hid (decide_eq_true hq)
          have HA := Lib.hid (agree_succ ha.out (by rw [e1, e2, hq]))
          clear hq hlen hlen2 e1 e2 hc hd hc' hd' hnm hnm'
          go_wp2_with fail
          go_region_held3 (fun w' => w'.cell? ⟨b, off + k * 2, none⟩ = some (.slice (nth L k).ad (nth L k).n (nth L k).cap) ∧ w'.cell? ⟨b, off + k * 2 + 1, none⟩ = some (.int .i64 (nth L k).val) ∧ w'.cell? ⟨b', off' + k * 2, none⟩ = some (.slice (nth M k).ad (nth M k).n (nth M k).cap) ∧ w'.cell? ⟨b', off' + k * 2 + 1, none⟩ = some (.int .i64 (nth M k).val) ∧ Below w.heap.size w w') (first | exact keep4 HC.out HD.out HC'.out HD'.out hb.out (Below.refl _ _).drew | exact keep4 HC.out HD.out HC'.out HD'.out hb.out (hb1.mono (Nat.le_refl _)) | exact keep4 HC.out HD.out HC'.out HD'.out hb.out ((Below.refl _ _).drew.trans (hb1.mono (Nat.le_refl _)))) ((go_at_call 73; refine (eqTableEntry _ _ (nth L k).t (nth M k).t _ _ HE1.out (HNM.out.on (Below.refl _ _).drew) (HNM'.out.on (Below.refl _ _).drew) (Nat.le_trans HL.out (by decide)) (Nat.le_trans HL'.out (by decide))).mono ?_; rintro e w1 ⟨rfl, hb1⟩))
          all_goals
            have HB2 := Lib.hid (hb.out.drew.trans (hb1.mono hb.out.size))
            clear hb1
            go_wp2_with fail
            go_roundw
            case rel => exact ⟨k + 1, by omega, by go_num, HA, HB2⟩
            case measure => simp [intOf]; omega
        · have HE1 : Hid (decide ((nth L k).t = (nth M k).t) = false) := Lib.hid (decide_eq_false hq)
          have HA := Lib.hid (eqT_false (differ_at (k := k) (a := strip L) (b := strip M) (by rw [e1, e2]; exact hq)))
          clear hq hlen hlen2 e1 e2 hc hd hc' hd' hnm hnm'
          go_wp2_with fail
          go_region_held3 (fun w' => w'.cell? ⟨b, off + k * 2, none⟩ = some (.slice (nth L k).ad (nth L k).n (nth L k).cap) ∧ w'.cell? ⟨b, off + k * 2 + 1, none⟩ = some (.int .i64 (nth L k).val) ∧ w'.cell? ⟨b', off' + k * 2, none⟩ = some (.slice (nth M k).ad (nth M k).n (nth M k).cap) ∧ w'.cell? ⟨b', off' + k * 2 + 1, none⟩ = some (.int .i64 (nth M k).val) ∧ Below w.heap.size w w') (first | exact keep4 HC.out HD.out HC'.out HD'.out hb.out (Below.refl _ _).drew | exact keep4 HC.out HD.out HC'.out HD'.out hb.out (hb1.mono (Nat.le_refl _)) | exact keep4 HC.out HD.out HC'.out HD'.out hb.out ((Below.refl _ _).drew.trans (hb1.mono (Nat.le_refl _)))) ((go_at_call 73; refine (eqTableEntry _ _ (nth L k).t (nth M k).t _ _ HE1.out (HNM.out.on (Below.refl _ _).drew) (HNM'.out.on (Below.refl _ _).drew) (Nat.le_trans HL.out (by decide)) (Nat.le_trans HL'.out (by decide))).mono ?_; rintro e w1 ⟨rfl, hb1⟩))
          all_goals
            have HB2 := Lib.hid (hb.out.drew.trans (hb1.mono hb.out.size))
            clear hb1
            go_wp2_with fail
            go_ret
            exact ⟨ret_bool HA.out.symm, HB2.out⟩
      · obtain rfl : k = n := by omega
        have HD := Lib.hid (eqT_true (agree_all (a := strip L) (b := strip M) (by rw [strip_length, strip_length, ← HN.out, ← HM.out]) (by rw [strip_length, ← HN.out]; exact ha.out)))
        clear hlt
        go_wp2
        go_ret
        exact ⟨ret_bool HD.out.symm, hb.out⟩
  · have htest : (((n : Nat) : Int) != ((m : Nat) : Int)) = true := by
      rw [bne_iff_ne]; omega
    rw [eqT_false (fun e => he (by have := congrArg List.length e; rw [strip_length, strip_length] at this; omega))]
    exact (eqTableEntryS_len x y _ _ cx cy w htest).mono fun e w' ⟨h1, h2⟩ => ⟨h1, by subst h2; exact Below.refl _ _⟩
end Go.Proofs.Ytihcebjbkifbpaa.Row
