/- Contracts of the program's ReadVarint: what the groups at the offset make, the offset behind them, true; or 0, 0 and false. What was in memory stays as it was. No conditions but that the elements are bytes and the length fits. -/
import Derived.Test.YtnnhgcfelkcpfaaDoorReadV
namespace Go.Proofs.YtnnhgcfelkcpfaaDoor.Sl
open Go.ChangeShapes Go.WideShapes Go.ChangeAt Go.RowKit Go.Instr
set_option linter.unusedVariables false
set_option maxRecDepth 100000

set_option maxHeartbeats 1000000 in
theorem implReadV_in (b off : Nat) (cap m : Nat) (l : List Int) (a : Nat) (w : World) (hm : m = l.length) (hcap : m ≤ cap) (h : Holds .u8 w (.slice (some ⟨b, off, none⟩) m cap) l) (hB : Byt l) (hl : m ≤ 100000000) (ha : a < m) :
    Calls Tryd.prog 45 #[.slice (some ⟨b, off, none⟩) m cap, .int .i64 a] w fun e w' => e = .returned (rdV (Var.readV l a)) ∧ Below w.heap.size w w' := by
  have H := Lib.hid h; have HM := Lib.hid hm; have HB := Lib.hid hB
  clear h hm hB
  go_enter Tryd.func45, Tryd.ntmps45
  go_wp2_with fail
  refine (Num.implIn_true (by omega) (by omega) _).mono ?_
  rintro e w' ⟨rfl, rfl⟩
  go_wp2_with fail
  refine (Num.implMin _ _ _).mono ?_
  rintro e w1 ⟨rfl, hb⟩
  replace H := Lib.hid (H.out.on hb); have BB := Lib.hid hb; clear hb
  obtain ⟨c, hc0, hc1, hc2, hc3⟩ : ∃ c : Nat, Hid (Num.minI (m : Int) ((a : Int) + 6) = ((a + c : Nat) : Int)) ∧ a + c ≤ m ∧ c ≤ 6 ∧ (a + c = m ∨ c = 6) := by
    by_cases hx : a + 6 ≤ m
    · exact ⟨6, by show _ = _; rw [Num.minI]; split <;> omega, by omega, by omega, by omega⟩
    · exact ⟨m - a, by show _ = _; rw [Num.minI]; split <;> omega, by omega, by omega, by omega⟩
  rw [hc0.out]
  go_wp2_with fail
  go_loop [7, 24] (fun nv iv => ∃ (k : Nat) (n : Int), k ≤ c ∧ iv = .int .i64 k ∧ nv = .int .i64 n ∧ 0 ≤ n ∧ Hid (n < 128 ^ k) ∧ Hid (Var.dec (6 - k) (l.drop (a + k)) k n = Var.dec 6 (l.drop a) 0 0)) (fun _ iv => 6 - (intOf iv).toNat)
  case atStart => exact ⟨0, 0, by omega, rfl, rfl, by omega, Lib.hid (by decide), Lib.hid rfl⟩
  case round =>
    obtain ⟨k, n, hk, rfl, rfl, hn0, hn1, hd⟩ := hrel
    by_cases hk6 : k < c
    · have hlen := HM.out
      obtain ⟨b', off', hbo, hc⟩ := H.out.at (j := a + k) (by omega)
      cases hbo
      rw [← Nat.add_assoc] at hc
      have hby := HB.out.at (j := a + k) (by omega)
      have hx : Hid (nth l (a + k) = l.getD (a + k) 0) := rfl
      obtain ⟨y, hy⟩ : ∃ y, y = nth l (a + k) := ⟨_, rfl⟩
      rw [← hy] at hc hby hx
      clear hy hlen
      have hltL : Hid (a + k < l.length) := by have := HM.out; exact (show a + k < l.length by omega)
      have hz : k = 0 ∨ k = 1 ∨ k = 2 ∨ k = 3 ∨ k = 4 ∨ k = 5 := by omega
      · by_cases hy1 : y < 128
        · rcases hz with rfl | rfl | rfl | rfl | rfl | rfl
          · rw [Nat.add_zero] at hc
            have h2 := hn1.out
            have hm : y % 128 = y := by omega
            have HMY := Lib.hid hm; clear hm
            have h3 : n < 1 := by omega
            clear h2
            by_cases hbad : (y = 0 ∧ 0 < 0) ∨ 1000000000000 < n + y * 1
            · have HD := Lib.hid (hd.out.symm.trans (Var.dec_bad 0 1 (by decide) hltL.out (by decide) hx.out hy1 hbad))
              have HR := Lib.hid (Var.readV_none (l := l) (i := (a : Int)) (fun _ _ => by simpa using HD.out))
              by_cases h0 : y = 0
              · subst h0
                have h5 : 1000000000000 < n := by omega
                clear hbad
                go_wp2_with fail
                go_ret3
                exact ⟨ret_rdV HR.out, BB.out⟩
              · exact absurd (show 1000000000000 < n + y % 128 by omega) (by omega)
            · have HD := Lib.hid (hd.out.symm.trans (Var.dec_ok 0 1 (by decide) hltL.out (by decide) hx.out hy1 hbad))
              have HR := Lib.hid (Var.readV_some (l := l) (i := (a : Int)) (by omega) (by have := HM.out; omega) (by simpa using HD.out))
              have h5 : n + y % 128 ≤ 1000000000000 := by omega
              clear hbad
              by_cases h0 : y = 0
              · subst h0
                go_wp2_with fail
                go_ret3
                exact ⟨ret_rdV (HR.out.trans (by simp)), BB.out⟩
              · have h1 : (y == 0) = false := by simpa using h0
                clear h0
                go_wp2_with fail
                go_ret3
                exact ⟨ret_rdV (HR.out.trans (by have := HMY.out; simp; omega)), BB.out⟩
          · have h2 := hn1.out
            have hm : y % 128 = y := by omega
            have HMY := Lib.hid hm; clear hm
            have h3 : n < 128 := by omega
            clear h2
            by_cases hbad : (y = 0 ∧ 0 < 1) ∨ 1000000000000 < n + y * 128
            · have HD := Lib.hid (hd.out.symm.trans (Var.dec_bad 1 128 (by decide) hltL.out (by decide) hx.out hy1 hbad))
              have HR := Lib.hid (Var.readV_none (l := l) (i := (a : Int)) (fun _ _ => by simpa using HD.out))
              by_cases h0 : y = 0
              · subst h0
                clear hbad
                go_wp2_with fail
                go_ret3
                exact ⟨ret_rdV HR.out, BB.out⟩
              · exact absurd (show 1000000000000 < n + y % 128 * 128 by omega) (by omega)
            · have HD := Lib.hid (hd.out.symm.trans (Var.dec_ok 1 128 (by decide) hltL.out (by decide) hx.out hy1 hbad))
              have HR := Lib.hid (Var.readV_some (l := l) (i := (a : Int)) (by omega) (by have := HM.out; omega) (by simpa using HD.out))
              have h5 : n + y % 128 * 128 ≤ 1000000000000 := by omega
              have h0 : ¬ y = 0 := by omega
              have h1 : (y == 0) = false := by simpa using h0
              clear hbad h0
              go_wp2_with fail
              go_ret3
              exact ⟨ret_rdV (HR.out.trans (by have := HMY.out; simp; omega)), BB.out⟩
          · have h2 := hn1.out
            have hm : y % 128 = y := by omega
            have HMY := Lib.hid hm; clear hm
            have h3 : n < 16384 := by omega
            clear h2
            by_cases hbad : (y = 0 ∧ 0 < 2) ∨ 1000000000000 < n + y * 16384
            · have HD := Lib.hid (hd.out.symm.trans (Var.dec_bad 2 16384 (by decide) hltL.out (by decide) hx.out hy1 hbad))
              have HR := Lib.hid (Var.readV_none (l := l) (i := (a : Int)) (fun _ _ => by simpa using HD.out))
              by_cases h0 : y = 0
              · subst h0
                clear hbad
                go_wp2_with fail
                go_ret3
                exact ⟨ret_rdV HR.out, BB.out⟩
              · exact absurd (show 1000000000000 < n + y % 128 * 16384 by omega) (by omega)
            · have HD := Lib.hid (hd.out.symm.trans (Var.dec_ok 2 16384 (by decide) hltL.out (by decide) hx.out hy1 hbad))
              have HR := Lib.hid (Var.readV_some (l := l) (i := (a : Int)) (by omega) (by have := HM.out; omega) (by simpa using HD.out))
              have h5 : n + y % 128 * 16384 ≤ 1000000000000 := by omega
              have h0 : ¬ y = 0 := by omega
              have h1 : (y == 0) = false := by simpa using h0
              clear hbad h0
              go_wp2_with fail
              go_ret3
              exact ⟨ret_rdV (HR.out.trans (by have := HMY.out; simp; omega)), BB.out⟩
          · have h2 := hn1.out
            have hm : y % 128 = y := by omega
            have HMY := Lib.hid hm; clear hm
            have h3 : n < 2097152 := by omega
            clear h2
            by_cases hbad : (y = 0 ∧ 0 < 3) ∨ 1000000000000 < n + y * 2097152
            · have HD := Lib.hid (hd.out.symm.trans (Var.dec_bad 3 2097152 (by decide) hltL.out (by decide) hx.out hy1 hbad))
              have HR := Lib.hid (Var.readV_none (l := l) (i := (a : Int)) (fun _ _ => by simpa using HD.out))
              by_cases h0 : y = 0
              · subst h0
                clear hbad
                go_wp2_with fail
                go_ret3
                exact ⟨ret_rdV HR.out, BB.out⟩
              · exact absurd (show 1000000000000 < n + y % 128 * 2097152 by omega) (by omega)
            · have HD := Lib.hid (hd.out.symm.trans (Var.dec_ok 3 2097152 (by decide) hltL.out (by decide) hx.out hy1 hbad))
              have HR := Lib.hid (Var.readV_some (l := l) (i := (a : Int)) (by omega) (by have := HM.out; omega) (by simpa using HD.out))
              have h5 : n + y % 128 * 2097152 ≤ 1000000000000 := by omega
              have h0 : ¬ y = 0 := by omega
              have h1 : (y == 0) = false := by simpa using h0
              clear hbad h0
              go_wp2_with fail
              go_ret3
              exact ⟨ret_rdV (HR.out.trans (by have := HMY.out; simp; omega)), BB.out⟩
          · have h2 := hn1.out
            have hm : y % 128 = y := by omega
            have HMY := Lib.hid hm; clear hm
            have h3 : n < 268435456 := by omega
            clear h2
            by_cases hbad : (y = 0 ∧ 0 < 4) ∨ 1000000000000 < n + y * 268435456
            · have HD := Lib.hid (hd.out.symm.trans (Var.dec_bad 4 268435456 (by decide) hltL.out (by decide) hx.out hy1 hbad))
              have HR := Lib.hid (Var.readV_none (l := l) (i := (a : Int)) (fun _ _ => by simpa using HD.out))
              by_cases h0 : y = 0
              · subst h0
                clear hbad
                go_wp2_with fail
                go_ret3
                exact ⟨ret_rdV HR.out, BB.out⟩
              · exact absurd (show 1000000000000 < n + y % 128 * 268435456 by omega) (by omega)
            · have HD := Lib.hid (hd.out.symm.trans (Var.dec_ok 4 268435456 (by decide) hltL.out (by decide) hx.out hy1 hbad))
              have HR := Lib.hid (Var.readV_some (l := l) (i := (a : Int)) (by omega) (by have := HM.out; omega) (by simpa using HD.out))
              have h5 : n + y % 128 * 268435456 ≤ 1000000000000 := by omega
              have h0 : ¬ y = 0 := by omega
              have h1 : (y == 0) = false := by simpa using h0
              clear hbad h0
              go_wp2_with fail
              go_ret3
              exact ⟨ret_rdV (HR.out.trans (by have := HMY.out; simp; omega)), BB.out⟩
          · have h2 := hn1.out
            have hm : y % 128 = y := by omega
            have HMY := Lib.hid hm; clear hm
            have h3 : n < 34359738368 := by omega
            clear h2
            by_cases hbad : (y = 0 ∧ 0 < 5) ∨ 1000000000000 < n + y * 34359738368
            · have HD := Lib.hid (hd.out.symm.trans (Var.dec_bad 5 34359738368 (by decide) hltL.out (by decide) hx.out hy1 hbad))
              have HR := Lib.hid (Var.readV_none (l := l) (i := (a : Int)) (fun _ _ => by simpa using HD.out))
              by_cases h0 : y = 0
              · subst h0
                clear hbad
                go_wp2_with fail
                go_ret3
                exact ⟨ret_rdV HR.out, BB.out⟩
              · have h1 : (y == 0) = false := by simpa using h0
                have h5 : 1000000000000 < n + y % 128 * 34359738368 := by omega
                clear hbad h0
                go_wp2_with fail
                go_ret3
                exact ⟨ret_rdV HR.out, BB.out⟩
            · have HD := Lib.hid (hd.out.symm.trans (Var.dec_ok 5 34359738368 (by decide) hltL.out (by decide) hx.out hy1 hbad))
              have HR := Lib.hid (Var.readV_some (l := l) (i := (a : Int)) (by omega) (by have := HM.out; omega) (by simpa using HD.out))
              have h5 : n + y % 128 * 34359738368 ≤ 1000000000000 := by omega
              have h0 : ¬ y = 0 := by omega
              have h1 : (y == 0) = false := by simpa using h0
              clear hbad h0
              go_wp2_with fail
              go_ret3
              exact ⟨ret_rdV (HR.out.trans (by have := HMY.out; simp; omega)), BB.out⟩
        · rcases hz with rfl | rfl | rfl | rfl | rfl | rfl
          · rw [Nat.add_zero] at hc
            have h2 := hn1.out
            have hn2 : Hid (n + y % 128 < 128 ^ 1) := (show n + y % 128 < 128 ^ 1 by omega)
            have h3 : n < 1 := by omega
            clear h2
            have HD := Lib.hid ((Var.dec_more 0 1 (by decide) hltL.out (by decide) hx.out (by omega)).symm.trans hd.out)
            rw [Int.mul_one] at HD
            go_wp2_with fail
            go_round
            case rel => exact ⟨1, _, by omega, rfl, rfl, by omega, hn2, HD⟩
            case measure => simp [intOf]
          · have h2 := hn1.out
            have hn2 : Hid (n + y % 128 * 128 < 128 ^ 2) := (show n + y % 128 * 128 < 128 ^ 2 by omega)
            have h3 : n < 128 := by omega
            clear h2
            have HD := Lib.hid ((Var.dec_more 1 128 (by decide) hltL.out (by decide) hx.out (by omega)).symm.trans hd.out)
            go_wp2_with fail
            go_round
            case rel => exact ⟨2, _, by omega, rfl, rfl, by omega, hn2, HD⟩
            case measure => simp [intOf]
          · have h2 := hn1.out
            have hn2 : Hid (n + y % 128 * 16384 < 128 ^ 3) := (show n + y % 128 * 16384 < 128 ^ 3 by omega)
            have h3 : n < 16384 := by omega
            clear h2
            have HD := Lib.hid ((Var.dec_more 2 16384 (by decide) hltL.out (by decide) hx.out (by omega)).symm.trans hd.out)
            go_wp2_with fail
            go_round
            case rel => exact ⟨3, _, by omega, rfl, rfl, by omega, hn2, HD⟩
            case measure => simp [intOf]
          · have h2 := hn1.out
            have hn2 : Hid (n + y % 128 * 2097152 < 128 ^ 4) := (show n + y % 128 * 2097152 < 128 ^ 4 by omega)
            have h3 : n < 2097152 := by omega
            clear h2
            have HD := Lib.hid ((Var.dec_more 3 2097152 (by decide) hltL.out (by decide) hx.out (by omega)).symm.trans hd.out)
            go_wp2_with fail
            go_round
            case rel => exact ⟨4, _, by omega, rfl, rfl, by omega, hn2, HD⟩
            case measure => simp [intOf]
          · have h2 := hn1.out
            have hn2 : Hid (n + y % 128 * 268435456 < 128 ^ 5) := (show n + y % 128 * 268435456 < 128 ^ 5 by omega)
            have h3 : n < 268435456 := by omega
            clear h2
            have HD := Lib.hid ((Var.dec_more 4 268435456 (by decide) hltL.out (by decide) hx.out (by omega)).symm.trans hd.out)
            go_wp2_with fail
            go_round
            case rel => exact ⟨5, _, by omega, rfl, rfl, by omega, hn2, HD⟩
            case measure => simp [intOf]
          · have h2 := hn1.out
            have hn2 : Hid (n + y % 128 * 34359738368 < 128 ^ 6) := (show n + y % 128 * 34359738368 < 128 ^ 6 by omega)
            have h3 : n < 34359738368 := by omega
            clear h2
            have HD := Lib.hid ((Var.dec_more 5 34359738368 (by decide) hltL.out (by decide) hx.out (by omega)).symm.trans hd.out)
            go_wp2_with fail
            go_round
            case rel => exact ⟨6, _, by omega, rfl, rfl, by omega, hn2, HD⟩
            case measure => simp [intOf]
    · obtain rfl : k = c := by omega
      have HR := Lib.hid (Var.readV_none (l := l) (i := (a : Int)) (fun _ _ => by
          rcases hc3 with h | rfl
          · have := Var.dec_end (l := l) (a := a) (k := k) (n := n) (by have := HM.out; omega)
            rw [hd.out] at this; simpa using this
          · have := Var.dec_full (l := l) (a := a) (n := n)
            rw [hd.out] at this; simpa using this))
      clear hk6
      go_wp2_with fail
      go_ret3
      exact ⟨ret_rdV HR.out, BB.out⟩

set_option maxHeartbeats 1000000 in
theorem implReadV_end (x : Option Addr) (cap m : Nat) (l : List Int) (w : World) (hm : m = l.length) (hcap : m ≤ cap) (hl : m ≤ 100000000) :
    Calls Tryd.prog 45 #[.slice x m cap, .int .i64 m] w fun e w' => e = .returned (rdV (Var.readV l m)) ∧ Below w.heap.size w w' := by
  have HR := Lib.hid (Var.readV_none (l := l) (i := (m : Int)) (fun _ _ => by rw [List.drop_eq_nil_of_le (by simp; omega)]; rfl))
  have hmin : Num.minI (m : Int) ((m : Int) + 6) = m := by rw [Num.minI]; split <;> omega
  have HMIN := Lib.hid hmin
  clear hm hmin
  go_enter Tryd.func45, Tryd.ntmps45
  go_wp2_with fail
  refine (Num.implIn_true (by omega) (by omega) _).mono ?_
  rintro e w' ⟨rfl, rfl⟩
  go_wp2_with fail
  refine (Num.implMin _ _ _).mono ?_
  rintro e w1 ⟨rfl, hb⟩
  have BB := Lib.hid hb; clear hb
  rw [HMIN.out]
  go_wp2_with fail
  all_goals
    refine wp_loop_rounds 1 ?_
    rw [rounds_succ]
    go_wp2_with fail
    go_ret3
    exact ⟨ret_rdV HR.out, BB.out⟩

set_option maxHeartbeats 1000000 in
theorem implReadV (v : Value) (l : List Int) (i : Int) (w : World) (h : Holds .u8 w v l) (hB : Byt l) (hl : l.length ≤ 100000000) :
    Calls Tryd.prog 45 #[v, .int .i64 i] w fun e w' => e = .returned (rdV (Var.readV l i)) ∧ Below w.heap.size w w' := by
  obtain ⟨x, cap, rfl, hcap, hh⟩ := h.shape
  by_cases h0 : 0 ≤ i ∧ i ≤ l.length
  · obtain ⟨h0, h1⟩ := h0
    obtain ⟨a, rfl⟩ := Int.eq_ofNat_of_zero_le h0
    by_cases h2 : a = l.length
    · subst h2
      exact implReadV_end x cap _ l w rfl hcap hl
    · obtain ⟨b, off, rfl, _⟩ := hh.at (j := a) (by omega)
      exact implReadV_in b off cap _ l a w rfl hcap hh hB hl (by omega)
  · have HR := Lib.hid (Var.readV_none (l := l) (i := i) (fun h1 h2 => absurd ⟨h1, h2⟩ h0))
    have hin := fun wx => Num.implIn_false h0 wx
    have HI := Lib.hid hin
    clear h hh hin h0
    go_enter Tryd.func45, Tryd.ntmps45
    go_wp2_with fail
    refine (HI.out _).mono ?_
    rintro e w' ⟨rfl, rfl⟩
    go_wp2_with fail
    go_ret3
    exact ⟨ret_rdV HR.out, Below.refl _ _⟩
theorem specReadVarint (v : Value) (l : List Int) (i : Int) (w : World) (h : Holds .u8 w v l) (hB : Byt l) (hl : l.length ≤ 100000000) :
    Calls Tryd.prog 48 #[v, .int .i64 i] w fun e w' => e = .returned (.tuple #[.int .i64 (Var.readV l i).1, .int .i64 (Var.readV l i).2.1, .bool (Var.readV l i).2.2]) ∧ w = w' := specReadV v l i w h hB hl
theorem implReadVarint (v : Value) (l : List Int) (i : Int) (w : World) (h : Holds .u8 w v l) (hB : Byt l) (hl : l.length ≤ 100000000) :
    Calls Tryd.prog 45 #[v, .int .i64 i] w fun e w' => e = .returned (.tuple #[.int .i64 (Var.readV l i).1, .int .i64 (Var.readV l i).2.1, .bool (Var.readV l i).2.2]) ∧ Below w.heap.size w w' := implReadV v l i w h hB hl
end Go.Proofs.YtnnhgcfelkcpfaaDoor.Sl
