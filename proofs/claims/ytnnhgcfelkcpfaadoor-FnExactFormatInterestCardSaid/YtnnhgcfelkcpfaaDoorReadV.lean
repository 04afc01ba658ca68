/- Contracts of ReadVarint, the reference model's and the program's: what the groups at the offset make, the offset behind them, true; or 0, 0 and false. Nothing in memory turns. No conditions but that the elements are bytes and the length fits. -/
import Derived.Test.YtnnhgcfelkcpfaaDoorVar
import Derived.Laws.ShiftsVarLaws
namespace Go.Proofs.YtnnhgcfelkcpfaaDoor.Sl
open Go.ChangeShapes Go.WideShapes Go.ChangeAt Go.RowKit Go.Instr
set_option linter.unusedVariables false
set_option maxRecDepth 100000

/-- The three results of ReadVarint. -/
def rdV (r : Int × Int × Bool) : Value := .tuple #[.int .i64 r.1, .int .i64 r.2.1, .bool r.2.2]
theorem ret_rdV {r : Int × Int × Bool} {a b : Int} {c : Bool} (h : r = (a, b, c)) : Ending.returned (.tuple #[.int .i64 a, .int .i64 b, .bool c]) = .returned (rdV r) := by rw [h]; rfl

theorem orJoin (k : Nat) (C : Int) (hC : C = 128 ^ k) (hk : 7 * k ≤ 42) {n m : Int} (h0 : 0 ≤ n) (h1 : n < 128 ^ k) (m0 : 0 ≤ m) (m1 : m < 128) : bits .or .i64 n (m * C) = n + m * C := by
  subst hC
  have e : bits .or .i64 n (m * 128 ^ k) = bits .or .i64 (m * 128 ^ k) n := by
    have hx : ∀ a b : Int, bits .or .i64 a b = IntKind.i64.wrap ((BitVec.ofInt 64 a ||| BitVec.ofInt 64 b).toNat : Int) := fun _ _ => rfl
    rw [hx, hx, BitVec.or_comm]
  have e2 : (128 : Int) ^ k = 2 ^ (7 * k) := by rw [Int.pow_mul]; rfl
  have hb : (2 : Int) ^ (7 * k) ≤ 2 ^ 42 := by
    have := Nat.pow_le_pow_right (n := 2) (by decide) hk
    exact_mod_cast this
  have hp : (0 : Int) < 2 ^ (7 * k) := by
    have := Nat.two_pow_pos (7 * k)
    exact_mod_cast this
  have hm : m * 2 ^ (7 * k) ≤ 127 * 2 ^ 42 := Int.mul_le_mul (by omega) hb (by omega) (by omega)
  have hm0 : 0 ≤ m * 2 ^ (7 * k) := Int.mul_nonneg m0 (by omega)
  rw [e, e2, bits_join .i64 63 (by decide) (fun n a b => IntWalk.i64_in n (by omega)) (7 * k) (m * 2 ^ (7 * k)) n hm0 (Int.mul_emod_left _ _) (by omega) h0 (by rw [← e2]; exact h1) (by rw [e2] at h1; omega)]
  omega

set_option maxHeartbeats 1000000 in
theorem specReadV_in (x : Option Addr) (cap m : Nat) (l : List Int) (a : Nat) (w : World) (hm : m = l.length) (h : Holds .u8 w (.slice x m cap) l) (hB : Byt l) (hl : m ≤ 100000000) (ha : a ≤ m) :
    Calls Tryd.prog 48 #[.slice x m cap, .int .i64 a] w fun e w' => e = .returned (rdV (Var.readV l a)) ∧ w = w' := by
  have H := Lib.hid h; have HM := Lib.hid hm; have HB := Lib.hid hB
  clear h hm hB
  go_enter Tryd.func48, Tryd.ntmps48
  go_wp2_with fail
  go_loop [7, 8] (fun nv iv => ∃ (k : Nat) (n : Int), k ≤ 6 ∧ iv = .int .i64 k ∧ nv = .int .i64 n ∧ 0 ≤ n ∧ Hid (n < 128 ^ k) ∧ Hid (Var.dec (6 - k) (l.drop (a + k)) k n = Var.dec 6 (l.drop a) 0 0)) (fun _ iv => 6 - (intOf iv).toNat)
  case atStart => exact ⟨0, 0, by omega, rfl, rfl, by omega, Lib.hid (by decide), Lib.hid rfl⟩
  case round =>
    obtain ⟨k, n, hk, rfl, rfl, hn0, hn1, hd⟩ := hrel
    by_cases hk6 : k < 6
    · by_cases hlt : a + k < m
      · have hlen := HM.out
        obtain ⟨b, off, rfl, hc⟩ := H.out.at (j := a + k) (by omega)
        have hby := HB.out.at (j := a + k) (by omega)
        have hx : Hid (nth l (a + k) = l.getD (a + k) 0) := rfl
        obtain ⟨y, hy⟩ : ∃ y, y = nth l (a + k) := ⟨_, rfl⟩
        rw [← hy] at hc hby hx
        clear hy hlen
        have hltL : Hid (a + k < l.length) := by have := HM.out; exact (show a + k < l.length by omega)
        have hz : k = 0 ∨ k = 1 ∨ k = 2 ∨ k = 3 ∨ k = 4 ∨ k = 5 := by omega
        by_cases hy1 : y < 128
        · have o1 : bits .and .i64 y 127 = y := by rw [i64_and127]; omega
          rcases hz with rfl | rfl | rfl | rfl | rfl | rfl
          · rw [Nat.add_zero] at hc hlt
            have o2 : bits .or .i64 n y = n + y := by
              have := orJoin 0 1 (by decide) (by decide) hn0 hn1.out (m := y) (by omega) (by omega)
              rwa [Int.mul_one] at this
            by_cases hbad : (y = 0 ∧ 0 < 0) ∨ 1000000000000 < n + y * 1
            · have HD := Lib.hid (hd.out.symm.trans (Var.dec_bad 0 1 (by decide) hltL.out (by decide) hx.out hy1 hbad))
              have HR := Lib.hid (Var.readV_none (l := l) (i := (a : Int)) (fun _ _ => by simpa using HD.out))
              by_cases h0 : y = 0
              · subst h0
                have h3 : 1000000000000 < n := by omega
                clear hbad
                go_wp2_with fail
                go_ret3
                exact ⟨ret_rdV HR.out, rfl⟩
              · have h1 : (y == 0) = false := by simpa using h0
                have h3 : 1000000000000 < n + y := by omega
                clear hbad h0
                go_wp2_with fail
                go_ret3
                exact ⟨ret_rdV HR.out, rfl⟩
            · have HD := Lib.hid (hd.out.symm.trans (Var.dec_ok 0 1 (by decide) hltL.out (by decide) hx.out hy1 hbad))
              have HR := Lib.hid (Var.readV_some (l := l) (i := (a : Int)) (by omega) (by have := HM.out; omega) (by simpa using HD.out))
              have h3 : n + y ≤ 1000000000000 := by omega
              clear hbad
              by_cases h0 : y = 0
              · subst h0
                go_wp2_with fail
                go_ret3
                exact ⟨ret_rdV (HR.out.trans (by simp)), rfl⟩
              · have h1 : (y == 0) = false := by simpa using h0
                clear h0
                go_wp2_with fail
                go_ret3
                exact ⟨ret_rdV (HR.out.trans (by simp)), rfl⟩
          · have o2 : bits .or .i64 n (y * 128) = n + y * 128 := orJoin 1 128 (by decide) (by decide) hn0 hn1.out (by omega) (by omega)
            by_cases hbad : (y = 0 ∧ 0 < 1) ∨ 1000000000000 < n + y * 128
            · have HD := Lib.hid (hd.out.symm.trans (Var.dec_bad 1 128 (by decide) hltL.out (by decide) hx.out hy1 hbad))
              have HR := Lib.hid (Var.readV_none (l := l) (i := (a : Int)) (fun _ _ => by simpa using HD.out))
              by_cases h0 : y = 0
              · subst h0
                clear hbad
                go_wp2_with fail
                go_ret3
                exact ⟨ret_rdV HR.out, rfl⟩
              · have h1 : (y == 0) = false := by simpa using h0
                have h3 : 1000000000000 < n + y * 128 := by omega
                clear hbad h0
                go_wp2_with fail
                go_ret3
                exact ⟨ret_rdV HR.out, rfl⟩
            · have HD := Lib.hid (hd.out.symm.trans (Var.dec_ok 1 128 (by decide) hltL.out (by decide) hx.out hy1 hbad))
              have HR := Lib.hid (Var.readV_some (l := l) (i := (a : Int)) (by omega) (by have := HM.out; omega) (by simpa using HD.out))
              have h3 : n + y * 128 ≤ 1000000000000 := by omega
              have h0 : ¬ y = 0 := by omega
              have h1 : (y == 0) = false := by simpa using h0
              clear hbad h0
              go_wp2_with fail
              go_ret3
              exact ⟨ret_rdV (HR.out.trans (by simp; omega)), rfl⟩
          · have o2 : bits .or .i64 n (y * 16384) = n + y * 16384 := orJoin 2 16384 (by decide) (by decide) hn0 hn1.out (by omega) (by omega)
            by_cases hbad : (y = 0 ∧ 0 < 2) ∨ 1000000000000 < n + y * 16384
            · have HD := Lib.hid (hd.out.symm.trans (Var.dec_bad 2 16384 (by decide) hltL.out (by decide) hx.out hy1 hbad))
              have HR := Lib.hid (Var.readV_none (l := l) (i := (a : Int)) (fun _ _ => by simpa using HD.out))
              by_cases h0 : y = 0
              · subst h0
                clear hbad
                go_wp2_with fail
                go_ret3
                exact ⟨ret_rdV HR.out, rfl⟩
              · have h1 : (y == 0) = false := by simpa using h0
                have h3 : 1000000000000 < n + y * 16384 := by omega
                clear hbad h0
                go_wp2_with fail
                go_ret3
                exact ⟨ret_rdV HR.out, rfl⟩
            · have HD := Lib.hid (hd.out.symm.trans (Var.dec_ok 2 16384 (by decide) hltL.out (by decide) hx.out hy1 hbad))
              have HR := Lib.hid (Var.readV_some (l := l) (i := (a : Int)) (by omega) (by have := HM.out; omega) (by simpa using HD.out))
              have h3 : n + y * 16384 ≤ 1000000000000 := by omega
              have h0 : ¬ y = 0 := by omega
              have h1 : (y == 0) = false := by simpa using h0
              clear hbad h0
              go_wp2_with fail
              go_ret3
              exact ⟨ret_rdV (HR.out.trans (by simp; omega)), rfl⟩
          · have o2 : bits .or .i64 n (y * 2097152) = n + y * 2097152 := orJoin 3 2097152 (by decide) (by decide) hn0 hn1.out (by omega) (by omega)
            by_cases hbad : (y = 0 ∧ 0 < 3) ∨ 1000000000000 < n + y * 2097152
            · have HD := Lib.hid (hd.out.symm.trans (Var.dec_bad 3 2097152 (by decide) hltL.out (by decide) hx.out hy1 hbad))
              have HR := Lib.hid (Var.readV_none (l := l) (i := (a : Int)) (fun _ _ => by simpa using HD.out))
              by_cases h0 : y = 0
              · subst h0
                clear hbad
                go_wp2_with fail
                go_ret3
                exact ⟨ret_rdV HR.out, rfl⟩
              · have h1 : (y == 0) = false := by simpa using h0
                have h3 : 1000000000000 < n + y * 2097152 := by omega
                clear hbad h0
                go_wp2_with fail
                go_ret3
                exact ⟨ret_rdV HR.out, rfl⟩
            · have HD := Lib.hid (hd.out.symm.trans (Var.dec_ok 3 2097152 (by decide) hltL.out (by decide) hx.out hy1 hbad))
              have HR := Lib.hid (Var.readV_some (l := l) (i := (a : Int)) (by omega) (by have := HM.out; omega) (by simpa using HD.out))
              have h3 : n + y * 2097152 ≤ 1000000000000 := by omega
              have h0 : ¬ y = 0 := by omega
              have h1 : (y == 0) = false := by simpa using h0
              clear hbad h0
              go_wp2_with fail
              go_ret3
              exact ⟨ret_rdV (HR.out.trans (by simp; omega)), rfl⟩
          · have o2 : bits .or .i64 n (y * 268435456) = n + y * 268435456 := orJoin 4 268435456 (by decide) (by decide) hn0 hn1.out (by omega) (by omega)
            by_cases hbad : (y = 0 ∧ 0 < 4) ∨ 1000000000000 < n + y * 268435456
            · have HD := Lib.hid (hd.out.symm.trans (Var.dec_bad 4 268435456 (by decide) hltL.out (by decide) hx.out hy1 hbad))
              have HR := Lib.hid (Var.readV_none (l := l) (i := (a : Int)) (fun _ _ => by simpa using HD.out))
              by_cases h0 : y = 0
              · subst h0
                clear hbad
                go_wp2_with fail
                go_ret3
                exact ⟨ret_rdV HR.out, rfl⟩
              · have h1 : (y == 0) = false := by simpa using h0
                have h3 : 1000000000000 < n + y * 268435456 := by omega
                clear hbad h0
                go_wp2_with fail
                go_ret3
                exact ⟨ret_rdV HR.out, rfl⟩
            · have HD := Lib.hid (hd.out.symm.trans (Var.dec_ok 4 268435456 (by decide) hltL.out (by decide) hx.out hy1 hbad))
              have HR := Lib.hid (Var.readV_some (l := l) (i := (a : Int)) (by omega) (by have := HM.out; omega) (by simpa using HD.out))
              have h3 : n + y * 268435456 ≤ 1000000000000 := by omega
              have h0 : ¬ y = 0 := by omega
              have h1 : (y == 0) = false := by simpa using h0
              clear hbad h0
              go_wp2_with fail
              go_ret3
              exact ⟨ret_rdV (HR.out.trans (by simp; omega)), rfl⟩
          · have o2 : bits .or .i64 n (y * 34359738368) = n + y * 34359738368 := orJoin 5 34359738368 (by decide) (by decide) hn0 hn1.out (by omega) (by omega)
            by_cases hbad : (y = 0 ∧ 0 < 5) ∨ 1000000000000 < n + y * 34359738368
            · have HD := Lib.hid (hd.out.symm.trans (Var.dec_bad 5 34359738368 (by decide) hltL.out (by decide) hx.out hy1 hbad))
              have HR := Lib.hid (Var.readV_none (l := l) (i := (a : Int)) (fun _ _ => by simpa using HD.out))
              by_cases h0 : y = 0
              · subst h0
                clear hbad
                go_wp2_with fail
                go_ret3
                exact ⟨ret_rdV HR.out, rfl⟩
              · have h1 : (y == 0) = false := by simpa using h0
                have h3 : 1000000000000 < n + y * 34359738368 := by omega
                clear hbad h0
                go_wp2_with fail
                go_ret3
                exact ⟨ret_rdV HR.out, rfl⟩
            · have HD := Lib.hid (hd.out.symm.trans (Var.dec_ok 5 34359738368 (by decide) hltL.out (by decide) hx.out hy1 hbad))
              have HR := Lib.hid (Var.readV_some (l := l) (i := (a : Int)) (by omega) (by have := HM.out; omega) (by simpa using HD.out))
              have h3 : n + y * 34359738368 ≤ 1000000000000 := by omega
              have h0 : ¬ y = 0 := by omega
              have h1 : (y == 0) = false := by simpa using h0
              clear hbad h0
              go_wp2_with fail
              go_ret3
              exact ⟨ret_rdV (HR.out.trans (by simp; omega)), rfl⟩
        · have o1 := i64_and127 y
          rcases hz with rfl | rfl | rfl | rfl | rfl | rfl
          · rw [Nat.add_zero] at hc hlt
            have o2 : bits .or .i64 n (y % 128) = n + y % 128 := by
              have := orJoin 0 1 (by decide) (by decide) hn0 hn1.out (m := y % 128) (by omega) (by omega)
              rwa [Int.mul_one] at this
            have h2 := hn1.out
            have hn2 : Hid (n + y % 128 < 128 ^ 1) := (show n + y % 128 < 128 ^ 1 by omega)
            clear h2
            have HD := Lib.hid ((Var.dec_more 0 1 (by decide) hltL.out (by decide) hx.out (by omega)).symm.trans hd.out)
            rw [Int.mul_one] at HD
            go_wp2_with fail
            go_round
            case rel => exact ⟨1, _, by decide, rfl, rfl, by omega, hn2, HD⟩
            case measure => simp [intOf]
          · have o2 : bits .or .i64 n (y % 128 * 128) = n + y % 128 * 128 := orJoin 1 128 (by decide) (by decide) hn0 hn1.out (by omega) (by omega)
            have h2 := hn1.out
            have hn2 : Hid (n + y % 128 * 128 < 128 ^ 2) := (show n + y % 128 * 128 < 128 ^ 2 by omega)
            clear h2
            have HD := Lib.hid ((Var.dec_more 1 128 (by decide) hltL.out (by decide) hx.out (by omega)).symm.trans hd.out)
            go_wp2_with fail
            go_round
            case rel => exact ⟨2, _, by decide, rfl, rfl, by omega, hn2, HD⟩
            case measure => simp [intOf]
          · have o2 : bits .or .i64 n (y % 128 * 16384) = n + y % 128 * 16384 := orJoin 2 16384 (by decide) (by decide) hn0 hn1.out (by omega) (by omega)
            have h2 := hn1.out
            have hn2 : Hid (n + y % 128 * 16384 < 128 ^ 3) := (show n + y % 128 * 16384 < 128 ^ 3 by omega)
            clear h2
            have HD := Lib.hid ((Var.dec_more 2 16384 (by decide) hltL.out (by decide) hx.out (by omega)).symm.trans hd.out)
            go_wp2_with fail
            go_round
            case rel => exact ⟨3, _, by decide, rfl, rfl, by omega, hn2, HD⟩
            case measure => simp [intOf]
          · have o2 : bits .or .i64 n (y % 128 * 2097152) = n + y % 128 * 2097152 := orJoin 3 2097152 (by decide) (by decide) hn0 hn1.out (by omega) (by omega)
            have h2 := hn1.out
            have hn2 : Hid (n + y % 128 * 2097152 < 128 ^ 4) := (show n + y % 128 * 2097152 < 128 ^ 4 by omega)
            clear h2
            have HD := Lib.hid ((Var.dec_more 3 2097152 (by decide) hltL.out (by decide) hx.out (by omega)).symm.trans hd.out)
            go_wp2_with fail
            go_round
            case rel => exact ⟨4, _, by decide, rfl, rfl, by omega, hn2, HD⟩
            case measure => simp [intOf]
          · have o2 : bits .or .i64 n (y % 128 * 268435456) = n + y % 128 * 268435456 := orJoin 4 268435456 (by decide) (by decide) hn0 hn1.out (by omega) (by omega)
            have h2 := hn1.out
            have hn2 : Hid (n + y % 128 * 268435456 < 128 ^ 5) := (show n + y % 128 * 268435456 < 128 ^ 5 by omega)
            clear h2
            have HD := Lib.hid ((Var.dec_more 4 268435456 (by decide) hltL.out (by decide) hx.out (by omega)).symm.trans hd.out)
            go_wp2_with fail
            go_round
            case rel => exact ⟨5, _, by decide, rfl, rfl, by omega, hn2, HD⟩
            case measure => simp [intOf]
          · have o2 : bits .or .i64 n (y % 128 * 34359738368) = n + y % 128 * 34359738368 := orJoin 5 34359738368 (by decide) (by decide) hn0 hn1.out (by omega) (by omega)
            have h2 := hn1.out
            have hn2 : Hid (n + y % 128 * 34359738368 < 128 ^ 6) := (show n + y % 128 * 34359738368 < 128 ^ 6 by omega)
            clear h2
            have HD := Lib.hid ((Var.dec_more 5 34359738368 (by decide) hltL.out (by decide) hx.out (by omega)).symm.trans hd.out)
            go_wp2_with fail
            go_round
            case rel => exact ⟨6, _, by decide, rfl, rfl, by omega, hn2, HD⟩
            case measure => simp [intOf]
      · have HR := Lib.hid (Var.readV_none (l := l) (i := (a : Int)) (fun _ _ => by
          have := Var.dec_end (l := l) (a := a) (k := k) (n := n) (by have := HM.out; omega)
          rw [hd.out] at this; simpa using this))
        go_wp2_with fail
        go_ret3
        exact ⟨ret_rdV HR.out, rfl⟩
    · obtain rfl : k = 6 := by omega
      have HR := Lib.hid (Var.readV_none (l := l) (i := (a : Int)) (fun _ _ => by
          have := Var.dec_full (l := l) (a := a) (n := n)
          rw [hd.out] at this; simpa using this))
      go_wp2_with fail
      go_ret3
      exact ⟨ret_rdV HR.out, rfl⟩
set_option maxHeartbeats 1000000 in
theorem specReadV (v : Value) (l : List Int) (i : Int) (w : World) (h : Holds .u8 w v l) (hB : Byt l) (hl : l.length ≤ 100000000) :
    Calls Tryd.prog 48 #[v, .int .i64 i] w fun e w' => e = .returned (rdV (Var.readV l i)) ∧ w = w' := by
  obtain ⟨x, cap, rfl, hcap, hh⟩ := h.shape
  by_cases h0 : 0 ≤ i
  · by_cases h1 : i ≤ l.length
    · obtain ⟨a, rfl⟩ := Int.eq_ofNat_of_zero_le h0
      exact specReadV_in x cap _ l a w rfl hh hB hl (by omega)
    · have HR := Lib.hid (Var.readV_none (l := l) (i := i) (fun _ h2 => absurd h2 h1))
      have h1 : (l.length : Int) < i := by omega
      clear h hh
      go_enter Tryd.func48, Tryd.ntmps48
      go_wp2_with fail
      refine wp_loop_rounds 1 ?_
      rw [rounds_succ]
      go_wp2_with fail
      go_ret3
      exact ⟨ret_rdV HR.out, rfl⟩
  · have HR := Lib.hid (Var.readV_none (l := l) (i := i) (fun h2 _ => absurd h2 h0))
    have h1 : i < 0 := by omega
    clear h hh h0
    go_enter Tryd.func48, Tryd.ntmps48
    go_wp2_with fail
    refine wp_loop_rounds 1 ?_
    rw [rounds_succ]
    go_wp2_with fail
    go_ret3
    exact ⟨ret_rdV HR.out, rfl⟩
end Go.Proofs.YtnnhgcfelkcpfaaDoor.Sl
