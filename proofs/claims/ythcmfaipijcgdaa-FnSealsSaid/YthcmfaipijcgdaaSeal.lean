/- Contracts of chapter 3's digests and MACs, the reference model's and the program's: Digest, ComputeMAC, ValidSecret, BytesToInts, DeriveSecret, EqualInts. What was in memory stays as it was. No conditions but that lengths fit. -/
import Derived.Test.YthcmfaipijcgdaaSealMath
import Derived.Test.YthcmfaipijcgdaaLibI
import Derived.Test.YthcmfaipijcgdaaSame
import Derived.Test.YthcmfaipijcgdaaNum
namespace Go.Proofs.Ythcmfaipijcgdaa.Sl
open Go.ChangeShapes Go.WideShapes Go.ChangeAt Go.RowKit Go.Instr
open Seal (digest mac b2i derive dstep)
set_option linter.unusedVariables false

theorem implModP (n : Int) (w : World) : Calls Try.prog 38 #[.int .i64 n, .int .i64 2147483647] w fun e w' => (∃ r : Int, e = .returned (.int .i64 r) ∧ r = n % 2147483647 ∧ 0 ≤ r ∧ r < 2147483647) ∧ w = w' := by
  refine (Num.implMod n 2147483647 w).mono ?_
  rintro e w' ⟨rfl, rfl⟩
  exact ⟨⟨_, rfl, by simp [Num.modI], Num.modI_nonneg _ (by decide), Num.modI_lt _ (by decide)⟩, rfl⟩
theorem specModP (n : Int) (w : World) : Calls Try.prog 57 #[.int .i64 n, .int .i64 2147483647] w fun e w' => (∃ r : Int, e = .returned (.int .i64 r) ∧ r = n % 2147483647 ∧ 0 ≤ r ∧ r < 2147483647) ∧ w = w' := by
  refine (Num.specMod n 2147483647 w).mono ?_
  rintro e w' ⟨rfl, rfl⟩
  exact ⟨⟨_, rfl, by simp [Num.modI], Num.modI_nonneg _ (by decide), Num.modI_lt _ (by decide)⟩, rfl⟩

set_option maxHeartbeats 1000000 in
theorem implDigest (v : Value) (l : List Int) (w : World) (h : Holds .i64 w v l) (hl : l.length ≤ 100000000) :
    Calls Try.prog 22 #[v] w fun e w' => e = .returned (.int .i64 (digest l)) ∧ w = w' := by
  obtain ⟨x, cap, rfl, hcap, hh⟩ := h.shape
  obtain ⟨n, hn⟩ : ∃ n, n = l.length := ⟨_, rfl⟩
  rw [← hn] at hcap hh hl ⊢
  have HN := Lib.hid hn; have HH := Lib.hid hh
  clear hn h hh
  go_enter Try.func22, Try.ntmps22
  go_wp2_with fail
  go_loop [3, 8] (fun dv iv => ∃ (k : Nat) (d : Int), k ≤ n ∧ iv = .int .i64 k ∧ dv = .int .i64 d ∧ 0 ≤ d ∧ d < 2147483647 ∧ Hid (d = digest (l.take k))) (fun _ iv => n - (intOf iv).toNat)
  case atStart => exact ⟨0, 11, Nat.zero_le _, rfl, rfl, by decide, by decide, Lib.hid (Seal.digest_zero l).symm⟩
  case round =>
    obtain ⟨k, d, hk, rfl, rfl, d0, d1, hd⟩ := hrel
    by_cases hlt : k < n
    · have hlen := HN.out
      obtain ⟨b, off, rfl, hc⟩ := HH.out.at (j := k) (by omega)
      have HS := Lib.hid (Seal.digest_step (l := l) (k := k) (by omega))
      clear hlen
      go_wp2_with fail
      refine (implModP _ _).mono ?_
      rintro e w' ⟨⟨r, rfl, hr, r0, r1⟩, rfl⟩
      have HR := Lib.hid hr; clear hr
      go_wp2_with fail
      refine (implModP _ _).mono ?_
      rintro e w' ⟨⟨q, rfl, hq, q0, q1⟩, rfl⟩
      have HQ := Lib.hid hq; clear hq
      go_wp2_with fail
      go_round
      case rel => exact ⟨k + 1, q, by omega, by go_num, rfl, q0, q1, Lib.hid (by rw [HS.out, ← hd.out, HQ.out, HR.out]; rfl)⟩
      case measure => simp [intOf]; omega
    · obtain rfl : k = n := by omega
      have HD := Lib.hid (show d = digest l by rw [hd.out, HN.out, List.take_length])
      clear hlt
      go_wp2
      go_ret
      exact ⟨ret_int HD.out, rfl⟩

set_option maxHeartbeats 1000000 in
theorem specDigest (v : Value) (l : List Int) (w : World) (h : Holds .i64 w v l) (hl : l.length ≤ 100000000) :
    Calls Try.prog 23 #[v] w fun e w' => e = .returned (.int .i64 (digest l)) ∧ w = w' := by
  obtain ⟨x, cap, rfl, hcap, hh⟩ := h.shape
  obtain ⟨n, hn⟩ : ∃ n, n = l.length := ⟨_, rfl⟩
  rw [← hn] at hcap hh hl ⊢
  have HN := Lib.hid hn; have HH := Lib.hid hh
  clear hn h hh
  go_enter Try.func23, Try.ntmps23
  go_wp2_with fail
  go_loop [3, 4] (fun dv iv => ∃ (k : Nat) (d : Int), k ≤ n ∧ iv = .int .i64 k ∧ dv = .int .i64 d ∧ 0 ≤ d ∧ d < 2147483647 ∧ Hid (d = digest (l.take k))) (fun _ iv => n - (intOf iv).toNat)
  case atStart => exact ⟨0, 11, Nat.zero_le _, rfl, rfl, by decide, by decide, Lib.hid (Seal.digest_zero l).symm⟩
  case round =>
    obtain ⟨k, d, hk, rfl, rfl, d0, d1, hd⟩ := hrel
    by_cases hlt : k < n
    · have hlen := HN.out
      obtain ⟨b, off, rfl, hc⟩ := HH.out.at (j := k) (by omega)
      have HS := Lib.hid (Seal.digest_step (l := l) (k := k) (by omega))
      clear hlen
      go_wp2_with fail
      refine (specModP _ _).mono ?_
      rintro e w' ⟨⟨r, rfl, hr, r0, r1⟩, rfl⟩
      have HR := Lib.hid hr; clear hr
      obtain ⟨q, hq⟩ : ∃ q, q = (d * 1000003 + r + 13) % 2147483647 := ⟨_, rfl⟩
      have HQ := Lib.hid hq; clear hq
      go_wp2_with fail
      go_round
      case rel => exact ⟨k + 1, q, by omega, by go_num, by rw [HQ.out], by have := HQ.out; omega, by have := HQ.out; omega, Lib.hid (by rw [HS.out, ← hd.out, HQ.out, HR.out]; rfl)⟩
      case measure => simp [intOf]; omega
    · obtain rfl : k = n := by omega
      have HD := Lib.hid (show d = digest l by rw [hd.out, HN.out, List.take_length])
      clear hlt
      go_wp2
      go_ret
      exact ⟨ret_int HD.out, rfl⟩

def GivesN (w : World) (n : Int) (e : Ending) (w' : World) : Prop := e = .returned (.int .i64 n) ∧ Below w.heap.size w w'

set_option maxHeartbeats 1000000 in
theorem specComputeMAC (s : Int) (v : Value) (l : List Int) (w : World) (h : Holds .i64 w v l) (hl : l.length ≤ 10000000) :
    Calls Try.prog 21 #[.int .i64 s, v] w (GivesN w (mac s l)) := by
  obtain ⟨x, cap, rfl, hcap, hh⟩ := h.shape
  have HH := Lib.hid hh
  have O0 := Lib.hid (own_one .i64 3 w s)
  have HB0 := Lib.hid ((Below.refl w.heap.size w).alloc (Nat.le_refl _) (.cells #[.int .i64 s] 3))
  clear h hh
  go_enter Try.func21, Try.ntmps21
  go_wp2_with (at_builtin; refine wpList_app (k := .i64) (B := w.heap.size) (l := [s]) (m := l) rfl _ _ rfl Try.underlying24 elemINT rfl rfl rfl O0.out (HH.out.on HB0.out) ?_ (by decide) HB0.out.size ?_)
  · simp; omega
  intro v1 w1 ho hg
  have HO1 := Lib.hid ho; have HB1 := Lib.hid (HB0.out.grown hg HB0.out.size (fun g hh => (O0.out.lt g hh).1))
  clear ho hg
  have HO1' := Lib.hid (HO1.out.on ((Below.refl w1.heap.size w1).alloc (Nat.le_refl _) (.cells #[.int .i64 s] 3)))
  have HB1' := Lib.hid (HB1.out.alloc HB1.out.size (.cells #[.int .i64 s] 3))
  go_wp2_with (at_builtin; refine wpList_app (k := .i64) (B := w.heap.size) (l := [s] ++ l) (m := [s]) rfl _ _ rfl Try.underlying24 elemINT rfl rfl rfl HO1'.out (holds_one .i64 _ _ _) ?_ (by decide) HB1'.out.size ?_)
  · simp; omega
  intro v2 w2 ho hg
  have HO2 := Lib.hid ho; have HB2 := Lib.hid (HB1'.out.grown hg HB1'.out.size (fun g hh => (HO1'.out.lt g hh).1))
  clear ho hg
  go_wp2_with fail
  refine (specDigest _ ([s] ++ l ++ [s]) _ HO2.out.holds (by simp; omega)).mono ?_
  rintro e w3 ⟨rfl, rfl⟩
  go_wp2_with fail
  go_ret
  exact ⟨rfl, HB2.out⟩

set_option maxHeartbeats 1000000 in
theorem implComputeMAC (s : Int) (v : Value) (l : List Int) (w : World) (h : Holds .i64 w v l) (hl : l.length ≤ 9000000) :
    Calls Try.prog 20 #[.int .i64 s, v] w (GivesN w (mac s l)) := by
  obtain ⟨x, cap, rfl, hcap, hh⟩ := h.shape
  obtain ⟨n, hn⟩ : ∃ n, n = l.length := ⟨_, rfl⟩
  rw [← hn] at h hh hcap ⊢
  obtain ⟨wz, hwz⟩ : ∃ wz, wz = ((w.alloc (.cells #[.int .i64 s] 3)).alloc (.cells #[.int .i64 s] 3)).alloc (.cells #[.slice (some ⟨w.heap.size, 0, none⟩) 1 1, .slice x n cap, .slice (some ⟨w.heap.size + 1, 0, none⟩) 1 1] 24) := ⟨_, rfl⟩
  have hb0 := (Below.refl w.heap.size w).alloc (Nat.le_refl _) (.cells #[.int .i64 s] 3)
  have hb1 := hb0.alloc hb0.size (.cells #[.int .i64 s] 3)
  have hbz := hb1.alloc hb1.size (.cells #[.slice (some ⟨w.heap.size, 0, none⟩) 1 1, .slice x n cap, .slice (some ⟨w.heap.size + 1, 0, none⟩) 1 1] 24)
  rw [← hwz] at hbz
  have c0 : ∀ j, j < 3 → wz.cell? ⟨w.heap.size + 2, j, none⟩ = some (if j = 0 then .slice (some ⟨w.heap.size, 0, none⟩) 1 1 else if j = 1 then .slice x n cap else .slice (some ⟨w.heap.size + 1, 0, none⟩) 1 1) := by
    intro j hj
    obtain rfl | rfl | rfl : j = 0 ∨ j = 1 ∨ j = 2 := by omega
    all_goals (rw [hwz]; go_simp)
  have h0 : ∀ j, j < 3 → Holds .i64 wz (if j = 0 then .slice (some ⟨w.heap.size, 0, none⟩) 1 1 else if j = 1 then .slice x n cap else .slice (some ⟨w.heap.size + 1, 0, none⟩) 1 1) (if j = 0 then [s] else if j = 1 then l else [s]) := by
    intro j hj
    obtain rfl | rfl | rfl : j = 0 ∨ j = 1 ∨ j = 2 := by omega
    · refine ⟨_, 1, rfl, by simp, Or.inr ⟨_, _, rfl, fun i hi => ?_⟩⟩
      obtain rfl : i = 0 := by simpa using hi
      rw [hwz]; go_simp; rfl
    · exact h.on hbz
    · refine ⟨_, 1, rfl, by simp, Or.inr ⟨_, _, rfl, fun i hi => ?_⟩⟩
      obtain rfl : i = 0 := by simpa using hi
      rw [hwz]; go_simp; rfl
  have hcat : cat (fun j => if j = 0 then [s] else if j = 1 then l else [s]) 3 = [s] ++ l ++ [s] := by simp [cat]
  have HC := Lib.hid (concat (w.heap.size + 2) _ (fun j => if j = 0 then [s] else if j = 1 then l else [s]) 3 wz (by decide) c0 h0 (by rw [hcat]; simp; omega))
  rw [hcat] at HC
  have HBZ := Lib.hid hbz
  rw [hwz] at HC HBZ
  have HN := Lib.hid hn
  clear hn hwz hb0 hb1 hbz c0 h0 hcat h hh
  go_enter Try.func20, Try.ntmps20
  go_wp2_with fail
  refine HC.out.mono ?_
  rintro e w1 ⟨v1, rfl, ho, hb⟩
  have HO := Lib.hid ho; have HB := Lib.hid (HBZ.out.trans (hb.mono HBZ.out.size))
  clear ho hb
  go_wp2_with fail
  refine (implDigest _ ([s] ++ l ++ [s]) _ HO.out.holds (by simp; omega)).mono ?_
  rintro e w3 ⟨rfl, rfl⟩
  go_wp2_with fail
  go_ret
  exact ⟨rfl, HB.out⟩

theorem implValidSecret (s : Int) (w : World) :
    Calls Try.prog 24 #[.int .i64 s] w fun e w' => e = .returned (.bool (Num.inB s 1 2147483646)) ∧ w = w' := by
  go_enter Try.func24, Try.ntmps24
  go_wp2_with fail
  refine (Num.implInRange _ _ _ _).mono ?_
  rintro e w' ⟨rfl, rfl⟩
  go_wp2_with fail
  go_ret
  exact ⟨rfl, rfl⟩
theorem specValidSecret (s : Int) (w : World) :
    Calls Try.prog 25 #[.int .i64 s] w fun e w' => e = .returned (.bool (Num.inB s 1 2147483646)) ∧ w = w' := by
  go_enter Try.func25, Try.ntmps25
  go_wp2_with fail
  refine (Num.specIn _ _ _ _).mono ?_
  rintro e w' ⟨rfl, rfl⟩
  go_wp2_with fail
  go_ret
  exact ⟨rfl, rfl⟩

theorem implEqualInts (v u : Value) (l m : List Int) (w : World) (h : Holds .i64 w v l) (g : Holds .i64 w u m) (hl : l.length ≤ 100000000) (hm : m.length ≤ 100000000) :
    Calls Try.prog 31 #[v, u] w fun e w' => e = .returned (.bool (eqB l m)) ∧ Below w.heap.size w w' := by
  have HC := Lib.hid (libEqI v u l m w h g hl hm)
  clear h g hl hm
  go_enter Try.func31, Try.ntmps31
  go_wp2_with fail
  refine HC.out.mono ?_
  rintro e w' ⟨rfl, hb⟩
  go_wp2_with fail
  go_ret
  exact ⟨rfl, hb⟩

theorem specEqI_len (x y : Option Addr) (n m cx cy : Nat) (w : World) (h : (((n : Nat) : Int) != ((m : Nat) : Int)) = true) :
    Calls Try.prog 47 #[.slice x n cx, .slice y m cy] w fun e w' => e = .returned (.bool false) ∧ w = w' := by
  go_enter Try.func47, Try.ntmps47
  go_wp2
  go_ret
  exact ⟨rfl, rfl⟩

set_option maxHeartbeats 1000000 in
theorem specEqualInts (v u : Value) (l m : List Int) (w : World) (h : Holds .i64 w v l) (g : Holds .i64 w u m) (hl : l.length ≤ 100000000) (hm : m.length ≤ 100000000) :
    Calls Try.prog 47 #[v, u] w fun e w' => e = .returned (.bool (eqB l m)) ∧ Below w.heap.size w w' := by
  obtain ⟨x, cx, rfl, hcx, hh⟩ := h.shape
  obtain ⟨y, cy, rfl, hcy, hg⟩ := g.shape
  by_cases he : l.length = m.length
  · obtain ⟨n, hn⟩ : ∃ n, n = l.length := ⟨_, rfl⟩
    rw [← he] at hg hm hcy ⊢
    rw [← hn] at hcx hh hl hg hm hcy ⊢
    have HE := Lib.hid he
    have HN := Lib.hid hn
    have HH := Lib.hid hh
    have HG := Lib.hid hg
    have htest : (((n : Nat) : Int) != ((n : Nat) : Int)) = false := by simp
    clear hn h hh g hg he
    go_enter Try.func47, Try.ntmps47
    go_wp2
    go_loopw [5] (fun i wr => ∃ k nq : Nat, k ≤ n ∧ i = .int .i64 k ∧ Hid (agree l m k) ∧ wr = w.drewN nq) (fun i _ => n - (intOf i).toNat)
    case atStart => exact ⟨0, 0, Nat.zero_le _, rfl, Lib.hid (agree_zero _ _), rfl⟩
    case round =>
      obtain ⟨k, nq, hk, rfl, ha, rfl⟩ := hrel
      by_cases hlt : k < n
      · have hlen := HN.out
        have hlen2 := HE.out
        obtain ⟨b, off, rfl, hc⟩ := HH.out.at (j := k) (by omega)
        obtain ⟨b', off', rfl, hc'⟩ := HG.out.at (j := k) (by omega)
        clear hlen hlen2
        by_cases hd : nth l k = nth m k
        · have hd2 : (nth l k != nth m k) = false := by simpa using hd
          have HD := Lib.hid hd; clear hd
          go_wp2_with fail
          go_quiet (fail)
          go_wp2_with fail
          go_roundw
          case rel => exact ⟨k + 1, _, by omega, by go_num, Lib.hid (agree_succ ha.out HD.out), rfl⟩
          case measure => simp [intOf]; omega
        · have hd2 : (nth l k != nth m k) = true := by simpa using hd
          have HD := Lib.hid (eqB_false (differ_at hd)); clear hd
          go_wp2_with fail
          go_quiet (fail)
          go_wp2_with fail
          go_ret
          exact ⟨ret_bool HD.out.symm, below_drewN (below_drewN (Below.refl _ _) _) _⟩
      · obtain rfl : k = n := by omega
        have HD := Lib.hid (eqB_true (agree_all HE.out (HN.out ▸ ha.out)))
        clear hlt
        go_wp2
        go_ret
        exact ⟨ret_bool HD.out.symm, below_drewN (Below.refl _ _) _⟩
  · have htest : (((l.length : Nat) : Int) != ((m.length : Nat) : Int)) = true := by
      rw [bne_iff_ne]; omega
    rw [eqB_false (fun e => he (by rw [e]))]
    exact (specEqI_len x y _ _ cx cy w htest).mono fun e w' ⟨h1, h2⟩ => ⟨h1, by subst h2; exact Below.refl _ _⟩
end Go.Proofs.Ythcmfaipijcgdaa.Sl
