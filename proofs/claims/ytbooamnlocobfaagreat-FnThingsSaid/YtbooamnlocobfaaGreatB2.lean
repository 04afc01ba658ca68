/- Contracts and mathematics, joined: Var, ReadV, ReadVI, Bytes, Part, Valid, Ints, LibS, Cmp, Trunc, Pref, AppP, WantS, Thing, KThing, WantV. No conditions but those that each states. -/
import Derived.Test.YtbooamnlocobfaaGreatRows
import Derived.Test.YtbooamnlocobfaaGreatB1
import Derived.LoopTactic
import Derived.Laws.ShiftsVarLaws
import Derived.Laws.BytesArg
import Derived.Laws.RangeAny
import Derived.Lib.AppendZerosOnto
import Derived.Lib.SliceRun
import Derived.Deep.RegionHeld3
import Derived.SizedLaws
import Derived.ChangeSlices
import Derived.ChangeSame
import Derived.ChangeArms
import Derived.Deep.Strs
import Derived.Lib.SmallJoins
import Derived.Deep.Cut
/- Contracts of AppendVarint, the reference model's and the program's: the slice and behind it the number's groups, in memory of the call's own. No conditions but that lengths fit. -/
namespace Go.Proofs.YtbooamnlocobfaaGreat.Sl
open Go.ChangeShapes Go.WideShapes Go.ChangeAt Go.RowKit Go.Instr
set_option linter.unusedVariables false
set_option maxRecDepth 100000

theorem or128 {n : Int} (h0 : 0 ≤ n) (h1 : n < 128) : bits .or .i64 n 128 = n + 128 := by
  have e : bits .or .i64 n 128 = bits .or .i64 128 n := by
    have hx : ∀ a b : Int, bits .or .i64 a b = IntKind.i64.wrap ((BitVec.ofInt 64 a ||| BitVec.ofInt 64 b).toNat : Int) := fun _ _ => rfl
    rw [hx, hx, BitVec.or_comm]
  rw [e, bits_join .i64 63 (by decide) (fun n a b => IntWalk.i64_in n (by omega)) 7 128 n (by decide) (by decide) (by decide) h0 (by omega) (by omega)]
  omega

set_option maxHeartbeats 1000000 in
theorem specAppendVarint (v : Value) (l : List Int) (n : Int) (w : World) (h : Holds .u8 w v l) (hl : l.length ≤ 100000000) :
    Calls Tryz.prog 80 #[v, .int .i64 n] w (GivesB w (l ++ Var.var n)) := by
  obtain ⟨x, cap, rfl, hcap, hh⟩ := h.shape
  obtain ⟨m, hm⟩ : ∃ m, m = l.length := ⟨_, rfl⟩
  rw [← hm] at hcap hh hl ⊢
  have HM := Lib.hid hm; clear hm h
  rename Holds .u8 w (.slice x m cap) l => h
  by_cases hn : 0 ≤ n ∧ n ≤ 1000000000000
  · have e1 := Var.var_in hn.1 hn.2
    have HE := Lib.hid e1
    have H := Lib.hid h
    have hin := fun wx => Num.specIn_true hn.1 hn.2 wx
    have HI := Lib.hid hin
    obtain ⟨hn1, hn2⟩ := hn
    clear e1 h hin
    go_enter Tryz.func80, Tryz.ntmps80
    go_wp2_with (at_builtin; refine wpList_app (k := .u8) (B := w.heap.size) (l := []) (m := l) rfl _ _ rfl Tryz.underlying22 elemBYTE rfl rfl rfl (own_empty .u8 _ w) (H.out.on ((Below.refl _ _).alloc (Nat.le_refl _) _)) ?_ (by decide) ?_ ?_)
    · have := HM.out; simp; omega
    · simp
    intro v1 w1 ho hg
    have hb : Below w.heap.size w w1 := ((Below.refl _ _).alloc (Nat.le_refl _) _).grown hg (by simp) (fun k hk => by cases hk; exact Nat.le_refl _)
    have HO := Lib.hid ho; have HB := Lib.hid hb
    clear ho hb hg
    go_wp2_with fail
    refine (HI.out _).mono ?_
    rintro e w' ⟨rfl, rfl⟩
    go_wp2_with fail
    go_loopw [1, 5] (fun nv bv wr => ∃ (y : Int) (p : List Int), nv = .int .i64 y ∧ 0 ≤ y ∧ y ≤ 1000000000000 ∧ Hid (p ++ Var.enc y.toNat = Var.enc n.toNat) ∧ Hid (Own 5 .u8 w.heap.size wr bv (l ++ p)) ∧ Hid (Below w.heap.size w wr)) (fun nv _ _ => (intOf nv).toNat)
    case atStart => exact ⟨n, [], rfl, hn1, hn2, Lib.hid rfl, by rw [List.append_nil]; exact HO, HB⟩
    case round =>
      obtain ⟨y, p, rfl, y0, y1, he, ho, hb⟩ := hrel
      have hpl : p.length ≤ 6 := by
        have e1 := congrArg List.length he.out
        have e2 := Var.enc_len6 (n := n.toNat) (by omega)
        have e3 := Var.enc_pos y.toNat
        simp at e1; omega
      by_cases hlt : 127 < y
      · have a1 := i64_and127 y
        have a2 := or128 (n := y % 128) (by omega) (by omega)
        have HS := Lib.hid (Var.enc_step (n := y) (by omega))
        go_wp2_with (at_builtin; refine wpList_app (k := .u8) (B := w.heap.size) (l := l ++ p) (m := [y % 128 + 128]) rfl _ _ rfl Tryz.underlying22 elemBYTE rfl rfl rfl (ho.out.on ((Below.refl _ _).alloc (Nat.le_refl _) _)) (holds_one .u8 _ _ _) ?_ (by decide) ?_ ?_)
        · have := HM.out; simp; omega
        · have := hb.out.size; simp; omega
        intro v2 w2 ho2 hg
        have hb2 : Below w.heap.size w w2 := ((hb.out).alloc hb.out.size _).grown hg (by have := hb.out.size; simp; omega) (fun g hk => (ho.out.lt g hk).1)
        have HO2 := Lib.hid ho2; have HB2 := Lib.hid hb2
        clear ho2 hb2 hg a1 a2
        go_wp2_with fail
        go_roundw
        case rel => exact ⟨y / 128, p ++ [y % 128 + 128], rfl, by omega, by omega, Lib.hid (by rw [List.append_assoc, ← he.out, HS.out]; rfl), HO2, HB2⟩
        case measure => simp [intOf]; omega
      · have HS := Lib.hid (Var.enc_last (n := y) (by omega) (by omega))
        go_wp2_with (at_builtin; refine wpList_app (k := .u8) (B := w.heap.size) (l := l ++ p) (m := [y]) rfl _ _ rfl Tryz.underlying22 elemBYTE rfl rfl rfl (ho.out.on ((Below.refl _ _).alloc (Nat.le_refl _) _)) (holds_one .u8 _ _ _) ?_ (by decide) ?_ ?_)
        · have := HM.out; simp; omega
        · have := hb.out.size; simp; omega
        intro v2 w2 ho2 hg
        have hb2 : Below w.heap.size w w2 := ((hb.out).alloc hb.out.size _).grown hg (by have := hb.out.size; simp; omega) (fun g hk => (ho.out.lt g hk).1)
        have HO2 := Lib.hid ho2; have HB2 := Lib.hid hb2
        clear ho2 hb2 hg
        go_wp2_with fail
        go_ret
        exact ⟨_, rfl, by rw [HE.out, ← he.out, HS.out]; exact HO2.out, HB2.out⟩
  · have e1 := Var.var_out hn
    have HE := Lib.hid e1
    have H := Lib.hid h
    have hin := fun wx => Num.specIn_false hn wx
    have HI := Lib.hid hin
    clear e1 h hin hn
    go_enter Tryz.func80, Tryz.ntmps80
    go_wp2_with (at_builtin; refine wpList_app (k := .u8) (B := w.heap.size) (l := []) (m := l) rfl _ _ rfl Tryz.underlying22 elemBYTE rfl rfl rfl (own_empty .u8 _ w) (H.out.on ((Below.refl _ _).alloc (Nat.le_refl _) _)) ?_ (by decide) ?_ ?_)
    · have := HM.out; simp; omega
    · simp
    intro v1 w1 ho hg
    have hb : Below w.heap.size w w1 := ((Below.refl _ _).alloc (Nat.le_refl _) _).grown hg (by simp) (fun k hk => by cases hk; exact Nat.le_refl _)
    have HO := Lib.hid ho; have HB := Lib.hid hb
    clear ho hb hg
    go_wp2_with fail
    refine (HI.out _).mono ?_
    rintro e w' ⟨rfl, rfl⟩
    go_wp2_with fail
    go_ret
    exact ⟨_, rfl, by rw [HE.out, List.append_nil]; exact HO.out, HB.out⟩

/-- What a call leaves that lengthens a slice: a slice of the call's own, from block B on. -/
def GrowsB (B : Nat) (w : World) (l : List Int) (e : Ending) (w' : World) : Prop := ∃ v, e = .returned v ∧ Own 5 .u8 B w' v l ∧ Below B w w'

set_option maxHeartbeats 1000000 in
theorem addVarint (B : Nat) (v : Value) (l : List Int) (n : Int) (w : World) (h : Fits 5 .u8 B w v l) (hB : B ≤ w.heap.size) (hl : l.length ≤ 100000000) (hn1 : 0 ≤ n) (hn2 : n ≤ 1000000000000) :
    Calls Tryz.prog 69 #[v, .int .i64 n] w (GrowsB B w (l ++ Var.var n)) := by
  have e1 := Var.var_in hn1 hn2
  have HE := Lib.hid e1
  have H := Lib.hid h
  have hin := fun wx => Num.implIn_true hn1 hn2 wx
  have HI := Lib.hid hin
  clear e1 h hin
  go_enter Tryz.func69, Tryz.ntmps69
  go_wp2_with fail
  refine (HI.out _).mono ?_
  rintro e w' ⟨rfl, rfl⟩
  go_wp2_with fail
  go_loopw [0, 1] (fun bv nv wr => ∃ (y : Int) (p : List Int), nv = .int .i64 y ∧ 0 ≤ y ∧ y ≤ 1000000000000 ∧ Hid (p ++ Var.enc y.toNat = Var.enc n.toNat) ∧ Hid (Fits 5 .u8 B wr bv (l ++ p)) ∧ Hid (Below B w wr)) (fun _ nv _ => (intOf nv).toNat)
  case atStart => exact ⟨n, [], rfl, hn1, hn2, Lib.hid rfl, by rw [List.append_nil]; exact H, Lib.hid (Below.refl _ _)⟩
  case round =>
    obtain ⟨y, p, rfl, y0, y1, he, ho, hb⟩ := hrel
    have hpl : p.length ≤ 6 := by
      have e1 := congrArg List.length he.out
      have e2 := Var.enc_len6 (n := n.toNat) (by omega)
      have e3 := Var.enc_pos y.toNat
      simp at e1; omega
    by_cases hlt : 128 ≤ y
    · have HS := Lib.hid (Var.enc_step (n := y) (by omega))
      go_wp2_with (at_builtin; refine wpList_app_fit (k := .u8) (B := B) (l := l ++ p) (m := [y % 128 + 128]) rfl _ _ rfl Tryz.underlying22 elemBYTE rfl rfl rfl (ho.out.on ((Below.refl _ _).alloc (Nat.le_refl _) _)) ?_ (by simp) ?_ (by decide) ?_ ?_)
      · rw [show y % 128 + 128 = 128 + y % 128 by omega]; exact holds_one .u8 _ _ _
      · first | omega | (simp; omega)
      · have := hb.out.size; first | omega | (simp; omega)
      intro v2 w2 ho2 hg
      have hb2 : Below B w w2 := ((hb.out).alloc (by have := hb.out.size; omega) _).trans hg
      have HO2 := Lib.hid (Or.inl ho2 : Fits 5 .u8 B w2 v2 _); have HB2 := Lib.hid hb2
      clear ho2 hb2 hg
      go_wp2_with fail
      go_roundw
      case rel => exact ⟨y / 128, p ++ [y % 128 + 128], rfl, by omega, by omega, Lib.hid (by rw [List.append_assoc, ← he.out, HS.out]; rfl), HO2, HB2⟩
      case measure => simp [intOf]; omega
    · have HS := Lib.hid (Var.enc_last (n := y) (by omega) (by omega))
      go_wp2_with (at_builtin; refine wpList_app_fit (k := .u8) (B := B) (l := l ++ p) (m := [y]) rfl _ _ rfl Tryz.underlying22 elemBYTE rfl rfl rfl (ho.out.on ((Below.refl _ _).alloc (Nat.le_refl _) _)) (holds_one .u8 _ _ _) (by simp) ?_ (by decide) ?_ ?_)
      · first | omega | (simp; omega)
      · have := hb.out.size; first | omega | (simp; omega)
      intro v2 w2 ho2 hg
      have hb2 : Below B w w2 := ((hb.out).alloc (by have := hb.out.size; omega) _).trans hg
      have HO2 := Lib.hid ho2; have HB2 := Lib.hid hb2
      clear ho2 hb2 hg
      go_wp2_with fail
      go_ret
      exact ⟨_, rfl, by rw [HE.out, ← he.out, HS.out]; exact HO2.out, HB2.out⟩

theorem addVarint_out (v : Value) (n : Int) (w : World) (hn : ¬ (0 ≤ n ∧ n ≤ 1000000000000)) :
    Calls Tryz.prog 69 #[v, .int .i64 n] w fun e w' => e = .returned v ∧ w = w' := by
  have hin := fun wx => Num.implIn_false hn wx
  have HI := Lib.hid hin
  clear hin hn
  go_enter Tryz.func69, Tryz.ntmps69
  go_wp2_with fail
  refine (HI.out _).mono ?_
  rintro e w' ⟨rfl, rfl⟩
  go_wp2_with fail
  go_ret
  exact ⟨rfl, rfl⟩

set_option maxHeartbeats 1000000 in
theorem implAppendVarint (v : Value) (l : List Int) (n : Int) (w : World) (h : Holds .u8 w v l) (hl : l.length ≤ 100000000) :
    Calls Tryz.prog 68 #[v, .int .i64 n] w (GivesB w (l ++ Var.var n)) := by
  obtain ⟨x, cap, rfl, hcap, hh⟩ := h.shape
  by_cases hn : 0 ≤ n ∧ n ≤ 1000000000000
  · have hin := fun wx => Num.implIn_true hn.1 hn.2 wx
    have HI := Lib.hid hin
    have ha := fun x' hx' => addVarint w.heap.size (.slice x' l.length l.length) l n w (Or.inr ⟨x', rfl, hx'⟩) (Nat.le_refl _) hl hn.1 hn.2
    have HA := Lib.hid ha
    have hf : Holds .u8 w (.slice x l.length l.length) l := by
      obtain ⟨x', cap', hv, hc, hh⟩ := hh
      cases hv
      exact ⟨x, l.length, rfl, Nat.le_refl _, hh⟩
    have HF := Lib.hid hf
    obtain ⟨hn1, hn2⟩ := hn
    clear hin ha hf hh h
    go_enter Tryz.func68, Tryz.ntmps68
    go_wp2_with fail
    refine (HI.out _).mono ?_
    rintro e w' ⟨rfl, rfl⟩
    go_wp2_with fail
    refine (HA.out _ HF.out).mono ?_
    rintro e w' ⟨v', rfl, ho, hb⟩
    have HO := Lib.hid ho; have HB := Lib.hid hb
    clear ho hb
    go_wp2_with fail
    go_ret
    exact ⟨_, rfl, HO.out, HB.out⟩
  · have e1 := Var.var_out hn
    have HE := Lib.hid e1
    have hin := fun wx => Num.implIn_false hn wx
    have HI := Lib.hid hin
    obtain ⟨m, hm⟩ : ∃ m, m = l.length := ⟨_, rfl⟩
    rw [← hm] at hcap hh hl ⊢
    have HM := Lib.hid hm
    have HF := Lib.hid hh
    clear e1 hin hn hh hm h
    go_enter Tryz.func68, Tryz.ntmps68
    go_wp2_with fail
    refine (HI.out _).mono ?_
    rintro e w' ⟨rfl, rfl⟩
    go_wp2_with (at_builtin; refine wpList_app (k := .u8) (B := w.heap.size) (l := []) (m := l) rfl _ _ rfl Tryz.underlying22 elemBYTE rfl rfl rfl (own_empty .u8 _ w) (HF.out.on ((Below.refl _ _).alloc (Nat.le_refl _) _)) ?_ (by decide) ?_ ?_)
    · have := HM.out; simp; omega
    · simp
    intro v1 w1 ho hg
    have hb : Below w.heap.size w w1 := ((Below.refl _ _).alloc (Nat.le_refl _) _).grown hg (by simp) (fun k hk => by cases hk; exact Nat.le_refl _)
    have HO := Lib.hid ho; have HB := Lib.hid hb
    clear ho hb hg
    go_wp2_with fail
    go_ret
    exact ⟨_, rfl, by rw [HE.out, List.append_nil]; exact HO.out, HB.out⟩
end Go.Proofs.YtbooamnlocobfaaGreat.Sl
/- Contracts of ReadVarint, the reference model's and the program's: what the groups at the offset make, the offset behind them, true; or 0, 0 and false. Nothing in memory turns. No conditions but that the elements are bytes and the length fits. -/
namespace Go.Proofs.YtbooamnlocobfaaGreat.Sl
open Go.ChangeShapes Go.WideShapes Go.ChangeAt Go.RowKit Go.Instr
set_option linter.unusedVariables false
set_option maxRecDepth 100000

/-- The three results of ReadVarint. -/
def rdV (r : Int × Int × Bool) : Value := .tuple #[.int .i64 r.1, .int .i64 r.2.1, .bool r.2.2]
theorem ret_rdV {r : Int × Int × Bool} {a b : Int} {c : Bool} (h : r = (a, b, c)) : Ending.returned (.tuple #[.int .i64 a, .int .i64 b, .bool c]) = .returned (rdV r) := by rw [h]; rfl

theorem orJoin (k : Nat) (C : Int) (hC : C = 128 ^ k) (hk : 7 * k ≤ 42) {n m : Int} (h0 : 0 ≤ n) (h1 : n < 128 ^ k) (m0 : 0 ≤ m) (m1 : m < 128) : bits .or .i64 n (m * C) = n + m * C := by
  subst hC
  have e : bits .or .i64 n (m * 128 ^ k) = bits .or .i64 (m * 128 ^ k) n := by
    have hx : ∀ a b : Int, bits .or .i64 a b = IntKind.i64.wrap ((BitVec.ofInt 64 a ||| BitVec.ofInt 64 b).toNat : Int) := fun _ _ => rfl
    rw [hx, hx, BitVec.or_comm]
  have e2 : (128 : Int) ^ k = 2 ^ (7 * k) := by rw [Int.pow_mul]; rfl
  have hb : (2 : Int) ^ (7 * k) ≤ 2 ^ 42 := by
    have := Nat.pow_le_pow_right (n := 2) (by decide) hk
    exact_mod_cast this
  have hp : (0 : Int) < 2 ^ (7 * k) := by
    have := Nat.two_pow_pos (7 * k)
    exact_mod_cast this
  have hm : m * 2 ^ (7 * k) ≤ 127 * 2 ^ 42 := Int.mul_le_mul (by omega) hb (by omega) (by omega)
  have hm0 : 0 ≤ m * 2 ^ (7 * k) := Int.mul_nonneg m0 (by omega)
  rw [e, e2, bits_join .i64 63 (by decide) (fun n a b => IntWalk.i64_in n (by omega)) (7 * k) (m * 2 ^ (7 * k)) n hm0 (Int.mul_emod_left _ _) (by omega) h0 (by rw [← e2]; exact h1) (by rw [e2] at h1; omega)]
  omega

set_option maxHeartbeats 1000000 in
theorem specReadV_in (x : Option Addr) (cap m : Nat) (l : List Int) (a : Nat) (w : World) (hm : m = l.length) (h : Holds .u8 w (.slice x m cap) l) (hB : Byt l) (hl : m ≤ 100000000) (ha : a ≤ m) :
    Calls Tryz.prog 77 #[.slice x m cap, .int .i64 a] w fun e w' => e = .returned (rdV (Var.readV l a)) ∧ w = w' := by
  have H := Lib.hid h; have HM := Lib.hid hm; have HB := Lib.hid hB
  clear h hm hB
  go_enter Tryz.func77, Tryz.ntmps77
  go_wp2_with fail
  go_loop [7, 8] (fun nv iv => ∃ (k : Nat) (n : Int), k ≤ 6 ∧ iv = .int .i64 k ∧ nv = .int .i64 n ∧ 0 ≤ n ∧ Hid (n < 128 ^ k) ∧ Hid (Var.dec (6 - k) (l.drop (a + k)) k n = Var.dec 6 (l.drop a) 0 0)) (fun _ iv => 6 - (intOf iv).toNat)
  case atStart => exact ⟨0, 0, by omega, rfl, rfl, by omega, Lib.hid (by decide), Lib.hid rfl⟩
  case round =>
    obtain ⟨k, n, hk, rfl, rfl, hn0, hn1, hd⟩ := hrel
    by_cases hk6 : k < 6
    · by_cases hlt : a + k < m
      · have hlen := HM.out
        obtain ⟨b, off, rfl, hc⟩ := H.out.at (j := a + k) (by omega)
        have hby := HB.out.at (j := a + k) (by omega)
        have hx : Hid (nth l (a + k) = l.getD (a + k) 0) := rfl
        obtain ⟨y, hy⟩ : ∃ y, y = nth l (a + k) := ⟨_, rfl⟩
        rw [← hy] at hc hby hx
        clear hy hlen
        have hltL : Hid (a + k < l.length) := by have := HM.out; exact (show a + k < l.length by omega)
        have hz : k = 0 ∨ k = 1 ∨ k = 2 ∨ k = 3 ∨ k = 4 ∨ k = 5 := by omega
        by_cases hy1 : y < 128
        · have o1 : bits .and .i64 y 127 = y := by rw [i64_and127]; omega
          rcases hz with rfl | rfl | rfl | rfl | rfl | rfl
          · rw [Nat.add_zero] at hc hlt
            have o2 : bits .or .i64 n y = n + y := by
              have := orJoin 0 1 (by decide) (by decide) hn0 hn1.out (m := y) (by omega) (by omega)
              rwa [Int.mul_one] at this
            by_cases hbad : (y = 0 ∧ 0 < 0) ∨ 1000000000000 < n + y * 1
            · have HD := Lib.hid (hd.out.symm.trans (Var.dec_bad 0 1 (by decide) hltL.out (by decide) hx.out hy1 hbad))
              have HR := Lib.hid (Var.readV_none (l := l) (i := (a : Int)) (fun _ _ => by simpa using HD.out))
              by_cases h0 : y = 0
              · subst h0
                have h3 : 1000000000000 < n := by omega
                clear hbad
                go_wp2_with fail
                go_ret3
                exact ⟨ret_rdV HR.out, rfl⟩
              · have h1 : (y == 0) = false := by simpa using h0
                have h3 : 1000000000000 < n + y := by omega
                clear hbad h0
                go_wp2_with fail
                go_ret3
                exact ⟨ret_rdV HR.out, rfl⟩
            · have HD := Lib.hid (hd.out.symm.trans (Var.dec_ok 0 1 (by decide) hltL.out (by decide) hx.out hy1 hbad))
              have HR := Lib.hid (Var.readV_some (l := l) (i := (a : Int)) (by omega) (by have := HM.out; omega) (by simpa using HD.out))
              have h3 : n + y ≤ 1000000000000 := by omega
              clear hbad
              by_cases h0 : y = 0
              · subst h0
                go_wp2_with fail
                go_ret3
                exact ⟨ret_rdV (HR.out.trans (by simp)), rfl⟩
              · have h1 : (y == 0) = false := by simpa using h0
                clear h0
                go_wp2_with fail
                go_ret3
                exact ⟨ret_rdV (HR.out.trans (by simp)), rfl⟩
          · have o2 : bits .or .i64 n (y * 128) = n + y * 128 := orJoin 1 128 (by decide) (by decide) hn0 hn1.out (by omega) (by omega)
            by_cases hbad : (y = 0 ∧ 0 < 1) ∨ 1000000000000 < n + y * 128
            · have HD := Lib.hid (hd.out.symm.trans (Var.dec_bad 1 128 (by decide) hltL.out (by decide) hx.out hy1 hbad))
              have HR := Lib.hid (Var.readV_none (l := l) (i := (a : Int)) (fun _ _ => by simpa using HD.out))
              by_cases h0 : y = 0
              · subst h0
                clear hbad
                go_wp2_with fail
                go_ret3
                exact ⟨ret_rdV HR.out, rfl⟩
              · have h1 : (y == 0) = false := by simpa using h0
                have h3 : 1000000000000 < n + y * 128 := by omega
                clear hbad h0
                go_wp2_with fail
                go_ret3
                exact ⟨ret_rdV HR.out, rfl⟩
            · have HD := Lib.hid (hd.out.symm.trans (Var.dec_ok 1 128 (by decide) hltL.out (by decide) hx.out hy1 hbad))
              have HR := Lib.hid (Var.readV_some (l := l) (i := (a : Int)) (by omega) (by have := HM.out; omega) (by simpa using HD.out))
              have h3 : n + y * 128 ≤ 1000000000000 := by omega
              have h0 : ¬ y = 0 := by omega
              have h1 : (y == 0) = false := by simpa using h0
              clear hbad h0
              go_wp2_with fail
              go_ret3
              exact ⟨ret_rdV (HR.out.trans (by simp; omega)), rfl⟩
          · have o2 : bits .or .i64 n (y * 16384) = n + y * 16384 := orJoin 2 16384 (by decide) (by decide) hn0 hn1.out (by omega) (by omega)
            by_cases hbad : (y = 0 ∧ 0 < 2) ∨ 1000000000000 < n + y * 16384
            · have HD := Lib.hid (hd.out.symm.trans (Var.dec_bad 2 16384 (by decide) hltL.out (by decide) hx.out hy1 hbad))
              have HR := Lib.hid (Var.readV_none (l := l) (i := (a : Int)) (fun _ _ => by simpa using HD.out))
              by_cases h0 : y = 0
              · subst h0
                clear hbad
                go_wp2_with fail
                go_ret3
                exact ⟨ret_rdV HR.out, rfl⟩
              · have h1 : (y == 0) = false := by simpa using h0
                have h3 : 1000000000000 < n + y * 16384 := by omega
                clear hbad h0
                go_wp2_with fail
                go_ret3
                exact ⟨ret_rdV HR.out, rfl⟩
            · have HD := Lib.hid (hd.out.symm.trans (Var.dec_ok 2 16384 (by decide) hltL.out (by decide) hx.out hy1 hbad))
              have HR := Lib.hid (Var.readV_some (l := l) (i := (a : Int)) (by omega) (by have := HM.out; omega) (by simpa using HD.out))
              have h3 : n + y * 16384 ≤ 1000000000000 := by omega
              have h0 : ¬ y = 0 := by omega
              have h1 : (y == 0) = false := by simpa using h0
              clear hbad h0
              go_wp2_with fail
              go_ret3
              exact ⟨ret_rdV (HR.out.trans (by simp; omega)), rfl⟩
          · have o2 : bits .or .i64 n (y * 2097152) = n + y * 2097152 := orJoin 3 2097152 (by decide) (by decide) hn0 hn1.out (by omega) (by omega)
            by_cases hbad : (y = 0 ∧ 0 < 3) ∨ 1000000000000 < n + y * 2097152
            · have HD := Lib.hid (hd.out.symm.trans (Var.dec_bad 3 2097152 (by decide) hltL.out (by decide) hx.out hy1 hbad))
              have HR := Lib.hid (Var.readV_none (l := l) (i := (a : Int)) (fun _ _ => by simpa using HD.out))
              by_cases h0 : y = 0
              · subst h0
                clear hbad
                go_wp2_with fail
                go_ret3
                exact ⟨ret_rdV HR.out, rfl⟩
              · have h1 : (y == 0) = false := by simpa using h0
                have h3 : 1000000000000 < n + y * 2097152 := by omega
                clear hbad h0
                go_wp2_with fail
                go_ret3
                exact ⟨ret_rdV HR.out, rfl⟩
            · have HD := Lib.hid (hd.out.symm.trans (Var.dec_ok 3 2097152 (by decide) hltL.out (by decide) hx.out hy1 hbad))
              have HR := Lib.hid (Var.readV_some (l := l) (i := (a : Int)) (by omega) (by have := HM.out; omega) (by simpa using HD.out))
              have h3 : n + y * 2097152 ≤ 1000000000000 := by omega
              have h0 : ¬ y = 0 := by omega
              have h1 : (y == 0) = false := by simpa using h0
              clear hbad h0
              go_wp2_with fail
              go_ret3
              exact ⟨ret_rdV (HR.out.trans (by simp; omega)), rfl⟩
          · have o2 : bits .or .i64 n (y * 268435456) = n + y * 268435456 := orJoin 4 268435456 (by decide) (by decide) hn0 hn1.out (by omega) (by omega)
            by_cases hbad : (y = 0 ∧ 0 < 4) ∨ 1000000000000 < n + y * 268435456
            · have HD := Lib.hid (hd.out.symm.trans (Var.dec_bad 4 268435456 (by decide) hltL.out (by decide) hx.out hy1 hbad))
              have HR := Lib.hid (Var.readV_none (l := l) (i := (a : Int)) (fun _ _ => by simpa using HD.out))
              by_cases h0 : y = 0
              · subst h0
                clear hbad
                go_wp2_with fail
                go_ret3
                exact ⟨ret_rdV HR.out, rfl⟩
              · have h1 : (y == 0) = false := by simpa using h0
                have h3 : 1000000000000 < n + y * 268435456 := by omega
                clear hbad h0
                go_wp2_with fail
                go_ret3
                exact ⟨ret_rdV HR.out, rfl⟩
            · have HD := Lib.hid (hd.out.symm.trans (Var.dec_ok 4 268435456 (by decide) hltL.out (by decide) hx.out hy1 hbad))
              have HR := Lib.hid (Var.readV_some (l := l) (i := (a : Int)) (by omega) (by have := HM.out; omega) (by simpa using HD.out))
              have h3 : n + y * 268435456 ≤ 1000000000000 := by omega
              have h0 : ¬ y = 0 := by omega
              have h1 : (y == 0) = false := by simpa using h0
              clear hbad h0
              go_wp2_with fail
              go_ret3
              exact ⟨ret_rdV (HR.out.trans (by simp; omega)), rfl⟩
          · have o2 : bits .or .i64 n (y * 34359738368) = n + y * 34359738368 := orJoin 5 34359738368 (by decide) (by decide) hn0 hn1.out (by omega) (by omega)
            by_cases hbad : (y = 0 ∧ 0 < 5) ∨ 1000000000000 < n + y * 34359738368
            · have HD := Lib.hid (hd.out.symm.trans (Var.dec_bad 5 34359738368 (by decide) hltL.out (by decide) hx.out hy1 hbad))
              have HR := Lib.hid (Var.readV_none (l := l) (i := (a : Int)) (fun _ _ => by simpa using HD.out))
              by_cases h0 : y = 0
              · subst h0
                clear hbad
                go_wp2_with fail
                go_ret3
                exact ⟨ret_rdV HR.out, rfl⟩
              · have h1 : (y == 0) = false := by simpa using h0
                have h3 : 1000000000000 < n + y * 34359738368 := by omega
                clear hbad h0
                go_wp2_with fail
                go_ret3
                exact ⟨ret_rdV HR.out, rfl⟩
            · have HD := Lib.hid (hd.out.symm.trans (Var.dec_ok 5 34359738368 (by decide) hltL.out (by decide) hx.out hy1 hbad))
              have HR := Lib.hid (Var.readV_some (l := l) (i := (a : Int)) (by omega) (by have := HM.out; omega) (by simpa using HD.out))
              have h3 : n + y * 34359738368 ≤ 1000000000000 := by omega
              have h0 : ¬ y = 0 := by omega
              have h1 : (y == 0) = false := by simpa using h0
              clear hbad h0
              go_wp2_with fail
              go_ret3
              exact ⟨ret_rdV (HR.out.trans (by simp; omega)), rfl⟩
        · have o1 := i64_and127 y
          rcases hz with rfl | rfl | rfl | rfl | rfl | rfl
          · rw [Nat.add_zero] at hc hlt
            have o2 : bits .or .i64 n (y % 128) = n + y % 128 := by
              have := orJoin 0 1 (by decide) (by decide) hn0 hn1.out (m := y % 128) (by omega) (by omega)
              rwa [Int.mul_one] at this
            have h2 := hn1.out
            have hn2 : Hid (n + y % 128 < 128 ^ 1) := (show n + y % 128 < 128 ^ 1 by omega)
            clear h2
            have HD := Lib.hid ((Var.dec_more 0 1 (by decide) hltL.out (by decide) hx.out (by omega)).symm.trans hd.out)
            rw [Int.mul_one] at HD
            go_wp2_with fail
            go_round
            case rel => exact ⟨1, _, by decide, rfl, rfl, by omega, hn2, HD⟩
            case measure => simp [intOf]
          · have o2 : bits .or .i64 n (y % 128 * 128) = n + y % 128 * 128 := orJoin 1 128 (by decide) (by decide) hn0 hn1.out (by omega) (by omega)
            have h2 := hn1.out
            have hn2 : Hid (n + y % 128 * 128 < 128 ^ 2) := (show n + y % 128 * 128 < 128 ^ 2 by omega)
            clear h2
            have HD := Lib.hid ((Var.dec_more 1 128 (by decide) hltL.out (by decide) hx.out (by omega)).symm.trans hd.out)
            go_wp2_with fail
            go_round
            case rel => exact ⟨2, _, by decide, rfl, rfl, by omega, hn2, HD⟩
            case measure => simp [intOf]
          · have o2 : bits .or .i64 n (y % 128 * 16384) = n + y % 128 * 16384 := orJoin 2 16384 (by decide) (by decide) hn0 hn1.out (by omega) (by omega)
            have h2 := hn1.out
            have hn2 : Hid (n + y % 128 * 16384 < 128 ^ 3) := (show n + y % 128 * 16384 < 128 ^ 3 by omega)
            clear h2
            have HD := Lib.hid ((Var.dec_more 2 16384 (by decide) hltL.out (by decide) hx.out (by omega)).symm.trans hd.out)
            go_wp2_with fail
            go_round
            case rel => exact ⟨3, _, by decide, rfl, rfl, by omega, hn2, HD⟩
            case measure => simp [intOf]
          · have o2 : bits .or .i64 n (y % 128 * 2097152) = n + y % 128 * 2097152 := orJoin 3 2097152 (by decide) (by decide) hn0 hn1.out (by omega) (by omega)
            have h2 := hn1.out
            have hn2 : Hid (n + y % 128 * 2097152 < 128 ^ 4) := (show n + y % 128 * 2097152 < 128 ^ 4 by omega)
            clear h2
            have HD := Lib.hid ((Var.dec_more 3 2097152 (by decide) hltL.out (by decide) hx.out (by omega)).symm.trans hd.out)
            go_wp2_with fail
            go_round
            case rel => exact ⟨4, _, by decide, rfl, rfl, by omega, hn2, HD⟩
            case measure => simp [intOf]
          · have o2 : bits .or .i64 n (y % 128 * 268435456) = n + y % 128 * 268435456 := orJoin 4 268435456 (by decide) (by decide) hn0 hn1.out (by omega) (by omega)
            have h2 := hn1.out
            have hn2 : Hid (n + y % 128 * 268435456 < 128 ^ 5) := (show n + y % 128 * 268435456 < 128 ^ 5 by omega)
            clear h2
            have HD := Lib.hid ((Var.dec_more 4 268435456 (by decide) hltL.out (by decide) hx.out (by omega)).symm.trans hd.out)
            go_wp2_with fail
            go_round
            case rel => exact ⟨5, _, by decide, rfl, rfl, by omega, hn2, HD⟩
            case measure => simp [intOf]
          · have o2 : bits .or .i64 n (y % 128 * 34359738368) = n + y % 128 * 34359738368 := orJoin 5 34359738368 (by decide) (by decide) hn0 hn1.out (by omega) (by omega)
            have h2 := hn1.out
            have hn2 : Hid (n + y % 128 * 34359738368 < 128 ^ 6) := (show n + y % 128 * 34359738368 < 128 ^ 6 by omega)
            clear h2
            have HD := Lib.hid ((Var.dec_more 5 34359738368 (by decide) hltL.out (by decide) hx.out (by omega)).symm.trans hd.out)
            go_wp2_with fail
            go_round
            case rel => exact ⟨6, _, by decide, rfl, rfl, by omega, hn2, HD⟩
            case measure => simp [intOf]
      · have HR := Lib.hid (Var.readV_none (l := l) (i := (a : Int)) (fun _ _ => by
          have := Var.dec_end (l := l) (a := a) (k := k) (n := n) (by have := HM.out; omega)
          rw [hd.out] at this; simpa using this))
        go_wp2_with fail
        go_ret3
        exact ⟨ret_rdV HR.out, rfl⟩
    · obtain rfl : k = 6 := by omega
      have HR := Lib.hid (Var.readV_none (l := l) (i := (a : Int)) (fun _ _ => by
          have := Var.dec_full (l := l) (a := a) (n := n)
          rw [hd.out] at this; simpa using this))
      go_wp2_with fail
      go_ret3
      exact ⟨ret_rdV HR.out, rfl⟩
set_option maxHeartbeats 1000000 in
theorem specReadV (v : Value) (l : List Int) (i : Int) (w : World) (h : Holds .u8 w v l) (hB : Byt l) (hl : l.length ≤ 100000000) :
    Calls Tryz.prog 77 #[v, .int .i64 i] w fun e w' => e = .returned (rdV (Var.readV l i)) ∧ w = w' := by
  obtain ⟨x, cap, rfl, hcap, hh⟩ := h.shape
  by_cases h0 : 0 ≤ i
  · by_cases h1 : i ≤ l.length
    · obtain ⟨a, rfl⟩ := Int.eq_ofNat_of_zero_le h0
      exact specReadV_in x cap _ l a w rfl hh hB hl (by omega)
    · have HR := Lib.hid (Var.readV_none (l := l) (i := i) (fun _ h2 => absurd h2 h1))
      have h1 : (l.length : Int) < i := by omega
      clear h hh
      go_enter Tryz.func77, Tryz.ntmps77
      go_wp2_with fail
      refine wp_loop_rounds 1 ?_
      rw [rounds_succ]
      go_wp2_with fail
      go_ret3
      exact ⟨ret_rdV HR.out, rfl⟩
  · have HR := Lib.hid (Var.readV_none (l := l) (i := i) (fun h2 _ => absurd h2 h0))
    have h1 : i < 0 := by omega
    clear h hh h0
    go_enter Tryz.func77, Tryz.ntmps77
    go_wp2_with fail
    refine wp_loop_rounds 1 ?_
    rw [rounds_succ]
    go_wp2_with fail
    go_ret3
    exact ⟨ret_rdV HR.out, rfl⟩
end Go.Proofs.YtbooamnlocobfaaGreat.Sl
/- Contracts of the program's ReadVarint: what the groups at the offset make, the offset behind them, true; or 0, 0 and false. What was in memory stays as it was. No conditions but that the elements are bytes and the length fits. -/
namespace Go.Proofs.YtbooamnlocobfaaGreat.Sl
open Go.ChangeShapes Go.WideShapes Go.ChangeAt Go.RowKit Go.Instr
set_option linter.unusedVariables false
set_option maxRecDepth 100000

set_option maxHeartbeats 1000000 in
theorem implReadV_in (b off : Nat) (cap m : Nat) (l : List Int) (a : Nat) (w : World) (hm : m = l.length) (hcap : m ≤ cap) (h : Holds .u8 w (.slice (some ⟨b, off, none⟩) m cap) l) (hB : Byt l) (hl : m ≤ 100000000) (ha : a < m) :
    Calls Tryz.prog 95 #[.slice (some ⟨b, off, none⟩) m cap, .int .i64 a] w fun e w' => e = .returned (rdV (Var.readV l a)) ∧ Below w.heap.size w w' := by
  have H := Lib.hid h; have HM := Lib.hid hm; have HB := Lib.hid hB
  clear h hm hB
  go_enter Tryz.func95, Tryz.ntmps95
  go_wp2_with fail
  refine (Num.implIn_true (by omega) (by omega) _).mono ?_
  rintro e w' ⟨rfl, rfl⟩
  go_wp2_with fail
  refine (Num.implMin _ _ _).mono ?_
  rintro e w1 ⟨rfl, hb⟩
  replace H := Lib.hid (H.out.on hb); have BB := Lib.hid hb; clear hb
  obtain ⟨c, hc0, hc1, hc2, hc3⟩ : ∃ c : Nat, Hid (Num.minI (m : Int) ((a : Int) + 6) = ((a + c : Nat) : Int)) ∧ a + c ≤ m ∧ c ≤ 6 ∧ (a + c = m ∨ c = 6) := by
    by_cases hx : a + 6 ≤ m
    · exact ⟨6, by show _ = _; rw [Num.minI]; split <;> omega, by omega, by omega, by omega⟩
    · exact ⟨m - a, by show _ = _; rw [Num.minI]; split <;> omega, by omega, by omega, by omega⟩
  rw [hc0.out]
  go_wp2_with fail
  go_loop [7, 24] (fun nv iv => ∃ (k : Nat) (n : Int), k ≤ c ∧ iv = .int .i64 k ∧ nv = .int .i64 n ∧ 0 ≤ n ∧ Hid (n < 128 ^ k) ∧ Hid (Var.dec (6 - k) (l.drop (a + k)) k n = Var.dec 6 (l.drop a) 0 0)) (fun _ iv => 6 - (intOf iv).toNat)
  case atStart => exact ⟨0, 0, by omega, rfl, rfl, by omega, Lib.hid (by decide), Lib.hid rfl⟩
  case round =>
    obtain ⟨k, n, hk, rfl, rfl, hn0, hn1, hd⟩ := hrel
    by_cases hk6 : k < c
    · have hlen := HM.out
      obtain ⟨b', off', hbo, hc⟩ := H.out.at (j := a + k) (by omega)
      cases hbo
      rw [← Nat.add_assoc] at hc
      have hby := HB.out.at (j := a + k) (by omega)
      have hx : Hid (nth l (a + k) = l.getD (a + k) 0) := rfl
      obtain ⟨y, hy⟩ : ∃ y, y = nth l (a + k) := ⟨_, rfl⟩
      rw [← hy] at hc hby hx
      clear hy hlen
      have hltL : Hid (a + k < l.length) := by have := HM.out; exact (show a + k < l.length by omega)
      have hz : k = 0 ∨ k = 1 ∨ k = 2 ∨ k = 3 ∨ k = 4 ∨ k = 5 := by omega
      · by_cases hy1 : y < 128
        · rcases hz with rfl | rfl | rfl | rfl | rfl | rfl
          · rw [Nat.add_zero] at hc
            have h2 := hn1.out
            have hm : y % 128 = y := by omega
            have HMY := Lib.hid hm; clear hm
            have h3 : n < 1 := by omega
            clear h2
            by_cases hbad : (y = 0 ∧ 0 < 0) ∨ 1000000000000 < n + y * 1
            · have HD := Lib.hid (hd.out.symm.trans (Var.dec_bad 0 1 (by decide) hltL.out (by decide) hx.out hy1 hbad))
              have HR := Lib.hid (Var.readV_none (l := l) (i := (a : Int)) (fun _ _ => by simpa using HD.out))
              by_cases h0 : y = 0
              · subst h0
                have h5 : 1000000000000 < n := by omega
                clear hbad
                go_wp2_with fail
                go_ret3
                exact ⟨ret_rdV HR.out, BB.out⟩
              · exact absurd (show 1000000000000 < n + y % 128 by omega) (by omega)
            · have HD := Lib.hid (hd.out.symm.trans (Var.dec_ok 0 1 (by decide) hltL.out (by decide) hx.out hy1 hbad))
              have HR := Lib.hid (Var.readV_some (l := l) (i := (a : Int)) (by omega) (by have := HM.out; omega) (by simpa using HD.out))
              have h5 : n + y % 128 ≤ 1000000000000 := by omega
              clear hbad
              by_cases h0 : y = 0
              · subst h0
                go_wp2_with fail
                go_ret3
                exact ⟨ret_rdV (HR.out.trans (by simp)), BB.out⟩
              · have h1 : (y == 0) = false := by simpa using h0
                clear h0
                go_wp2_with fail
                go_ret3
                exact ⟨ret_rdV (HR.out.trans (by have := HMY.out; simp; omega)), BB.out⟩
          · have h2 := hn1.out
            have hm : y % 128 = y := by omega
            have HMY := Lib.hid hm; clear hm
            have h3 : n < 128 := by omega
            clear h2
            by_cases hbad : (y = 0 ∧ 0 < 1) ∨ 1000000000000 < n + y * 128
            · have HD := Lib.hid (hd.out.symm.trans (Var.dec_bad 1 128 (by decide) hltL.out (by decide) hx.out hy1 hbad))
              have HR := Lib.hid (Var.readV_none (l := l) (i := (a : Int)) (fun _ _ => by simpa using HD.out))
              by_cases h0 : y = 0
              · subst h0
                clear hbad
                go_wp2_with fail
                go_ret3
                exact ⟨ret_rdV HR.out, BB.out⟩
              · exact absurd (show 1000000000000 < n + y % 128 * 128 by omega) (by omega)
            · have HD := Lib.hid (hd.out.symm.trans (Var.dec_ok 1 128 (by decide) hltL.out (by decide) hx.out hy1 hbad))
              have HR := Lib.hid (Var.readV_some (l := l) (i := (a : Int)) (by omega) (by have := HM.out; omega) (by simpa using HD.out))
              have h5 : n + y % 128 * 128 ≤ 1000000000000 := by omega
              have h0 : ¬ y = 0 := by omega
              have h1 : (y == 0) = false := by simpa using h0
              clear hbad h0
              go_wp2_with fail
              go_ret3
              exact ⟨ret_rdV (HR.out.trans (by have := HMY.out; simp; omega)), BB.out⟩
          · have h2 := hn1.out
            have hm : y % 128 = y := by omega
            have HMY := Lib.hid hm; clear hm
            have h3 : n < 16384 := by omega
            clear h2
            by_cases hbad : (y = 0 ∧ 0 < 2) ∨ 1000000000000 < n + y * 16384
            · have HD := Lib.hid (hd.out.symm.trans (Var.dec_bad 2 16384 (by decide) hltL.out (by decide) hx.out hy1 hbad))
              have HR := Lib.hid (Var.readV_none (l := l) (i := (a : Int)) (fun _ _ => by simpa using HD.out))
              by_cases h0 : y = 0
              · subst h0
                clear hbad
                go_wp2_with fail
                go_ret3
                exact ⟨ret_rdV HR.out, BB.out⟩
              · exact absurd (show 1000000000000 < n + y % 128 * 16384 by omega) (by omega)
            · have HD := Lib.hid (hd.out.symm.trans (Var.dec_ok 2 16384 (by decide) hltL.out (by decide) hx.out hy1 hbad))
              have HR := Lib.hid (Var.readV_some (l := l) (i := (a : Int)) (by omega) (by have := HM.out; omega) (by simpa using HD.out))
              have h5 : n + y % 128 * 16384 ≤ 1000000000000 := by omega
              have h0 : ¬ y = 0 := by omega
              have h1 : (y == 0) = false := by simpa using h0
              clear hbad h0
              go_wp2_with fail
              go_ret3
              exact ⟨ret_rdV (HR.out.trans (by have := HMY.out; simp; omega)), BB.out⟩
          · have h2 := hn1.out
            have hm : y % 128 = y := by omega
            have HMY := Lib.hid hm; clear hm
            have h3 : n < 2097152 := by omega
            clear h2
            by_cases hbad : (y = 0 ∧ 0 < 3) ∨ 1000000000000 < n + y * 2097152
            · have HD := Lib.hid (hd.out.symm.trans (Var.dec_bad 3 2097152 (by decide) hltL.out (by decide) hx.out hy1 hbad))
              have HR := Lib.hid (Var.readV_none (l := l) (i := (a : Int)) (fun _ _ => by simpa using HD.out))
              by_cases h0 : y = 0
              · subst h0
                clear hbad
                go_wp2_with fail
                go_ret3
                exact ⟨ret_rdV HR.out, BB.out⟩
              · exact absurd (show 1000000000000 < n + y % 128 * 2097152 by omega) (by omega)
            · have HD := Lib.hid (hd.out.symm.trans (Var.dec_ok 3 2097152 (by decide) hltL.out (by decide) hx.out hy1 hbad))
              have HR := Lib.hid (Var.readV_some (l := l) (i := (a : Int)) (by omega) (by have := HM.out; omega) (by simpa using HD.out))
              have h5 : n + y % 128 * 2097152 ≤ 1000000000000 := by omega
              have h0 : ¬ y = 0 := by omega
              have h1 : (y == 0) = false := by simpa using h0
              clear hbad h0
              go_wp2_with fail
              go_ret3
              exact ⟨ret_rdV (HR.out.trans (by have := HMY.out; simp; omega)), BB.out⟩
          · have h2 := hn1.out
            have hm : y % 128 = y := by omega
            have HMY := Lib.hid hm; clear hm
            have h3 : n < 268435456 := by omega
            clear h2
            by_cases hbad : (y = 0 ∧ 0 < 4) ∨ 1000000000000 < n + y * 268435456
            · have HD := Lib.hid (hd.out.symm.trans (Var.dec_bad 4 268435456 (by decide) hltL.out (by decide) hx.out hy1 hbad))
              have HR := Lib.hid (Var.readV_none (l := l) (i := (a : Int)) (fun _ _ => by simpa using HD.out))
              by_cases h0 : y = 0
              · subst h0
                clear hbad
                go_wp2_with fail
                go_ret3
                exact ⟨ret_rdV HR.out, BB.out⟩
              · exact absurd (show 1000000000000 < n + y % 128 * 268435456 by omega) (by omega)
            · have HD := Lib.hid (hd.out.symm.trans (Var.dec_ok 4 268435456 (by decide) hltL.out (by decide) hx.out hy1 hbad))
              have HR := Lib.hid (Var.readV_some (l := l) (i := (a : Int)) (by omega) (by have := HM.out; omega) (by simpa using HD.out))
              have h5 : n + y % 128 * 268435456 ≤ 1000000000000 := by omega
              have h0 : ¬ y = 0 := by omega
              have h1 : (y == 0) = false := by simpa using h0
              clear hbad h0
              go_wp2_with fail
              go_ret3
              exact ⟨ret_rdV (HR.out.trans (by have := HMY.out; simp; omega)), BB.out⟩
          · have h2 := hn1.out
            have hm : y % 128 = y := by omega
            have HMY := Lib.hid hm; clear hm
            have h3 : n < 34359738368 := by omega
            clear h2
            by_cases hbad : (y = 0 ∧ 0 < 5) ∨ 1000000000000 < n + y * 34359738368
            · have HD := Lib.hid (hd.out.symm.trans (Var.dec_bad 5 34359738368 (by decide) hltL.out (by decide) hx.out hy1 hbad))
              have HR := Lib.hid (Var.readV_none (l := l) (i := (a : Int)) (fun _ _ => by simpa using HD.out))
              by_cases h0 : y = 0
              · subst h0
                clear hbad
                go_wp2_with fail
                go_ret3
                exact ⟨ret_rdV HR.out, BB.out⟩
              · have h1 : (y == 0) = false := by simpa using h0
                have h5 : 1000000000000 < n + y % 128 * 34359738368 := by omega
                clear hbad h0
                go_wp2_with fail
                go_ret3
                exact ⟨ret_rdV HR.out, BB.out⟩
            · have HD := Lib.hid (hd.out.symm.trans (Var.dec_ok 5 34359738368 (by decide) hltL.out (by decide) hx.out hy1 hbad))
              have HR := Lib.hid (Var.readV_some (l := l) (i := (a : Int)) (by omega) (by have := HM.out; omega) (by simpa using HD.out))
              have h5 : n + y % 128 * 34359738368 ≤ 1000000000000 := by omega
              have h0 : ¬ y = 0 := by omega
              have h1 : (y == 0) = false := by simpa using h0
              clear hbad h0
              go_wp2_with fail
              go_ret3
              exact ⟨ret_rdV (HR.out.trans (by have := HMY.out; simp; omega)), BB.out⟩
        · rcases hz with rfl | rfl | rfl | rfl | rfl | rfl
          · rw [Nat.add_zero] at hc
            have h2 := hn1.out
            have hn2 : Hid (n + y % 128 < 128 ^ 1) := (show n + y % 128 < 128 ^ 1 by omega)
            have h3 : n < 1 := by omega
            clear h2
            have HD := Lib.hid ((Var.dec_more 0 1 (by decide) hltL.out (by decide) hx.out (by omega)).symm.trans hd.out)
            rw [Int.mul_one] at HD
            go_wp2_with fail
            go_round
            case rel => exact ⟨1, _, by omega, rfl, rfl, by omega, hn2, HD⟩
            case measure => simp [intOf]
          · have h2 := hn1.out
            have hn2 : Hid (n + y % 128 * 128 < 128 ^ 2) := (show n + y % 128 * 128 < 128 ^ 2 by omega)
            have h3 : n < 128 := by omega
            clear h2
            have HD := Lib.hid ((Var.dec_more 1 128 (by decide) hltL.out (by decide) hx.out (by omega)).symm.trans hd.out)
            go_wp2_with fail
            go_round
            case rel => exact ⟨2, _, by omega, rfl, rfl, by omega, hn2, HD⟩
            case measure => simp [intOf]
          · have h2 := hn1.out
            have hn2 : Hid (n + y % 128 * 16384 < 128 ^ 3) := (show n + y % 128 * 16384 < 128 ^ 3 by omega)
            have h3 : n < 16384 := by omega
            clear h2
            have HD := Lib.hid ((Var.dec_more 2 16384 (by decide) hltL.out (by decide) hx.out (by omega)).symm.trans hd.out)
            go_wp2_with fail
            go_round
            case rel => exact ⟨3, _, by omega, rfl, rfl, by omega, hn2, HD⟩
            case measure => simp [intOf]
          · have h2 := hn1.out
            have hn2 : Hid (n + y % 128 * 2097152 < 128 ^ 4) := (show n + y % 128 * 2097152 < 128 ^ 4 by omega)
            have h3 : n < 2097152 := by omega
            clear h2
            have HD := Lib.hid ((Var.dec_more 3 2097152 (by decide) hltL.out (by decide) hx.out (by omega)).symm.trans hd.out)
            go_wp2_with fail
            go_round
            case rel => exact ⟨4, _, by omega, rfl, rfl, by omega, hn2, HD⟩
            case measure => simp [intOf]
          · have h2 := hn1.out
            have hn2 : Hid (n + y % 128 * 268435456 < 128 ^ 5) := (show n + y % 128 * 268435456 < 128 ^ 5 by omega)
            have h3 : n < 268435456 := by omega
            clear h2
            have HD := Lib.hid ((Var.dec_more 4 268435456 (by decide) hltL.out (by decide) hx.out (by omega)).symm.trans hd.out)
            go_wp2_with fail
            go_round
            case rel => exact ⟨5, _, by omega, rfl, rfl, by omega, hn2, HD⟩
            case measure => simp [intOf]
          · have h2 := hn1.out
            have hn2 : Hid (n + y % 128 * 34359738368 < 128 ^ 6) := (show n + y % 128 * 34359738368 < 128 ^ 6 by omega)
            have h3 : n < 34359738368 := by omega
            clear h2
            have HD := Lib.hid ((Var.dec_more 5 34359738368 (by decide) hltL.out (by decide) hx.out (by omega)).symm.trans hd.out)
            go_wp2_with fail
            go_round
            case rel => exact ⟨6, _, by omega, rfl, rfl, by omega, hn2, HD⟩
            case measure => simp [intOf]
    · obtain rfl : k = c := by omega
      have HR := Lib.hid (Var.readV_none (l := l) (i := (a : Int)) (fun _ _ => by
          rcases hc3 with h | rfl
          · have := Var.dec_end (l := l) (a := a) (k := k) (n := n) (by have := HM.out; omega)
            rw [hd.out] at this; simpa using this
          · have := Var.dec_full (l := l) (a := a) (n := n)
            rw [hd.out] at this; simpa using this))
      clear hk6
      go_wp2_with fail
      go_ret3
      exact ⟨ret_rdV HR.out, BB.out⟩

set_option maxHeartbeats 1000000 in
theorem implReadV_end (x : Option Addr) (cap m : Nat) (l : List Int) (w : World) (hm : m = l.length) (hcap : m ≤ cap) (hl : m ≤ 100000000) :
    Calls Tryz.prog 95 #[.slice x m cap, .int .i64 m] w fun e w' => e = .returned (rdV (Var.readV l m)) ∧ Below w.heap.size w w' := by
  have HR := Lib.hid (Var.readV_none (l := l) (i := (m : Int)) (fun _ _ => by rw [List.drop_eq_nil_of_le (by simp; omega)]; rfl))
  have hmin : Num.minI (m : Int) ((m : Int) + 6) = m := by rw [Num.minI]; split <;> omega
  have HMIN := Lib.hid hmin
  clear hm hmin
  go_enter Tryz.func95, Tryz.ntmps95
  go_wp2_with fail
  refine (Num.implIn_true (by omega) (by omega) _).mono ?_
  rintro e w' ⟨rfl, rfl⟩
  go_wp2_with fail
  refine (Num.implMin _ _ _).mono ?_
  rintro e w1 ⟨rfl, hb⟩
  have BB := Lib.hid hb; clear hb
  rw [HMIN.out]
  go_wp2_with fail
  all_goals
    refine wp_loop_rounds 1 ?_
    rw [rounds_succ]
    go_wp2_with fail
    go_ret3
    exact ⟨ret_rdV HR.out, BB.out⟩

set_option maxHeartbeats 1000000 in
theorem implReadV (v : Value) (l : List Int) (i : Int) (w : World) (h : Holds .u8 w v l) (hB : Byt l) (hl : l.length ≤ 100000000) :
    Calls Tryz.prog 95 #[v, .int .i64 i] w fun e w' => e = .returned (rdV (Var.readV l i)) ∧ Below w.heap.size w w' := by
  obtain ⟨x, cap, rfl, hcap, hh⟩ := h.shape
  by_cases h0 : 0 ≤ i ∧ i ≤ l.length
  · obtain ⟨h0, h1⟩ := h0
    obtain ⟨a, rfl⟩ := Int.eq_ofNat_of_zero_le h0
    by_cases h2 : a = l.length
    · subst h2
      exact implReadV_end x cap _ l w rfl hcap hl
    · obtain ⟨b, off, rfl, _⟩ := hh.at (j := a) (by omega)
      exact implReadV_in b off cap _ l a w rfl hcap hh hB hl (by omega)
  · have HR := Lib.hid (Var.readV_none (l := l) (i := i) (fun h1 h2 => absurd ⟨h1, h2⟩ h0))
    have hin := fun wx => Num.implIn_false h0 wx
    have HI := Lib.hid hin
    clear h hh hin h0
    go_enter Tryz.func95, Tryz.ntmps95
    go_wp2_with fail
    refine (HI.out _).mono ?_
    rintro e w' ⟨rfl, rfl⟩
    go_wp2_with fail
    go_ret3
    exact ⟨ret_rdV HR.out, Below.refl _ _⟩
theorem specReadVarint (v : Value) (l : List Int) (i : Int) (w : World) (h : Holds .u8 w v l) (hB : Byt l) (hl : l.length ≤ 100000000) :
    Calls Tryz.prog 77 #[v, .int .i64 i] w fun e w' => e = .returned (.tuple #[.int .i64 (Var.readV l i).1, .int .i64 (Var.readV l i).2.1, .bool (Var.readV l i).2.2]) ∧ w = w' := specReadV v l i w h hB hl
theorem implReadVarint (v : Value) (l : List Int) (i : Int) (w : World) (h : Holds .u8 w v l) (hB : Byt l) (hl : l.length ≤ 100000000) :
    Calls Tryz.prog 95 #[v, .int .i64 i] w fun e w' => e = .returned (.tuple #[.int .i64 (Var.readV l i).1, .int .i64 (Var.readV l i).2.1, .bool (Var.readV l i).2.2]) ∧ Below w.heap.size w w' := implReadV v l i w h hB hl
end Go.Proofs.YtbooamnlocobfaaGreat.Sl
/- Contracts of AppendBytes, EqualBytes and EncodeInts, the reference model's and the program's. Slices that are returned lie in memory of the call's own. No conditions but that lengths fit and that the elements are bytes. -/
namespace Go.Proofs.YtbooamnlocobfaaGreat.Sl
open Go.ChangeShapes Go.WideShapes Go.ChangeAt Go.RowKit Go.Instr
set_option linter.unusedVariables false
set_option maxRecDepth 100000

set_option maxHeartbeats 1000000 in
theorem specAppendBytes (v u : Value) (l m : List Int) (w : World) (h : Holds .u8 w v l) (g : Holds .u8 w u m) (hl : l.length ≤ 10000000) (hm : m.length ≤ 10000000) :
    Calls Tryz.prog 49 #[v, u] w (GivesB w (l ++ Var.var m.length ++ m)) := by
  obtain ⟨x, cap, rfl, hcap, hg⟩ := g.shape
  have H := Lib.hid h; have G := Lib.hid hg
  clear h g hg
  go_enter Tryz.func49, Tryz.ntmps49
  go_wp2_with fail
  refine (specAppendVarint _ l m.length _ H.out (by omega)).mono ?_
  rintro e w1 ⟨v1, rfl, ho, hb⟩
  have HO := Lib.hid ho; have HB := Lib.hid hb
  have hv := Var.var_len m.length
  clear ho hb
  go_wp2_with (at_builtin; refine wpList_app (k := .u8) (B := w.heap.size) (l := l ++ Var.var m.length) (m := m) rfl _ _ rfl Tryz.underlying22 elemBYTE rfl rfl rfl HO.out (G.out.on HB.out) ?_ (by decide) ?_ ?_)
  · rw [List.length_append]; omega
  · exact HB.out.size
  intro v2 w2 ho hg
  have hb2 := HB.out.grown hg (by have := HB.out.size; omega) (fun k hk => (HO.out.lt k hk).1)
  have HO2 := Lib.hid ho; have HB2 := Lib.hid hb2
  clear ho hg hb2
  go_wp2_with fail
  go_ret
  exact ⟨_, rfl, by rw [List.append_assoc]; exact HO2.out, HB2.out⟩

set_option maxHeartbeats 1000000 in
theorem implAppendBytes (v u : Value) (l m : List Int) (w : World) (h : Holds .u8 w v l) (g : Holds .u8 w u m) (hl : l.length ≤ 10000000) (hm : m.length ≤ 10000000) :
    Calls Tryz.prog 33 #[v, u] w (GivesB w (l ++ Var.var m.length ++ m)) := by
  obtain ⟨x, cap, rfl, hcap, hg⟩ := g.shape
  have H := Lib.hid h; have G := Lib.hid hg
  clear h g hg
  go_enter Tryz.func33, Tryz.ntmps33
  go_wp2_with fail
  refine (implAppendVarint _ l m.length _ H.out (by omega)).mono ?_
  rintro e w1 ⟨v1, rfl, ho, hb⟩
  have HO := Lib.hid ho; have HB := Lib.hid hb
  have hv := Var.var_len m.length
  clear ho hb
  go_wp2_with (at_builtin; refine wpList_app (k := .u8) (B := w.heap.size) (l := l ++ Var.var m.length) (m := m) rfl _ _ rfl Tryz.underlying22 elemBYTE rfl rfl rfl HO.out (G.out.on HB.out) ?_ (by decide) ?_ ?_)
  · rw [List.length_append]; omega
  · exact HB.out.size
  intro v2 w2 ho hg
  have hb2 := HB.out.grown hg (by have := HB.out.size; omega) (fun k hk => (HO.out.lt k hk).1)
  have HO2 := Lib.hid ho; have HB2 := Lib.hid hb2
  clear ho hg hb2
  go_wp2_with fail
  go_ret
  exact ⟨_, rfl, by rw [List.append_assoc]; exact HO2.out, HB2.out⟩

/-! ### EqualBytes -/
theorem conv_holds {x : Option Addr} {cap : Nat} {l : List Int} {w : World} (h : Holds .u8 w (.slice x l.length cap) l) :
    (convert 22 9 (.slice x l.length cap)).run Tryz.prog w = .ok (.string (strOfNums l)) w := by
  obtain ⟨x', cap', hv, hc, hh⟩ := h
  cases hv
  rcases hh with rfl | ⟨b, off, rfl, hc⟩
  · cases x with
    | none => exact run_convert_bytes_nil w 22 5 Tryz.underlying22 Tryz.underlying5 _ _ 9 Tryz.underlying9
    | some a => exact run_convert_bytes_back w 22 9 5 a cap [] Tryz.underlying22 Tryz.underlying5 Tryz.underlying9 (fun j hj => absurd hj (by simp))
  · exact run_convert_bytes_arg w 22 5 Tryz.underlying22 Tryz.underlying5 b off l.length cap l rfl hc 9 Tryz.underlying9

theorem str_eqB {l m : List Int} (hl : Byt l) (hm : Byt m) : ((strOfNums l).toList == (strOfNums m).toList) = eqB l m := by
  have inj : ∀ (a b : List Int), Byt a → Byt b → (a.map fun n => UInt8.ofNat n.toNat) = (b.map fun n => UInt8.ofNat n.toNat) → a = b := by
    intro a
    induction a with
    | nil => intro b _ _ h; cases b with
      | nil => rfl
      | cons _ _ => simp at h
    | cons x r ih =>
      intro b ha hb h
      cases b with
      | nil => simp at h
      | cons y s =>
        simp only [List.map_cons, List.cons.injEq] at h
        have h1 := ha x (by simp)
        have h2 := hb y (by simp)
        have h3 := congrArg UInt8.toNat h.1
        simp at h3
        have h4 : x = y := by omega
        rw [h4, ih s (fun z hz => ha z (by simp [hz])) (fun z hz => hb z (by simp [hz])) h.2]
  rw [Bool.eq_iff_iff]
  unfold eqB
  rw [beq_iff_eq, decide_eq_true_iff, ByteArray.toList_eq, ByteArray.toList_eq, strOfNums_data, strOfNums_data]
  exact ⟨inj l m hl hm, fun h => by rw [h]⟩

set_option maxHeartbeats 1000000 in
theorem libEqual (v u : Value) (l m : List Int) (w : World) (h : Holds .u8 w v l) (g : Holds .u8 w u m) (hl : Byt l) (hm : Byt m) :
    Calls Tryz.prog 87 #[v, u] w fun e w' => e = .returned (.bool (eqB l m)) ∧ w = w' := by
  obtain ⟨x, cx, rfl, hcx, hh⟩ := h.shape
  obtain ⟨y, cy, rfl, hcy, hg⟩ := g.shape
  have e1 := conv_holds hh
  have e2 := conv_holds hg
  have HE := Lib.hid (str_eqB hl hm)
  clear h hh g hg hl hm
  go_enter Tryz.func87, Tryz.ntmps87
  go_wp2_with fail
  go_ret
  exact ⟨ret_bool HE.out, rfl⟩

theorem implEqualBytes (v u : Value) (l m : List Int) (w : World) (h : Holds .u8 w v l) (g : Holds .u8 w u m) (hl : Byt l) (hm : Byt m) :
    Calls Tryz.prog 59 #[v, u] w fun e w' => e = .returned (.bool (eqB l m)) ∧ w = w' := by
  have hc := libEqual v u l m w h g hl hm
  have HC := Lib.hid hc
  clear hc h g hl hm
  go_enter Tryz.func59, Tryz.ntmps59
  go_wp2_with fail
  refine HC.out.mono ?_
  rintro e w' ⟨rfl, rfl⟩
  go_wp2_with fail
  go_ret
  exact ⟨rfl, rfl⟩
end Go.Proofs.YtbooamnlocobfaaGreat.Sl
/- Contracts of ValidPart and ValidName, the program's and the reference model's: a part is right where its size is 1 to 8 and each byte is a small letter, a digit or a minus; a name where each part is and there are at most 6. No conditions but that lengths fit. -/
namespace Go.Proofs.YtbooamnlocobfaaGreat.Row
open Go.ChangeShapes Go.WideShapes Go.ChangeAt Go.RowKit Go.Instr
set_option linter.unusedVariables false
set_option maxRecDepth 100000

def okR (r : Int) : Prop := (97 ≤ r ∧ r ≤ 122) ∨ (48 ≤ r ∧ r ≤ 57) ∨ r = 45
instance (r : Int) : Decidable (okR r) := by unfold okR; infer_instance
def okTo (s : ByteArray) (k : Nat) : Prop := ∀ j (h : j < s.size), j < k → okR ((s[j]'h).toNat : Int)
instance (s : ByteArray) (k : Nat) : Decidable (okTo s k) := by unfold okTo; infer_instance
def validP (s : ByteArray) : Bool := decide (1 ≤ s.size ∧ s.size ≤ 8 ∧ okTo s s.size)
theorem okTo_zero (s : ByteArray) : okTo s 0 := fun j h h2 => absurd h2 (by omega)
theorem okTo_succ {s : ByteArray} {k : Nat} (h : okTo s k) (hk : k < s.size) (hc : okR ((s[k]'hk).toNat : Int)) : okTo s (k + 1) := fun j h1 h2 => by
  by_cases e : j = k
  · subst e; exact hc
  · exact h j h1 (by omega)
theorem validP_true {s : ByteArray} (h1 : 1 ≤ s.size) (h2 : s.size ≤ 8) (h : okTo s s.size) : validP s = true := by simp [validP, h1, h2, h]
theorem validP_size {s : ByteArray} (h : ¬ (1 ≤ s.size ∧ s.size ≤ 8)) : validP s = false := by
  unfold validP; exact decide_eq_false (fun e => h ⟨e.1, e.2.1⟩)
theorem validP_byte {s : ByteArray} {k : Nat} (hk : k < s.size) (hc : ¬ okR ((s[k]'hk).toNat : Int)) : validP s = false := by
  unfold validP; exact decide_eq_false (fun e => hc (e.2.2 k hk hk))
theorem validP_iff {s : ByteArray} : validP s = true ↔ 1 ≤ s.size ∧ s.size ≤ 8 ∧ okTo s s.size := by unfold validP; exact decide_eq_true_iff

theorem rune_ok {s : ByteArray} {pos : Nat} (h : pos < s.size) (hr : okR ((Utf8.decode s pos).1 : Int)) : okR ((s[pos]'h).toNat : Int) ∧ (Utf8.decode s pos).2 = 1 := by
  by_cases ha : (s[pos]'h).toNat < 128
  · rw [decode_ascii s pos h ha] at hr ⊢
    exact ⟨hr, rfl⟩
  · have := (decode_high s pos h (by omega)).1
    unfold okR at hr; omega
theorem rune_not {s : ByteArray} {pos : Nat} (h : pos < s.size) (hr : ¬ okR ((Utf8.decode s pos).1 : Int)) : ¬ okR ((s[pos]'h).toNat : Int) := by
  by_cases ha : (s[pos]'h).toNat < 128
  · rwa [decode_ascii s pos h ha] at hr
  · unfold okR; omega

set_option maxHeartbeats 1000000 in
theorem isPartRune (r : Int) (w : World) : Calls Tryz.prog 99 #[.int .i32 r] w fun e w' => e = .returned (.bool (decide (okR r))) ∧ w = w' := by
  have HT := fun (h : okR r) => (decide_eq_true h).symm
  have HF := fun (h : ¬ okR r) => (decide_eq_false h).symm
  have HT := Lib.hid HT; have HF := Lib.hid HF
  by_cases h1 : 97 ≤ r ∧ r ≤ 122
  · obtain ⟨h1a, h1b⟩ := h1
    go_enter Tryz.func99, Tryz.ntmps99
    go_wp2
    go_ret
    exact ⟨ret_bool (HT.out (by unfold okR; omega)), rfl⟩
  · by_cases h2 : 48 ≤ r ∧ r ≤ 57
    · obtain ⟨h2a, h2b⟩ := h2
      have h1a : ¬ 97 ≤ r := by omega
      go_enter Tryz.func99, Tryz.ntmps99
      go_wp2
      go_ret
      exact ⟨ret_bool (HT.out (by unfold okR; omega)), rfl⟩
    · by_cases h3 : r = 45
      · subst h3
        go_enter Tryz.func99, Tryz.ntmps99
        go_wp2
        go_ret
        exact ⟨ret_bool (HT.out (by unfold okR; omega)), rfl⟩
      · have HF2 := Lib.hid (HF.out (by unfold okR; omega))
        have h3b : (r == 45) = false := by simpa using h3
        clear h3 HF HT
        by_cases h1a : 97 ≤ r
        · have h1b : ¬ r ≤ 122 := by omega
          have h2b : ¬ r ≤ 57 := by omega
          clear h1 h2
          go_enter Tryz.func99, Tryz.ntmps99
          go_wp2
          go_ret
          exact ⟨ret_bool HF2.out, rfl⟩
        · clear h1
          by_cases h2a : 48 ≤ r
          · have h2b : ¬ r ≤ 57 := by omega
            clear h2
            go_enter Tryz.func99, Tryz.ntmps99
            go_wp2
            go_ret
            exact ⟨ret_bool HF2.out, rfl⟩
          · clear h2
            go_enter Tryz.func99, Tryz.ntmps99
            go_wp2
            go_ret
            exact ⟨ret_bool HF2.out, rfl⟩

set_option maxHeartbeats 1000000 in
theorem implValidPart (s : ByteArray) (w : World) (hl : s.size ≤ 140737488351232) :
    Calls Tryz.prog 89 #[.string s] w fun e w' => e = .returned (.bool (validP s)) ∧ Below w.heap.size w w' := by
  go_enter Tryz.func89, Tryz.ntmps89
  go_wp2
  go_loopw [] (fun w' => ∃ pos : Nat, pos ≤ s.size ∧ w' = w.iter s pos ∧ Hid (okTo s pos)) (fun w' => s.size - w'.iterPos w.heap.size)
  case atStart => exact ⟨0, by omega, rfl, Lib.hid (okTo_zero s)⟩
  case round =>
    obtain ⟨pos, hpl, rfl, ho⟩ := hrel
    by_cases hp : pos < s.size
    · have hnx : ∀ ty, (Instr.next (.pointer (some ⟨w.heap.size, 0, none⟩)) true ty).run Tryz.prog (w.iter s pos) = _ := fun ty => run_next_any w s pos ty hp
      by_cases hr : okR ((Utf8.decode s pos).1 : Int)
      · obtain ⟨h1, h2⟩ := rune_ok hp hr
        have HO := Lib.hid (okTo_succ ho.out hp h1)
        have HR := Lib.hid (decide_eq_true hr)
        rw [h2] at hnx
        clear hr h1 h2
        go_wp2_with fail
        refine (isPartRune _ _).mono ?_
        rintro e w2 ⟨rfl, rfl⟩
        rw [HR.out]
        go_wp2
        go_roundw
        case rel => exact ⟨pos + 1, by omega, rfl, HO⟩
        case measure => simp; omega
      · have HV := Lib.hid (validP_byte hp (rune_not hp hr))
        have HR := Lib.hid (decide_eq_false hr)
        clear hr
        go_wp2_with fail
        refine (isPartRune _ _).mono ?_
        rintro e w2 ⟨rfl, rfl⟩
        rw [HR.out]
        go_wp2
        go_ret
        exact ⟨ret_bool HV.out.symm, (Below.refl _ _).alloc (Nat.le_refl _) _⟩
    · obtain rfl : pos = s.size := by omega
      have hnx : ∀ ty, (Instr.next (.pointer (some ⟨w.heap.size, 0, none⟩)) true ty).run Tryz.prog (w.iter s s.size) = _ := fun ty => run_next_end w s s.size ty hp
      go_wp2_with fail
      refine (Num.implInRange _ _ _ _).mono ?_
      rintro e w2 ⟨rfl, rfl⟩
      go_wp2
      go_ret
      refine ⟨ret_bool ?_, (Below.refl _ _).alloc (Nat.le_refl _) _⟩
      have := ho.out
      simp only [Num.inB, validP, this, and_true]
      congr 1
      apply propext
      omega

set_option maxHeartbeats 1000000 in
theorem specValidPart (s : ByteArray) (w : World) (hl : s.size ≤ 140737488351232) :
    Calls Tryz.prog 90 #[.string s] w fun e w' => e = .returned (.bool (validP s)) ∧ w = w' := by
  by_cases hsz : 1 ≤ s.size ∧ s.size ≤ 8
  · obtain ⟨hs1, hs8⟩ := hsz
    go_enter Tryz.func90, Tryz.ntmps90
    go_wp2_with fail
    refine (Num.specIn_true (by omega) (by omega) _).mono ?_
    rintro e w2 ⟨rfl, rfl⟩
    go_wp2
    go_loop [3] (fun iv => ∃ k : Nat, k ≤ s.size ∧ iv = .int .i64 k ∧ Hid (okTo s k)) (fun iv => s.size - (intOf iv).toNat)
    case atStart => exact ⟨0, by omega, rfl, Lib.hid (okTo_zero s)⟩
    case round =>
      obtain ⟨k, hk, rfl, ho⟩ := hrel
      by_cases hlt : k < s.size
      · have hb := (s[k]'hlt).toNat_lt
        have hb0 : (0 : Int) ≤ ((s[k]'hlt).toNat : Int) := by omega
        have hb1 : ((s[k]'hlt).toNat : Int) ≤ 255 := by omega
        have HOK := Lib.hid (fun hc => okTo_succ ho.out hlt hc)
        have HNO := Lib.hid (fun hc => validP_byte hlt hc)
        clear hb
        go_wp2_with fail
        by_cases h1 : 97 ≤ ((s[k]'hlt).toNat : Int) ∧ ((s[k]'hlt).toNat : Int) ≤ 122
        · refine (Num.specIn_true h1.1 h1.2 _).mono ?_
          rintro e w2 ⟨rfl, rfl⟩
          have HO2 := Lib.hid (HOK.out (by unfold okR; omega))
          clear HOK HNO h1
          go_wp2
          go_round
          case rel => exact ⟨k + 1, by omega, by go_num, HO2⟩
          case measure => simp [intOf]; omega
        · refine (Num.specIn_false h1 _).mono ?_
          rintro e w2 ⟨rfl, rfl⟩
          go_wp2_with fail
          by_cases h2 : 48 ≤ ((s[k]'hlt).toNat : Int) ∧ ((s[k]'hlt).toNat : Int) ≤ 57
          · refine (Num.specIn_true h2.1 h2.2 _).mono ?_
            rintro e w2 ⟨rfl, rfl⟩
            have HO2 := Lib.hid (HOK.out (by unfold okR; omega))
            clear HOK HNO h1 h2
            go_wp2
            go_round
            case rel => exact ⟨k + 1, by omega, by go_num, HO2⟩
            case measure => simp [intOf]; omega
          · refine (Num.specIn_false h2 _).mono ?_
            rintro e w2 ⟨rfl, rfl⟩
            by_cases h3 : (s[k]'hlt).toNat = 45
            · have h3b : (((s[k]'hlt).toNat : Int) != 45) = false := by simp [h3]
              have HO2 := Lib.hid (HOK.out (by unfold okR; omega))
              clear HOK HNO h1 h2
              go_wp2
              go_round
              case rel => exact ⟨k + 1, by omega, by go_num, HO2⟩
              case measure => simp [intOf]; omega
            · have h3b : (((s[k]'hlt).toNat : Int) != 45) = true := by simp; omega
              have HV := Lib.hid (HNO.out (by unfold okR; omega))
              clear HOK HNO h1 h2 h3
              go_wp2
              go_ret
              exact ⟨ret_bool HV.out.symm, rfl⟩
      · obtain rfl : k = s.size := by omega
        have HV := Lib.hid (validP_true hs1 hs8 ho.out)
        go_wp2
        go_ret
        exact ⟨ret_bool HV.out.symm, rfl⟩
  · have HV := Lib.hid (validP_size hsz)
    go_enter Tryz.func90, Tryz.ntmps90
    go_wp2_with fail
    refine (Num.specIn_false (by omega) _).mono ?_
    rintro e w2 ⟨rfl, rfl⟩
    go_wp2
    go_ret
    exact ⟨ret_bool HV.out.symm, rfl⟩

end Go.Proofs.YtbooamnlocobfaaGreat.Row
/- Contracts of ValidName, the program's and the reference model's: a name is right where each part is and there are at most 6. No conditions but that lengths fit. -/
namespace Go.Proofs.YtbooamnlocobfaaGreat.Row
open Go.ChangeShapes Go.WideShapes Go.ChangeAt Go.RowKit Go.Instr
set_option linter.unusedVariables false
set_option maxRecDepth 100000

def validN (l : List ByteArray) : Bool := decide (l.length ≤ 6 ∧ ∀ x ∈ l, validP x = true)
def allV (l : List ByteArray) (k : Nat) : Prop := ∀ j, j < k → validP (nth l j) = true
theorem allV_zero (l : List ByteArray) : allV l 0 := fun j h => absurd h (by omega)
theorem allV_succ {l : List ByteArray} {k : Nat} (h : allV l k) (hc : validP (nth l k) = true) : allV l (k + 1) := fun j h1 => by
  by_cases e : j = k
  · subst e; exact hc
  · exact h j (by omega)
theorem validN_not {l : List ByteArray} {k : Nat} (hk : k < l.length) (hc : validP (nth l k) = false) : validN l = false := by
  unfold validN
  refine decide_eq_false (fun e => ?_)
  have := e.2 (nth l k) (by rw [nth_eq hk]; exact List.getElem_mem _)
  rw [hc] at this; cases this
theorem validN_all {l : List ByteArray} (h : allV l l.length) : validN l = decide (l.length ≤ 6) := by
  have : ∀ x ∈ l, validP x = true := by
    intro x hx
    obtain ⟨j, hj, rfl⟩ := List.getElem_of_mem hx
    have := h j hj
    rwa [nth_eq hj] at this
  unfold validN
  congr 1
  exact propext ⟨fun e => e.1, fun e => ⟨e, this⟩⟩
theorem validN_iff {l : List ByteArray} : validN l = true ↔ l.length ≤ 6 ∧ ∀ x ∈ l, validP x = true := by unfold validN; exact decide_eq_true_iff
theorem size_nth {l : List ByteArray} {m : Nat} (h : bulk l ≤ m) {k : Nat} (hk : k < l.length) : (nth l k).size ≤ m := by
  have h1 := bulkTo_succ l hk
  have h2 := bulkTo_le l (k + 1)
  omega

set_option maxHeartbeats 1000000 in
theorem implValidName (v : Value) (l : List ByteArray) (w : World) (h : Holds Value.string w v l) (hl : bulk l ≤ 100000000) :
    Calls Tryz.prog 61 #[.agg #[v]] w fun e w' => e = .returned (.bool (validN l)) ∧ Below w.heap.size w w' := by
  obtain ⟨x, cap, rfl, hcap, hh⟩ := h.shape
  have hll := bigLen hl
  have HS := Lib.hid (fun k (hk : k < l.length) => size_nth hl hk)
  obtain ⟨n, hn⟩ : ∃ n, n = l.length := ⟨_, rfl⟩
  rw [← hn] at hcap hh hll ⊢
  have HN := Lib.hid hn
  have HH := Lib.hid hh
  have HB0 := Lib.hid ((Below.refl w.heap.size w).alloc (Nat.le_refl _) (.cells #[.slice x n cap] 26))
  have HC0 := Lib.hid (Ret.cell_at (w := w) (u := .slice x n cap) (t := 26) (n := w.heap.size) rfl)
  clear hn h hh hl
  go_enter Tryz.func61, Tryz.ntmps61
  go_wp2_with fail
  go_loopw [8] (fun i wr => ∃ k : Nat, k ≤ n ∧ i = .int .i64 k ∧ Hid (allV l k) ∧ Hid (Below w.heap.size w wr) ∧ Hid (wr.cell? ⟨w.heap.size, 0, none⟩ = some (.slice x n cap))) (fun i _ => n - (intOf i).toNat)
  case atStart => exact ⟨0, Nat.zero_le _, rfl, Lib.hid (allV_zero _), HB0, HC0⟩
  case round =>
    obtain ⟨k, hk, rfl, ha, hb, hc0⟩ := hrel
    by_cases hlt : k < n
    · have hlen := HN.out
      obtain ⟨b, off, rfl, hc⟩ := (HH.out.on hb.out).at (j := k) (by omega)
      have hsz := HS.out k (by omega)
      clear hlen
      go_wp2_with fail
      refine (implValidPart _ _ (by omega)).mono ?_
      rintro e w2 ⟨rfl, hb2⟩
      have HB2 := Lib.hid (hb.out.trans (hb2.mono hb.out.size))
      have HC2 := Lib.hid ((hb2.cell (cell_lt hc0.out)).trans hc0.out)
      clear hb2 hc
      by_cases hv : validP (nth l k) = true
      · rw [hv]
        have HA2 := Lib.hid (allV_succ ha.out hv)
        clear hv
        go_wp2
        go_roundw
        case rel => exact ⟨k + 1, by omega, by go_num, HA2, HB2, HC2⟩
        case measure => simp [intOf]; omega
      · have hv2 : validP (nth l k) = false := by simpa using hv
        rw [hv2]
        have HV := Lib.hid (validN_not (by have := HN.out; omega) hv2)
        clear hv hv2
        go_wp2
        go_ret
        exact ⟨ret_bool HV.out.symm, HB2.out⟩
    · obtain rfl : k = n := by omega
      have HV := Lib.hid (validN_all (HN.out ▸ ha.out))
      have hc0 := hc0.out
      clear hlt
      go_wp2
      go_ret
      refine ⟨ret_bool ?_, hb.out⟩
      rw [HV.out, ← HN.out]
      simp
      omega

set_option maxHeartbeats 1000000 in
theorem specValidName (v : Value) (l : List ByteArray) (w : World) (h : Holds Value.string w v l) (hl : bulk l ≤ 100000000) :
    Calls Tryz.prog 63 #[.agg #[v]] w fun e w' => e = .returned (.bool (validN l)) ∧ Below w.heap.size w w' := by
  obtain ⟨x, cap, rfl, hcap, hh⟩ := h.shape
  have hll := bigLen hl
  have HS := Lib.hid (fun k (hk : k < l.length) => size_nth hl hk)
  obtain ⟨n, hn⟩ : ∃ n, n = l.length := ⟨_, rfl⟩
  rw [← hn] at hcap hh hll ⊢
  have HN := Lib.hid hn
  have HH := Lib.hid hh
  have HB0 := Lib.hid ((Below.refl w.heap.size w).alloc (Nat.le_refl _) (.cells #[.slice x n cap] 26))
  have HC0 := Lib.hid (Ret.cell_at (w := w) (u := .slice x n cap) (t := 26) (n := w.heap.size) rfl)
  clear hn h hh hl
  go_enter Tryz.func63, Tryz.ntmps63
  go_wp2_with fail
  go_loopw [3] (fun i wr => ∃ k : Nat, k ≤ n ∧ i = .int .i64 k ∧ Hid (allV l k) ∧ Hid (Below w.heap.size w wr) ∧ Hid (wr.cell? ⟨w.heap.size, 0, none⟩ = some (.slice x n cap))) (fun i _ => n - (intOf i).toNat)
  case atStart => exact ⟨0, Nat.zero_le _, rfl, Lib.hid (allV_zero _), HB0, HC0⟩
  case round =>
    obtain ⟨k, hk, rfl, ha, hb, hc0⟩ := hrel
    by_cases hlt : k < n
    · have hlen := HN.out
      obtain ⟨b, off, rfl, hc⟩ := (HH.out.on hb.out).at (j := k) (by omega)
      have hsz := HS.out k (by omega)
      have hc1 := hc0.out
      clear hlen
      go_wp2_with fail
      refine (specValidPart _ _ (by omega)).mono ?_
      rintro e w2 ⟨rfl, rfl⟩
      clear hc
      by_cases hv : validP (nth l k) = true
      · rw [hv]
        have HA2 := Lib.hid (allV_succ ha.out hv)
        clear hv
        go_wp2
        go_roundw
        case rel => exact ⟨k + 1, by omega, by go_num, HA2, hb, hc0⟩
        case measure => simp [intOf]; omega
      · have hv2 : validP (nth l k) = false := by simpa using hv
        rw [hv2]
        have HV := Lib.hid (validN_not (by have := HN.out; omega) hv2)
        clear hv hv2
        go_wp2
        go_ret
        exact ⟨ret_bool HV.out.symm, hb.out⟩
    · obtain rfl : k = n := by omega
      have HV := Lib.hid (validN_all (HN.out ▸ ha.out))
      have hc0 := hc0.out
      clear hlt
      go_wp2
      go_ret
      refine ⟨ret_bool ?_, hb.out⟩
      rw [HV.out, ← HN.out]
      simp
      omega

end Go.Proofs.YtbooamnlocobfaaGreat.Row
/- Contracts of EncodeInts, the reference model's and the program's: the numbers' groups, one number after the other, in memory of the call's own. No conditions but that lengths fit. -/
namespace Go.Proofs.YtbooamnlocobfaaGreat.Sl
open Go.ChangeShapes Go.WideShapes Go.ChangeAt Go.RowKit Go.Instr
set_option linter.unusedVariables false
set_option maxRecDepth 100000

/-- The groups of the first k numbers. -/
def encs (l : List Int) : List Int := l.flatMap Var.var
theorem encs_len (l : List Int) : (encs l).length ≤ 6 * l.length := by
  unfold encs
  induction l with
  | nil => simp
  | cons x r ih =>
    have := Var.var_len x
    rw [List.flatMap_cons, List.length_append, List.length_cons]; omega
theorem encs_step {l : List Int} {k : Nat} (h : k < l.length) : encs (l.take (k + 1)) = encs (l.take k) ++ Var.var (nth l k) := by
  unfold encs
  rw [List.take_succ_eq_append_getElem h, List.flatMap_append, nth_eq h]; simp
theorem encs_take_len (l : List Int) (k : Nat) : (encs (l.take k)).length ≤ 6 * l.length := by
  have h1 := encs_len (l.take k)
  have h2 : (l.take k).length ≤ l.length := List.length_take_le' _ _
  omega

set_option maxHeartbeats 1000000 in
theorem specEncodeInts (v : Value) (l : List Int) (w : World) (h : Holds .i64 w v l) (hl : l.length ≤ 10000000) :
    Calls Tryz.prog 51 #[v] w (GivesB w (encs l)) := by
  obtain ⟨x, cap, rfl, hcap, hh⟩ := h.shape
  obtain ⟨n, hn⟩ : ∃ n, n = l.length := ⟨_, rfl⟩
  rw [← hn] at hcap hh hl ⊢
  have HN := Lib.hid hn; have HH := Lib.hid hh
  clear hn h hh
  have H0 := Lib.hid (own_empty .u8 5 w)
  have B0 := Lib.hid ((Below.refl w.heap.size w).alloc (Nat.le_refl _) (.cells #[] 5))
  go_enter Tryz.func51, Tryz.ntmps51
  go_wp2_with fail
  go_loopw [3, 4] (fun bv iv wr => ∃ k : Nat, k ≤ n ∧ iv = .int .i64 k ∧ Hid (Own 5 .u8 w.heap.size wr bv (encs (l.take k))) ∧ Hid (Below w.heap.size w wr)) (fun _ iv _ => n - (intOf iv).toNat)
  case atStart => exact ⟨0, Nat.zero_le _, rfl, H0, B0⟩
  case round =>
    obtain ⟨k, hk, rfl, ho, hb⟩ := hrel
    by_cases hlt : k < n
    · have hlen := HN.out
      obtain ⟨b, off, rfl, hc⟩ := (HH.out.on hb.out).at (j := k) (by omega)
      have HS := Lib.hid (encs_step (l := l) (k := k) (by omega))
      have hel := encs_take_len l k
      have hel2 : (encs (l.take k)).length ≤ 100000000 := by omega
      clear hlen hel
      go_wp2_with fail
      refine (specAppendVarint _ _ (nth l k) _ ho.out.holds hel2).mono ?_
      rintro e w2 ⟨v2, rfl, ho2, hb2⟩
      have HO2 := Lib.hid (ho2.mono hb.out.size); have HB2 := Lib.hid (hb.out.trans (hb2.mono hb.out.size))
      clear ho2 hb2
      go_wp2_with fail
      go_roundw
      case rel => exact ⟨k + 1, by omega, by go_num, by rw [HS.out]; exact HO2, HB2⟩
      case measure => simp [intOf]; omega
    · obtain rfl : k = n := by omega
      clear hlt
      go_wp2_with fail
      go_ret
      refine ⟨_, rfl, ?_, hb.out⟩
      have := ho.out
      rw [HN.out, List.take_length] at this
      exact this

set_option maxHeartbeats 1000000 in
theorem implEncodeInts (v : Value) (l : List Int) (w : World) (h : Holds .i64 w v l) (hl : l.length ≤ 10000000) :
    Calls Tryz.prog 35 #[v] w (GivesB w (encs l)) := by
  obtain ⟨x, cap, rfl, hcap, hh⟩ := h.shape
  obtain ⟨n, hn⟩ : ∃ n, n = l.length := ⟨_, rfl⟩
  rw [← hn] at hcap hh hl ⊢
  have HN := Lib.hid hn; have HH := Lib.hid hh
  clear hn h hh
  have H0 := Lib.hid (own_empty .u8 5 w)
  have B0 := Lib.hid ((Below.refl w.heap.size w).alloc (Nat.le_refl _) (.cells #[] 5))
  go_enter Tryz.func35, Tryz.ntmps35
  go_wp2_with fail
  go_loopw [3, 9] (fun bv iv wr => ∃ k : Nat, k ≤ n ∧ iv = .int .i64 k ∧ Hid (Own 5 .u8 w.heap.size wr bv (encs (l.take k))) ∧ Hid (Below w.heap.size w wr)) (fun _ iv _ => n - (intOf iv).toNat)
  case atStart => exact ⟨0, Nat.zero_le _, rfl, H0, B0⟩
  case round =>
    obtain ⟨k, hk, rfl, ho, hb⟩ := hrel
    by_cases hlt : k < n
    · have hlen := HN.out
      obtain ⟨b, off, rfl, hc⟩ := (HH.out.on hb.out).at (j := k) (by omega)
      have HS := Lib.hid (encs_step (l := l) (k := k) (by omega))
      have hel := encs_take_len l k
      have hel2 : (encs (l.take k)).length ≤ 100000000 := by omega
      clear hlen hel
      by_cases hin : 0 ≤ nth l k ∧ nth l k ≤ 1000000000000
      · obtain ⟨i1, i2⟩ := hin
        go_wp2_with fail
        refine (addVarint w.heap.size _ _ (nth l k) _ (Or.inl ho.out) hb.out.size hel2 i1 i2).mono ?_
        rintro e w2 ⟨v2, rfl, ho2, hb2⟩
        have HO2 := Lib.hid ho2; have HB2 := Lib.hid (hb.out.trans hb2)
        clear ho2 hb2
        go_wp2_with fail
        go_roundw
        case rel => exact ⟨k + 1, by omega, by go_num, by rw [HS.out]; exact HO2, HB2⟩
        case measure => simp [intOf]; omega
      · have HV := Lib.hid (Var.var_out hin)
        have HIN := Lib.hid hin; clear hin
        go_wp2_with fail
        refine (addVarint_out _ (nth l k) _ HIN.out).mono ?_
        rintro e w2 ⟨rfl, rfl⟩
        go_wp2_with fail
        go_roundw
        case rel => exact ⟨k + 1, by omega, by go_num, by rw [HS.out, HV.out, List.append_nil]; exact ho, hb⟩
        case measure => simp [intOf]; omega
    · obtain rfl : k = n := by omega
      clear hlt
      go_wp2_with fail
      go_ret
      refine ⟨_, rfl, ?_, hb.out⟩
      have := ho.out
      rw [HN.out, List.take_length] at this
      exact this
end Go.Proofs.YtbooamnlocobfaaGreat.Sl
/- Contracts of the library's slices.Grow at the nil slice, slices.Concat, slices.Equal and slices.Clone at slices of strings. No conditions but that lengths fit. -/
namespace Go.Proofs.YtbooamnlocobfaaGreat.Row
open Go.ChangeShapes Go.WideShapes Go.ChangeAt Go.RowKit Go.Instr
set_option linter.unusedVariables false
set_option maxRecDepth 100000

/-- What a call of a function that returns a slice of strings of the call's own leaves. -/
def GivesS (w : World) (l : List ByteArray) (e : Ending) (w' : World) : Prop := ∃ v, e = .returned v ∧ Own 9 Value.string w.heap.size w' v l ∧ Below w.heap.size w w'
theorem own_one {α : Type} [Inhabited α] (enc : α → Value) (e : TypeId) (w : World) (x : α) : Own e enc w.heap.size (w.alloc (.cells #[enc x] e)) (.slice (some ⟨w.heap.size, 0, none⟩) 1 1) [x] :=
  World.ownsRow_lit w #[enc x] 1 (Nat.le_refl _) (by unfold maxLen; omega) rfl

/-- The first k lists, one behind the other. -/
def cat (ls : Nat → List ByteArray) : Nat → List ByteArray
  | 0 => []
  | k + 1 => cat ls k ++ ls k
theorem cat_mono (ls : Nat → List ByteArray) {k n : Nat} (h : k ≤ n) : (cat ls k).length ≤ (cat ls n).length := by
  induction n with
  | zero => obtain rfl : k = 0 := by omega
            exact Nat.le_refl _
  | succ n ih =>
    by_cases e : k = n + 1
    · subst e; exact Nat.le_refl _
    · have := ih (by omega)
      simp only [cat, List.length_append]; omega

theorem libEqS_len (x y : Option Addr) (n m cx cy : Nat) (w : World) (h : (((n : Nat) : Int) != ((m : Nat) : Int)) = true) :
    Calls Tryz.prog 86 #[.slice x n cx, .slice y m cy] w fun e w' => e = .returned (.bool false) ∧ w = w' := by
  go_enter Tryz.func86, Tryz.ntmps86
  go_wp2
  go_ret
  exact ⟨rfl, rfl⟩

set_option maxHeartbeats 1000000 in
theorem libEqS (v u : Value) (l m : List ByteArray) (w : World) (h : Holds Value.string w v l) (g : Holds Value.string w u m) (hl : l.length ≤ 140737488351232) (hm : m.length ≤ 140737488351232) :
    Calls Tryz.prog 86 #[v, u] w fun e w' => e = .returned (.bool (eqB l m)) ∧ Below w.heap.size w w' := by
  obtain ⟨x, cx, rfl, hcx, hh⟩ := h.shape
  obtain ⟨y, cy, rfl, hcy, hg⟩ := g.shape
  by_cases he : l.length = m.length
  · obtain ⟨n, hn⟩ : ∃ n, n = l.length := ⟨_, rfl⟩
    rw [← he] at hg hm hcy ⊢
    rw [← hn] at hcx hh hl hg hm hcy ⊢
    have HE := Lib.hid he
    have HN := Lib.hid hn
    have HH := Lib.hid hh
    have HG := Lib.hid hg
    have htest : (((n : Nat) : Int) != ((n : Nat) : Int)) = false := by simp
    clear hn h hh g hg he
    go_enter Tryz.func86, Tryz.ntmps86
    go_wp2
    go_loopw [13] (fun i wr => ∃ k nq : Nat, k ≤ n ∧ i = .int .i64 k ∧ Hid (agree l m k) ∧ wr = w.drewN nq) (fun i _ => n - (intOf i).toNat)
    case atStart => exact ⟨0, 0, Nat.zero_le _, rfl, Lib.hid (agree_zero _ _), rfl⟩
    case round =>
      obtain ⟨k, nq, hk, rfl, ha, rfl⟩ := hrel
      by_cases hlt : k < n
      · have hlen := HN.out
        have hlen2 := HE.out
        obtain ⟨b, off, rfl, hc⟩ := HH.out.at (j := k) (by omega)
        obtain ⟨b', off', rfl, hc'⟩ := HG.out.at (j := k) (by omega)
        clear hlen hlen2
        by_cases hd : nth l k = nth m k
        · have hd2 := tl_eq hd
          have HD := Lib.hid hd; clear hd
          go_wp2_with fail
          go_quiet (fail)
          go_wp2_with fail
          go_roundw
          case rel => exact ⟨k + 1, _, by omega, by go_num, Lib.hid (agree_succ ha.out HD.out), rfl⟩
          case measure => simp [intOf]; omega
        · have hd2 := tl_ne hd
          have HD := Lib.hid (eqB_false (differ_at hd)); clear hd
          go_wp2_with fail
          go_quiet (fail)
          go_wp2_with fail
          go_ret
          exact ⟨ret_bool HD.out.symm, below_drewN (below_drewN (Below.refl _ _) _) _⟩
      · obtain rfl : k = n := by omega
        have HD := Lib.hid (eqB_true (agree_all HE.out (HN.out ▸ ha.out)))
        clear hlt
        go_wp2
        go_ret
        exact ⟨ret_bool HD.out.symm, below_drewN (Below.refl _ _) _⟩
  · have htest : (((l.length : Nat) : Int) != ((m.length : Nat) : Int)) = true := by
      rw [bne_iff_ne]; omega
    rw [eqB_false (fun e => he (by rw [e]))]
    exact (libEqS_len x y _ _ cx cy w htest).mono fun e w' ⟨h1, h2⟩ => ⟨h1, by subst h2; exact Below.refl _ _⟩

set_option maxHeartbeats 1000000 in
theorem cloneS (v : Value) (l : List ByteArray) (w : World) (h : Holds Value.string w v l) (hl : l.length ≤ 10000000) :
    Calls Tryz.prog 96 #[v] w (GivesS w l) := by
  obtain ⟨x, cx, rfl, hcx, hh⟩ := h.shape
  cases x with
  | none =>
    have hl0 : l = [] := by
      obtain ⟨x', cap', hv, hc', hh'⟩ := hh
      cases hv
      rcases hh' with h1 | ⟨b, off, h1, _⟩
      · exact h1
      · cases h1
    subst hl0
    have hq : ∀ w : World, (binOp .eql 24 (.slice none 0 cx) (.slice none 0 0)).run Tryz.prog w = .ok (.bool true) w := fun w => by
      exact Lib.run_eql_slice_nil w _ _ _ _ _ _ _ Tryz.underlying24
    clear hh h
    simp only [List.length_nil]
    go_enter Tryz.func96, Tryz.ntmps96
    go_wp2
    go_ret
    exact ⟨_, rfl, Own.nil _ _ _ _, Below.refl _ _⟩
  | some ad =>
    have HB := Lib.hid ((Below.refl w.heap.size w).alloc (Nat.le_refl _) (.cells #[] 9))
    have HH := Lib.hid (hh.on HB.out)
    have HO := Lib.hid (own_empty Value.string 9 w)
    have hq : ∀ w : World, (binOp .eql 24 (.slice (some ad) l.length cx) (.slice none 0 0)).run Tryz.prog w = .ok (.bool false) w := fun w => by
      exact Lib.run_eql_slice_nil w _ _ _ _ _ _ _ Tryz.underlying24
    clear hh h
    go_enter Tryz.func96, Tryz.ntmps96
    go_wp2_with (at_builtin; refine wpList_app (enc := Value.string) (B := w.heap.size) (l := []) (m := l) rfl _ _ rfl Tryz.underlying24 elemSTR rfl rfl rfl HO.out HH.out oneStr (by simp; omega) (by unfold maxLen; simp; omega) (by simp) ?_)
    intro v2 w2 ho hg
    have HO2 := Lib.hid ho; have HB2 := Lib.hid (HB.out.grown hg (by simp) (fun g hh => (HO.out.lt g hh).1))
    clear ho hg
    go_wp2_with fail
    go_ret
    exact ⟨_, rfl, HO2.out, HB2.out⟩

end Go.Proofs.YtbooamnlocobfaaGreat.Row
/- Contracts of CompareNames and EqualNames, the program's and the reference model's, and of the library's Compare and Equal on slices of strings: parts are compared one by one, byte by byte, then the lengths. No conditions but that lengths fit. -/
namespace Go.Proofs.YtbooamnlocobfaaGreat.Row
open Go.ChangeShapes Go.WideShapes Go.ChangeAt Go.RowKit Go.Instr
set_option linter.unusedVariables false
set_option maxRecDepth 100000

def cmpS (a b : ByteArray) : Int := if Op.bytesLess a.toList b.toList = true then -1 else if a.toList = b.toList then 0 else 1
def cmpL : List ByteArray → List ByteArray → Int
  | [], [] => 0
  | [], _ :: _ => -1
  | _ :: _, [] => 1
  | a :: x, b :: y => if cmpS a b = 0 then cmpL x y else cmpS a b
theorem drop_nth {α : Type} [Inhabited α] {l : List α} {k : Nat} (h : k < l.length) : l.drop k = nth l k :: l.drop (k + 1) := by
  rw [nth_eq h]; exact List.drop_eq_getElem_cons h
end Go.Proofs.YtbooamnlocobfaaGreat.Row
/- Contracts of Truncate, EqualNames and HasPrefix, the program's and the reference model's. No conditions but that lengths fit. -/
namespace Go.Proofs.YtbooamnlocobfaaGreat.Row
open Go.ChangeShapes Go.WideShapes Go.ChangeAt Go.RowKit Go.Instr
set_option linter.unusedVariables false
set_option maxRecDepth 100000

section
variable {α : Type} [Inhabited α] {enc : α → Value} {w : World} {x : Option Addr} {n cap : Nat} {l : List α}
theorem Holds.take (h : Holds enc w (.slice x n cap) l) {j : Nat} (hj : j ≤ l.length) : Holds enc w (.slice x j cap) (l.take j) := by
  obtain ⟨x', cap', hv, hc, hh⟩ := h
  cases hv
  have hl : (l.take j).length = j := by simp; omega
  refine ⟨x, cap, by rw [hl], by omega, ?_⟩
  rcases hh with rfl | ⟨b, off, hx, hh⟩
  · left; simp
  · refine Or.inr ⟨b, off, hx, fun i hi => ?_⟩
    rw [hl] at hi
    rw [hh i (by omega), nth_eq (by omega), nth_eq (by omega)]
    simp
theorem Holds.drop {b off : Nat} (h : Holds enc w (.slice (some ⟨b, off, none⟩) n cap) l) {j : Nat} (hj : j ≤ l.length) : Holds enc w (.slice (some ⟨b, off + j, none⟩) (n - j) (cap - j)) (l.drop j) := by
  obtain ⟨x', cap', hv, hc, hh⟩ := h
  cases hv
  have hl : (l.drop j).length = l.length - j := by simp
  refine ⟨_, cap - j, by rw [hl], by omega, ?_⟩
  rcases hh with rfl | ⟨b', off', hx, hh⟩
  · left; simp
  · cases hx
    refine Or.inr ⟨b, off + j, rfl, fun i hi => ?_⟩
    rw [hl] at hi
    rw [Nat.add_assoc, hh (j + i) (by omega), nth_eq (by omega), nth_eq (by omega)]
    simp
end

/-- What a call that returns a name of its own leaves; a name and a bool; a name that lies somewhere. -/
def GivesN (w : World) (l : List ByteArray) (e : Ending) (w' : World) : Prop := ∃ v, e = .returned (.agg #[v]) ∧ Own 9 Value.string w.heap.size w' v l ∧ Below w.heap.size w w'
def GivesNB (w : World) (l : List ByteArray) (b : Bool) (e : Ending) (w' : World) : Prop := ∃ v, e = .returned (.tuple #[.agg #[v], .bool b]) ∧ Own 9 Value.string w.heap.size w' v l ∧ Below w.heap.size w w'
def GivesHB (w : World) (l : List ByteArray) (b : Bool) (e : Ending) (w' : World) : Prop := ∃ v, e = .returned (.tuple #[.agg #[v], .bool b]) ∧ Holds Value.string w' v l ∧ Below w.heap.size w w'

def trI (l : List ByteArray) (k : Int) : Nat := (Num.maxI 0 (Num.minI k l.length)).toNat
def trN (l : List ByteArray) (k : Int) : List ByteArray := l.take (trI l k)
theorem aggN : Ret.AggOf Tryz.prog 26 1 := by unfold Ret.AggOf; exact ⟨by kernel_rfl, by kernel_rfl⟩

/-- A name lies in its result cell: the last step of a function that returns a name. -/
theorem endN {w w1 : World} {g B : Nat} {v u : Value} {l : List ByteArray} (hw : w.heap.size ≤ g) (hgB : g < B) (ho : Own 9 Value.string B w1 v l) (hc : w1.cell? ⟨g, 0, none⟩ = some u) (hb : Below w.heap.size w w1) :
    (w1.setCell ⟨g, 0, none⟩ v).cell? ⟨g, 0, none⟩ = some v ∧ Own 9 Value.string w.heap.size (w1.setCell ⟨g, 0, none⟩ v) v l ∧ Below w.heap.size w (w1.setCell ⟨g, 0, none⟩ v) :=
  ⟨Ret.set_same hc, (ho.grown (Ret.grownBy_set w1 ⟨g, 0, none⟩ v) (nb ho hgB)).mono (by omega), hb.setCell hw _⟩

end Go.Proofs.YtbooamnlocobfaaGreat.Row
/- Contracts of EqualNames and HasPrefix, the program's and the reference model's. No conditions but that lengths fit. -/
namespace Go.Proofs.YtbooamnlocobfaaGreat.Row
open Go.ChangeShapes Go.WideShapes Go.ChangeAt Go.RowKit Go.Instr
set_option linter.unusedVariables false
set_option maxRecDepth 100000

set_option maxHeartbeats 1000000 in
theorem implEqualNames (v u : Value) (l m : List ByteArray) (w : World) (h : Holds Value.string w v l) (g : Holds Value.string w u m) (hl : l.length ≤ 140737488351232) (hm : m.length ≤ 140737488351232) :
    Calls Tryz.prog 58 #[.agg #[v], .agg #[u]] w fun e w' => e = .returned (.bool (eqB l m)) ∧ Below w.heap.size w w' := by
  obtain ⟨x, cx, rfl, hcx, hh⟩ := h.shape
  obtain ⟨y, cy, rfl, hcy, hg⟩ := g.shape
  have HH := Lib.hid hh; have HG := Lib.hid hg
  clear hh h hg g
  go_enter Tryz.func58, Tryz.ntmps58
  go_wp2_with fail
  have HB := Lib.hid (((Below.refl w.heap.size w).alloc (Nat.le_refl _) (.cells #[.slice x l.length cx] 26)).alloc (Nat.le_trans (Nat.le_refl _) (by simp)) (.cells #[.slice y m.length cy] 26))
  have HA := Lib.hid (HH.out.on HB.out); have HC := Lib.hid (HG.out.on HB.out)
  refine (libEqS _ _ l m _ HA.out HC.out hl hm).mono ?_
  rintro e w' ⟨rfl, hb⟩
  have HB2 := Lib.hid (HB.out.trans (hb.mono (by simp; omega))); clear hb
  go_wp2
  go_ret
  exact ⟨rfl, HB2.out⟩

def hpB (l m : List ByteArray) : Bool := decide (m.length ≤ l.length ∧ l.take m.length = m)
end Go.Proofs.YtbooamnlocobfaaGreat.Row
/- Contracts of AppendPart, the program's and the reference model's. No conditions but that lengths fit. -/
namespace Go.Proofs.YtbooamnlocobfaaGreat.Row
open Go.ChangeShapes Go.WideShapes Go.ChangeAt Go.RowKit Go.Instr
set_option linter.unusedVariables false
set_option maxRecDepth 100000

theorem bulk_append (l m : List ByteArray) : bulk (l ++ m) = bulk l + bulk m := by
  unfold bulk bulkTo
  rw [List.take_length, List.take_length, List.take_length, List.map_append, List.sum_append, List.length_append]
  omega
theorem bulk_one (s : ByteArray) : bulk [s] = 1 + s.size := by simp [bulk, bulkTo]
theorem bulk_cons (x : ByteArray) (l : List ByteArray) : bulk (x :: l) = 1 + x.size + bulk l := by
  have := bulk_append [x] l
  rw [bulk_one] at this
  exact this
theorem bulk_nil : bulk [] = 0 := by simp [bulk, bulkTo]
theorem bulk_valid {l : List ByteArray} (h : validN l = true) : bulk l ≤ 60 := by
  obtain ⟨h1, h2⟩ := validN_iff.1 h
  have key : ∀ l : List ByteArray, (∀ x ∈ l, validP x = true) → bulk l ≤ 9 * l.length := by
    intro l
    induction l with
    | nil => intro _; rw [bulk_nil]; simp
    | cons x r ih =>
      intro hx
      have h3 := ih (fun y hy => hx y (by simp [hy]))
      have h4 := (validP_iff.1 (hx x (by simp))).2.1
      rw [bulk_cons, List.length_cons]; omega
  have := key l h2
  omega
def appN (l : List ByteArray) (s : ByteArray) : List ByteArray := if validN (l ++ [s]) = true then l ++ [s] else l
theorem appN_yes {l : List ByteArray} {s : ByteArray} (h : validN (l ++ [s]) = true) : appN l s = l ++ [s] := if_pos h
theorem appN_no {l : List ByteArray} {s : ByteArray} (h : validN (l ++ [s]) = false) : appN l s = l := if_neg (by simp [h])

theorem ret_nb {v : Value} {a b : Bool} (h : a = b) : Ending.returned (.tuple #[v, .bool a]) = .returned (.tuple #[v, .bool b]) := by rw [h]
def vs2 (a b : Value) (j : Nat) : Value := if j = 0 then a else b
def ls2 (a b : List ByteArray) (j : Nat) : List ByteArray := if j = 0 then a else b
set_option maxHeartbeats 1000000 in
theorem l4Copy (v : Value) (l : List ByteArray) (w : World) (h : Holds Value.string w v l) (hl : l.length ≤ 10000000) :
    Calls Tryz.prog 78 #[.agg #[v]] w (GivesN w l) := by
  obtain ⟨x, n, cap, rfl, hn, hcap, hh⟩ := h.shapeN
  rw [← hn] at hl
  have HB0 := Lib.hid ((((Below.refl w.heap.size w).alloc (Nat.le_refl _) (.cells #[.slice x n cap] 26)).alloc (by simp) (.cells #[.slice none 0 0] 26)).alloc (by simp; omega) (.cells #[] 9))
  have HN := Lib.hid hn
  have HT2 := Lib.hid (hh.on HB0.out)
  have HO := Lib.hid (own_empty Value.string 9 ((w.alloc (.cells #[.slice x n cap] 26)).alloc (.cells #[.slice none 0 0] 26)))
  simp only [World.size_alloc] at HO
  have HR := Lib.hid ((Ret.NC.new' (.slice none 0 0) 26 (w := w.alloc (.cells #[.slice x n cap] 26)) (n := w.heap.size + 1) (by simp)).alloc (.cells #[] 9))
  clear hh h hn
  go_enter Tryz.func78, Tryz.ntmps78
  go_wp2_with (at_builtin; refine wpList_app (enc := Value.string) (B := w.heap.size + 1 + 1) (l := []) (m := l) rfl _ _ rfl Tryz.underlying24 elemSTR rfl rfl rfl HO.out HT2.out oneStr (by rw [← HN.out]; simp; omega) (by rw [← HN.out]; unfold maxLen; simp; omega) (by simp) ?_)
  intro v3 w3 ho3 hg3
  obtain ⟨x3, n3, c3, rfl, hn3, hc3, ho3⟩ := ho3.shapeN
  clear hn3
  have HB4 := Lib.hid (HB0.out.grown hg3 (by simp; omega) (fun g hh => by have := (HO.out.lt g hh).1; omega))
  obtain ⟨hk2, hf2⟩ := HR.out.grown hg3 (by simp [Value.ownBlock])
  obtain ⟨q1, q2, q3⟩ := endN (w := w) (g := w.heap.size + 1) (by omega) (by omega) ho3 hk2 HB4.out
  have HQ1 := Lib.hid q1; have HQ2 := Lib.hid q2; have HQ3 := Lib.hid q3
  clear q1 q2 q3 ho3 hg3
  go_wp2
  refine bodyPost_ret (Ret.results_c rfl _ _ (w.heap.size + 1) [_] rfl aggN (Ret.one HQ1.out)) rfl ?_
  exact ⟨_, rfl, HQ2.out, HQ3.out⟩

set_option maxHeartbeats 2000000 in
theorem specAppendPart (v : Value) (l : List ByteArray) (s : ByteArray) (w : World) (h : Holds Value.string w v l) (hl : bulk l ≤ 10000000) (hs : s.size ≤ 10000000) :
    Calls Tryz.prog 93 #[.agg #[v], .string s] w (GivesNB w (appN l s) (validN (l ++ [s]))) := by
  obtain ⟨x, n, cap, rfl, hn, hcap, hh⟩ := h.shapeN
  have hll := bigLen hl
  have HBK := Lib.hid (show bulk (l ++ [s]) ≤ 100000000 by rw [bulk_append, bulk_one]; omega)
  rw [← hn] at hll
  have HB0 := Lib.hid ((((Below.refl w.heap.size w).alloc (Nat.le_refl _) (.cells #[.slice x n cap] 26)).alloc (by simp) (.cells #[.slice none 0 0] 26)).alloc (by simp; omega) (.cells #[] 9))
  have HN := Lib.hid hn
  have HT2 := Lib.hid (hh.on HB0.out)
  have HO := Lib.hid (own_empty Value.string 9 ((w.alloc (.cells #[.slice x n cap] 26)).alloc (.cells #[.slice none 0 0] 26)))
  simp only [World.size_alloc] at HO
  have HX := Lib.hid (((Ret.NC.new' (w := w) (.slice x n cap) 26 rfl).alloc (.cells #[.slice none 0 0] 26)).alloc (.cells #[] 9))
  have HR := Lib.hid ((Ret.NC.new' (.slice none 0 0) 26 (w := w.alloc (.cells #[.slice x n cap] 26)) (n := w.heap.size + 1) (by simp)).alloc (.cells #[] 9))
  have HH := Lib.hid hh
  clear hh h hn hl
  go_enter Tryz.func93, Tryz.ntmps93
  go_wp2_with (at_builtin; refine wpList_app (enc := Value.string) (B := w.heap.size + 1 + 1) (l := []) (m := l) rfl _ _ rfl Tryz.underlying24 elemSTR rfl rfl rfl HO.out HT2.out oneStr (by rw [← HN.out]; simp; omega) (by rw [← HN.out]; unfold maxLen; simp; omega) (by simp) ?_)
  intro v3 w3 ho3 hg3
  obtain ⟨x3, n3, c3, rfl, hn3, hc3, ho3⟩ := ho3.shapeN
  have HN3 := Lib.hid hn3
  have HB3 := Lib.hid (HB0.out.grown hg3 (by simp; omega) (fun g hh => by have := (HO.out.lt g hh).1; omega))
  have HR3 := Lib.hid (HR.out.grown hg3 (by simp [Value.ownBlock]))
  have HX3 := Lib.hid (HX.out.grown hg3 (by simp [Value.ownBlock]; omega))
  have hz3 := hg3.size
  simp only [World.size_alloc] at hz3
  have HO3 := Lib.hid (ho3.on ((Below.refl _ _).alloc (Nat.le_refl _) (.cells #[.string s] 9)))
  clear hn3 ho3 hg3
  go_wp2_with (at_builtin; refine wpList_app (enc := Value.string) (B := w.heap.size + 1 + 1) (l := l) (m := [s]) rfl _ _ rfl Tryz.underlying24 elemSTR rfl rfl rfl HO3.out (holds_one Value.string 9 w3 s) oneStr (by rw [← HN.out]; simp; omega) (by rw [← HN.out]; unfold maxLen; simp; omega) (by simp; omega) ?_)
  intro v4 w4 ho4 hg4
  obtain ⟨x4, n4, c4, rfl, hn4, hc4, ho4⟩ := ho4.shapeN
  clear hn4
  have HB4 := Lib.hid ((HB3.out.alloc (by omega) (.cells #[.string s] 9)).grown hg4 (by simp; omega) (fun g hh => by have := (HO3.out.lt g hh).1; omega))
  have hne : ∀ g, g ≤ w.heap.size + 1 → some g ≠ (Value.slice x3 n3 c3).ownBlock := fun g hg e => by have := (HO3.out.lt g e.symm).1; omega
  have HR4 := Lib.hid ((HR3.out.alloc (.cells #[.string s] 9)).grown hg4 (hne _ (by omega)))
  have HX4 := Lib.hid ((HX3.out.alloc (.cells #[.string s] 9)).grown hg4 (hne _ (by omega)))
  have hz4 := hg4.size
  simp only [World.size_alloc] at hz4
  have HO4 := Lib.hid (ho4.on ((Below.refl _ _).alloc (Nat.le_refl _) (.cells #[.slice x4 n4 c4] 26)))
  clear ho4 hg4 hne
  go_wp2_with fail
  refine (specValidName _ _ _ HO4.out.holds HBK.out).mono ?_
  rintro e w5 ⟨rfl, hb5⟩
  have HT5 := Lib.hid ((Ret.NC.new' (w := w4) (.slice x4 n4 c4) 26 rfl).on hb5)
  have HR5 := Lib.hid ((HR4.out.alloc (.cells #[.slice x4 n4 c4] 26)).on hb5)
  have HX5 := Lib.hid ((HX4.out.alloc (.cells #[.slice x4 n4 c4] 26)).on hb5)
  have HO5 := Lib.hid (HO4.out.on hb5)
  have HB5 := Lib.hid ((HB4.out.alloc (by omega) (.cells #[.slice x4 n4 c4] 26)).trans (hb5.mono (by simp; omega)))
  have hz5 := hb5.size
  simp only [World.size_alloc] at hz5
  clear hb5
  cases hv : validN (l ++ [s]) with
  | true =>
    have HY := Lib.hid (appN_yes hv)
    have HV := Lib.hid hv
    obtain ⟨hk6, hf6⟩ := HT5.out
    obtain ⟨hk2, hf2⟩ := HR5.out
    obtain ⟨q1, q2, q3⟩ := endN (w := w) (g := w.heap.size + 1) (by omega) (by omega) HO5.out hk2 HB5.out
    have HQ1 := Lib.hid q1; have HQ2 := Lib.hid q2; have HQ3 := Lib.hid q3
    clear q1 q2 q3
    go_wp2
    refine bodyPost_ret (Ret.results_ct rfl _ _ (w.heap.size + 1) [_] rfl aggN (Ret.one HQ1.out)) rfl ?_
    exact ⟨_, ret_nb HV.out.symm, by rw [HY.out]; exact HQ2.out, HQ3.out⟩
  | false =>
    have HY := Lib.hid (appN_no hv)
    have HV := Lib.hid hv
    have hx5 := HX5.out.1
    go_wp2_with fail
    refine (l4Copy _ l _ (HH.out.on HB5.out) (by rw [← HN.out]; exact hll)).mono ?_
    rintro e w6 ⟨v6, rfl, ho6, hb6⟩
    obtain ⟨x6, n6, c6, rfl, hn6, hc6, ho6⟩ := ho6.shapeN
    clear hn6
    have HB6 := Lib.hid (HB5.out.trans (hb6.mono HB5.out.size))
    obtain ⟨hk2, hf2⟩ := HR5.out.on hb6
    obtain ⟨q1, q2, q3⟩ := endN (w := w) (g := w.heap.size + 1) (by omega) (by omega) ho6 hk2 HB6.out
    have HQ1 := Lib.hid q1; have HQ2 := Lib.hid q2; have HQ3 := Lib.hid q3
    clear q1 q2 q3 ho6 hb6
    go_wp2
    refine bodyPost_ret (Ret.results_ct rfl _ _ (w.heap.size + 1) [_] rfl aggN (Ret.one HQ1.out)) rfl ?_
    exact ⟨_, ret_nb HV.out.symm, by rw [HY.out]; exact HQ2.out, HQ3.out⟩

end Go.Proofs.YtbooamnlocobfaaGreat.Row
/- Contracts of the model's functions on interests: AppendName. No conditions but that lengths fit. -/
namespace Go.Proofs.YtbooamnlocobfaaGreat.Row
open Go.ChangeShapes Go.WideShapes Go.ChangeAt Go.RowKit Go.Instr
set_option linter.unusedVariables false
set_option maxRecDepth 100000

/-- The parts' encodings, one behind the other. -/
def encPs (l : List ByteArray) : List Int := l.flatMap fun s => Var.var s.size ++ Sl.bytesOf s
def encN (l : List ByteArray) : List Int := Var.var l.length ++ encPs l
def appName (b : List Int) (l : List ByteArray) : List Int := if validN l = true then b ++ encN l else b
theorem encPs_next {l : List ByteArray} {k : Nat} (h : k < l.length) : encPs (l.take (k + 1)) = encPs (l.take k) ++ (Var.var (nth l k).size ++ Sl.bytesOf (nth l k)) := by
  unfold encPs
  rw [List.take_succ_eq_append_getElem h, List.flatMap_append, nth_eq h]
  simp
theorem encPs_len : ∀ l : List ByteArray, (encPs l).length ≤ 6 * bulk l
  | [] => by simp [encPs]
  | s :: r => by
    have h1 := encPs_len r
    have h2 := Var.var_len s.size
    have h3 : encPs (s :: r) = (Var.var s.size ++ Sl.bytesOf s) ++ encPs r := by simp [encPs]
    have h4 : bulk (s :: r) = 1 + s.size + bulk r := by simp [bulk_cons]
    rw [h3, List.length_append, List.length_append, Sl.bytesOf_length]
    omega
theorem bulk_take_le (l : List ByteArray) (k : Nat) : bulk (l.take k) ≤ bulk l := by
  have := bulk_append (l.take k) (l.drop k)
  rw [List.take_append_drop] at this
  omega
theorem size_bulk {l : List ByteArray} {k : Nat} (h : k < l.length) : (nth l k).size ≤ bulk l := by
  have h1 := bulk_append (l.take k) (l.drop k)
  rw [List.take_append_drop, List.drop_eq_getElem_cons h, bulk_cons, ← nth_eq h] at h1
  omega

set_option maxHeartbeats 2000000 in
theorem specAppendName (v u : Value) (b : List Int) (l : List ByteArray) (w : World) (h : Sl.Holds .u8 w v b) (g : Holds Value.string w u l) (hb : b.length ≤ 2000000) (hl : bulk l ≤ 1200000) :
    Calls Tryz.prog 50 #[v, .agg #[u]] w (Sl.GivesB w (appName b l)) := by
  obtain ⟨x, cx, rfl, hcx, hh⟩ := h.shape
  obtain ⟨y, q, cy, rfl, hq, hcy, hg⟩ := g.shapeN
  obtain ⟨m, hm⟩ : ∃ m, m = b.length := ⟨_, rfl⟩
  rw [← hm] at hcx hh hb ⊢
  have HM := Lib.hid hm; have HQ := Lib.hid hq
  have hb0 := (Below.refl w.heap.size w).alloc (Nat.le_refl _) (.cells #[.slice y q cy] 26)
  have hb1 := hb0.alloc (by simp) (.cells #[] 5)
  have HB1 := Lib.hid hb1
  have HH := Lib.hid (hh.on hb1)
  have HG := Lib.hid (hg.on hb1)
  have HX := Lib.hid ((Ret.Box.new w (.slice y q cy) 26).on ((Below.refl _ _).alloc (Nat.le_refl _) (.cells #[] 5)))
  have hoe := Sl.own_empty .u8 5 (w.alloc (.cells #[.slice y q cy] 26))
  rw [World.size_alloc] at hoe
  have HOE := Lib.hid hoe
  have HBL := Lib.hid hl
  have HG0 := Lib.hid hg
  have hql : q ≤ 1200000 := by rw [hq]; exact Nat.le_trans (bulk_len l) hl
  clear hh h g hg hm hq hb0 hb1 hoe
  go_enter Tryz.func50, Tryz.ntmps50
  go_wp2_with (at_builtin; refine Sl.wpList_app (k := .u8) (B := w.heap.size + 1) (l := []) (m := b) rfl _ _ rfl Tryz.underlying22 Sl.elemBYTE rfl rfl rfl HOE.out HH.out ?_ (by decide) ?_ ?_)
  · have := HM.out; simp; omega
  · simp
  intro v1 w1 ho hg
  have HB := Lib.hid (HB1.out.grown hg (by simp; omega) (fun g e => by cases e; exact Nat.le_succ _))
  have HO := Lib.hid (show Sl.Own 5 .u8 w.heap.size w1 v1 b from ho.mono (Nat.le_succ _))
  have HX1 := Lib.hid (HX.out.grown hg (by simp [Value.ownBlock]))
  have HG1 := Lib.hid (HG0.out.on HB.out)
  have hx1 := HX1.out.cell
  clear ho hg HX HOE HH HG
  obtain ⟨ok, hok⟩ : ∃ z, validN l = z := ⟨_, rfl⟩
  have HOK := Lib.hid hok
  go_wp2_with fail
  refine (specValidName _ l _ HG1.out (by omega)).mono ?_
  rintro e w2 ⟨rfl, hb2⟩
  rw [hok]
  have HB2 := Lib.hid (HB.out.trans (hb2.mono HB.out.size))
  have HO2 := Lib.hid (HO.out.on hb2)
  have HX2 := Lib.hid (HX1.out.on hb2)
  have hx2 := HX2.out.cell
  clear hb2 hok hx1
  cases ok with
  | false =>
    have HV : Hid (appName b l = b) := Lib.hid (by unfold appName; rw [if_neg (by rw [HOK.out]; simp)])
    go_wp2_with fail
    go_ret
    exact ⟨_, rfl, by rw [HV.out]; exact HO2.out, HB2.out⟩
  | true =>
    have HV : Hid (appName b l = b ++ encN l) := Lib.hid (by unfold appName; rw [if_pos HOK.out])
    go_wp2_with fail
    refine (Sl.specAppendVarint _ b q _ HO2.out.holds (by rw [← HM.out]; omega)).mono ?_
    rintro e w3 ⟨v3, rfl, ho3, hb3⟩
    have HO3 := Lib.hid (show Sl.Own 5 .u8 w.heap.size w3 v3 (b ++ Var.var q ++ encPs (l.take 0)) by rw [List.take_zero, show encPs [] = [] from rfl, List.append_nil]; exact ho3.mono HB2.out.size)
    have HB3 := Lib.hid (HB2.out.trans (hb3.mono HB2.out.size))
    have HX3 := Lib.hid (HX2.out.on hb3)
    clear ho3 hb3 hx2
    have hx3 := HX3.out.cell
    go_wp2_with fail
    go_loopw [5, 6] (fun tv iv wr => ∃ k : Nat, k ≤ q ∧ iv = .int .i64 k ∧ Hid (Sl.Own 5 .u8 w.heap.size wr tv (b ++ Var.var q ++ encPs (l.take k))) ∧ Hid (Below w.heap.size w wr) ∧ Hid (Ret.Box wr w.heap.size (.slice y q cy) 26)) (fun _ iv _ => q - (intOf iv).toNat)
    case atStart => exact ⟨0, Nat.zero_le _, rfl, HO3, HB3, HX3⟩
    case round =>
      obtain ⟨k, hk, rfl, hO, hB, hX⟩ := hrel
      have hxr := hX.out.cell
      by_cases hlt : k < q
      · obtain ⟨b0, off0, hy, hc⟩ := (HG0.out.on hB.out).at (j := k) (by rw [← HQ.out]; exact hlt)
        subst hy
        have hsz : (nth l k).size ≤ 1200000 := by
          have h2 := size_bulk (l := l) (k := k) (by rw [← HQ.out]; exact hlt)
          have h3 := HBL.out
          omega
        have hle : (encPs (l.take k)).length ≤ 7200000 := by
          have h1 := encPs_len (l.take k)
          have h2 := bulk_take_le l k
          have h3 := HBL.out
          omega
        have hll : (b ++ Var.var q ++ encPs (l.take k)).length ≤ 10000000 := by
          have h1 := Var.var_len q
          rw [List.length_append, List.length_append, ← HM.out]; omega
        have HN := Lib.hid (encPs_next (l := l) (k := k) (by rw [← HQ.out]; exact hlt))
        obtain ⟨cp, wc', e0, h0, b0'⟩ := Sl.conv_bytes wr (nth l k)
        have H0 := Lib.hid h0; have B0 := Lib.hid b0'
        have HLL := Lib.hid hll
        clear h0 b0' hle hll
        go_wp2_with fail
        refine (Sl.specAppendBytes _ _ (b ++ Var.var q ++ encPs (l.take k)) (Sl.bytesOf (nth l k)) wc' (hO.out.on B0.out).holds H0.out HLL.out (by rw [Sl.bytesOf_length]; omega)).mono ?_
        rintro e w4 ⟨v4, rfl, ho4, hb4⟩
        have HB4 := Lib.hid ((hB.out.trans (B0.out.mono hB.out.size)).trans (hb4.mono (Nat.le_trans hB.out.size B0.out.size)))
        have HO4 := Lib.hid (show Sl.Own 5 .u8 w.heap.size w4 v4 (b ++ Var.var q ++ encPs (l.take (k + 1))) by
          have h9 := ho4.mono (Nat.le_trans hB.out.size B0.out.size)
          rw [HN.out, ← List.append_assoc, ← Sl.bytesOf_length, ← List.append_assoc]
          exact h9)
        have HX4 := Lib.hid ((hX.out.on B0.out).on hb4)
        clear ho4 hb4 e0 hxr hc
        go_wp2_with fail
        go_roundw
        case rel => exact ⟨k + 1, by omega, by go_num, HO4, HB4, HX4⟩
        case measure => simp [intOf]; omega
      · obtain rfl : k = q := by omega
        clear hlt
        go_wp2_with fail
        go_ret
        refine ⟨_, rfl, ?_, hB.out⟩
        have h9 := hO.out
        rw [HQ.out, List.take_length] at h9
        rw [HV.out]
        unfold encN
        rw [← List.append_assoc]
        exact h9
end Go.Proofs.YtbooamnlocobfaaGreat.Row
/- Contracts of the helpers by which the laws measure, copy, compare, mark and look at data packets (a name, bytes, a name, two numbers). No conditions but that lengths fit. -/
namespace Go.Proofs.YtbooamnlocobfaaGreat.Row
open Go.ChangeShapes Go.WideShapes Go.ChangeAt Go.RowKit Go.Instr
set_option linter.unusedVariables false
set_option maxRecDepth 100000

abbrev Dt := List ByteArray × List Int × List ByteArray × Int × Int
/-- A packet's cells. -/
abbrev dc (a b c : Value) (f s : Int) : Array Value := #[a, b, c, .int .i64 f, .int .i64 s]
abbrev nil : Value := .slice none 0 0
theorem aggD : Ret.AggOf Tryz.prog 28 5 := ⟨by kernel_rfl, by kernel_rfl⟩
/-- What the call's own slices of a packet are: in blocks from B on, no two the same. -/
def DOwn (B : Nat) (w : World) (a b c : Value) (x : Dt) : Prop := Own 9 Value.string B w a x.1 ∧ Sl.Own 5 .u8 B w b x.2.1 ∧ Own 9 Value.string B w c x.2.2.1 ∧ Apart a b ∧ Apart a c ∧ Apart b c
def DHold (w : World) (a b c : Value) (x : Dt) : Prop := Holds Value.string w a x.1 ∧ Sl.Holds .u8 w b x.2.1 ∧ Holds Value.string w c x.2.2.1
theorem DHold.on {w w' : World} {a b c : Value} {x : Dt} (h : DHold w a b c x) (hb : Below w.heap.size w w') : DHold w' a b c x := ⟨h.1.on hb, h.2.1.on hb, h.2.2.on hb⟩
theorem DOwn.hold {B : Nat} {w : World} {a b c : Value} {x : Dt} (h : DOwn B w a b c x) : DHold w a b c x := by
  exact ⟨h.1.holds, h.2.1.holds, h.2.2.1.holds⟩
theorem DHold.shape {w : World} {a b c : Value} {x : Dt} (h : DHold w a b c x) : ∃ xa na ca xb nb cb xc nc cc, a = .slice xa na ca ∧ b = .slice xb nb cb ∧ c = .slice xc nc cc := by
  obtain ⟨xa, na, ca, rfl, -⟩ := h.1.shapeN
  obtain ⟨xb, cb, rfl, -⟩ := h.2.1.shape
  obtain ⟨xc, nc, cc, rfl, -⟩ := h.2.2.shapeN
  exact ⟨_, _, _, _, _, _, _, _, _, rfl, rfl, rfl⟩
theorem sl_own_set {k : IntKind} {e : TypeId} {B g i : Nat} {w : World} {v u : Value} {l : List Int} (h : Sl.Own e k B w v l) (hg : g < B) : Sl.Own e k B (w.setCell ⟨g, i, none⟩ u) v l := own_set (enc := Value.int k) h hg

def bulkD (x : Dt) : Nat := bulk x.1 + x.2.1.length + bulk x.2.2.1
def szD (x : Dt) (left : Int) : Int := if (bulkD x : Int) ≤ left then left - bulkD x else -1
def advD (x : Dt) : Nat := x.1.length + x.2.1.length + x.2.2.1.length
theorem advD_bulk (x : Dt) : advD x ≤ bulkD x := by have h1 := bulk_len x.1; have h2 := bulk_len x.2.2.1; unfold advD bulkD; omega
/-- A packet whose parts are marked. -/
def mkD (k : Int) (x : Dt) : Dt := (marks markT k x.1.length, Sl.marks .u8 (k + x.1.length) x.2.1.length, marks markT (k + x.1.length + x.2.1.length) x.2.2.1.length, x.2.2.2)
end Go.Proofs.YtbooamnlocobfaaGreat.Row
/- Data packets in the words of the exact laws: the kind; the laws' helpers for it; a packet that came in as an argument. No conditions but that lengths fit. -/
namespace Go.Proofs.YtbooamnlocobfaaGreat.Row
open Go.ChangeShapes Go.WideShapes Go.ChangeAt Go.RowKit Go.Instr
set_option linter.unusedVariables false
set_option maxRecDepth 100000

theorem u8one (x : Int) : (Value.int .u8 x).oneCell' = true := rfl
def kBs : Kd (List Int) (Rw Int) := kS 5 (Value.int .u8) u8one
def kD : Kd Dt (Rw ByteArray × Rw Int × Rw ByteArray × Int × Int) := (kNm 9).pair (kBs.pair ((kNm 9).pair (kInt.pair kInt)))
section
variable {w : World} {a b c V : Value} {x : Dt} {B E : Nat}
theorem kD_at (h : kD.At w V x) : ∃ a b c, V = .agg (dc a b c x.2.2.2.1 x.2.2.2.2) ∧ DHold w a b c x := by
  obtain ⟨⟨r, q, t, f, s⟩, rfl, rfl, h⟩ := h
  exact ⟨r.v, q.v, t.v, rfl, kNm_at (e := 9) ⟨r, rfl, rfl, h.1⟩, kS_at (h1 := u8one) (e := 5) ⟨q, rfl, rfl, h.2.1⟩, kNm_at (e := 9) ⟨t, rfl, rfl, h.2.2.1⟩⟩
theorem kD_of (h : DHold w a b c x) : kD.At w (.agg (dc a b c x.2.2.2.1 x.2.2.2.2)) x := by
  obtain ⟨l, m, k, f, s⟩ := x
  obtain ⟨r, rfl, e1, h1⟩ := kNm_of (e := 9) h.1
  obtain ⟨q, rfl, e2, h2⟩ := kS_of (enc := Value.int .u8) (h1 := u8one) (e := 5) h.2.1
  obtain ⟨t, rfl, e3, h3⟩ := kNm_of (e := 9) h.2.2
  exact ⟨(r, q, t, f, s), rfl, Prod.ext e1 (Prod.ext e2 (Prod.ext e3 rfl)), h1, h2, h3, trivial, trivial⟩
theorem nodup3 {u v t : Option Nat} : (u.toList ++ (v.toList ++ t.toList)).Nodup ↔ (∀ g, u = some g → v ≠ some g) ∧ (∀ g, u = some g → t ≠ some g) ∧ (∀ g, v = some g → t ≠ some g) := by
  cases u <;> cases v <;> cases t <;> simp <;> (try constructor) <;> (try intro h) <;> (try omega)
theorem kD_blocks (r : Rw ByteArray) (q : Rw Int) (t : Rw ByteArray) (f s : Int) : kD.blocks (r, q, t, f, s) = r.v.ownBlock.toList ++ (q.v.ownBlock.toList ++ t.v.ownBlock.toList) := by
  show (kNm 9).blocks r ++ (kBs.blocks q ++ ((kNm 9).blocks t ++ ([] ++ []))) = _
  rw [kNm_blocks, kNm_blocks, List.append_nil, List.append_nil]
  unfold kBs
  rw [kS_blocks]
theorem kD_mk (h : DOwn B w a b c x) (hE : (∀ g, a.ownBlock = some g → g < E) ∧ (∀ g, b.ownBlock = some g → g < E) ∧ ∀ g, c.ownBlock = some g → g < E) : kD.In B E w (.agg (dc a b c x.2.2.2.1 x.2.2.2.2)) x := by
  obtain ⟨l, m, k, f, s⟩ := x
  obtain ⟨o1, o2, o3, ab, ac, bc⟩ := h
  obtain ⟨r, rfl, e1, h1, -⟩ := kNm_mk o1 hE.1
  obtain ⟨q, rfl, e2, h2, -⟩ := kS_mk (h1 := u8one) (e := 5) (enc := Value.int .u8) o2 hE.2.1
  obtain ⟨t, rfl, e3, h3, -⟩ := kNm_mk o3 hE.2.2
  refine ⟨(r, q, t, f, s), rfl, Prod.ext e1 (Prod.ext e2 (Prod.ext e3 rfl)), ⟨h1, h2, h3, trivial, trivial⟩, ?_, ?_⟩
  · rw [kD_blocks]; exact nodup3.2 ⟨ab, ac, bc⟩
  · rw [kD_blocks]
    intro g hg
    rcases List.mem_append.1 hg with hg | hg
    · exact hE.1 g (show r.v.ownBlock = some g by simpa using hg)
    · rcases List.mem_append.1 hg with hg | hg
      · exact hE.2.1 g (show q.v.ownBlock = some g by simpa using hg)
      · exact hE.2.2 g (show t.v.ownBlock = some g by simpa using hg)
theorem kD_own (h : DOwn B w a b c x) : kD.In B w.heap.size w (.agg (dc a b c x.2.2.2.1 x.2.2.2.2)) x := kD_mk h ⟨fun g hg => (h.1.lt g hg).2, fun g hg => (Sl.Own.lt h.2.1 g hg).2, fun g hg => (h.2.2.1.lt g hg).2⟩
theorem kD_in (h : kD.In B E w V x) : ∃ a b c, V = .agg (dc a b c x.2.2.2.1 x.2.2.2.2) ∧ DOwn B w a b c x ∧ (∀ g, a.ownBlock = some g → g < E) ∧ (∀ g, b.ownBlock = some g → g < E) ∧ ∀ g, c.ownBlock = some g → g < E := by
  obtain ⟨⟨r, q, t, f, s⟩, rfl, rfl, h, hn, hl⟩ := h
  rw [kD_blocks] at hn hl
  obtain ⟨ab, ac, bc⟩ := nodup3.1 hn
  have la : ∀ g, r.v.ownBlock = some g → g < E := fun g hg => hl g (List.mem_append_left _ (by simp [hg]))
  have lb : ∀ g, q.v.ownBlock = some g → g < E := fun g hg => hl g (List.mem_append_right _ (List.mem_append_left _ (by simp [hg])))
  have lc : ∀ g, t.v.ownBlock = some g → g < E := fun g hg => hl g (List.mem_append_right _ (List.mem_append_right _ (by simp [hg])))
  have nd : ∀ u : Option Nat, u.toList.Nodup := fun u => by cases u <;> simp
  have i1 := kNm_in (E := E) (e := 9) ⟨r, rfl, rfl, h.1, by rw [kNm_blocks]; exact nd _, by rw [kNm_blocks]; intro g hg; exact la g (by simpa using hg)⟩
  have i2 := kS_in (E := E) (h1 := u8one) (e := 5) (enc := Value.int .u8) ⟨q, rfl, rfl, h.2.1, by rw [kS_blocks]; exact nd _, by rw [kS_blocks]; intro g hg; exact lb g (by simpa using hg)⟩
  have i3 := kNm_in (E := E) (e := 9) ⟨t, rfl, rfl, h.2.2.1, by rw [kNm_blocks]; exact nd _, by rw [kNm_blocks]; intro g hg; exact lc g (by simpa using hg)⟩
  exact ⟨r.v, q.v, t.v, rfl, ⟨i1.1, i2.1, i3.1, ab, ac, bc⟩, la, lb, lc⟩
theorem kD_shape (h : kD.In B E w V x) : ∃ xa na ca xb nb cb xc nc cc, V = .agg #[.slice xa na ca, .slice xb nb cb, .slice xc nc cc, .int .i64 x.2.2.2.1, .int .i64 x.2.2.2.2] ∧ kD.In B E w (.agg #[.slice xa na ca, .slice xb nb cb, .slice xc nc cc, .int .i64 x.2.2.2.1, .int .i64 x.2.2.2.2]) x := by
  obtain ⟨a, b, c, rfl, ho, -⟩ := kD_in h
  obtain ⟨xa, na, ca, xb, nb, cb, xc, nc, cc, rfl, rfl, rfl⟩ := ho.hold.shape
  exact ⟨_, _, _, _, _, _, _, _, _, rfl, h⟩
theorem kD_shapeA (h : kD.At w V x) : ∃ xa na ca xb nb cb xc nc cc, V = .agg #[.slice xa na ca, .slice xb nb cb, .slice xc nc cc, .int .i64 x.2.2.2.1, .int .i64 x.2.2.2.2] ∧ kD.At w (.agg #[.slice xa na ca, .slice xb nb cb, .slice xc nc cc, .int .i64 x.2.2.2.1, .int .i64 x.2.2.2.2]) x := by
  obtain ⟨a, b, c, rfl, ho⟩ := kD_at h
  obtain ⟨xa, na, ca, xb, nb, cb, xc, nc, cc, rfl, rfl, rfl⟩ := ho.shape
  exact ⟨_, _, _, _, _, _, _, _, _, rfl, h⟩
end
/-- Its parts' sizes and its numbers fit. -/
def WfD (x : Dt) : Prop := (∀ y ∈ x.1, y.size ≤ maxLen) ∧ (∀ y ∈ x.2.1, (Lit.int .u8 y).wf = true) ∧ (∀ y ∈ x.2.2.1, y.size ≤ maxLen) ∧ (Lit.int .i64 x.2.2.2.1).wf = true ∧ (Lit.int .i64 x.2.2.2.2).wf = true
end Go.Proofs.YtbooamnlocobfaaGreat.Row
/- Contracts of the model's functions on interests: validity, copy, equality, the hop limit. No conditions but that lengths fit. -/
namespace Go.Proofs.YtbooamnlocobfaaGreat.Row
open Go.ChangeShapes Go.WideShapes Go.ChangeAt Go.RowKit Go.Instr
set_option linter.unusedVariables false
set_option maxRecDepth 100000

abbrev Wt := List ByteArray × Int × Int × Int
def validW (x : Wt) : Bool := validN x.1 && decide (0 < x.1.length) && decide (0 ≤ x.2.1 ∧ x.2.1 ≤ 1000000) && decide (0 ≤ x.2.2.1 ∧ x.2.2.1 ≤ 16) && decide (1 ≤ x.2.2.2 ∧ x.2.2.2 ≤ 20)
/-- A result that is an interest whose name is the call's own. -/
def GivesW (w : World) (x : Wt) (e : Ending) (w' : World) : Prop := ∃ v', e = .returned (.agg (wc v' x.2.1 x.2.2.1 x.2.2.2)) ∧ Own 9 Value.string w.heap.size w' v' x.1 ∧ Below w.heap.size w w'
def GivesWB (w : World) (x : Wt) (z : Bool) (e : Ending) (w' : World) : Prop := ∃ v', e = .returned (.tuple #[.agg (wc v' x.2.1 x.2.2.1 x.2.2.2), .bool z]) ∧ Own 9 Value.string w.heap.size w' v' x.1 ∧ Below w.heap.size w w'

def decW (x : Wt) : Wt := if x.2.2.1 < 1 then x else (x.1, x.2.1, x.2.2.1 - 1, x.2.2.2)
def decOk (x : Wt) : Bool := decide (1 ≤ x.2.2.1)
end Go.Proofs.YtbooamnlocobfaaGreat.Row
