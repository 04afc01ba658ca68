/- Contracts of AppendVarint, the reference model's and the program's: the slice and behind it the number's groups, in memory of the call's own. No conditions but that lengths fit. -/
import Derived.Test.YtnnhgcfelkcpfaaDoorRows
import Derived.Test.YtnnhgcfelkcpfaaDoorNum
import Derived.Test.YtnnhgcfelkcpfaaDoorSlice
import Derived.Test.YtnnhgcfelkcpfaaDoorGives
import Derived.Test.YtnnhgcfelkcpfaaDoorVarMath
import Derived.LoopTactic
namespace Go.Proofs.YtnnhgcfelkcpfaaDoor.Sl
open Go.ChangeShapes Go.WideShapes Go.ChangeAt Go.RowKit Go.Instr
set_option linter.unusedVariables false
set_option maxRecDepth 100000

theorem or128 {n : Int} (h0 : 0 ≤ n) (h1 : n < 128) : bits .or .i64 n 128 = n + 128 := by
  have e : bits .or .i64 n 128 = bits .or .i64 128 n := by
    have hx : ∀ a b : Int, bits .or .i64 a b = IntKind.i64.wrap ((BitVec.ofInt 64 a ||| BitVec.ofInt 64 b).toNat : Int) := fun _ _ => rfl
    rw [hx, hx, BitVec.or_comm]
  rw [e, bits_join .i64 63 (by decide) (fun n a b => IntWalk.i64_in n (by omega)) 7 128 n (by decide) (by decide) (by decide) h0 (by omega) (by omega)]
  omega

set_option maxHeartbeats 1000000 in
theorem specAppendVarint (v : Value) (l : List Int) (n : Int) (w : World) (h : Holds .u8 w v l) (hl : l.length ≤ 100000000) :
    Calls Tryd.prog 59 #[v, .int .i64 n] w (GivesB w (l ++ Var.var n)) := by
  obtain ⟨x, cap, rfl, hcap, hh⟩ := h.shape
  obtain ⟨m, hm⟩ : ∃ m, m = l.length := ⟨_, rfl⟩
  rw [← hm] at hcap hh hl ⊢
  have HM := Lib.hid hm; clear hm h
  rename Holds .u8 w (.slice x m cap) l => h
  by_cases hn : 0 ≤ n ∧ n ≤ 1000000000000
  · have e1 := Var.var_in hn.1 hn.2
    have HE := Lib.hid e1
    have H := Lib.hid h
    have hin := fun wx => Num.specIn_true hn.1 hn.2 wx
    have HI := Lib.hid hin
    obtain ⟨hn1, hn2⟩ := hn
    clear e1 h hin
    go_enter Tryd.func59, Tryd.ntmps59
    go_wp2_with (at_builtin; refine wpList_app (k := .u8) (B := w.heap.size) (l := []) (m := l) rfl _ _ rfl Tryd.underlying22 elemBYTE rfl rfl rfl (own_empty .u8 _ w) (H.out.on ((Below.refl _ _).alloc (Nat.le_refl _) _)) ?_ (by decide) ?_ ?_)
    · have := HM.out; simp; omega
    · simp
    intro v1 w1 ho hg
    have hb : Below w.heap.size w w1 := ((Below.refl _ _).alloc (Nat.le_refl _) _).grown hg (by simp) (fun k hk => by cases hk; exact Nat.le_refl _)
    have HO := Lib.hid ho; have HB := Lib.hid hb
    clear ho hb hg
    go_wp2_with fail
    refine (HI.out _).mono ?_
    rintro e w' ⟨rfl, rfl⟩
    go_wp2_with fail
    go_loopw [1, 5] (fun nv bv wr => ∃ (y : Int) (p : List Int), nv = .int .i64 y ∧ 0 ≤ y ∧ y ≤ 1000000000000 ∧ Hid (p ++ Var.enc y.toNat = Var.enc n.toNat) ∧ Hid (Own 5 .u8 w.heap.size wr bv (l ++ p)) ∧ Hid (Below w.heap.size w wr)) (fun nv _ _ => (intOf nv).toNat)
    case atStart => exact ⟨n, [], rfl, hn1, hn2, Lib.hid rfl, by rw [List.append_nil]; exact HO, HB⟩
    case round =>
      obtain ⟨y, p, rfl, y0, y1, he, ho, hb⟩ := hrel
      have hpl : p.length ≤ 6 := by
        have e1 := congrArg List.length he.out
        have e2 := Var.enc_len6 (n := n.toNat) (by omega)
        have e3 := Var.enc_pos y.toNat
        simp at e1; omega
      by_cases hlt : 127 < y
      · have a1 := i64_and127 y
        have a2 := or128 (n := y % 128) (by omega) (by omega)
        have HS := Lib.hid (Var.enc_step (n := y) (by omega))
        go_wp2_with (at_builtin; refine wpList_app (k := .u8) (B := w.heap.size) (l := l ++ p) (m := [y % 128 + 128]) rfl _ _ rfl Tryd.underlying22 elemBYTE rfl rfl rfl (ho.out.on ((Below.refl _ _).alloc (Nat.le_refl _) _)) (holds_one .u8 _ _ _) ?_ (by decide) ?_ ?_)
        · have := HM.out; simp; omega
        · have := hb.out.size; simp; omega
        intro v2 w2 ho2 hg
        have hb2 : Below w.heap.size w w2 := ((hb.out).alloc hb.out.size _).grown hg (by have := hb.out.size; simp; omega) (fun g hk => (ho.out.lt g hk).1)
        have HO2 := Lib.hid ho2; have HB2 := Lib.hid hb2
        clear ho2 hb2 hg a1 a2
        go_wp2_with fail
        go_roundw
        case rel => exact ⟨y / 128, p ++ [y % 128 + 128], rfl, by omega, by omega, Lib.hid (by rw [List.append_assoc, ← he.out, HS.out]; rfl), HO2, HB2⟩
        case measure => simp [intOf]; omega
      · have HS := Lib.hid (Var.enc_last (n := y) (by omega) (by omega))
        go_wp2_with (at_builtin; refine wpList_app (k := .u8) (B := w.heap.size) (l := l ++ p) (m := [y]) rfl _ _ rfl Tryd.underlying22 elemBYTE rfl rfl rfl (ho.out.on ((Below.refl _ _).alloc (Nat.le_refl _) _)) (holds_one .u8 _ _ _) ?_ (by decide) ?_ ?_)
        · have := HM.out; simp; omega
        · have := hb.out.size; simp; omega
        intro v2 w2 ho2 hg
        have hb2 : Below w.heap.size w w2 := ((hb.out).alloc hb.out.size _).grown hg (by have := hb.out.size; simp; omega) (fun g hk => (ho.out.lt g hk).1)
        have HO2 := Lib.hid ho2; have HB2 := Lib.hid hb2
        clear ho2 hb2 hg
        go_wp2_with fail
        go_ret
        exact ⟨_, rfl, by rw [HE.out, ← he.out, HS.out]; exact HO2.out, HB2.out⟩
  · have e1 := Var.var_out hn
    have HE := Lib.hid e1
    have H := Lib.hid h
    have hin := fun wx => Num.specIn_false hn wx
    have HI := Lib.hid hin
    clear e1 h hin hn
    go_enter Tryd.func59, Tryd.ntmps59
    go_wp2_with (at_builtin; refine wpList_app (k := .u8) (B := w.heap.size) (l := []) (m := l) rfl _ _ rfl Tryd.underlying22 elemBYTE rfl rfl rfl (own_empty .u8 _ w) (H.out.on ((Below.refl _ _).alloc (Nat.le_refl _) _)) ?_ (by decide) ?_ ?_)
    · have := HM.out; simp; omega
    · simp
    intro v1 w1 ho hg
    have hb : Below w.heap.size w w1 := ((Below.refl _ _).alloc (Nat.le_refl _) _).grown hg (by simp) (fun k hk => by cases hk; exact Nat.le_refl _)
    have HO := Lib.hid ho; have HB := Lib.hid hb
    clear ho hb hg
    go_wp2_with fail
    refine (HI.out _).mono ?_
    rintro e w' ⟨rfl, rfl⟩
    go_wp2_with fail
    go_ret
    exact ⟨_, rfl, by rw [HE.out, List.append_nil]; exact HO.out, HB.out⟩

/-- What a call leaves that lengthens a slice: a slice of the call's own, from block B on. -/
def GrowsB (B : Nat) (w : World) (l : List Int) (e : Ending) (w' : World) : Prop := ∃ v, e = .returned v ∧ Own 5 .u8 B w' v l ∧ Below B w w'

set_option maxHeartbeats 1000000 in
theorem addVarint (B : Nat) (v : Value) (l : List Int) (n : Int) (w : World) (h : Fits 5 .u8 B w v l) (hB : B ≤ w.heap.size) (hl : l.length ≤ 100000000) (hn1 : 0 ≤ n) (hn2 : n ≤ 1000000000000) :
    Calls Tryd.prog 73 #[v, .int .i64 n] w (GrowsB B w (l ++ Var.var n)) := by
  have e1 := Var.var_in hn1 hn2
  have HE := Lib.hid e1
  have H := Lib.hid h
  have hin := fun wx => Num.implIn_true hn1 hn2 wx
  have HI := Lib.hid hin
  clear e1 h hin
  go_enter Tryd.func73, Tryd.ntmps73
  go_wp2_with fail
  refine (HI.out _).mono ?_
  rintro e w' ⟨rfl, rfl⟩
  go_wp2_with fail
  go_loopw [0, 1] (fun bv nv wr => ∃ (y : Int) (p : List Int), nv = .int .i64 y ∧ 0 ≤ y ∧ y ≤ 1000000000000 ∧ Hid (p ++ Var.enc y.toNat = Var.enc n.toNat) ∧ Hid (Fits 5 .u8 B wr bv (l ++ p)) ∧ Hid (Below B w wr)) (fun _ nv _ => (intOf nv).toNat)
  case atStart => exact ⟨n, [], rfl, hn1, hn2, Lib.hid rfl, by rw [List.append_nil]; exact H, Lib.hid (Below.refl _ _)⟩
  case round =>
    obtain ⟨y, p, rfl, y0, y1, he, ho, hb⟩ := hrel
    have hpl : p.length ≤ 6 := by
      have e1 := congrArg List.length he.out
      have e2 := Var.enc_len6 (n := n.toNat) (by omega)
      have e3 := Var.enc_pos y.toNat
      simp at e1; omega
    by_cases hlt : 128 ≤ y
    · have HS := Lib.hid (Var.enc_step (n := y) (by omega))
      go_wp2_with (at_builtin; refine wpList_app_fit (k := .u8) (B := B) (l := l ++ p) (m := [y % 128 + 128]) rfl _ _ rfl Tryd.underlying22 elemBYTE rfl rfl rfl (ho.out.on ((Below.refl _ _).alloc (Nat.le_refl _) _)) ?_ (by simp) ?_ (by decide) ?_ ?_)
      · rw [show y % 128 + 128 = 128 + y % 128 by omega]; exact holds_one .u8 _ _ _
      · first | omega | (simp; omega)
      · have := hb.out.size; first | omega | (simp; omega)
      intro v2 w2 ho2 hg
      have hb2 : Below B w w2 := ((hb.out).alloc (by have := hb.out.size; omega) _).trans hg
      have HO2 := Lib.hid (Or.inl ho2 : Fits 5 .u8 B w2 v2 _); have HB2 := Lib.hid hb2
      clear ho2 hb2 hg
      go_wp2_with fail
      go_roundw
      case rel => exact ⟨y / 128, p ++ [y % 128 + 128], rfl, by omega, by omega, Lib.hid (by rw [List.append_assoc, ← he.out, HS.out]; rfl), HO2, HB2⟩
      case measure => simp [intOf]; omega
    · have HS := Lib.hid (Var.enc_last (n := y) (by omega) (by omega))
      go_wp2_with (at_builtin; refine wpList_app_fit (k := .u8) (B := B) (l := l ++ p) (m := [y]) rfl _ _ rfl Tryd.underlying22 elemBYTE rfl rfl rfl (ho.out.on ((Below.refl _ _).alloc (Nat.le_refl _) _)) (holds_one .u8 _ _ _) (by simp) ?_ (by decide) ?_ ?_)
      · first | omega | (simp; omega)
      · have := hb.out.size; first | omega | (simp; omega)
      intro v2 w2 ho2 hg
      have hb2 : Below B w w2 := ((hb.out).alloc (by have := hb.out.size; omega) _).trans hg
      have HO2 := Lib.hid ho2; have HB2 := Lib.hid hb2
      clear ho2 hb2 hg
      go_wp2_with fail
      go_ret
      exact ⟨_, rfl, by rw [HE.out, ← he.out, HS.out]; exact HO2.out, HB2.out⟩

theorem addVarint_out (v : Value) (n : Int) (w : World) (hn : ¬ (0 ≤ n ∧ n ≤ 1000000000000)) :
    Calls Tryd.prog 73 #[v, .int .i64 n] w fun e w' => e = .returned v ∧ w = w' := by
  have hin := fun wx => Num.implIn_false hn wx
  have HI := Lib.hid hin
  clear hin hn
  go_enter Tryd.func73, Tryd.ntmps73
  go_wp2_with fail
  refine (HI.out _).mono ?_
  rintro e w' ⟨rfl, rfl⟩
  go_wp2_with fail
  go_ret
  exact ⟨rfl, rfl⟩

set_option maxHeartbeats 1000000 in
theorem implAppendVarint (v : Value) (l : List Int) (n : Int) (w : World) (h : Holds .u8 w v l) (hl : l.length ≤ 100000000) :
    Calls Tryd.prog 57 #[v, .int .i64 n] w (GivesB w (l ++ Var.var n)) := by
  obtain ⟨x, cap, rfl, hcap, hh⟩ := h.shape
  by_cases hn : 0 ≤ n ∧ n ≤ 1000000000000
  · have hin := fun wx => Num.implIn_true hn.1 hn.2 wx
    have HI := Lib.hid hin
    have ha := fun x' hx' => addVarint w.heap.size (.slice x' l.length l.length) l n w (Or.inr ⟨x', rfl, hx'⟩) (Nat.le_refl _) hl hn.1 hn.2
    have HA := Lib.hid ha
    have hf : Holds .u8 w (.slice x l.length l.length) l := by
      obtain ⟨x', cap', hv, hc, hh⟩ := hh
      cases hv
      exact ⟨x, l.length, rfl, Nat.le_refl _, hh⟩
    have HF := Lib.hid hf
    obtain ⟨hn1, hn2⟩ := hn
    clear hin ha hf hh h
    go_enter Tryd.func57, Tryd.ntmps57
    go_wp2_with fail
    refine (HI.out _).mono ?_
    rintro e w' ⟨rfl, rfl⟩
    go_wp2_with fail
    refine (HA.out _ HF.out).mono ?_
    rintro e w' ⟨v', rfl, ho, hb⟩
    have HO := Lib.hid ho; have HB := Lib.hid hb
    clear ho hb
    go_wp2_with fail
    go_ret
    exact ⟨_, rfl, HO.out, HB.out⟩
  · have e1 := Var.var_out hn
    have HE := Lib.hid e1
    have hin := fun wx => Num.implIn_false hn wx
    have HI := Lib.hid hin
    obtain ⟨m, hm⟩ : ∃ m, m = l.length := ⟨_, rfl⟩
    rw [← hm] at hcap hh hl ⊢
    have HM := Lib.hid hm
    have HF := Lib.hid hh
    clear e1 hin hn hh hm h
    go_enter Tryd.func57, Tryd.ntmps57
    go_wp2_with fail
    refine (HI.out _).mono ?_
    rintro e w' ⟨rfl, rfl⟩
    go_wp2_with (at_builtin; refine wpList_app (k := .u8) (B := w.heap.size) (l := []) (m := l) rfl _ _ rfl Tryd.underlying22 elemBYTE rfl rfl rfl (own_empty .u8 _ w) (HF.out.on ((Below.refl _ _).alloc (Nat.le_refl _) _)) ?_ (by decide) ?_ ?_)
    · have := HM.out; simp; omega
    · simp
    intro v1 w1 ho hg
    have hb : Below w.heap.size w w1 := ((Below.refl _ _).alloc (Nat.le_refl _) _).grown hg (by simp) (fun k hk => by cases hk; exact Nat.le_refl _)
    have HO := Lib.hid ho; have HB := Lib.hid hb
    clear ho hb hg
    go_wp2_with fail
    go_ret
    exact ⟨_, rfl, by rw [HE.out, List.append_nil]; exact HO.out, HB.out⟩
end Go.Proofs.YtnnhgcfelkcpfaaDoor.Sl
