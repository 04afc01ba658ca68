/- Contracts and mathematics, joined: Var, ReadV, ReadVI, Bytes, Ints, WantS, WantV, ReadB, WantE, WantR, WantP, WantQ, DecI, VarBack, WantD, EncMath, RingMath. No conditions but those that each states. -/
import Derived.Test.YtcidfmmeonhkhaaGreatDoorRows
import Derived.Test.YtcidfmmeonhkhaaGreatDoorB2
import Derived.Test.YtcidfmmeonhkhaaGreatDoorB3
import Derived.Test.YtcidfmmeonhkhaaGreatDoorB10
import Derived.LoopTactic
import Derived.Laws.ShiftsVarLaws
import Derived.Laws.BytesArg
import Derived.Deep.Cut
import Derived.Deep.RegionHeld3
import Derived.Deep.RegionLaw
import Derived.Maps.OwnSet
/- Contracts of AppendVarint, the reference model's and the program's: the slice and behind it the number's groups, in memory of the call's own. No conditions but that lengths fit. -/
namespace Go.Proofs.YtcidfmmeonhkhaaGreatDoor.Sl
open Go.ChangeShapes Go.WideShapes Go.ChangeAt Go.RowKit Go.Instr
set_option linter.unusedVariables false
set_option maxRecDepth 100000

theorem or128 {n : Int} (h0 : 0 ≤ n) (h1 : n < 128) : bits .or .i64 n 128 = n + 128 := by
  have e : bits .or .i64 n 128 = bits .or .i64 128 n := by
    have hx : ∀ a b : Int, bits .or .i64 a b = IntKind.i64.wrap ((BitVec.ofInt 64 a ||| BitVec.ofInt 64 b).toNat : Int) := fun _ _ => rfl
    rw [hx, hx, BitVec.or_comm]
  rw [e, bits_join .i64 63 (by decide) (fun n a b => IntWalk.i64_in n (by omega)) 7 128 n (by decide) (by decide) (by decide) h0 (by omega) (by omega)]
  omega

set_option maxHeartbeats 1000000 in
theorem specAppendVarint (v : Value) (l : List Int) (n : Int) (w : World) (h : Holds .u8 w v l) (hl : l.length ≤ 100000000) :
    Calls Tryz.prog 85 #[v, .int .i64 n] w (GivesB w (l ++ Var.var n)) := by
  obtain ⟨x, cap, rfl, hcap, hh⟩ := h.shape
  obtain ⟨m, hm⟩ : ∃ m, m = l.length := ⟨_, rfl⟩
  rw [← hm] at hcap hh hl ⊢
  have HM := Lib.hid hm; clear hm h
  rename Holds .u8 w (.slice x m cap) l => h
  by_cases hn : 0 ≤ n ∧ n ≤ 1000000000000
  · have e1 := Var.var_in hn.1 hn.2
    have HE := Lib.hid e1
    have H := Lib.hid h
    have hin := fun wx => Num.specIn_true hn.1 hn.2 wx
    have HI := Lib.hid hin
    obtain ⟨hn1, hn2⟩ := hn
    clear e1 h hin
    go_enter Tryz.func85, Tryz.ntmps85
    go_wp2_with (at_builtin; refine wpList_app (k := .u8) (B := w.heap.size) (l := []) (m := l) rfl _ _ rfl Tryz.underlying22 elemBYTE rfl rfl rfl (own_empty .u8 _ w) (H.out.on ((Below.refl _ _).alloc (Nat.le_refl _) _)) ?_ (by decide) ?_ ?_)
    · have := HM.out; simp; omega
    · simp
    intro v1 w1 ho hg
    have hb : Below w.heap.size w w1 := ((Below.refl _ _).alloc (Nat.le_refl _) _).grown hg (by simp) (fun k hk => by cases hk; exact Nat.le_refl _)
    have HO := Lib.hid ho; have HB := Lib.hid hb
    clear ho hb hg
    go_wp2_with fail
    refine (HI.out _).mono ?_
    rintro e w' ⟨rfl, rfl⟩
    go_wp2_with fail
    go_loopw [1, 5] (fun nv bv wr => ∃ (y : Int) (p : List Int), nv = .int .i64 y ∧ 0 ≤ y ∧ y ≤ 1000000000000 ∧ Hid (p ++ Var.enc y.toNat = Var.enc n.toNat) ∧ Hid (Own 5 .u8 w.heap.size wr bv (l ++ p)) ∧ Hid (Below w.heap.size w wr)) (fun nv _ _ => (intOf nv).toNat)
    case atStart => exact ⟨n, [], rfl, hn1, hn2, Lib.hid rfl, by rw [List.append_nil]; exact HO, HB⟩
    case round =>
      obtain ⟨y, p, rfl, y0, y1, he, ho, hb⟩ := hrel
      have hpl : p.length ≤ 6 := by
        have e1 := congrArg List.length he.out
        have e2 := Var.enc_len6 (n := n.toNat) (by omega)
        have e3 := Var.enc_pos y.toNat
        simp at e1; omega
      by_cases hlt : 127 < y
      · have a1 := i64_and127 y
        have a2 := or128 (n := y % 128) (by omega) (by omega)
        have HS := Lib.hid (Var.enc_step (n := y) (by omega))
        go_wp2_with (at_builtin; refine wpList_app (k := .u8) (B := w.heap.size) (l := l ++ p) (m := [y % 128 + 128]) rfl _ _ rfl Tryz.underlying22 elemBYTE rfl rfl rfl (ho.out.on ((Below.refl _ _).alloc (Nat.le_refl _) _)) (holds_one .u8 _ _ _) ?_ (by decide) ?_ ?_)
        · have := HM.out; simp; omega
        · have := hb.out.size; simp; omega
        intro v2 w2 ho2 hg
        have hb2 : Below w.heap.size w w2 := ((hb.out).alloc hb.out.size _).grown hg (by have := hb.out.size; simp; omega) (fun g hk => (ho.out.lt g hk).1)
        have HO2 := Lib.hid ho2; have HB2 := Lib.hid hb2
        clear ho2 hb2 hg a1 a2
        go_wp2_with fail
        go_roundw
        case rel => exact ⟨y / 128, p ++ [y % 128 + 128], rfl, by omega, by omega, Lib.hid (by rw [List.append_assoc, ← he.out, HS.out]; rfl), HO2, HB2⟩
        case measure => simp [intOf]; omega
      · have HS := Lib.hid (Var.enc_last (n := y) (by omega) (by omega))
        go_wp2_with (at_builtin; refine wpList_app (k := .u8) (B := w.heap.size) (l := l ++ p) (m := [y]) rfl _ _ rfl Tryz.underlying22 elemBYTE rfl rfl rfl (ho.out.on ((Below.refl _ _).alloc (Nat.le_refl _) _)) (holds_one .u8 _ _ _) ?_ (by decide) ?_ ?_)
        · have := HM.out; simp; omega
        · have := hb.out.size; simp; omega
        intro v2 w2 ho2 hg
        have hb2 : Below w.heap.size w w2 := ((hb.out).alloc hb.out.size _).grown hg (by have := hb.out.size; simp; omega) (fun g hk => (ho.out.lt g hk).1)
        have HO2 := Lib.hid ho2; have HB2 := Lib.hid hb2
        clear ho2 hb2 hg
        go_wp2_with fail
        go_ret
        exact ⟨_, rfl, by rw [HE.out, ← he.out, HS.out]; exact HO2.out, HB2.out⟩
  · have e1 := Var.var_out hn
    have HE := Lib.hid e1
    have H := Lib.hid h
    have hin := fun wx => Num.specIn_false hn wx
    have HI := Lib.hid hin
    clear e1 h hin hn
    go_enter Tryz.func85, Tryz.ntmps85
    go_wp2_with (at_builtin; refine wpList_app (k := .u8) (B := w.heap.size) (l := []) (m := l) rfl _ _ rfl Tryz.underlying22 elemBYTE rfl rfl rfl (own_empty .u8 _ w) (H.out.on ((Below.refl _ _).alloc (Nat.le_refl _) _)) ?_ (by decide) ?_ ?_)
    · have := HM.out; simp; omega
    · simp
    intro v1 w1 ho hg
    have hb : Below w.heap.size w w1 := ((Below.refl _ _).alloc (Nat.le_refl _) _).grown hg (by simp) (fun k hk => by cases hk; exact Nat.le_refl _)
    have HO := Lib.hid ho; have HB := Lib.hid hb
    clear ho hb hg
    go_wp2_with fail
    refine (HI.out _).mono ?_
    rintro e w' ⟨rfl, rfl⟩
    go_wp2_with fail
    go_ret
    exact ⟨_, rfl, by rw [HE.out, List.append_nil]; exact HO.out, HB.out⟩

/-- What a call leaves that lengthens a slice: a slice of the call's own, from block B on. -/
def GrowsB (B : Nat) (w : World) (l : List Int) (e : Ending) (w' : World) : Prop := ∃ v, e = .returned v ∧ Own 5 .u8 B w' v l ∧ Below B w w'

set_option maxHeartbeats 1000000 in
theorem addVarint (B : Nat) (v : Value) (l : List Int) (n : Int) (w : World) (h : Fits 5 .u8 B w v l) (hB : B ≤ w.heap.size) (hl : l.length ≤ 100000000) (hn1 : 0 ≤ n) (hn2 : n ≤ 1000000000000) :
    Calls Tryz.prog 150 #[v, .int .i64 n] w (GrowsB B w (l ++ Var.var n)) := by
  have e1 := Var.var_in hn1 hn2
  have HE := Lib.hid e1
  have H := Lib.hid h
  have hin := fun wx => Num.implIn_true hn1 hn2 wx
  have HI := Lib.hid hin
  clear e1 h hin
  go_enter Tryz.func150, Tryz.ntmps150
  go_wp2_with fail
  refine (HI.out _).mono ?_
  rintro e w' ⟨rfl, rfl⟩
  go_wp2_with fail
  go_loopw [0, 1] (fun bv nv wr => ∃ (y : Int) (p : List Int), nv = .int .i64 y ∧ 0 ≤ y ∧ y ≤ 1000000000000 ∧ Hid (p ++ Var.enc y.toNat = Var.enc n.toNat) ∧ Hid (Fits 5 .u8 B wr bv (l ++ p)) ∧ Hid (Below B w wr)) (fun _ nv _ => (intOf nv).toNat)
  case atStart => exact ⟨n, [], rfl, hn1, hn2, Lib.hid rfl, by rw [List.append_nil]; exact H, Lib.hid (Below.refl _ _)⟩
  case round =>
    obtain ⟨y, p, rfl, y0, y1, he, ho, hb⟩ := hrel
    have hpl : p.length ≤ 6 := by
      have e1 := congrArg List.length he.out
      have e2 := Var.enc_len6 (n := n.toNat) (by omega)
      have e3 := Var.enc_pos y.toNat
      simp at e1; omega
    by_cases hlt : 128 ≤ y
    · have HS := Lib.hid (Var.enc_step (n := y) (by omega))
      go_wp2_with (at_builtin; refine wpList_app_fit (k := .u8) (B := B) (l := l ++ p) (m := [y % 128 + 128]) rfl _ _ rfl Tryz.underlying22 elemBYTE rfl rfl rfl (ho.out.on ((Below.refl _ _).alloc (Nat.le_refl _) _)) ?_ (by simp) ?_ (by decide) ?_ ?_)
      · rw [show y % 128 + 128 = 128 + y % 128 by omega]; exact holds_one .u8 _ _ _
      · first | omega | (simp; omega)
      · have := hb.out.size; first | omega | (simp; omega)
      intro v2 w2 ho2 hg
      have hb2 : Below B w w2 := ((hb.out).alloc (by have := hb.out.size; omega) _).trans hg
      have HO2 := Lib.hid (Or.inl ho2 : Fits 5 .u8 B w2 v2 _); have HB2 := Lib.hid hb2
      clear ho2 hb2 hg
      go_wp2_with fail
      go_roundw
      case rel => exact ⟨y / 128, p ++ [y % 128 + 128], rfl, by omega, by omega, Lib.hid (by rw [List.append_assoc, ← he.out, HS.out]; rfl), HO2, HB2⟩
      case measure => simp [intOf]; omega
    · have HS := Lib.hid (Var.enc_last (n := y) (by omega) (by omega))
      go_wp2_with (at_builtin; refine wpList_app_fit (k := .u8) (B := B) (l := l ++ p) (m := [y]) rfl _ _ rfl Tryz.underlying22 elemBYTE rfl rfl rfl (ho.out.on ((Below.refl _ _).alloc (Nat.le_refl _) _)) (holds_one .u8 _ _ _) (by simp) ?_ (by decide) ?_ ?_)
      · first | omega | (simp; omega)
      · have := hb.out.size; first | omega | (simp; omega)
      intro v2 w2 ho2 hg
      have hb2 : Below B w w2 := ((hb.out).alloc (by have := hb.out.size; omega) _).trans hg
      have HO2 := Lib.hid ho2; have HB2 := Lib.hid hb2
      clear ho2 hb2 hg
      go_wp2_with fail
      go_ret
      exact ⟨_, rfl, by rw [HE.out, ← he.out, HS.out]; exact HO2.out, HB2.out⟩

set_option maxHeartbeats 1000000 in
theorem implAppendVarint (v : Value) (l : List Int) (n : Int) (w : World) (h : Holds .u8 w v l) (hl : l.length ≤ 100000000) :
    Calls Tryz.prog 83 #[v, .int .i64 n] w (GivesB w (l ++ Var.var n)) := by
  obtain ⟨x, cap, rfl, hcap, hh⟩ := h.shape
  by_cases hn : 0 ≤ n ∧ n ≤ 1000000000000
  · have hin := fun wx => Num.implIn_true hn.1 hn.2 wx
    have HI := Lib.hid hin
    have ha := fun x' hx' => addVarint w.heap.size (.slice x' l.length l.length) l n w (Or.inr ⟨x', rfl, hx'⟩) (Nat.le_refl _) hl hn.1 hn.2
    have HA := Lib.hid ha
    have hf : Holds .u8 w (.slice x l.length l.length) l := by
      obtain ⟨x', cap', hv, hc, hh⟩ := hh
      cases hv
      exact ⟨x, l.length, rfl, Nat.le_refl _, hh⟩
    have HF := Lib.hid hf
    obtain ⟨hn1, hn2⟩ := hn
    clear hin ha hf hh h
    go_enter Tryz.func83, Tryz.ntmps83
    go_wp2_with fail
    refine (HI.out _).mono ?_
    rintro e w' ⟨rfl, rfl⟩
    go_wp2_with fail
    refine (HA.out _ HF.out).mono ?_
    rintro e w' ⟨v', rfl, ho, hb⟩
    have HO := Lib.hid ho; have HB := Lib.hid hb
    clear ho hb
    go_wp2_with fail
    go_ret
    exact ⟨_, rfl, HO.out, HB.out⟩
  · have e1 := Var.var_out hn
    have HE := Lib.hid e1
    have hin := fun wx => Num.implIn_false hn wx
    have HI := Lib.hid hin
    obtain ⟨m, hm⟩ : ∃ m, m = l.length := ⟨_, rfl⟩
    rw [← hm] at hcap hh hl ⊢
    have HM := Lib.hid hm
    have HF := Lib.hid hh
    clear e1 hin hn hh hm h
    go_enter Tryz.func83, Tryz.ntmps83
    go_wp2_with fail
    refine (HI.out _).mono ?_
    rintro e w' ⟨rfl, rfl⟩
    go_wp2_with (at_builtin; refine wpList_app (k := .u8) (B := w.heap.size) (l := []) (m := l) rfl _ _ rfl Tryz.underlying22 elemBYTE rfl rfl rfl (own_empty .u8 _ w) (HF.out.on ((Below.refl _ _).alloc (Nat.le_refl _) _)) ?_ (by decide) ?_ ?_)
    · have := HM.out; simp; omega
    · simp
    intro v1 w1 ho hg
    have hb : Below w.heap.size w w1 := ((Below.refl _ _).alloc (Nat.le_refl _) _).grown hg (by simp) (fun k hk => by cases hk; exact Nat.le_refl _)
    have HO := Lib.hid ho; have HB := Lib.hid hb
    clear ho hb hg
    go_wp2_with fail
    go_ret
    exact ⟨_, rfl, by rw [HE.out, List.append_nil]; exact HO.out, HB.out⟩
end Go.Proofs.YtcidfmmeonhkhaaGreatDoor.Sl
/- Contracts of ReadVarint, the reference model's and the program's: what the groups at the offset make, the offset behind them, true; or 0, 0 and false. Nothing in memory turns. No conditions but that the elements are bytes and the length fits. -/
namespace Go.Proofs.YtcidfmmeonhkhaaGreatDoor.Sl
open Go.ChangeShapes Go.WideShapes Go.ChangeAt Go.RowKit Go.Instr
set_option linter.unusedVariables false
set_option maxRecDepth 100000

/-- The three results of ReadVarint. -/
def rdV (r : Int × Int × Bool) : Value := .tuple #[.int .i64 r.1, .int .i64 r.2.1, .bool r.2.2]
end Go.Proofs.YtcidfmmeonhkhaaGreatDoor.Sl
/- Contracts of the program's ReadVarint: what the groups at the offset make, the offset behind them, true; or 0, 0 and false. What was in memory stays as it was. No conditions but that the elements are bytes and the length fits. -/
namespace Go.Proofs.YtcidfmmeonhkhaaGreatDoor.Sl
open Go.ChangeShapes Go.WideShapes Go.ChangeAt Go.RowKit Go.Instr
set_option linter.unusedVariables false
set_option maxRecDepth 100000

end Go.Proofs.YtcidfmmeonhkhaaGreatDoor.Sl
/- Contracts of AppendBytes, EqualBytes and EncodeInts, the reference model's and the program's. Slices that are returned lie in memory of the call's own. No conditions but that lengths fit and that the elements are bytes. -/
namespace Go.Proofs.YtcidfmmeonhkhaaGreatDoor.Sl
open Go.ChangeShapes Go.WideShapes Go.ChangeAt Go.RowKit Go.Instr
set_option linter.unusedVariables false
set_option maxRecDepth 100000

set_option maxHeartbeats 1000000 in
theorem specAppendBytes (v u : Value) (l m : List Int) (w : World) (h : Holds .u8 w v l) (g : Holds .u8 w u m) (hl : l.length ≤ 10000000) (hm : m.length ≤ 10000000) :
    Calls Tryz.prog 224 #[v, u] w (GivesB w (l ++ Var.var m.length ++ m)) := by
  obtain ⟨x, cap, rfl, hcap, hg⟩ := g.shape
  have H := Lib.hid h; have G := Lib.hid hg
  clear h g hg
  go_enter Tryz.func224, Tryz.ntmps224
  go_wp2_with fail
  refine (specAppendVarint _ l m.length _ H.out (by omega)).mono ?_
  rintro e w1 ⟨v1, rfl, ho, hb⟩
  have HO := Lib.hid ho; have HB := Lib.hid hb
  have hv := Var.var_len m.length
  clear ho hb
  go_wp2_with (at_builtin; refine wpList_app (k := .u8) (B := w.heap.size) (l := l ++ Var.var m.length) (m := m) rfl _ _ rfl Tryz.underlying22 elemBYTE rfl rfl rfl HO.out (G.out.on HB.out) ?_ (by decide) ?_ ?_)
  · rw [List.length_append]; omega
  · exact HB.out.size
  intro v2 w2 ho hg
  have hb2 := HB.out.grown hg (by have := HB.out.size; omega) (fun k hk => (HO.out.lt k hk).1)
  have HO2 := Lib.hid ho; have HB2 := Lib.hid hb2
  clear ho hg hb2
  go_wp2_with fail
  go_ret
  exact ⟨_, rfl, by rw [List.append_assoc]; exact HO2.out, HB2.out⟩

set_option maxHeartbeats 1000000 in
theorem implAppendBytes (v u : Value) (l m : List Int) (w : World) (h : Holds .u8 w v l) (g : Holds .u8 w u m) (hl : l.length ≤ 10000000) (hm : m.length ≤ 10000000) :
    Calls Tryz.prog 232 #[v, u] w (GivesB w (l ++ Var.var m.length ++ m)) := by
  obtain ⟨x, cap, rfl, hcap, hg⟩ := g.shape
  have H := Lib.hid h; have G := Lib.hid hg
  clear h g hg
  go_enter Tryz.func232, Tryz.ntmps232
  go_wp2_with fail
  refine (implAppendVarint _ l m.length _ H.out (by omega)).mono ?_
  rintro e w1 ⟨v1, rfl, ho, hb⟩
  have HO := Lib.hid ho; have HB := Lib.hid hb
  have hv := Var.var_len m.length
  clear ho hb
  go_wp2_with (at_builtin; refine wpList_app (k := .u8) (B := w.heap.size) (l := l ++ Var.var m.length) (m := m) rfl _ _ rfl Tryz.underlying22 elemBYTE rfl rfl rfl HO.out (G.out.on HB.out) ?_ (by decide) ?_ ?_)
  · rw [List.length_append]; omega
  · exact HB.out.size
  intro v2 w2 ho hg
  have hb2 := HB.out.grown hg (by have := HB.out.size; omega) (fun k hk => (HO.out.lt k hk).1)
  have HO2 := Lib.hid ho; have HB2 := Lib.hid hb2
  clear ho hg hb2
  go_wp2_with fail
  go_ret
  exact ⟨_, rfl, by rw [List.append_assoc]; exact HO2.out, HB2.out⟩

/-! ### EqualBytes -/
theorem conv_holds {x : Option Addr} {cap : Nat} {l : List Int} {w : World} (h : Holds .u8 w (.slice x l.length cap) l) :
    (convert 22 9 (.slice x l.length cap)).run Tryz.prog w = .ok (.string (strOfNums l)) w := by
  obtain ⟨x', cap', hv, hc, hh⟩ := h
  cases hv
  rcases hh with rfl | ⟨b, off, rfl, hc⟩
  · cases x with
    | none => exact run_convert_bytes_nil w 22 5 Tryz.underlying22 Tryz.underlying5 _ _ 9 Tryz.underlying9
    | some a => exact run_convert_bytes_back w 22 9 5 a cap [] Tryz.underlying22 Tryz.underlying5 Tryz.underlying9 (fun j hj => absurd hj (by simp))
  · exact run_convert_bytes_arg w 22 5 Tryz.underlying22 Tryz.underlying5 b off l.length cap l rfl hc 9 Tryz.underlying9

theorem str_eqB {l m : List Int} (hl : Byt l) (hm : Byt m) : ((strOfNums l).toList == (strOfNums m).toList) = eqB l m := by
  have inj : ∀ (a b : List Int), Byt a → Byt b → (a.map fun n => UInt8.ofNat n.toNat) = (b.map fun n => UInt8.ofNat n.toNat) → a = b := by
    intro a
    induction a with
    | nil => intro b _ _ h; cases b with
      | nil => rfl
      | cons _ _ => simp at h
    | cons x r ih =>
      intro b ha hb h
      cases b with
      | nil => simp at h
      | cons y s =>
        simp only [List.map_cons, List.cons.injEq] at h
        have h1 := ha x (by simp)
        have h2 := hb y (by simp)
        have h3 := congrArg UInt8.toNat h.1
        simp at h3
        have h4 : x = y := by omega
        rw [h4, ih s (fun z hz => ha z (by simp [hz])) (fun z hz => hb z (by simp [hz])) h.2]
  rw [Bool.eq_iff_iff]
  unfold eqB
  rw [beq_iff_eq, decide_eq_true_iff, ByteArray.toList_eq, ByteArray.toList_eq, strOfNums_data, strOfNums_data]
  exact ⟨inj l m hl hm, fun h => by rw [h]⟩

set_option maxHeartbeats 1000000 in
theorem specEqualBytes (v u : Value) (l m : List Int) (w : World) (h : Holds .u8 w v l) (g : Holds .u8 w u m) (hl : Byt l) (hm : Byt m) :
    Calls Tryz.prog 72 #[v, u] w fun e w' => e = .returned (.bool (eqB l m)) ∧ w = w' := by
  obtain ⟨x, cx, rfl, hcx, hh⟩ := h.shape
  obtain ⟨y, cy, rfl, hcy, hg⟩ := g.shape
  have e1 := conv_holds hh
  have e2 := conv_holds hg
  have HE := Lib.hid (str_eqB hl hm)
  clear h hh g hg hl hm
  go_enter Tryz.func72, Tryz.ntmps72
  go_wp2_with fail
  go_ret
  exact ⟨ret_bool HE.out, rfl⟩

set_option maxHeartbeats 1000000 in
theorem libEqual (v u : Value) (l m : List Int) (w : World) (h : Holds .u8 w v l) (g : Holds .u8 w u m) (hl : Byt l) (hm : Byt m) :
    Calls Tryz.prog 138 #[v, u] w fun e w' => e = .returned (.bool (eqB l m)) ∧ w = w' := by
  obtain ⟨x, cx, rfl, hcx, hh⟩ := h.shape
  obtain ⟨y, cy, rfl, hcy, hg⟩ := g.shape
  have e1 := conv_holds hh
  have e2 := conv_holds hg
  have HE := Lib.hid (str_eqB hl hm)
  clear h hh g hg hl hm
  go_enter Tryz.func138, Tryz.ntmps138
  go_wp2_with fail
  go_ret
  exact ⟨ret_bool HE.out, rfl⟩

theorem implEqualBytes (v u : Value) (l m : List Int) (w : World) (h : Holds .u8 w v l) (g : Holds .u8 w u m) (hl : Byt l) (hm : Byt m) :
    Calls Tryz.prog 68 #[v, u] w fun e w' => e = .returned (.bool (eqB l m)) ∧ w = w' := by
  have hc := libEqual v u l m w h g hl hm
  have HC := Lib.hid hc
  clear hc h g hl hm
  go_enter Tryz.func68, Tryz.ntmps68
  go_wp2_with fail
  refine HC.out.mono ?_
  rintro e w' ⟨rfl, rfl⟩
  go_wp2_with fail
  go_ret
  exact ⟨rfl, rfl⟩
end Go.Proofs.YtcidfmmeonhkhaaGreatDoor.Sl
/- Contracts of EncodeInts, the reference model's and the program's: the numbers' groups, one number after the other, in memory of the call's own. No conditions but that lengths fit. -/
namespace Go.Proofs.YtcidfmmeonhkhaaGreatDoor.Sl
open Go.ChangeShapes Go.WideShapes Go.ChangeAt Go.RowKit Go.Instr
set_option linter.unusedVariables false
set_option maxRecDepth 100000

/-- The groups of the first k numbers. -/
def encs (l : List Int) : List Int := l.flatMap Var.var
end Go.Proofs.YtcidfmmeonhkhaaGreatDoor.Sl
/- Contracts of the model's functions on interests: AppendName. No conditions but that lengths fit. -/
namespace Go.Proofs.YtcidfmmeonhkhaaGreatDoor.Row
open Go.ChangeShapes Go.WideShapes Go.ChangeAt Go.RowKit Go.Instr
set_option linter.unusedVariables false
set_option maxRecDepth 100000

/-- The parts' encodings, one behind the other. -/
def encPs (l : List ByteArray) : List Int := l.flatMap fun s => Var.var s.size ++ Sl.bytesOf s
def encN (l : List ByteArray) : List Int := Var.var l.length ++ encPs l
def appName (b : List Int) (l : List ByteArray) : List Int := if validN l = true then b ++ encN l else b
theorem encPs_next {l : List ByteArray} {k : Nat} (h : k < l.length) : encPs (l.take (k + 1)) = encPs (l.take k) ++ (Var.var (nth l k).size ++ Sl.bytesOf (nth l k)) := by
  unfold encPs
  rw [List.take_succ_eq_append_getElem h, List.flatMap_append, nth_eq h]
  simp
theorem encPs_len : ∀ l : List ByteArray, (encPs l).length ≤ 6 * bulk l
  | [] => by simp [encPs]
  | s :: r => by
    have h1 := encPs_len r
    have h2 := Var.var_len s.size
    have h3 : encPs (s :: r) = (Var.var s.size ++ Sl.bytesOf s) ++ encPs r := by simp [encPs]
    have h4 : bulk (s :: r) = 1 + s.size + bulk r := by simp [bulk_cons]
    rw [h3, List.length_append, List.length_append, Sl.bytesOf_length]
    omega
theorem bulk_take_le (l : List ByteArray) (k : Nat) : bulk (l.take k) ≤ bulk l := by
  have := bulk_append (l.take k) (l.drop k)
  rw [List.take_append_drop] at this
  omega
theorem size_bulk {l : List ByteArray} {k : Nat} (h : k < l.length) : (nth l k).size ≤ bulk l := by
  have h1 := bulk_append (l.take k) (l.drop k)
  rw [List.take_append_drop, List.drop_eq_getElem_cons h, bulk_cons, ← nth_eq h] at h1
  omega

set_option maxHeartbeats 2000000 in
theorem specAppendName (v u : Value) (b : List Int) (l : List ByteArray) (w : World) (h : Sl.Holds .u8 w v b) (g : Holds Value.string w u l) (hb : b.length ≤ 2000000) (hl : bulk l ≤ 1200000) :
    Calls Tryz.prog 207 #[v, .agg #[u]] w (Sl.GivesB w (appName b l)) := by
  obtain ⟨x, cx, rfl, hcx, hh⟩ := h.shape
  obtain ⟨y, q, cy, rfl, hq, hcy, hg⟩ := g.shapeN
  obtain ⟨m, hm⟩ : ∃ m, m = b.length := ⟨_, rfl⟩
  rw [← hm] at hcx hh hb ⊢
  have HM := Lib.hid hm; have HQ := Lib.hid hq
  have hb0 := (Below.refl w.heap.size w).alloc (Nat.le_refl _) (.cells #[.slice y q cy] 32)
  have hb1 := hb0.alloc (by simp) (.cells #[] 5)
  have HB1 := Lib.hid hb1
  have HH := Lib.hid (hh.on hb1)
  have HG := Lib.hid (hg.on hb1)
  have HX := Lib.hid ((Ret.Box.new w (.slice y q cy) 32).on ((Below.refl _ _).alloc (Nat.le_refl _) (.cells #[] 5)))
  have hoe := Sl.own_empty .u8 5 (w.alloc (.cells #[.slice y q cy] 32))
  rw [World.size_alloc] at hoe
  have HOE := Lib.hid hoe
  have HBL := Lib.hid hl
  have HG0 := Lib.hid hg
  have hql : q ≤ 1200000 := by rw [hq]; exact Nat.le_trans (bulk_len l) hl
  clear hh h g hg hm hq hb0 hb1 hoe
  go_enter Tryz.func207, Tryz.ntmps207
  go_wp2_with (at_builtin; refine Sl.wpList_app (k := .u8) (B := w.heap.size + 1) (l := []) (m := b) rfl _ _ rfl Tryz.underlying22 Sl.elemBYTE rfl rfl rfl HOE.out HH.out ?_ (by decide) ?_ ?_)
  · have := HM.out; simp; omega
  · simp
  intro v1 w1 ho hg
  have HB := Lib.hid (HB1.out.grown hg (by simp; omega) (fun g e => by cases e; exact Nat.le_succ _))
  have HO := Lib.hid (show Sl.Own 5 .u8 w.heap.size w1 v1 b from ho.mono (Nat.le_succ _))
  have HX1 := Lib.hid (HX.out.grown hg (by simp [Value.ownBlock]))
  have HG1 := Lib.hid (HG0.out.on HB.out)
  have hx1 := HX1.out.cell
  clear ho hg HX HOE HH HG
  obtain ⟨ok, hok⟩ : ∃ z, validN l = z := ⟨_, rfl⟩
  have HOK := Lib.hid hok
  go_wp2_with fail
  refine (specValidName _ l _ HG1.out (by omega)).mono ?_
  rintro e w2 ⟨rfl, hb2⟩
  rw [hok]
  have HB2 := Lib.hid (HB.out.trans (hb2.mono HB.out.size))
  have HO2 := Lib.hid (HO.out.on hb2)
  have HX2 := Lib.hid (HX1.out.on hb2)
  have hx2 := HX2.out.cell
  clear hb2 hok hx1
  cases ok with
  | false =>
    have HV : Hid (appName b l = b) := Lib.hid (by unfold appName; rw [if_neg (by rw [HOK.out]; simp)])
    go_wp2_with fail
    go_ret
    exact ⟨_, rfl, by rw [HV.out]; exact HO2.out, HB2.out⟩
  | true =>
    have HV : Hid (appName b l = b ++ encN l) := Lib.hid (by unfold appName; rw [if_pos HOK.out])
    go_wp2_with fail
    refine (Sl.specAppendVarint _ b q _ HO2.out.holds (by rw [← HM.out]; omega)).mono ?_
    rintro e w3 ⟨v3, rfl, ho3, hb3⟩
    have HO3 := Lib.hid (show Sl.Own 5 .u8 w.heap.size w3 v3 (b ++ Var.var q ++ encPs (l.take 0)) by rw [List.take_zero, show encPs [] = [] from rfl, List.append_nil]; exact ho3.mono HB2.out.size)
    have HB3 := Lib.hid (HB2.out.trans (hb3.mono HB2.out.size))
    have HX3 := Lib.hid (HX2.out.on hb3)
    clear ho3 hb3 hx2
    have hx3 := HX3.out.cell
    go_wp2_with fail
    go_loopw [5, 6] (fun tv iv wr => ∃ k : Nat, k ≤ q ∧ iv = .int .i64 k ∧ Hid (Sl.Own 5 .u8 w.heap.size wr tv (b ++ Var.var q ++ encPs (l.take k))) ∧ Hid (Below w.heap.size w wr) ∧ Hid (Ret.Box wr w.heap.size (.slice y q cy) 32)) (fun _ iv _ => q - (intOf iv).toNat)
    case atStart => exact ⟨0, Nat.zero_le _, rfl, HO3, HB3, HX3⟩
    case round =>
      obtain ⟨k, hk, rfl, hO, hB, hX⟩ := hrel
      have hxr := hX.out.cell
      by_cases hlt : k < q
      · obtain ⟨b0, off0, hy, hc⟩ := (HG0.out.on hB.out).at (j := k) (by rw [← HQ.out]; exact hlt)
        subst hy
        have hsz : (nth l k).size ≤ 1200000 := by
          have h2 := size_bulk (l := l) (k := k) (by rw [← HQ.out]; exact hlt)
          have h3 := HBL.out
          omega
        have hle : (encPs (l.take k)).length ≤ 7200000 := by
          have h1 := encPs_len (l.take k)
          have h2 := bulk_take_le l k
          have h3 := HBL.out
          omega
        have hll : (b ++ Var.var q ++ encPs (l.take k)).length ≤ 10000000 := by
          have h1 := Var.var_len q
          rw [List.length_append, List.length_append, ← HM.out]; omega
        have HN := Lib.hid (encPs_next (l := l) (k := k) (by rw [← HQ.out]; exact hlt))
        obtain ⟨cp, wc', e0, h0, b0'⟩ := Sl.conv_bytes wr (nth l k)
        have H0 := Lib.hid h0; have B0 := Lib.hid b0'
        have HLL := Lib.hid hll
        clear h0 b0' hle hll
        go_wp2_with fail
        refine (Sl.specAppendBytes _ _ (b ++ Var.var q ++ encPs (l.take k)) (Sl.bytesOf (nth l k)) wc' (hO.out.on B0.out).holds H0.out HLL.out (by rw [Sl.bytesOf_length]; omega)).mono ?_
        rintro e w4 ⟨v4, rfl, ho4, hb4⟩
        have HB4 := Lib.hid ((hB.out.trans (B0.out.mono hB.out.size)).trans (hb4.mono (Nat.le_trans hB.out.size B0.out.size)))
        have HO4 := Lib.hid (show Sl.Own 5 .u8 w.heap.size w4 v4 (b ++ Var.var q ++ encPs (l.take (k + 1))) by
          have h9 := ho4.mono (Nat.le_trans hB.out.size B0.out.size)
          rw [HN.out, ← List.append_assoc, ← Sl.bytesOf_length, ← List.append_assoc]
          exact h9)
        have HX4 := Lib.hid ((hX.out.on B0.out).on hb4)
        clear ho4 hb4 e0 hxr hc
        go_wp2_with fail
        go_roundw
        case rel => exact ⟨k + 1, by omega, by go_num, HO4, HB4, HX4⟩
        case measure => simp [intOf]; omega
      · obtain rfl : k = q := by omega
        clear hlt
        go_wp2_with fail
        go_ret
        refine ⟨_, rfl, ?_, hB.out⟩
        have h9 := hO.out
        rw [HQ.out, List.take_length] at h9
        rw [HV.out]
        unfold encN
        rw [← List.append_assoc]
        exact h9
end Go.Proofs.YtcidfmmeonhkhaaGreatDoor.Row
/- Contracts of the model's functions on interests: validity, copy, equality, the hop limit. No conditions but that lengths fit. -/
namespace Go.Proofs.YtcidfmmeonhkhaaGreatDoor.Row
open Go.ChangeShapes Go.WideShapes Go.ChangeAt Go.RowKit Go.Instr
set_option linter.unusedVariables false
set_option maxRecDepth 100000

abbrev Wt := List ByteArray × Int × Int × Int
def validW (x : Wt) : Bool := validN x.1 && decide (0 < x.1.length) && decide (0 ≤ x.2.1 ∧ x.2.1 ≤ 1000000) && decide (0 ≤ x.2.2.1 ∧ x.2.2.1 ≤ 16) && decide (1 ≤ x.2.2.2 ∧ x.2.2.2 ≤ 20)
/-- A result that is an interest whose name is the call's own. -/
def GivesW (w : World) (x : Wt) (e : Ending) (w' : World) : Prop := ∃ v', e = .returned (.agg (wc v' x.2.1 x.2.2.1 x.2.2.2)) ∧ Own 9 Value.string w.heap.size w' v' x.1 ∧ Below w.heap.size w w'
def GivesWB (w : World) (x : Wt) (z : Bool) (e : Ending) (w' : World) : Prop := ∃ v', e = .returned (.tuple #[.agg (wc v' x.2.1 x.2.2.1 x.2.2.2), .bool z]) ∧ Own 9 Value.string w.heap.size w' v' x.1 ∧ Below w.heap.size w w'

def decW (x : Wt) : Wt := if x.2.2.1 < 1 then x else (x.1, x.2.1, x.2.2.1 - 1, x.2.2.2)
def decOk (x : Wt) : Bool := decide (1 ≤ x.2.2.1)
end Go.Proofs.YtcidfmmeonhkhaaGreatDoor.Row
/- Contracts of ReadBytes, the reference model's and the program's: the bytes behind the length at the offset, the offset behind them, true; or an empty slice, 0 and false. What is returned lies in memory of the call's own. No conditions but that the elements are bytes and the lengths fit. -/
namespace Go.Proofs.YtcidfmmeonhkhaaGreatDoor.Sl
open Go.ChangeShapes Go.WideShapes Go.ChangeAt Go.RowKit Go.Instr
set_option linter.unusedVariables false
set_option maxRecDepth 100000

/-- What ReadBytes returns. -/
def readB (l : List Int) (i most : Int) : List Int × Int × Bool :=
  let r := Var.readV l i
  if r.2.2 = false ∨ most < r.1 ∨ (l.length : Int) - r.2.1 < r.1 then ([], 0, false)
  else ((l.drop r.2.1.toNat).take r.1.toNat, r.2.1 + r.1, true)
theorem holds_empty (k : IntKind) (w : World) (x : Option Addr) (c : Nat) : Holds k w (.slice x 0 c) [] := ⟨x, c, rfl, by simp, Or.inl rfl⟩

def GivesB3 (w : World) (l : List Int) (n : Int) (ok : Bool) (e : Ending) (w' : World) : Prop := ∃ v, e = .returned (.tuple #[v, .int .i64 n, .bool ok]) ∧ Own 5 .u8 w.heap.size w' v l ∧ Below w.heap.size w w'
theorem GivesB3.of {w w' : World} {v : Value} {l m : List Int} {n p : Int} {a b : Bool} (h : (l, n, a) = (m, p, b)) (ho : Own 5 .u8 w.heap.size w' v l) (hb : Below w.heap.size w w') :
    GivesB3 w m p b (.returned (.tuple #[v, .int .i64 n, .bool a])) w' := by
  cases h; exact ⟨v, rfl, ho, hb⟩

end Go.Proofs.YtcidfmmeonhkhaaGreatDoor.Sl
/- Contract of the model's EncodeInterest. No conditions but that lengths fit. -/
namespace Go.Proofs.YtcidfmmeonhkhaaGreatDoor.Sl
open Go.ChangeShapes Go.WideShapes Go.ChangeAt Go.RowKit Go.Instr
set_option linter.unusedVariables false
/-- append to a slice of numbers of the call's own, as a step of a statement that draws its order. -/
theorem step_app2 {P : Program} {ops : Array Oper} {o : Oper} {a : Act} {w : World} {K : Act → World → Prop} {Q : Exit → Act → World → Prop} {E : Prop} {k : IntKind} {e t : TypeId} {bytes : Nat} {z : Value}
    (hg : o.guard = none) (s x : Operand) (hop : o.op = Op.call { callee := Callee.builtin Builtin.append, args := #[s, x], argTypes := #[t, t] }) (ht : P.underlying t = some (.slice e)) (hi : Elem P e z bytes) (hz : z.cells.size = 1)
    {B : Nat} {v : Value} {ad : Addr} {n c : Nat} {l m : List Int} (hs : a.eval s = v) (hx : a.eval x = .slice (some ad) n c) (hown : Own e k B w v l) (hsrc : Holds k w (.slice (some ad) n c) m) (hlen : (l.length + m.length) * 8 ≤ 140737488355328) (hby : bytes ≤ 8) (hB : B ≤ w.heap.size)
    (hK : ∀ v' w', Own e k B w' v' (l ++ m) → w.grownBy w' v.ownBlock → K (a.put o.dst v') w') :
    if Region.wanted o (yielded ops a.tmps) = true then Oper.wp P o a w K Q else E := by
  have hw : Region.wanted o (yielded ops a.tmps) = true := by simp [Region.wanted, hg]
  rw [if_pos hw]
  obtain ⟨i, h1, h2, h3, h4⟩ := info_parts hi
  have hbytes : (l.length + m.length) * bytes ≤ 140737488355328 := Nat.le_trans (Nat.mul_le_mul_left _ hby) hlen
  have h63 : l.length + m.length ≤ maxLen := by unfold maxLen; omega
  obtain rfl := hsrc.lenEq
  obtain ⟨v', w', hrun, r1, r2, _⟩ := run_append_own (P := P) w B t o.type e i z 1 bytes ht h1 h2 h3 h4 hz (by decide) v l.length (l.map (Value.int k)) hown ad m.length c (m.map (Value.int k)) (by simp) hsrc.cells (oneCell k m) h63 hbytes hB
  unfold Oper.wp
  simp [execOp, hop, resolve, invoke, builtin, hs, hx, hrun, Result.andThen]
  refine hK v' w' ?_ r2
  unfold Own
  rw [List.length_append, List.map_append]; exact r1
end Go.Proofs.YtcidfmmeonhkhaaGreatDoor.Sl
namespace Go.Proofs.YtcidfmmeonhkhaaGreatDoor.Row
open Go.ChangeShapes Go.WideShapes Go.ChangeAt Go.RowKit Go.Instr
set_option linter.unusedVariables false
set_option maxRecDepth 100000

def encW (x : Wt) : List Int := if validW x = true then appName [] x.1 ++ Sl.encs [x.2.1, x.2.2.1, x.2.2.2] else []
end Go.Proofs.YtcidfmmeonhkhaaGreatDoor.Row
/- Contract of the model's ReadName. No conditions but that lengths fit. -/
namespace Go.Proofs.YtcidfmmeonhkhaaGreatDoor.Row
open Go.ChangeShapes Go.WideShapes Go.ChangeAt Go.RowKit Go.Instr
set_option linter.unusedVariables false
set_option maxRecDepth 100000

/-- So many parts are read from place i on, behind those that were read. -/
def rdP : Nat → List Int → Int → List ByteArray → Option (List ByteArray × Int)
  | 0, _, i, acc => some (acc, i)
  | k + 1, b, i, acc => if (Sl.readB b i 8).2.2 = true then rdP k b (Sl.readB b i 8).2.1 (acc ++ [strOfNums (Sl.readB b i 8).1]) else none
def rdN (b : List Int) (i : Int) : List ByteArray × Int × Bool :=
  if (Var.readV b i).2.2 = false ∨ 6 < (Var.readV b i).1 then ([], 0, false)
  else match rdP (Var.readV b i).1.toNat b (Var.readV b i).2.1 [] with
    | none => ([], 0, false)
    | some (l, j) => if validN l = true then (l, j, true) else ([], 0, false)
def GivesN3 (w : World) (l : List ByteArray) (n : Int) (ok : Bool) (e : Ending) (w' : World) : Prop := ∃ v, e = .returned (.tuple #[.agg #[v], .int .i64 n, .bool ok]) ∧ Own 9 Value.string w.heap.size w' v l ∧ Below w.heap.size w w'
end Go.Proofs.YtcidfmmeonhkhaaGreatDoor.Row
namespace Go.Proofs.YtcidfmmeonhkhaaGreatDoor.Ret
variable {P : Program}
end Go.Proofs.YtcidfmmeonhkhaaGreatDoor.Ret
namespace Go.Proofs.YtcidfmmeonhkhaaGreatDoor.Row
open Go.ChangeShapes Go.WideShapes Go.ChangeAt Go.RowKit Go.Instr
set_option linter.unusedVariables false
set_option maxRecDepth 100000
end Go.Proofs.YtcidfmmeonhkhaaGreatDoor.Row
/- Contracts of the program's functions on interests: validity, AppendName, the numbers, copy, the hop limit. No conditions but that lengths fit. -/
namespace Go.Proofs.YtcidfmmeonhkhaaGreatDoor.Row
open Go.ChangeShapes Go.WideShapes Go.ChangeAt Go.RowKit Go.Instr
set_option linter.unusedVariables false
set_option maxRecDepth 100000

set_option maxHeartbeats 4000000 in
theorem implAppendName (v u : Value) (b : List Int) (l : List ByteArray) (w : World) (h : Sl.Holds .u8 w v b) (g : Holds Value.string w u l) (hb : b.length ≤ 2000000) (hl : bulk l ≤ 1200000) :
    Calls Tryz.prog 223 #[v, .agg #[u]] w (Sl.GivesB w (appName b l)) := by
  obtain ⟨x, cx, rfl, hcx, hh⟩ := h.shape
  obtain ⟨y, q, cy, rfl, hq, hcy, hg⟩ := g.shapeN
  obtain ⟨m, hm⟩ : ∃ m, m = b.length := ⟨_, rfl⟩
  rw [← hm] at hcx hh hb ⊢
  have HM := Lib.hid hm; have HQ := Lib.hid hq
  have hb0 := (Below.refl w.heap.size w).alloc (Nat.le_refl _) (.cells #[.slice y q cy] 32)
  have HB1 := Lib.hid hb0
  have HH := Lib.hid hh
  have HG := Lib.hid (hg.on hb0)
  have HX := Lib.hid (Ret.Box.new w (.slice y q cy) 32)
  have HBL := Lib.hid hl
  have HG0 := Lib.hid hg
  have hql : q ≤ 1200000 := by rw [hq]; exact Nat.le_trans (bulk_len l) hl
  clear hh h g hg hm hq hb0
  obtain ⟨ok, hok⟩ : ∃ z, validN l = z := ⟨_, rfl⟩
  have HOK := Lib.hid hok
  go_enter Tryz.func223, Tryz.ntmps223
  go_wp2_with fail
  refine (implValidName _ l _ HG.out (by omega)).mono ?_
  rintro e w2 ⟨rfl, hb2⟩
  rw [hok]
  have HB2 := Lib.hid (HB1.out.trans (hb2.mono HB1.out.size))
  have HX2 := Lib.hid (HX.out.on hb2)
  have HH2 := Lib.hid (HH.out.on HB2.out)
  have hx2 := HX2.out.cell
  clear hb2 hok
  cases ok with
  | false =>
    have HV : Hid (appName b l = b) := Lib.hid (by unfold appName; rw [if_neg (by rw [HOK.out]; simp)])
    have HOE := Lib.hid (Sl.own_empty .u8 5 w2)
    have HHE := Lib.hid (HH2.out.on ((Below.refl _ _).alloc (Nat.le_refl _) (.cells #[] 5)))
    have HBE := Lib.hid (HB2.out.alloc HB2.out.size (.cells #[] 5))
    go_wp2_with (at_builtin; refine Sl.wpList_app (k := .u8) (B := w2.heap.size) (l := []) (m := b) rfl _ _ rfl Tryz.underlying22 Sl.elemBYTE rfl rfl rfl HOE.out HHE.out ?_ (by decide) ?_ ?_)
    · have := HM.out; simp; omega
    · simp
    intro v1 w1 ho hg
    have HB := Lib.hid (HBE.out.grown hg HBE.out.size (fun g e => by cases e; exact HB2.out.size))
    have HO := Lib.hid (show Sl.Own 5 .u8 w.heap.size w1 v1 b from ho.mono HB2.out.size)
    clear ho hg
    go_wp2_with fail
    go_ret
    exact ⟨_, rfl, by rw [HV.out]; exact HO.out, HB.out⟩
  | true =>
    have HV : Hid (appName b l = b ++ encN l) := Lib.hid (by unfold appName; rw [if_pos HOK.out])
    go_wp2_with fail
    refine (Sl.implAppendVarint _ b q _ HH2.out (by rw [← HM.out]; omega)).mono ?_
    rintro e w3 ⟨v3, rfl, ho3, hb3⟩
    have HO3 := Lib.hid (show Sl.Own 5 .u8 w.heap.size w3 v3 (b ++ Var.var q ++ encPs (l.take 0)) by rw [List.take_zero, show encPs [] = [] from rfl, List.append_nil]; exact ho3.mono HB2.out.size)
    have HB3 := Lib.hid (HB2.out.trans (hb3.mono HB2.out.size))
    have HX3 := Lib.hid (HX2.out.on hb3)
    clear ho3 hb3 hx2
    have hx3 := HX3.out.cell
    go_wp2_with fail
    go_loopw [0, 6, 21] (fun tv pv iv wr => ∃ k : Nat, k ≤ q ∧ iv = .int .i64 k ∧ Hid (Sl.Own 5 .u8 w.heap.size wr tv (b ++ Var.var q ++ encPs (l.take k))) ∧ Hid (Below w.heap.size w wr)) (fun _ _ iv _ => q - (intOf iv).toNat)
    case atStart => exact ⟨0, Nat.zero_le _, rfl, HO3, HB3⟩
    case round =>
      obtain ⟨k, hk, rfl, hO, hB⟩ := hrel
      by_cases hlt : k < q
      · obtain ⟨b0, off0, hy, hc⟩ := (HG0.out.on hB.out).at (j := k) (by rw [← HQ.out]; exact hlt)
        subst hy
        have hsz : (nth l k).size ≤ 1200000 := by
          have h2 := size_bulk (l := l) (k := k) (by rw [← HQ.out]; exact hlt)
          have h3 := HBL.out
          omega
        have hle : (encPs (l.take k)).length ≤ 7200000 := by
          have h1 := encPs_len (l.take k)
          have h2 := bulk_take_le l k
          have h3 := HBL.out
          omega
        have hll : (b ++ Var.var q ++ encPs (l.take k)).length ≤ 10000000 := by
          have h1 := Var.var_len q
          rw [List.length_append, List.length_append, ← HM.out]; omega
        have HN := Lib.hid (encPs_next (l := l) (k := k) (by rw [← HQ.out]; exact hlt))
        obtain ⟨cp, wc', e0, h0, b0'⟩ := Sl.conv_bytes wr (nth l k)
        have H0 := Lib.hid h0; have B0 := Lib.hid b0'
        have HLL := Lib.hid hll
        clear h0 b0' hle hll
        go_wp2_with fail
        refine (Sl.implAppendBytes _ _ (b ++ Var.var q ++ encPs (l.take k)) (Sl.bytesOf (nth l k)) wc' (hO.out.on B0.out).holds H0.out HLL.out (by rw [Sl.bytesOf_length]; omega)).mono ?_
        rintro e w4 ⟨v4, rfl, ho4, hb4⟩
        have HB4 := Lib.hid ((hB.out.trans (B0.out.mono hB.out.size)).trans (hb4.mono (Nat.le_trans hB.out.size B0.out.size)))
        have HO4 := Lib.hid (show Sl.Own 5 .u8 w.heap.size w4 v4 (b ++ Var.var q ++ encPs (l.take (k + 1))) by
          have h9 := ho4.mono (Nat.le_trans hB.out.size B0.out.size)
          rw [HN.out, ← List.append_assoc, ← Sl.bytesOf_length, ← List.append_assoc]
          exact h9)
        clear ho4 hb4 e0 hc
        go_wp2_with fail
        go_roundw
        case rel => exact ⟨k + 1, by omega, by go_num, HO4, HB4⟩
        case measure => simp [intOf]; omega
      · obtain rfl : k = q := by omega
        clear hlt
        go_wp2_with fail
        go_ret
        refine ⟨_, rfl, ?_, hB.out⟩
        have h9 := hO.out
        rw [HQ.out, List.take_length] at h9
        rw [HV.out]
        unfold encN
        rw [← List.append_assoc]
        exact h9
end Go.Proofs.YtcidfmmeonhkhaaGreatDoor.Row
/- Contract of the program's ReadName. No conditions but that lengths fit. -/
namespace Go.Proofs.YtcidfmmeonhkhaaGreatDoor.Row
open Go.ChangeShapes Go.WideShapes Go.ChangeAt Go.RowKit Go.Instr
set_option linter.unusedVariables false
set_option maxRecDepth 100000

end Go.Proofs.YtcidfmmeonhkhaaGreatDoor.Row
/- Contracts of DecodeInts, the reference model's and the program's: so many numbers at the offset, the offset behind them, true; or an empty slice, 0 and false. What is returned lies in memory of the call's own. No conditions but that the elements are bytes and the length fits. -/
namespace Go.Proofs.YtcidfmmeonhkhaaGreatDoor.Sl
open Go.ChangeShapes Go.WideShapes Go.ChangeAt Go.RowKit Go.Instr
set_option linter.unusedVariables false
set_option maxRecDepth 100000

def decA : Nat → List Int → Int → List Int → List Int × Int × Bool
  | 0, _, i, acc => (acc, i, true)
  | k + 1, l, i, acc => if (Var.readV l i).2.2 = true then decA k l (Var.readV l i).2.1 (acc ++ [(Var.readV l i).1]) else ([], 0, false)
/-- What DecodeInts returns. -/
def readIs (l : List Int) (i n : Int) : List Int × Int × Bool := if (0 ≤ n ∧ n ≤ 100) ∧ 0 ≤ i ∧ i ≤ l.length then decA n.toNat l i [] else ([], 0, false)
def GivesI3 (w : World) (l : List Int) (n : Int) (ok : Bool) (e : Ending) (w' : World) : Prop := ∃ v, e = .returned (.tuple #[v, .int .i64 n, .bool ok]) ∧ Own 3 .i64 w.heap.size w' v l ∧ Below w.heap.size w w'
theorem GivesI3.of {w w' : World} {v : Value} {l m : List Int} {n p : Int} {a b : Bool} (h : (l, n, a) = (m, p, b)) (ho : Own 3 .i64 w.heap.size w' v l) (hb : Below w.heap.size w w') :
    GivesI3 w m p b (.returned (.tuple #[v, .int .i64 n, .bool a])) w' := by
  cases h; exact ⟨v, rfl, ho, hb⟩
end Go.Proofs.YtcidfmmeonhkhaaGreatDoor.Sl
/- Plain mathematics: what the encoding writes is read back, and what is read is what the encoding writes. No program in sight. -/
namespace Go.Proofs.YtcidfmmeonhkhaaGreatDoor.Var
open Sl (Byt)

end Go.Proofs.YtcidfmmeonhkhaaGreatDoor.Var
/- Contract of the model's DecodeInterest. No conditions but that lengths fit. -/
namespace Go.Proofs.YtcidfmmeonhkhaaGreatDoor.Row
open Go.ChangeShapes Go.WideShapes Go.ChangeAt Go.RowKit Go.Instr
set_option linter.unusedVariables false
set_option maxRecDepth 100000

def w0 : Wt := ([], 0, 0, 0)
/-- What DecodeInterest reads. -/
def gotW (b : List Int) : Wt := ((rdN b 0).1, Sl.nth (Sl.readIs b (rdN b 0).2.1 3).1 0, Sl.nth (Sl.readIs b (rdN b 0).2.1 3).1 1, Sl.nth (Sl.readIs b (rdN b 0).2.1 3).1 2)
def dcW (b : List Int) : Wt × Bool :=
  if (rdN b 0).2.2 = true ∧ (Sl.readIs b (rdN b 0).2.1 3).2.2 = true ∧ (Sl.readIs b (rdN b 0).2.1 3).2.1 = b.length ∧ validW (gotW b) = true then (gotW b, true) else (w0, false)
end Go.Proofs.YtcidfmmeonhkhaaGreatDoor.Row
/- Plain mathematics of encodings: what is encoded is read back, what is read is what is encoded. No conditions but those that are named. -/
namespace Go.Proofs.YtcidfmmeonhkhaaGreatDoor.Row
open Go.RowKit
set_option linter.unusedVariables false
set_option maxRecDepth 100000

/-! ### what is read is what is encoded -/
/-! ### what is encoded is read back -/
theorem str_back (s : ByteArray) : strOfNums (Sl.bytesOf s) = s := by
  obtain ⟨⟨d⟩⟩ := s
  unfold strOfNums Sl.bytesOf
  simp only [List.map_map]
  congr 1
  congr 1
  conv => rhs; rw [← List.map_id d]
  apply List.map_congr_left
  intro x hx
  simp only [Function.comp, id, Int.toNat_natCast, UInt8.ofNat_toNat]
end Go.Proofs.YtcidfmmeonhkhaaGreatDoor.Row
/- Keyrings as data: a map from a name's text to the first key with this name; the numbers that are in use; valid lists of keys. No conditions. -/
namespace Go.Proofs.YtcidfmmeonhkhaaGreatDoor.Row.Ring
open Go.ChangeShapes Go.WideShapes Go.ChangeAt Go.RowKit Go.Instr
set_option linter.unusedVariables false
set_option maxRecDepth 100000

/-! ### names' texts -/
theorem enc_app (n : Nat) : ∀ (m : Nat) (s t : List Int), Var.enc n ++ s = Var.enc m ++ t → n = m ∧ s = t := by
  induction n using Nat.strongRecOn with
  | ind n ih =>
    intro m s t h
    by_cases hn : n < 128
    · by_cases hm : m < 128
      · rw [Var.enc_small hn, Var.enc_small hm] at h
        simp only [List.cons_append, List.nil_append, List.cons.injEq] at h
        exact ⟨by omega, h.2⟩
      · rw [Var.enc_small hn, Var.enc_big hm] at h
        simp only [List.cons_append, List.nil_append, List.cons.injEq] at h
        exact absurd h.1 (by omega)
    · by_cases hm : m < 128
      · rw [Var.enc_big hn, Var.enc_small hm] at h
        simp only [List.cons_append, List.nil_append, List.cons.injEq] at h
        exact absurd h.1 (by omega)
      · rw [Var.enc_big hn, Var.enc_big hm] at h
        simp only [List.cons_append, List.cons.injEq] at h
        obtain ⟨e1, e2⟩ := ih (n / 128) (by omega) (m / 128) s t h.2
        exact ⟨by omega, e2⟩
theorem encPs_cons (s : ByteArray) (r : List ByteArray) : encPs (s :: r) = Var.var s.size ++ (Sl.bytesOf s ++ encPs r) := by simp [encPs]
/-- The parts are no longer than an integer that is encoded. -/
def smN (l : List ByteArray) : Prop := ∀ x ∈ l, x.size ≤ 1000000000000
theorem smN_bulk {l : List ByteArray} (h : bulk l ≤ 9000000) : smN l := fun x hx => by
  obtain ⟨k, hk, rfl⟩ := List.getElem_of_mem hx
  have := size_bulk hk
  rw [nth_eq hk] at this
  omega
theorem encPs_inj : ∀ (l m : List ByteArray), smN l → smN m → encPs l = encPs m → l = m
  | [], [], _, _, _ => rfl
  | [], s :: r, _, hm, h => by
    rw [encPs_cons, Var.var_in (by omega) (by have := hm s (by simp); omega)] at h
    have h1 := congrArg List.length h
    have h2 := Var.enc_pos (s.size : Int).toNat
    simp only [List.length_append] at h1
    have h3 : (encPs []).length = 0 := rfl
    omega
  | s :: r, [], hl, _, h => by
    rw [encPs_cons, Var.var_in (by omega) (by have := hl s (by simp); omega)] at h
    have h1 := congrArg List.length h
    have h2 := Var.enc_pos (s.size : Int).toNat
    simp only [List.length_append] at h1
    have h3 : (encPs []).length = 0 := rfl
    omega
  | s :: r, t :: q, hl, hm, h => by
    rw [encPs_cons, encPs_cons, Var.var_in (by omega) (by have := hl s (by simp); omega), Var.var_in (by omega) (by have := hm t (by simp); omega)] at h
    obtain ⟨e1, e2⟩ := enc_app _ _ _ _ h
    have e3 : s.size = t.size := by omega
    obtain ⟨e4, e5⟩ := List.append_inj e2 (by rw [Sl.bytesOf_length, Sl.bytesOf_length, e3])
    have e6 : s = t := by rw [← str_back s, ← str_back t, e4]
    rw [e6, encPs_inj r q (fun x hx => hl x (by simp [hx])) (fun x hx => hm x (by simp [hx])) e5]
theorem encPs_byt : ∀ l : List ByteArray, Sl.Byt (encPs l)
  | [] => fun x hx => by simp [encPs] at hx
  | s :: r => fun x hx => by
    rw [encPs_cons] at hx
    rcases List.mem_append.1 hx with hx | hx
    · unfold Var.var at hx
      split at hx
      · exact Var.enc_byte _ x hx
      · simp at hx
    · rcases List.mem_append.1 hx with hx | hx
      · exact Sl.bytesOf_byt s x hx
      · exact encPs_byt r x hx
/-- What the program keeps a name's key under. -/
def txt (l : List ByteArray) : ByteArray := strOfNums (encPs l)
def kl (l : List ByteArray) : Lit := .string (txt l).data.toList
theorem bytes_inj : ∀ (a b : List Int), Sl.Byt a → Sl.Byt b → (a.map fun n => UInt8.ofNat n.toNat) = (b.map fun n => UInt8.ofNat n.toNat) → a = b
  | [], [], _, _, _ => rfl
  | [], _ :: _, _, _, h => by simp at h
  | _ :: _, [], _, _, h => by simp at h
  | x :: r, y :: s, ha, hb, h => by
    simp only [List.map_cons, List.cons.injEq] at h
    have h1 := ha x (by simp)
    have h2 := hb y (by simp)
    have h3 := congrArg UInt8.toNat h.1
    simp at h3
    have h4 : x = y := by omega
    rw [h4, bytes_inj r s (fun z hz => ha z (by simp [hz])) (fun z hz => hb z (by simp [hz])) h.2]
theorem kl_inj {l m : List ByteArray} (hl : smN l) (hm : smN m) (h : kl l = kl m) : l = m := by
  have h1 : (txt l).data.toList = (txt m).data.toList := by
    unfold kl at h
    injection h
  unfold txt at h1
  rw [strOfNums_data, strOfNums_data] at h1
  exact encPs_inj l m hl hm (bytes_inj _ _ (encPs_byt l) (encPs_byt m) (by simpa using h1))
theorem kl_key (l : List ByteArray) : WideAt.IsKeyLit (kl l) := trivial
theorem txt_size (l : List ByteArray) : (txt l).size ≤ 6 * bulk l := by
  have h := encPs_len l
  have e : (txt l).size = (encPs l).length := by
    show (txt l).data.size = _
    unfold txt
    have := congrArg List.length (strOfNums_data (encPs l))
    simpa using this
  omega

/-! ### the keyring -/
/-- An element is held as it is. -/
def heldV (v : Value) : Option (DataW Value × List MemPlace) := some (.held v, [])
theorem heldV_inj {v u : Value} {ps : List MemPlace} (h : heldV v = some (.held u, ps)) : v = u := by
  unfold heldV at h
  cases h
  rfl
def step (D : DataW Value) (x : List ByteArray × Value) : DataW Value := if Maps.has D (kl x.1) then D else D.put (kl x.1) (.held x.2)
def ringD (l : List (List ByteArray × Value)) : DataW Value := l.foldl step (.map [])
theorem ringD_next (l : List (List ByteArray × Value)) (x : List ByteArray × Value) : ringD (l ++ [x]) = step (ringD l) x := by simp [ringD, List.foldl_append]
theorem step_tidy {D : DataW Value} (h : Maps.Tidy D) (x : List ByteArray × Value) : Maps.Tidy (step D x) := by
  unfold step
  split
  · exact h
  · exact h.put (kl_key _) _
/-- The first one with this name. -/
def fst1 (m : List ByteArray) : List (List ByteArray × Value) → DataW Value → DataW Value
  | [], z => z
  | x :: r, z => if x.1 = m then .held x.2 else fst1 m r z
theorem fold_at (m : List ByteArray) (hm : smN m) (z : DataW Value) : ∀ (l : List (List ByteArray × Value)) (D : DataW Value), (∀ x ∈ l, smN x.1) → Maps.Tidy D →
    (l.foldl step D).atKey (kl m) z = if Maps.has D (kl m) then D.atKey (kl m) z else fst1 m l z
  | [], D, _, _ => by
    show D.atKey (kl m) z = _
    split
    · rfl
    · rename_i h
      exact Maps.atKey_of_not_has (by simpa using h) z
  | x :: r, D, hl, hD => by
    have ih := fold_at m hm z r (step D x) (fun y hy => hl y (by simp [hy])) (step_tidy hD x)
    rw [List.foldl_cons, ih]
    by_cases he : x.1 = m
    · rw [show fst1 m (x :: r) z = .held x.2 from if_pos he]
      unfold step
      rw [he]
      cases hh : Maps.has D (kl m) with
      | true => simp [hh]
      | false =>
        simp only [Bool.false_eq_true, if_false]
        rw [Maps.has_put_same hD.isMap (kl_key m), Maps.atKey_put_same hD.isMap (kl_key m)]
        simp
    · rw [show fst1 m (x :: r) z = fst1 m r z from if_neg he]
      have hne : kl m ≠ kl x.1 := fun e => he (kl_inj hm (hl x (by simp)) e).symm
      unfold step
      cases hh : Maps.has D (kl x.1) with
      | true => simp
      | false =>
        simp only [Bool.false_eq_true, if_false]
        rw [Maps.has_put_other hne, Maps.atKey_put_other hne]
theorem ringD_at {l : List (List ByteArray × Value)} {m : List ByteArray} (hl : ∀ x ∈ l, smN x.1) (hm : smN m) (z : DataW Value) : (ringD l).atKey (kl m) z = fst1 m l z := by
  unfold ringD
  rw [fold_at m hm z l _ hl Maps.tidy_empty]
  simp [Maps.has]
/-! ### the numbers in use -/
def sk (s : Int) : Lit := .int .i64 s
def secD (l : List Int) : DataW Value := l.foldl (fun D s => D.put (sk s) (.held (.bool true))) (.map [])
/-! ### lists of keys -/
/-- The keys as they are held. -/
def pairs (L : List Ent) : List (List ByteArray × Value) := L.map fun x => (x.ps, x.whole)
theorem pairs_take (L : List Ent) {k : Nat} (h : k < L.length) : pairs (L.take (k + 1)) = pairs (L.take k) ++ [((nth L k).ps, (nth L k).whole)] := by
  rw [List.take_succ_eq_append_getElem h, ← nth_eq h]; simp [pairs]
theorem pairs_sm {L : List Ent} (h : smT (strip L)) : ∀ x ∈ pairs L, smN x.1 := by
  intro x hx
  obtain ⟨y, hy, rfl⟩ := List.mem_map.1 hx
  exact smN_bulk (h _ (strip_mem hy))
theorem lkN_cons (x : List ByteArray × Int) (T : List (List ByteArray × Int)) (n : List ByteArray) : lkN (x :: T) n = if x.1 = n then x.2 else lkN T n := by
  by_cases he : x.1 = n
  · have h1 : isN n x = true := by unfold isN; exact eqB_true he
    unfold lkN
    rw [List.findIdx_cons, h1, if_pos he]
    simp [nth]
  · have h1 : isN n x = false := by unfold isN; exact eqB_false he
    unfold lkN
    rw [List.findIdx_cons, h1, if_neg he]
    simp only [cond_false, List.length_cons, Nat.add_lt_add_iff_right]
    by_cases h2 : T.findIdx (isN n) < T.length
    · rw [if_pos h2, if_pos h2]; simp [nth]
    · rw [if_neg h2, if_neg h2]
theorem lkN_nil (n : List ByteArray) : lkN [] n = 0 := by simp [lkN]
def zK : Value := .agg #[.slice none 0 0, .int .i64 0]
/-- What is held under a name: a key with the number that the model finds. -/
theorem fst1_lk (m : List ByteArray) : ∀ L : List Ent, ∃ ad n cap, fst1 m (pairs L) (.held zK) = .held (.agg #[.slice ad n cap, .int .i64 (lkN (strip L) m)])
  | [] => ⟨none, 0, 0, by show DataW.held zK = _; rw [show strip [] = [] from rfl, lkN_nil]; rfl⟩
  | x :: L => by
    have e1 : pairs (x :: L) = (x.ps, x.whole) :: pairs L := rfl
    have e2 : strip (x :: L) = x.t :: strip L := rfl
    rw [e1, e2, lkN_cons]
    unfold fst1
    by_cases he : x.ps = m
    · rw [if_pos (show (x.ps, x.whole).1 = m from he), if_pos (show x.t.1 = m from he)]
      exact ⟨x.ad, x.n, x.cap, rfl⟩
    · rw [if_neg (show ¬ (x.ps, x.whole).1 = m from he), if_neg (show ¬ x.t.1 = m from he)]
      exact fst1_lk m L
/-- A key that is valid by itself. -/
def vkey (x : List ByteArray × Int) : Bool := validN x.1 && decide (0 < x.1.length) && Num.inB x.2 1 2147483646
def Vk (T : List (List ByteArray × Int)) : Prop := (∀ x ∈ T, vkey x = true) ∧ (T.map (·.1)).Nodup ∧ (T.map (·.2)).Nodup
def validK (T : List (List ByteArray × Int)) : Bool := decide ((∀ x ∈ T, vkey x = true) ∧ (T.map (·.1)).Nodup ∧ (T.map (·.2)).Nodup ∧ T.length ≤ 8)
end Go.Proofs.YtcidfmmeonhkhaaGreatDoor.Row.Ring
