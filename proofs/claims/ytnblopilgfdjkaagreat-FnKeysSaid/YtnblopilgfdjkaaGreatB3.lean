/- Contracts and mathematics, joined: Var, ReadV, ReadVI, Bytes, Part, Valid, Ints, LibS, Cmp, Trunc, Pref. No conditions but those that each states. -/
import Derived.Test.YtnblopilgfdjkaaGreatRows
import Derived.Test.YtnblopilgfdjkaaGreatB2
import Derived.LoopTactic
import Derived.Laws.ShiftsVarLaws
import Derived.Laws.BytesArg
import Derived.Test.YtnblopilgfdjkaaGreatB1
import Derived.Laws.RangeAny
import Derived.Lib.AppendZerosOnto
import Derived.Lib.SliceRun
import Derived.Deep.RegionHeld3
/- Contracts of AppendVarint, the reference model's and the program's: the slice and behind it the number's groups, in memory of the call's own. No conditions but that lengths fit. -/
namespace Go.Proofs.YtnblopilgfdjkaaGreat.Sl
open Go.ChangeShapes Go.WideShapes Go.ChangeAt Go.RowKit Go.Instr
set_option linter.unusedVariables false
set_option maxRecDepth 100000

theorem or128 {n : Int} (h0 : 0 ≤ n) (h1 : n < 128) : bits .or .i64 n 128 = n + 128 := by
  have e : bits .or .i64 n 128 = bits .or .i64 128 n := by
    have hx : ∀ a b : Int, bits .or .i64 a b = IntKind.i64.wrap ((BitVec.ofInt 64 a ||| BitVec.ofInt 64 b).toNat : Int) := fun _ _ => rfl
    rw [hx, hx, BitVec.or_comm]
  rw [e, bits_join .i64 63 (by decide) (fun n a b => IntWalk.i64_in n (by omega)) 7 128 n (by decide) (by decide) (by decide) h0 (by omega) (by omega)]
  omega

set_option maxHeartbeats 1000000 in
theorem specAppendVarint (v : Value) (l : List Int) (n : Int) (w : World) (h : Holds .u8 w v l) (hl : l.length ≤ 100000000) :
    Calls Tryz.prog 98 #[v, .int .i64 n] w (GivesB w (l ++ Var.var n)) := by
  obtain ⟨x, cap, rfl, hcap, hh⟩ := h.shape
  obtain ⟨m, hm⟩ : ∃ m, m = l.length := ⟨_, rfl⟩
  rw [← hm] at hcap hh hl ⊢
  have HM := Lib.hid hm; clear hm h
  rename Holds .u8 w (.slice x m cap) l => h
  by_cases hn : 0 ≤ n ∧ n ≤ 1000000000000
  · have e1 := Var.var_in hn.1 hn.2
    have HE := Lib.hid e1
    have H := Lib.hid h
    have hin := fun wx => Num.specIn_true hn.1 hn.2 wx
    have HI := Lib.hid hin
    obtain ⟨hn1, hn2⟩ := hn
    clear e1 h hin
    go_enter Tryz.func98, Tryz.ntmps98
    go_wp2_with (at_builtin; refine wpList_app (k := .u8) (B := w.heap.size) (l := []) (m := l) rfl _ _ rfl Tryz.underlying22 elemBYTE rfl rfl rfl (own_empty .u8 _ w) (H.out.on ((Below.refl _ _).alloc (Nat.le_refl _) _)) ?_ (by decide) ?_ ?_)
    · have := HM.out; simp; omega
    · simp
    intro v1 w1 ho hg
    have hb : Below w.heap.size w w1 := ((Below.refl _ _).alloc (Nat.le_refl _) _).grown hg (by simp) (fun k hk => by cases hk; exact Nat.le_refl _)
    have HO := Lib.hid ho; have HB := Lib.hid hb
    clear ho hb hg
    go_wp2_with fail
    refine (HI.out _).mono ?_
    rintro e w' ⟨rfl, rfl⟩
    go_wp2_with fail
    go_loopw [1, 5] (fun nv bv wr => ∃ (y : Int) (p : List Int), nv = .int .i64 y ∧ 0 ≤ y ∧ y ≤ 1000000000000 ∧ Hid (p ++ Var.enc y.toNat = Var.enc n.toNat) ∧ Hid (Own 5 .u8 w.heap.size wr bv (l ++ p)) ∧ Hid (Below w.heap.size w wr)) (fun nv _ _ => (intOf nv).toNat)
    case atStart => exact ⟨n, [], rfl, hn1, hn2, Lib.hid rfl, by rw [List.append_nil]; exact HO, HB⟩
    case round =>
      obtain ⟨y, p, rfl, y0, y1, he, ho, hb⟩ := hrel
      have hpl : p.length ≤ 6 := by
        have e1 := congrArg List.length he.out
        have e2 := Var.enc_len6 (n := n.toNat) (by omega)
        have e3 := Var.enc_pos y.toNat
        simp at e1; omega
      by_cases hlt : 127 < y
      · have a1 := i64_and127 y
        have a2 := or128 (n := y % 128) (by omega) (by omega)
        have HS := Lib.hid (Var.enc_step (n := y) (by omega))
        go_wp2_with (at_builtin; refine wpList_app (k := .u8) (B := w.heap.size) (l := l ++ p) (m := [y % 128 + 128]) rfl _ _ rfl Tryz.underlying22 elemBYTE rfl rfl rfl (ho.out.on ((Below.refl _ _).alloc (Nat.le_refl _) _)) (holds_one .u8 _ _ _) ?_ (by decide) ?_ ?_)
        · have := HM.out; simp; omega
        · have := hb.out.size; simp; omega
        intro v2 w2 ho2 hg
        have hb2 : Below w.heap.size w w2 := ((hb.out).alloc hb.out.size _).grown hg (by have := hb.out.size; simp; omega) (fun g hk => (ho.out.lt g hk).1)
        have HO2 := Lib.hid ho2; have HB2 := Lib.hid hb2
        clear ho2 hb2 hg a1 a2
        go_wp2_with fail
        go_roundw
        case rel => exact ⟨y / 128, p ++ [y % 128 + 128], rfl, by omega, by omega, Lib.hid (by rw [List.append_assoc, ← he.out, HS.out]; rfl), HO2, HB2⟩
        case measure => simp [intOf]; omega
      · have HS := Lib.hid (Var.enc_last (n := y) (by omega) (by omega))
        go_wp2_with (at_builtin; refine wpList_app (k := .u8) (B := w.heap.size) (l := l ++ p) (m := [y]) rfl _ _ rfl Tryz.underlying22 elemBYTE rfl rfl rfl (ho.out.on ((Below.refl _ _).alloc (Nat.le_refl _) _)) (holds_one .u8 _ _ _) ?_ (by decide) ?_ ?_)
        · have := HM.out; simp; omega
        · have := hb.out.size; simp; omega
        intro v2 w2 ho2 hg
        have hb2 : Below w.heap.size w w2 := ((hb.out).alloc hb.out.size _).grown hg (by have := hb.out.size; simp; omega) (fun g hk => (ho.out.lt g hk).1)
        have HO2 := Lib.hid ho2; have HB2 := Lib.hid hb2
        clear ho2 hb2 hg
        go_wp2_with fail
        go_ret
        exact ⟨_, rfl, by rw [HE.out, ← he.out, HS.out]; exact HO2.out, HB2.out⟩
  · have e1 := Var.var_out hn
    have HE := Lib.hid e1
    have H := Lib.hid h
    have hin := fun wx => Num.specIn_false hn wx
    have HI := Lib.hid hin
    clear e1 h hin hn
    go_enter Tryz.func98, Tryz.ntmps98
    go_wp2_with (at_builtin; refine wpList_app (k := .u8) (B := w.heap.size) (l := []) (m := l) rfl _ _ rfl Tryz.underlying22 elemBYTE rfl rfl rfl (own_empty .u8 _ w) (H.out.on ((Below.refl _ _).alloc (Nat.le_refl _) _)) ?_ (by decide) ?_ ?_)
    · have := HM.out; simp; omega
    · simp
    intro v1 w1 ho hg
    have hb : Below w.heap.size w w1 := ((Below.refl _ _).alloc (Nat.le_refl _) _).grown hg (by simp) (fun k hk => by cases hk; exact Nat.le_refl _)
    have HO := Lib.hid ho; have HB := Lib.hid hb
    clear ho hb hg
    go_wp2_with fail
    refine (HI.out _).mono ?_
    rintro e w' ⟨rfl, rfl⟩
    go_wp2_with fail
    go_ret
    exact ⟨_, rfl, by rw [HE.out, List.append_nil]; exact HO.out, HB.out⟩

/-- What a call leaves that lengthens a slice: a slice of the call's own, from block B on. -/
def GrowsB (B : Nat) (w : World) (l : List Int) (e : Ending) (w' : World) : Prop := ∃ v, e = .returned v ∧ Own 5 .u8 B w' v l ∧ Below B w w'

set_option maxHeartbeats 1000000 in
theorem addVarint (B : Nat) (v : Value) (l : List Int) (n : Int) (w : World) (h : Fits 5 .u8 B w v l) (hB : B ≤ w.heap.size) (hl : l.length ≤ 100000000) (hn1 : 0 ≤ n) (hn2 : n ≤ 1000000000000) :
    Calls Tryz.prog 76 #[v, .int .i64 n] w (GrowsB B w (l ++ Var.var n)) := by
  have e1 := Var.var_in hn1 hn2
  have HE := Lib.hid e1
  have H := Lib.hid h
  have hin := fun wx => Num.implIn_true hn1 hn2 wx
  have HI := Lib.hid hin
  clear e1 h hin
  go_enter Tryz.func76, Tryz.ntmps76
  go_wp2_with fail
  refine (HI.out _).mono ?_
  rintro e w' ⟨rfl, rfl⟩
  go_wp2_with fail
  go_loopw [0, 1] (fun bv nv wr => ∃ (y : Int) (p : List Int), nv = .int .i64 y ∧ 0 ≤ y ∧ y ≤ 1000000000000 ∧ Hid (p ++ Var.enc y.toNat = Var.enc n.toNat) ∧ Hid (Fits 5 .u8 B wr bv (l ++ p)) ∧ Hid (Below B w wr)) (fun _ nv _ => (intOf nv).toNat)
  case atStart => exact ⟨n, [], rfl, hn1, hn2, Lib.hid rfl, by rw [List.append_nil]; exact H, Lib.hid (Below.refl _ _)⟩
  case round =>
    obtain ⟨y, p, rfl, y0, y1, he, ho, hb⟩ := hrel
    have hpl : p.length ≤ 6 := by
      have e1 := congrArg List.length he.out
      have e2 := Var.enc_len6 (n := n.toNat) (by omega)
      have e3 := Var.enc_pos y.toNat
      simp at e1; omega
    by_cases hlt : 128 ≤ y
    · have HS := Lib.hid (Var.enc_step (n := y) (by omega))
      go_wp2_with (at_builtin; refine wpList_app_fit (k := .u8) (B := B) (l := l ++ p) (m := [y % 128 + 128]) rfl _ _ rfl Tryz.underlying22 elemBYTE rfl rfl rfl (ho.out.on ((Below.refl _ _).alloc (Nat.le_refl _) _)) ?_ (by simp) ?_ (by decide) ?_ ?_)
      · rw [show y % 128 + 128 = 128 + y % 128 by omega]; exact holds_one .u8 _ _ _
      · first | omega | (simp; omega)
      · have := hb.out.size; first | omega | (simp; omega)
      intro v2 w2 ho2 hg
      have hb2 : Below B w w2 := ((hb.out).alloc (by have := hb.out.size; omega) _).trans hg
      have HO2 := Lib.hid (Or.inl ho2 : Fits 5 .u8 B w2 v2 _); have HB2 := Lib.hid hb2
      clear ho2 hb2 hg
      go_wp2_with fail
      go_roundw
      case rel => exact ⟨y / 128, p ++ [y % 128 + 128], rfl, by omega, by omega, Lib.hid (by rw [List.append_assoc, ← he.out, HS.out]; rfl), HO2, HB2⟩
      case measure => simp [intOf]; omega
    · have HS := Lib.hid (Var.enc_last (n := y) (by omega) (by omega))
      go_wp2_with (at_builtin; refine wpList_app_fit (k := .u8) (B := B) (l := l ++ p) (m := [y]) rfl _ _ rfl Tryz.underlying22 elemBYTE rfl rfl rfl (ho.out.on ((Below.refl _ _).alloc (Nat.le_refl _) _)) (holds_one .u8 _ _ _) (by simp) ?_ (by decide) ?_ ?_)
      · first | omega | (simp; omega)
      · have := hb.out.size; first | omega | (simp; omega)
      intro v2 w2 ho2 hg
      have hb2 : Below B w w2 := ((hb.out).alloc (by have := hb.out.size; omega) _).trans hg
      have HO2 := Lib.hid ho2; have HB2 := Lib.hid hb2
      clear ho2 hb2 hg
      go_wp2_with fail
      go_ret
      exact ⟨_, rfl, by rw [HE.out, ← he.out, HS.out]; exact HO2.out, HB2.out⟩

set_option maxHeartbeats 1000000 in
theorem implAppendVarint (v : Value) (l : List Int) (n : Int) (w : World) (h : Holds .u8 w v l) (hl : l.length ≤ 100000000) :
    Calls Tryz.prog 110 #[v, .int .i64 n] w (GivesB w (l ++ Var.var n)) := by
  obtain ⟨x, cap, rfl, hcap, hh⟩ := h.shape
  by_cases hn : 0 ≤ n ∧ n ≤ 1000000000000
  · have hin := fun wx => Num.implIn_true hn.1 hn.2 wx
    have HI := Lib.hid hin
    have ha := fun x' hx' => addVarint w.heap.size (.slice x' l.length l.length) l n w (Or.inr ⟨x', rfl, hx'⟩) (Nat.le_refl _) hl hn.1 hn.2
    have HA := Lib.hid ha
    have hf : Holds .u8 w (.slice x l.length l.length) l := by
      obtain ⟨x', cap', hv, hc, hh⟩ := hh
      cases hv
      exact ⟨x, l.length, rfl, Nat.le_refl _, hh⟩
    have HF := Lib.hid hf
    obtain ⟨hn1, hn2⟩ := hn
    clear hin ha hf hh h
    go_enter Tryz.func110, Tryz.ntmps110
    go_wp2_with fail
    refine (HI.out _).mono ?_
    rintro e w' ⟨rfl, rfl⟩
    go_wp2_with fail
    refine (HA.out _ HF.out).mono ?_
    rintro e w' ⟨v', rfl, ho, hb⟩
    have HO := Lib.hid ho; have HB := Lib.hid hb
    clear ho hb
    go_wp2_with fail
    go_ret
    exact ⟨_, rfl, HO.out, HB.out⟩
  · have e1 := Var.var_out hn
    have HE := Lib.hid e1
    have hin := fun wx => Num.implIn_false hn wx
    have HI := Lib.hid hin
    obtain ⟨m, hm⟩ : ∃ m, m = l.length := ⟨_, rfl⟩
    rw [← hm] at hcap hh hl ⊢
    have HM := Lib.hid hm
    have HF := Lib.hid hh
    clear e1 hin hn hh hm h
    go_enter Tryz.func110, Tryz.ntmps110
    go_wp2_with fail
    refine (HI.out _).mono ?_
    rintro e w' ⟨rfl, rfl⟩
    go_wp2_with (at_builtin; refine wpList_app (k := .u8) (B := w.heap.size) (l := []) (m := l) rfl _ _ rfl Tryz.underlying22 elemBYTE rfl rfl rfl (own_empty .u8 _ w) (HF.out.on ((Below.refl _ _).alloc (Nat.le_refl _) _)) ?_ (by decide) ?_ ?_)
    · have := HM.out; simp; omega
    · simp
    intro v1 w1 ho hg
    have hb : Below w.heap.size w w1 := ((Below.refl _ _).alloc (Nat.le_refl _) _).grown hg (by simp) (fun k hk => by cases hk; exact Nat.le_refl _)
    have HO := Lib.hid ho; have HB := Lib.hid hb
    clear ho hb hg
    go_wp2_with fail
    go_ret
    exact ⟨_, rfl, by rw [HE.out, List.append_nil]; exact HO.out, HB.out⟩
end Go.Proofs.YtnblopilgfdjkaaGreat.Sl
/- Contracts of ReadVarint, the reference model's and the program's: what the groups at the offset make, the offset behind them, true; or 0, 0 and false. Nothing in memory turns. No conditions but that the elements are bytes and the length fits. -/
namespace Go.Proofs.YtnblopilgfdjkaaGreat.Sl
open Go.ChangeShapes Go.WideShapes Go.ChangeAt Go.RowKit Go.Instr
set_option linter.unusedVariables false
set_option maxRecDepth 100000

/-- The three results of ReadVarint. -/
def rdV (r : Int × Int × Bool) : Value := .tuple #[.int .i64 r.1, .int .i64 r.2.1, .bool r.2.2]
end Go.Proofs.YtnblopilgfdjkaaGreat.Sl
/- Contracts of the program's ReadVarint: what the groups at the offset make, the offset behind them, true; or 0, 0 and false. What was in memory stays as it was. No conditions but that the elements are bytes and the length fits. -/
namespace Go.Proofs.YtnblopilgfdjkaaGreat.Sl
open Go.ChangeShapes Go.WideShapes Go.ChangeAt Go.RowKit Go.Instr
set_option linter.unusedVariables false
set_option maxRecDepth 100000

end Go.Proofs.YtnblopilgfdjkaaGreat.Sl
/- Contracts of AppendBytes, EqualBytes and EncodeInts, the reference model's and the program's. Slices that are returned lie in memory of the call's own. No conditions but that lengths fit and that the elements are bytes. -/
namespace Go.Proofs.YtnblopilgfdjkaaGreat.Sl
open Go.ChangeShapes Go.WideShapes Go.ChangeAt Go.RowKit Go.Instr
set_option linter.unusedVariables false
set_option maxRecDepth 100000

set_option maxHeartbeats 1000000 in
theorem specAppendBytes (v u : Value) (l m : List Int) (w : World) (h : Holds .u8 w v l) (g : Holds .u8 w u m) (hl : l.length ≤ 10000000) (hm : m.length ≤ 10000000) :
    Calls Tryz.prog 99 #[v, u] w (GivesB w (l ++ Var.var m.length ++ m)) := by
  obtain ⟨x, cap, rfl, hcap, hg⟩ := g.shape
  have H := Lib.hid h; have G := Lib.hid hg
  clear h g hg
  go_enter Tryz.func99, Tryz.ntmps99
  go_wp2_with fail
  refine (specAppendVarint _ l m.length _ H.out (by omega)).mono ?_
  rintro e w1 ⟨v1, rfl, ho, hb⟩
  have HO := Lib.hid ho; have HB := Lib.hid hb
  have hv := Var.var_len m.length
  clear ho hb
  go_wp2_with (at_builtin; refine wpList_app (k := .u8) (B := w.heap.size) (l := l ++ Var.var m.length) (m := m) rfl _ _ rfl Tryz.underlying22 elemBYTE rfl rfl rfl HO.out (G.out.on HB.out) ?_ (by decide) ?_ ?_)
  · rw [List.length_append]; omega
  · exact HB.out.size
  intro v2 w2 ho hg
  have hb2 := HB.out.grown hg (by have := HB.out.size; omega) (fun k hk => (HO.out.lt k hk).1)
  have HO2 := Lib.hid ho; have HB2 := Lib.hid hb2
  clear ho hg hb2
  go_wp2_with fail
  go_ret
  exact ⟨_, rfl, by rw [List.append_assoc]; exact HO2.out, HB2.out⟩

set_option maxHeartbeats 1000000 in
theorem implAppendBytes (v u : Value) (l m : List Int) (w : World) (h : Holds .u8 w v l) (g : Holds .u8 w u m) (hl : l.length ≤ 10000000) (hm : m.length ≤ 10000000) :
    Calls Tryz.prog 111 #[v, u] w (GivesB w (l ++ Var.var m.length ++ m)) := by
  obtain ⟨x, cap, rfl, hcap, hg⟩ := g.shape
  have H := Lib.hid h; have G := Lib.hid hg
  clear h g hg
  go_enter Tryz.func111, Tryz.ntmps111
  go_wp2_with fail
  refine (implAppendVarint _ l m.length _ H.out (by omega)).mono ?_
  rintro e w1 ⟨v1, rfl, ho, hb⟩
  have HO := Lib.hid ho; have HB := Lib.hid hb
  have hv := Var.var_len m.length
  clear ho hb
  go_wp2_with (at_builtin; refine wpList_app (k := .u8) (B := w.heap.size) (l := l ++ Var.var m.length) (m := m) rfl _ _ rfl Tryz.underlying22 elemBYTE rfl rfl rfl HO.out (G.out.on HB.out) ?_ (by decide) ?_ ?_)
  · rw [List.length_append]; omega
  · exact HB.out.size
  intro v2 w2 ho hg
  have hb2 := HB.out.grown hg (by have := HB.out.size; omega) (fun k hk => (HO.out.lt k hk).1)
  have HO2 := Lib.hid ho; have HB2 := Lib.hid hb2
  clear ho hg hb2
  go_wp2_with fail
  go_ret
  exact ⟨_, rfl, by rw [List.append_assoc]; exact HO2.out, HB2.out⟩

/-! ### EqualBytes -/
theorem conv_holds {x : Option Addr} {cap : Nat} {l : List Int} {w : World} (h : Holds .u8 w (.slice x l.length cap) l) :
    (convert 22 9 (.slice x l.length cap)).run Tryz.prog w = .ok (.string (strOfNums l)) w := by
  obtain ⟨x', cap', hv, hc, hh⟩ := h
  cases hv
  rcases hh with rfl | ⟨b, off, rfl, hc⟩
  · cases x with
    | none => exact run_convert_bytes_nil w 22 5 Tryz.underlying22 Tryz.underlying5 _ _ 9 Tryz.underlying9
    | some a => exact run_convert_bytes_back w 22 9 5 a cap [] Tryz.underlying22 Tryz.underlying5 Tryz.underlying9 (fun j hj => absurd hj (by simp))
  · exact run_convert_bytes_arg w 22 5 Tryz.underlying22 Tryz.underlying5 b off l.length cap l rfl hc 9 Tryz.underlying9

end Go.Proofs.YtnblopilgfdjkaaGreat.Sl
/- Contracts of ValidPart and ValidName, the program's and the reference model's: a part is right where its size is 1 to 8 and each byte is a small letter, a digit or a minus; a name where each part is and there are at most 6. No conditions but that lengths fit. -/
namespace Go.Proofs.YtnblopilgfdjkaaGreat.Row
open Go.ChangeShapes Go.WideShapes Go.ChangeAt Go.RowKit Go.Instr
set_option linter.unusedVariables false
set_option maxRecDepth 100000

def okR (r : Int) : Prop := (97 ≤ r ∧ r ≤ 122) ∨ (48 ≤ r ∧ r ≤ 57) ∨ r = 45
instance (r : Int) : Decidable (okR r) := by unfold okR; infer_instance
def okTo (s : ByteArray) (k : Nat) : Prop := ∀ j (h : j < s.size), j < k → okR ((s[j]'h).toNat : Int)
instance (s : ByteArray) (k : Nat) : Decidable (okTo s k) := by unfold okTo; infer_instance
def validP (s : ByteArray) : Bool := decide (1 ≤ s.size ∧ s.size ≤ 8 ∧ okTo s s.size)
theorem okTo_zero (s : ByteArray) : okTo s 0 := fun j h h2 => absurd h2 (by omega)
theorem okTo_succ {s : ByteArray} {k : Nat} (h : okTo s k) (hk : k < s.size) (hc : okR ((s[k]'hk).toNat : Int)) : okTo s (k + 1) := fun j h1 h2 => by
  by_cases e : j = k
  · subst e; exact hc
  · exact h j h1 (by omega)
theorem validP_true {s : ByteArray} (h1 : 1 ≤ s.size) (h2 : s.size ≤ 8) (h : okTo s s.size) : validP s = true := by simp [validP, h1, h2, h]
theorem validP_size {s : ByteArray} (h : ¬ (1 ≤ s.size ∧ s.size ≤ 8)) : validP s = false := by
  unfold validP; exact decide_eq_false (fun e => h ⟨e.1, e.2.1⟩)
theorem validP_byte {s : ByteArray} {k : Nat} (hk : k < s.size) (hc : ¬ okR ((s[k]'hk).toNat : Int)) : validP s = false := by
  unfold validP; exact decide_eq_false (fun e => hc (e.2.2 k hk hk))
theorem validP_iff {s : ByteArray} : validP s = true ↔ 1 ≤ s.size ∧ s.size ≤ 8 ∧ okTo s s.size := by unfold validP; exact decide_eq_true_iff

theorem rune_ok {s : ByteArray} {pos : Nat} (h : pos < s.size) (hr : okR ((Utf8.decode s pos).1 : Int)) : okR ((s[pos]'h).toNat : Int) ∧ (Utf8.decode s pos).2 = 1 := by
  by_cases ha : (s[pos]'h).toNat < 128
  · rw [decode_ascii s pos h ha] at hr ⊢
    exact ⟨hr, rfl⟩
  · have := (decode_high s pos h (by omega)).1
    unfold okR at hr; omega
theorem rune_not {s : ByteArray} {pos : Nat} (h : pos < s.size) (hr : ¬ okR ((Utf8.decode s pos).1 : Int)) : ¬ okR ((s[pos]'h).toNat : Int) := by
  by_cases ha : (s[pos]'h).toNat < 128
  · rwa [decode_ascii s pos h ha] at hr
  · unfold okR; omega

set_option maxHeartbeats 1000000 in
theorem isPartRune (r : Int) (w : World) : Calls Tryz.prog 96 #[.int .i32 r] w fun e w' => e = .returned (.bool (decide (okR r))) ∧ w = w' := by
  have HT := fun (h : okR r) => (decide_eq_true h).symm
  have HF := fun (h : ¬ okR r) => (decide_eq_false h).symm
  have HT := Lib.hid HT; have HF := Lib.hid HF
  by_cases h1 : 97 ≤ r ∧ r ≤ 122
  · obtain ⟨h1a, h1b⟩ := h1
    go_enter Tryz.func96, Tryz.ntmps96
    go_wp2
    go_ret
    exact ⟨ret_bool (HT.out (by unfold okR; omega)), rfl⟩
  · by_cases h2 : 48 ≤ r ∧ r ≤ 57
    · obtain ⟨h2a, h2b⟩ := h2
      have h1a : ¬ 97 ≤ r := by omega
      go_enter Tryz.func96, Tryz.ntmps96
      go_wp2
      go_ret
      exact ⟨ret_bool (HT.out (by unfold okR; omega)), rfl⟩
    · by_cases h3 : r = 45
      · subst h3
        go_enter Tryz.func96, Tryz.ntmps96
        go_wp2
        go_ret
        exact ⟨ret_bool (HT.out (by unfold okR; omega)), rfl⟩
      · have HF2 := Lib.hid (HF.out (by unfold okR; omega))
        have h3b : (r == 45) = false := by simpa using h3
        clear h3 HF HT
        by_cases h1a : 97 ≤ r
        · have h1b : ¬ r ≤ 122 := by omega
          have h2b : ¬ r ≤ 57 := by omega
          clear h1 h2
          go_enter Tryz.func96, Tryz.ntmps96
          go_wp2
          go_ret
          exact ⟨ret_bool HF2.out, rfl⟩
        · clear h1
          by_cases h2a : 48 ≤ r
          · have h2b : ¬ r ≤ 57 := by omega
            clear h2
            go_enter Tryz.func96, Tryz.ntmps96
            go_wp2
            go_ret
            exact ⟨ret_bool HF2.out, rfl⟩
          · clear h2
            go_enter Tryz.func96, Tryz.ntmps96
            go_wp2
            go_ret
            exact ⟨ret_bool HF2.out, rfl⟩

set_option maxHeartbeats 1000000 in
theorem implValidPart (s : ByteArray) (w : World) (hl : s.size ≤ 140737488351232) :
    Calls Tryz.prog 82 #[.string s] w fun e w' => e = .returned (.bool (validP s)) ∧ Below w.heap.size w w' := by
  go_enter Tryz.func82, Tryz.ntmps82
  go_wp2
  go_loopw [] (fun w' => ∃ pos : Nat, pos ≤ s.size ∧ w' = w.iter s pos ∧ Hid (okTo s pos)) (fun w' => s.size - w'.iterPos w.heap.size)
  case atStart => exact ⟨0, by omega, rfl, Lib.hid (okTo_zero s)⟩
  case round =>
    obtain ⟨pos, hpl, rfl, ho⟩ := hrel
    by_cases hp : pos < s.size
    · have hnx : ∀ ty, (Instr.next (.pointer (some ⟨w.heap.size, 0, none⟩)) true ty).run Tryz.prog (w.iter s pos) = _ := fun ty => run_next_any w s pos ty hp
      by_cases hr : okR ((Utf8.decode s pos).1 : Int)
      · obtain ⟨h1, h2⟩ := rune_ok hp hr
        have HO := Lib.hid (okTo_succ ho.out hp h1)
        have HR := Lib.hid (decide_eq_true hr)
        rw [h2] at hnx
        clear hr h1 h2
        go_wp2_with fail
        refine (isPartRune _ _).mono ?_
        rintro e w2 ⟨rfl, rfl⟩
        rw [HR.out]
        go_wp2
        go_roundw
        case rel => exact ⟨pos + 1, by omega, rfl, HO⟩
        case measure => simp; omega
      · have HV := Lib.hid (validP_byte hp (rune_not hp hr))
        have HR := Lib.hid (decide_eq_false hr)
        clear hr
        go_wp2_with fail
        refine (isPartRune _ _).mono ?_
        rintro e w2 ⟨rfl, rfl⟩
        rw [HR.out]
        go_wp2
        go_ret
        exact ⟨ret_bool HV.out.symm, (Below.refl _ _).alloc (Nat.le_refl _) _⟩
    · obtain rfl : pos = s.size := by omega
      have hnx : ∀ ty, (Instr.next (.pointer (some ⟨w.heap.size, 0, none⟩)) true ty).run Tryz.prog (w.iter s s.size) = _ := fun ty => run_next_end w s s.size ty hp
      go_wp2_with fail
      refine (Num.implInRange _ _ _ _).mono ?_
      rintro e w2 ⟨rfl, rfl⟩
      go_wp2
      go_ret
      refine ⟨ret_bool ?_, (Below.refl _ _).alloc (Nat.le_refl _) _⟩
      have := ho.out
      simp only [Num.inB, validP, this, and_true]
      congr 1
      apply propext
      omega

set_option maxHeartbeats 1000000 in
theorem specValidPart (s : ByteArray) (w : World) (hl : s.size ≤ 140737488351232) :
    Calls Tryz.prog 78 #[.string s] w fun e w' => e = .returned (.bool (validP s)) ∧ w = w' := by
  by_cases hsz : 1 ≤ s.size ∧ s.size ≤ 8
  · obtain ⟨hs1, hs8⟩ := hsz
    go_enter Tryz.func78, Tryz.ntmps78
    go_wp2_with fail
    refine (Num.specIn_true (by omega) (by omega) _).mono ?_
    rintro e w2 ⟨rfl, rfl⟩
    go_wp2
    go_loop [3] (fun iv => ∃ k : Nat, k ≤ s.size ∧ iv = .int .i64 k ∧ Hid (okTo s k)) (fun iv => s.size - (intOf iv).toNat)
    case atStart => exact ⟨0, by omega, rfl, Lib.hid (okTo_zero s)⟩
    case round =>
      obtain ⟨k, hk, rfl, ho⟩ := hrel
      by_cases hlt : k < s.size
      · have hb := (s[k]'hlt).toNat_lt
        have hb0 : (0 : Int) ≤ ((s[k]'hlt).toNat : Int) := by omega
        have hb1 : ((s[k]'hlt).toNat : Int) ≤ 255 := by omega
        have HOK := Lib.hid (fun hc => okTo_succ ho.out hlt hc)
        have HNO := Lib.hid (fun hc => validP_byte hlt hc)
        clear hb
        go_wp2_with fail
        by_cases h1 : 97 ≤ ((s[k]'hlt).toNat : Int) ∧ ((s[k]'hlt).toNat : Int) ≤ 122
        · refine (Num.specIn_true h1.1 h1.2 _).mono ?_
          rintro e w2 ⟨rfl, rfl⟩
          have HO2 := Lib.hid (HOK.out (by unfold okR; omega))
          clear HOK HNO h1
          go_wp2
          go_round
          case rel => exact ⟨k + 1, by omega, by go_num, HO2⟩
          case measure => simp [intOf]; omega
        · refine (Num.specIn_false h1 _).mono ?_
          rintro e w2 ⟨rfl, rfl⟩
          go_wp2_with fail
          by_cases h2 : 48 ≤ ((s[k]'hlt).toNat : Int) ∧ ((s[k]'hlt).toNat : Int) ≤ 57
          · refine (Num.specIn_true h2.1 h2.2 _).mono ?_
            rintro e w2 ⟨rfl, rfl⟩
            have HO2 := Lib.hid (HOK.out (by unfold okR; omega))
            clear HOK HNO h1 h2
            go_wp2
            go_round
            case rel => exact ⟨k + 1, by omega, by go_num, HO2⟩
            case measure => simp [intOf]; omega
          · refine (Num.specIn_false h2 _).mono ?_
            rintro e w2 ⟨rfl, rfl⟩
            by_cases h3 : (s[k]'hlt).toNat = 45
            · have h3b : (((s[k]'hlt).toNat : Int) != 45) = false := by simp [h3]
              have HO2 := Lib.hid (HOK.out (by unfold okR; omega))
              clear HOK HNO h1 h2
              go_wp2
              go_round
              case rel => exact ⟨k + 1, by omega, by go_num, HO2⟩
              case measure => simp [intOf]; omega
            · have h3b : (((s[k]'hlt).toNat : Int) != 45) = true := by simp; omega
              have HV := Lib.hid (HNO.out (by unfold okR; omega))
              clear HOK HNO h1 h2 h3
              go_wp2
              go_ret
              exact ⟨ret_bool HV.out.symm, rfl⟩
      · obtain rfl : k = s.size := by omega
        have HV := Lib.hid (validP_true hs1 hs8 ho.out)
        go_wp2
        go_ret
        exact ⟨ret_bool HV.out.symm, rfl⟩
  · have HV := Lib.hid (validP_size hsz)
    go_enter Tryz.func78, Tryz.ntmps78
    go_wp2_with fail
    refine (Num.specIn_false (by omega) _).mono ?_
    rintro e w2 ⟨rfl, rfl⟩
    go_wp2
    go_ret
    exact ⟨ret_bool HV.out.symm, rfl⟩

end Go.Proofs.YtnblopilgfdjkaaGreat.Row
/- Contracts of ValidName, the program's and the reference model's: a name is right where each part is and there are at most 6. No conditions but that lengths fit. -/
namespace Go.Proofs.YtnblopilgfdjkaaGreat.Row
open Go.ChangeShapes Go.WideShapes Go.ChangeAt Go.RowKit Go.Instr
set_option linter.unusedVariables false
set_option maxRecDepth 100000

def validN (l : List ByteArray) : Bool := decide (l.length ≤ 6 ∧ ∀ x ∈ l, validP x = true)
def allV (l : List ByteArray) (k : Nat) : Prop := ∀ j, j < k → validP (nth l j) = true
theorem allV_zero (l : List ByteArray) : allV l 0 := fun j h => absurd h (by omega)
theorem allV_succ {l : List ByteArray} {k : Nat} (h : allV l k) (hc : validP (nth l k) = true) : allV l (k + 1) := fun j h1 => by
  by_cases e : j = k
  · subst e; exact hc
  · exact h j (by omega)
theorem validN_not {l : List ByteArray} {k : Nat} (hk : k < l.length) (hc : validP (nth l k) = false) : validN l = false := by
  unfold validN
  refine decide_eq_false (fun e => ?_)
  have := e.2 (nth l k) (by rw [nth_eq hk]; exact List.getElem_mem _)
  rw [hc] at this; cases this
theorem validN_all {l : List ByteArray} (h : allV l l.length) : validN l = decide (l.length ≤ 6) := by
  have : ∀ x ∈ l, validP x = true := by
    intro x hx
    obtain ⟨j, hj, rfl⟩ := List.getElem_of_mem hx
    have := h j hj
    rwa [nth_eq hj] at this
  unfold validN
  congr 1
  exact propext ⟨fun e => e.1, fun e => ⟨e, this⟩⟩
theorem validN_iff {l : List ByteArray} : validN l = true ↔ l.length ≤ 6 ∧ ∀ x ∈ l, validP x = true := by unfold validN; exact decide_eq_true_iff
theorem size_nth {l : List ByteArray} {m : Nat} (h : bulk l ≤ m) {k : Nat} (hk : k < l.length) : (nth l k).size ≤ m := by
  have h1 := bulkTo_succ l hk
  have h2 := bulkTo_le l (k + 1)
  omega

set_option maxHeartbeats 1000000 in
theorem implValidName (v : Value) (l : List ByteArray) (w : World) (h : Holds Value.string w v l) (hl : bulk l ≤ 100000000) :
    Calls Tryz.prog 56 #[.agg #[v]] w fun e w' => e = .returned (.bool (validN l)) ∧ Below w.heap.size w w' := by
  obtain ⟨x, cap, rfl, hcap, hh⟩ := h.shape
  have hll := bigLen hl
  have HS := Lib.hid (fun k (hk : k < l.length) => size_nth hl hk)
  obtain ⟨n, hn⟩ : ∃ n, n = l.length := ⟨_, rfl⟩
  rw [← hn] at hcap hh hll ⊢
  have HN := Lib.hid hn
  have HH := Lib.hid hh
  have HB0 := Lib.hid ((Below.refl w.heap.size w).alloc (Nat.le_refl _) (.cells #[.slice x n cap] 27))
  have HC0 := Lib.hid (Ret.cell_at (w := w) (u := .slice x n cap) (t := 27) (n := w.heap.size) rfl)
  clear hn h hh hl
  go_enter Tryz.func56, Tryz.ntmps56
  go_wp2_with fail
  go_loopw [8] (fun i wr => ∃ k : Nat, k ≤ n ∧ i = .int .i64 k ∧ Hid (allV l k) ∧ Hid (Below w.heap.size w wr) ∧ Hid (wr.cell? ⟨w.heap.size, 0, none⟩ = some (.slice x n cap))) (fun i _ => n - (intOf i).toNat)
  case atStart => exact ⟨0, Nat.zero_le _, rfl, Lib.hid (allV_zero _), HB0, HC0⟩
  case round =>
    obtain ⟨k, hk, rfl, ha, hb, hc0⟩ := hrel
    by_cases hlt : k < n
    · have hlen := HN.out
      obtain ⟨b, off, rfl, hc⟩ := (HH.out.on hb.out).at (j := k) (by omega)
      have hsz := HS.out k (by omega)
      clear hlen
      go_wp2_with fail
      refine (implValidPart _ _ (by omega)).mono ?_
      rintro e w2 ⟨rfl, hb2⟩
      have HB2 := Lib.hid (hb.out.trans (hb2.mono hb.out.size))
      have HC2 := Lib.hid ((hb2.cell (cell_lt hc0.out)).trans hc0.out)
      clear hb2 hc
      by_cases hv : validP (nth l k) = true
      · rw [hv]
        have HA2 := Lib.hid (allV_succ ha.out hv)
        clear hv
        go_wp2
        go_roundw
        case rel => exact ⟨k + 1, by omega, by go_num, HA2, HB2, HC2⟩
        case measure => simp [intOf]; omega
      · have hv2 : validP (nth l k) = false := by simpa using hv
        rw [hv2]
        have HV := Lib.hid (validN_not (by have := HN.out; omega) hv2)
        clear hv hv2
        go_wp2
        go_ret
        exact ⟨ret_bool HV.out.symm, HB2.out⟩
    · obtain rfl : k = n := by omega
      have HV := Lib.hid (validN_all (HN.out ▸ ha.out))
      have hc0 := hc0.out
      clear hlt
      go_wp2
      go_ret
      refine ⟨ret_bool ?_, hb.out⟩
      rw [HV.out, ← HN.out]
      simp
      omega

set_option maxHeartbeats 1000000 in
theorem specValidName (v : Value) (l : List ByteArray) (w : World) (h : Holds Value.string w v l) (hl : bulk l ≤ 100000000) :
    Calls Tryz.prog 51 #[.agg #[v]] w fun e w' => e = .returned (.bool (validN l)) ∧ Below w.heap.size w w' := by
  obtain ⟨x, cap, rfl, hcap, hh⟩ := h.shape
  have hll := bigLen hl
  have HS := Lib.hid (fun k (hk : k < l.length) => size_nth hl hk)
  obtain ⟨n, hn⟩ : ∃ n, n = l.length := ⟨_, rfl⟩
  rw [← hn] at hcap hh hll ⊢
  have HN := Lib.hid hn
  have HH := Lib.hid hh
  have HB0 := Lib.hid ((Below.refl w.heap.size w).alloc (Nat.le_refl _) (.cells #[.slice x n cap] 27))
  have HC0 := Lib.hid (Ret.cell_at (w := w) (u := .slice x n cap) (t := 27) (n := w.heap.size) rfl)
  clear hn h hh hl
  go_enter Tryz.func51, Tryz.ntmps51
  go_wp2_with fail
  go_loopw [3] (fun i wr => ∃ k : Nat, k ≤ n ∧ i = .int .i64 k ∧ Hid (allV l k) ∧ Hid (Below w.heap.size w wr) ∧ Hid (wr.cell? ⟨w.heap.size, 0, none⟩ = some (.slice x n cap))) (fun i _ => n - (intOf i).toNat)
  case atStart => exact ⟨0, Nat.zero_le _, rfl, Lib.hid (allV_zero _), HB0, HC0⟩
  case round =>
    obtain ⟨k, hk, rfl, ha, hb, hc0⟩ := hrel
    by_cases hlt : k < n
    · have hlen := HN.out
      obtain ⟨b, off, rfl, hc⟩ := (HH.out.on hb.out).at (j := k) (by omega)
      have hsz := HS.out k (by omega)
      have hc1 := hc0.out
      clear hlen
      go_wp2_with fail
      refine (specValidPart _ _ (by omega)).mono ?_
      rintro e w2 ⟨rfl, rfl⟩
      clear hc
      by_cases hv : validP (nth l k) = true
      · rw [hv]
        have HA2 := Lib.hid (allV_succ ha.out hv)
        clear hv
        go_wp2
        go_roundw
        case rel => exact ⟨k + 1, by omega, by go_num, HA2, hb, hc0⟩
        case measure => simp [intOf]; omega
      · have hv2 : validP (nth l k) = false := by simpa using hv
        rw [hv2]
        have HV := Lib.hid (validN_not (by have := HN.out; omega) hv2)
        clear hv hv2
        go_wp2
        go_ret
        exact ⟨ret_bool HV.out.symm, hb.out⟩
    · obtain rfl : k = n := by omega
      have HV := Lib.hid (validN_all (HN.out ▸ ha.out))
      have hc0 := hc0.out
      clear hlt
      go_wp2
      go_ret
      refine ⟨ret_bool ?_, hb.out⟩
      rw [HV.out, ← HN.out]
      simp
      omega

end Go.Proofs.YtnblopilgfdjkaaGreat.Row
/- Contracts of EncodeInts, the reference model's and the program's: the numbers' groups, one number after the other, in memory of the call's own. No conditions but that lengths fit. -/
namespace Go.Proofs.YtnblopilgfdjkaaGreat.Sl
open Go.ChangeShapes Go.WideShapes Go.ChangeAt Go.RowKit Go.Instr
set_option linter.unusedVariables false
set_option maxRecDepth 100000

/-- The groups of the first k numbers. -/
def encs (l : List Int) : List Int := l.flatMap Var.var
end Go.Proofs.YtnblopilgfdjkaaGreat.Sl
/- Contracts of the library's slices.Grow at the nil slice, slices.Concat, slices.Equal and slices.Clone at slices of strings. No conditions but that lengths fit. -/
namespace Go.Proofs.YtnblopilgfdjkaaGreat.Row
open Go.ChangeShapes Go.WideShapes Go.ChangeAt Go.RowKit Go.Instr
set_option linter.unusedVariables false
set_option maxRecDepth 100000

/-- What a call of a function that returns a slice of strings of the call's own leaves. -/
def GivesS (w : World) (l : List ByteArray) (e : Ending) (w' : World) : Prop := ∃ v, e = .returned v ∧ Own 9 Value.string w.heap.size w' v l ∧ Below w.heap.size w w'
theorem own_one {α : Type} [Inhabited α] (enc : α → Value) (e : TypeId) (w : World) (x : α) : Own e enc w.heap.size (w.alloc (.cells #[enc x] e)) (.slice (some ⟨w.heap.size, 0, none⟩) 1 1) [x] :=
  World.ownsRow_lit w #[enc x] 1 (Nat.le_refl _) (by unfold maxLen; omega) rfl

/-- The first k lists, one behind the other. -/
def cat (ls : Nat → List ByteArray) : Nat → List ByteArray
  | 0 => []
  | k + 1 => cat ls k ++ ls k
theorem cat_mono (ls : Nat → List ByteArray) {k n : Nat} (h : k ≤ n) : (cat ls k).length ≤ (cat ls n).length := by
  induction n with
  | zero => obtain rfl : k = 0 := by omega
            exact Nat.le_refl _
  | succ n ih =>
    by_cases e : k = n + 1
    · subst e; exact Nat.le_refl _
    · have := ih (by omega)
      simp only [cat, List.length_append]; omega

set_option maxHeartbeats 1000000 in
theorem cloneS (v : Value) (l : List ByteArray) (w : World) (h : Holds Value.string w v l) (hl : l.length ≤ 10000000) :
    Calls Tryz.prog 90 #[v] w (GivesS w l) := by
  obtain ⟨x, cx, rfl, hcx, hh⟩ := h.shape
  cases x with
  | none =>
    have hl0 : l = [] := by
      obtain ⟨x', cap', hv, hc', hh'⟩ := hh
      cases hv
      rcases hh' with h1 | ⟨b, off, h1, _⟩
      · exact h1
      · cases h1
    subst hl0
    have hq : ∀ w : World, (binOp .eql 25 (.slice none 0 cx) (.slice none 0 0)).run Tryz.prog w = .ok (.bool true) w := fun w => by
      exact Lib.run_eql_slice_nil w _ _ _ _ _ _ _ Tryz.underlying25
    clear hh h
    simp only [List.length_nil]
    go_enter Tryz.func90, Tryz.ntmps90
    go_wp2
    go_ret
    exact ⟨_, rfl, Own.nil _ _ _ _, Below.refl _ _⟩
  | some ad =>
    have HB := Lib.hid ((Below.refl w.heap.size w).alloc (Nat.le_refl _) (.cells #[] 9))
    have HH := Lib.hid (hh.on HB.out)
    have HO := Lib.hid (own_empty Value.string 9 w)
    have hq : ∀ w : World, (binOp .eql 25 (.slice (some ad) l.length cx) (.slice none 0 0)).run Tryz.prog w = .ok (.bool false) w := fun w => by
      exact Lib.run_eql_slice_nil w _ _ _ _ _ _ _ Tryz.underlying25
    clear hh h
    go_enter Tryz.func90, Tryz.ntmps90
    go_wp2_with (at_builtin; refine wpList_app (enc := Value.string) (B := w.heap.size) (l := []) (m := l) rfl _ _ rfl Tryz.underlying25 elemSTR rfl rfl rfl HO.out HH.out oneStr (by simp; omega) (by unfold maxLen; simp; omega) (by simp) ?_)
    intro v2 w2 ho hg
    have HO2 := Lib.hid ho; have HB2 := Lib.hid (HB.out.grown hg (by simp) (fun g hh => (HO.out.lt g hh).1))
    clear ho hg
    go_wp2_with fail
    go_ret
    exact ⟨_, rfl, HO2.out, HB2.out⟩

end Go.Proofs.YtnblopilgfdjkaaGreat.Row
/- Contracts of CompareNames and EqualNames, the program's and the reference model's, and of the library's Compare and Equal on slices of strings: parts are compared one by one, byte by byte, then the lengths. No conditions but that lengths fit. -/
namespace Go.Proofs.YtnblopilgfdjkaaGreat.Row
open Go.ChangeShapes Go.WideShapes Go.ChangeAt Go.RowKit Go.Instr
set_option linter.unusedVariables false
set_option maxRecDepth 100000

def cmpS (a b : ByteArray) : Int := if Op.bytesLess a.toList b.toList = true then -1 else if a.toList = b.toList then 0 else 1
theorem cmpS_lt {a b : ByteArray} (h : Op.bytesLess a.toList b.toList = true) : cmpS a b = -1 := by simp [cmpS, h]
theorem cmpS_eq {a b : ByteArray} (h : Op.bytesLess a.toList b.toList = false) (he : (a.toList == b.toList) = true) : cmpS a b = 0 := by
  have : a.toList = b.toList := by simpa using he
  rw [cmpS, h, this]; simp
theorem cmpS_gt {a b : ByteArray} (h : Op.bytesLess a.toList b.toList = false) (he : (a.toList == b.toList) = false) : cmpS a b = 1 := by
  have : a.toList ≠ b.toList := by simpa using he
  simp [cmpS, h, this]
theorem cmpS_in (a b : ByteArray) : -1 ≤ cmpS a b ∧ cmpS a b ≤ 1 := by
  unfold cmpS; split
  · omega
  · split <;> omega
def cmpL : List ByteArray → List ByteArray → Int
  | [], [] => 0
  | [], _ :: _ => -1
  | _ :: _, [] => 1
  | a :: x, b :: y => if cmpS a b = 0 then cmpL x y else cmpS a b
theorem drop_nth {α : Type} [Inhabited α] {l : List α} {k : Nat} (h : k < l.length) : l.drop k = nth l k :: l.drop (k + 1) := by
  rw [nth_eq h]; exact List.drop_eq_getElem_cons h
theorem cmpL_same {a b : List ByteArray} {k : Nat} (h : k < a.length) (g : k < b.length) (hc : cmpS (nth a k) (nth b k) = 0) : cmpL (a.drop k) (b.drop k) = cmpL (a.drop (k + 1)) (b.drop (k + 1)) := by
  rw [drop_nth h, drop_nth g]; simp [cmpL, hc]
theorem cmpL_diff {a b : List ByteArray} {k : Nat} (h : k < a.length) (g : k < b.length) (hc : cmpS (nth a k) (nth b k) ≠ 0) : cmpL (a.drop k) (b.drop k) = cmpS (nth a k) (nth b k) := by
  rw [drop_nth h, drop_nth g]; simp [cmpL, hc]
theorem cmpL_long {a b : List ByteArray} {k : Nat} (h : k < a.length) (g : k = b.length) : cmpL (a.drop k) (b.drop k) = 1 := by
  rw [drop_nth h, g, List.drop_length]; rfl
theorem cmpL_short {a b : List ByteArray} {k : Nat} (h : k = a.length) (g : k < b.length) : cmpL (a.drop k) (b.drop k) = -1 := by
  rw [drop_nth g, h, List.drop_length]; rfl
theorem cmpL_both {a b : List ByteArray} {k : Nat} (h : k = a.length) (g : k = b.length) : cmpL (a.drop k) (b.drop k) = 0 := by
  rw [h, List.drop_length, ← h, g, List.drop_length]; rfl
set_option maxHeartbeats 1000000 in
theorem l4Cmp (a b : ByteArray) (w : World) : Calls Tryz.prog 105 #[.string a, .string b] w fun e w' => e = .returned (.int .i64 (cmpS a b)) ∧ w = w' := by
  cases h : Op.bytesLess a.toList b.toList with
  | true =>
    have HC := Lib.hid (cmpS_lt h)
    go_enter Tryz.func105, Tryz.ntmps105
    go_wp2
    go_ret
    exact ⟨ret_int HC.out.symm, rfl⟩
  | false =>
    cases he : (a.toList == b.toList) with
    | true =>
      have HC := Lib.hid (cmpS_eq h he)
      go_enter Tryz.func105, Tryz.ntmps105
      go_wp2
      go_ret
      exact ⟨ret_int HC.out.symm, rfl⟩
    | false =>
      have HC := Lib.hid (cmpS_gt h he)
      go_enter Tryz.func105, Tryz.ntmps105
      go_wp2
      go_ret
      exact ⟨ret_int HC.out.symm, rfl⟩

theorem quiet_add_left {P : Program} {f : FuncId} {args : Array Value} {w : World} {a n : Nat} {v : Value}
    (h : Calls P f args (w.drewN (a + n)) fun e w' => e = .returned v ∧ w.drewN (a + n) = w') :
    Calls P f args (w.drewN (a + n)) fun e w'' => e = .returned v ∧ ∃ m, w'' = w.drewN (a + m) :=
  h.mono fun _ _ ⟨he, hm⟩ => ⟨he, n, hm.symm⟩
theorem quiet_left {P : Program} {f : FuncId} {args : Array Value} {w : World} {n : Nat} {v : Value}
    (h : Calls P f args (w.drewN n) fun e w' => e = .returned v ∧ w.drewN n = w') : Calls P f args (w.drewN n) fun e w'' => e = .returned v ∧ ∃ m, w'' = w.drewN m :=
  h.mono fun _ _ ⟨he, hm⟩ => ⟨he, n, hm.symm⟩
theorem l4CmpV (a b : ByteArray) (c : Int) (w : World) (h : cmpS a b = c) : Calls Tryz.prog 105 #[.string a, .string b] w fun e w' => e = .returned (.int .i64 c) ∧ w = w' := h ▸ l4Cmp a b w

set_option maxHeartbeats 1000000 in
theorem specCompareNames (v u : Value) (l m : List ByteArray) (w : World) (h : Holds Value.string w v l) (g : Holds Value.string w u m) (hl : l.length ≤ 140737488351232) (hm : m.length ≤ 140737488351232) :
    Calls Tryz.prog 93 #[.agg #[v], .agg #[u]] w fun e w' => e = .returned (.int .i64 (cmpL l m)) ∧ Below w.heap.size w w' := by
  obtain ⟨x, cx, rfl, hcx, hh⟩ := h.shape
  obtain ⟨y, cy, rfl, hcy, hg⟩ := g.shape
  obtain ⟨n, hn⟩ : ∃ n, n = l.length := ⟨_, rfl⟩
  obtain ⟨q, hq⟩ : ∃ q, q = m.length := ⟨_, rfl⟩
  rw [← hn] at hcx hh hl ⊢
  rw [← hq] at hcy hg hm ⊢
  have HB := Lib.hid (((Below.refl w.heap.size w).alloc (Nat.le_refl _) (.cells #[.slice x n cx] 27)).alloc (Nat.le_trans (Nat.le_refl _) (by simp)) (.cells #[.slice y q cy] 27))
  have HN := Lib.hid hn; have HQ := Lib.hid hq; have HH := Lib.hid (hh.on HB.out); have HG := Lib.hid (hg.on HB.out)
  clear hn hq h hh g hg
  go_enter Tryz.func93, Tryz.ntmps93
  go_wp2_with fail
  go_loopw [5] (fun i wr => ∃ k nq : Nat, k ≤ n ∧ k ≤ q ∧ i = .int .i64 k ∧ wr = ((w.alloc (.cells #[.slice x n cx] 27)).alloc (.cells #[.slice y q cy] 27)).drewN nq ∧ Hid (cmpL l m = cmpL (l.drop k) (m.drop k))) (fun i _ => n - (intOf i).toNat)
  case atStart => exact ⟨0, 0, Nat.zero_le _, Nat.zero_le _, rfl, rfl, Lib.hid (by simp)⟩
  case round =>
    obtain ⟨k, nq, hk, hkq, rfl, rfl, hc⟩ := hrel
    by_cases hlt : k < n
    · have hlen := HN.out
      by_cases hlq : k < q
      · have hlen2 := HQ.out
        obtain ⟨b, off, rfl, hcx1⟩ := HH.out.at (j := k) (by omega)
        obtain ⟨b', off', rfl, hcy1⟩ := HG.out.at (j := k) (by omega)
        by_cases hd : cmpS (nth l k) (nth m k) = 0
        · have HC := Lib.hid (hc.out.trans (cmpL_same (by omega) (by omega) hd))
          have HD := Lib.hid hd
          clear hlen hlen2 hd
          go_wp2_with fail
          go_quiet ((go_at_call 105; first | exact quiet_add_left (l4CmpV _ _ 0 _ HD.out) | exact quiet_left (l4CmpV _ _ 0 _ HD.out)))
          go_wp2_with fail
          go_roundw
          case rel => exact ⟨k + 1, _, by omega, by omega, by go_num, rfl, HC⟩
          case measure => simp [intOf]; omega
        · have HC := Lib.hid (hc.out.trans (cmpL_diff (by omega) (by omega) hd))
          obtain ⟨c, hce⟩ : ∃ c, c = cmpS (nth l k) (nth m k) := ⟨_, rfl⟩
          have HE := Lib.hid hce
          rw [← hce] at hd
          have hd2 : (c != 0) = true := by simpa using hd
          have hcin := cmpS_in (nth l k) (nth m k)
          rw [← hce] at hcin
          obtain ⟨hc1, hc2⟩ := hcin
          clear hlen hlen2 hd hce
          go_wp2_with fail
          go_quiet ((go_at_call 105; first | exact quiet_add_left (l4CmpV _ _ c _ HE.out.symm) | exact quiet_left (l4CmpV _ _ c _ HE.out.symm)))
          go_wp2_with fail
          go_ret
          exact ⟨ret_int (HE.out.trans HC.out.symm), below_drewN HB.out _⟩
      · obtain rfl : k = q := by omega
        have HC := Lib.hid (hc.out.trans (cmpL_long (by omega) HQ.out))
        clear hlen
        go_wp2
        go_ret
        exact ⟨ret_int HC.out.symm, below_drewN HB.out _⟩
    · obtain rfl : k = n := by omega
      by_cases hlq : k < q
      · have HC := Lib.hid (hc.out.trans (cmpL_short HN.out (by have := HQ.out; omega)))
        go_wp2
        go_ret
        exact ⟨ret_int HC.out.symm, below_drewN HB.out _⟩
      · obtain rfl : k = q := by omega
        have HC := Lib.hid (hc.out.trans (cmpL_both HN.out HQ.out))
        go_wp2
        go_ret
        exact ⟨ret_int HC.out.symm, below_drewN HB.out _⟩

end Go.Proofs.YtnblopilgfdjkaaGreat.Row
/- Contracts of Truncate, EqualNames and HasPrefix, the program's and the reference model's. No conditions but that lengths fit. -/
namespace Go.Proofs.YtnblopilgfdjkaaGreat.Row
open Go.ChangeShapes Go.WideShapes Go.ChangeAt Go.RowKit Go.Instr
set_option linter.unusedVariables false
set_option maxRecDepth 100000

section
variable {α : Type} [Inhabited α] {enc : α → Value} {w : World} {x : Option Addr} {n cap : Nat} {l : List α}
theorem Holds.take (h : Holds enc w (.slice x n cap) l) {j : Nat} (hj : j ≤ l.length) : Holds enc w (.slice x j cap) (l.take j) := by
  obtain ⟨x', cap', hv, hc, hh⟩ := h
  cases hv
  have hl : (l.take j).length = j := by simp; omega
  refine ⟨x, cap, by rw [hl], by omega, ?_⟩
  rcases hh with rfl | ⟨b, off, hx, hh⟩
  · left; simp
  · refine Or.inr ⟨b, off, hx, fun i hi => ?_⟩
    rw [hl] at hi
    rw [hh i (by omega), nth_eq (by omega), nth_eq (by omega)]
    simp
theorem Holds.drop {b off : Nat} (h : Holds enc w (.slice (some ⟨b, off, none⟩) n cap) l) {j : Nat} (hj : j ≤ l.length) : Holds enc w (.slice (some ⟨b, off + j, none⟩) (n - j) (cap - j)) (l.drop j) := by
  obtain ⟨x', cap', hv, hc, hh⟩ := h
  cases hv
  have hl : (l.drop j).length = l.length - j := by simp
  refine ⟨_, cap - j, by rw [hl], by omega, ?_⟩
  rcases hh with rfl | ⟨b', off', hx, hh⟩
  · left; simp
  · cases hx
    refine Or.inr ⟨b, off + j, rfl, fun i hi => ?_⟩
    rw [hl] at hi
    rw [Nat.add_assoc, hh (j + i) (by omega), nth_eq (by omega), nth_eq (by omega)]
    simp
end

/-- What a call that returns a name of its own leaves; a name and a bool; a name that lies somewhere. -/
def GivesN (w : World) (l : List ByteArray) (e : Ending) (w' : World) : Prop := ∃ v, e = .returned (.agg #[v]) ∧ Own 9 Value.string w.heap.size w' v l ∧ Below w.heap.size w w'
def GivesNB (w : World) (l : List ByteArray) (b : Bool) (e : Ending) (w' : World) : Prop := ∃ v, e = .returned (.tuple #[.agg #[v], .bool b]) ∧ Own 9 Value.string w.heap.size w' v l ∧ Below w.heap.size w w'
def GivesHB (w : World) (l : List ByteArray) (b : Bool) (e : Ending) (w' : World) : Prop := ∃ v, e = .returned (.tuple #[.agg #[v], .bool b]) ∧ Holds Value.string w' v l ∧ Below w.heap.size w w'

def trI (l : List ByteArray) (k : Int) : Nat := (Num.maxI 0 (Num.minI k l.length)).toNat
def trN (l : List ByteArray) (k : Int) : List ByteArray := l.take (trI l k)
theorem aggN : Ret.AggOf Tryz.prog 27 1 := by unfold Ret.AggOf; exact ⟨by kernel_rfl, by kernel_rfl⟩

/-- A name lies in its result cell: the last step of a function that returns a name. -/
theorem endN {w w1 : World} {g B : Nat} {v u : Value} {l : List ByteArray} (hw : w.heap.size ≤ g) (hgB : g < B) (ho : Own 9 Value.string B w1 v l) (hc : w1.cell? ⟨g, 0, none⟩ = some u) (hb : Below w.heap.size w w1) :
    (w1.setCell ⟨g, 0, none⟩ v).cell? ⟨g, 0, none⟩ = some v ∧ Own 9 Value.string w.heap.size (w1.setCell ⟨g, 0, none⟩ v) v l ∧ Below w.heap.size w (w1.setCell ⟨g, 0, none⟩ v) :=
  ⟨Ret.set_same hc, (ho.grown (Ret.grownBy_set w1 ⟨g, 0, none⟩ v) (nb ho hgB)).mono (by omega), hb.setCell hw _⟩

end Go.Proofs.YtnblopilgfdjkaaGreat.Row
/- Contracts of EqualNames and HasPrefix, the program's and the reference model's. No conditions but that lengths fit. -/
namespace Go.Proofs.YtnblopilgfdjkaaGreat.Row
open Go.ChangeShapes Go.WideShapes Go.ChangeAt Go.RowKit Go.Instr
set_option linter.unusedVariables false
set_option maxRecDepth 100000

theorem less_irrefl : ∀ l : List UInt8, Op.bytesLess l l = false
  | [] => rfl
  | a :: x => by
    rw [Op.bytesLess, less_irrefl x]
    have : decide (a < a) = false := by simp
    simp
theorem cmpS_zero {a b : ByteArray} : cmpS a b = 0 ↔ a = b := by
  constructor
  · intro h
    unfold cmpS at h
    split at h
    · omega
    · split at h
      · rename_i _ h2; exact toList_inj h2
      · omega
  · rintro rfl
    unfold cmpS
    rw [less_irrefl]; simp
theorem cmpL_zero : ∀ {l m : List ByteArray}, cmpL l m = 0 ↔ l = m
  | [], [] => by simp [cmpL]
  | [], _ :: _ => by simp [cmpL]
  | _ :: _, [] => by simp [cmpL]
  | a :: x, b :: y => by
    unfold cmpL
    by_cases h : cmpS a b = 0
    · rw [if_pos h, cmpL_zero, cmpS_zero.1 h]; simp
    · rw [if_neg h]
      have : a ≠ b := fun e => h (cmpS_zero.2 e)
      constructor
      · intro e; exact absurd e h
      · intro e; cases e; exact absurd rfl this
theorem eqB_cmp (l m : List ByteArray) : eqB l m = (cmpL l m == 0) := by
  unfold eqB
  by_cases h : l = m
  · have := cmpL_zero.2 h
    simp [h, cmpL_zero.2]
  · have h2 : cmpL l m ≠ 0 := fun e => h (cmpL_zero.1 e)
    simp [h, h2]

set_option maxHeartbeats 1000000 in
theorem specEqualNames (v u : Value) (l m : List ByteArray) (w : World) (h : Holds Value.string w v l) (g : Holds Value.string w u m) (hl : l.length ≤ 140737488351232) (hm : m.length ≤ 140737488351232) :
    Calls Tryz.prog 77 #[.agg #[v], .agg #[u]] w fun e w' => e = .returned (.bool (eqB l m)) ∧ Below w.heap.size w w' := by
  obtain ⟨x, cx, rfl, hcx, hh⟩ := h.shape
  obtain ⟨y, cy, rfl, hcy, hg⟩ := g.shape
  have HH := Lib.hid hh; have HG := Lib.hid hg
  have HE := Lib.hid (eqB_cmp l m)
  clear hh h hg g
  go_enter Tryz.func77, Tryz.ntmps77
  go_wp2_with fail
  have HB := Lib.hid (((Below.refl w.heap.size w).alloc (Nat.le_refl _) (.cells #[.slice x l.length cx] 27)).alloc (Nat.le_trans (Nat.le_refl _) (by simp)) (.cells #[.slice y m.length cy] 27))
  have HA := Lib.hid (HH.out.on HB.out); have HC := Lib.hid (HG.out.on HB.out)
  refine (specCompareNames _ _ l m _ HA.out HC.out hl hm).mono ?_
  rintro e w' ⟨rfl, hb⟩
  have HB2 := Lib.hid (HB.out.trans (hb.mono (by simp; omega))); clear hb
  go_wp2
  go_ret
  exact ⟨ret_bool HE.out.symm, HB2.out⟩

def hpB (l m : List ByteArray) : Bool := decide (m.length ≤ l.length ∧ l.take m.length = m)
end Go.Proofs.YtnblopilgfdjkaaGreat.Row
