/- Contracts and mathematics, joined: Want, Gives, Conv, VarMath, Var, ReadV, ReadVI, Bytes, Ints, WantS, WantV, Clone, EqN, KWant, ReadB, WantE, WantP, PendMath, PendK, RowK, PendC0, PendI, PendG, PendF, PendC1, PendC2, PendL0, PendD, PendN0, MarkK, ByK, MarkF, RequesterSM, PendingInterestSM, SeenNonceSM, NameK, NameSK, NameSM, NameSW, PendZ, PendS, PendM, PendN1, PendL1, PendL, PendL2, PendL3, Open. No conditions but those that each states. -/
import Derived.Test.YtjphnlkdbhcblaaB1
import Derived.LoopTactic
import Derived.Lib.ConvBytes
import Derived.Laws.BitsLemmas
import Derived.Laws.Bits128
import Derived.Test.YtjphnlkdbhcblaaRows
import Derived.Laws.ShiftsVarLaws
import Derived.Laws.BytesArg
import Derived.Deep.Cut
import Derived.WalkKit
import Derived.Deep.RegionHeld3
import Derived.SizedLaws
import Derived.ChangeSlices
import Derived.ChangeSame
import Derived.ChangeArms
import Derived.Deep.Strs
import Derived.Lib.SmallJoins
import Derived.Deep.RegionLaw
import Derived.RangeFuncNested
import Derived.RangeFuncBound
import Derived.RangeFuncCalls
import Derived.RangeFuncLeaves
import Derived.RangeFuncBox
import Derived.Shelf.Abstract
import Derived.Shelf.RegionOpen
import Derived.OwnWalkIn
import Derived.TacticsInMore
import Derived.LoopNIn
import Derived.LoopIn
import Derived.Lib.AppendZerosOnto
/- Contracts of the helpers by which the laws measure, copy, compare, mark and look at interests (a name and three numbers). No conditions but that lengths fit. -/
namespace Go.Proofs.Ytjphnlkdbhcblaa.Row
open Go.ChangeShapes Go.WideShapes Go.ChangeAt Go.RowKit Go.Instr
set_option linter.unusedVariables false
set_option maxRecDepth 100000
abbrev wc (v : Value) (a b c : Int) : Array Value := #[v, .int .i64 a, .int .i64 b, .int .i64 c]
theorem aggW : Ret.AggOf Try.prog 33 4 := ⟨by kernel_rfl, by kernel_rfl⟩
theorem own_set {α : Type} [Inhabited α] {enc : α → Value} {e : TypeId} {B g i : Nat} {w : World} {v u : Value} {l : List α} (h : Own e enc B w v l) (hg : g < B) : Own e enc B (w.setCell ⟨g, i, none⟩ u) v l := h.grown (Ret.grownBy_set w ⟨g, i, none⟩ u) (nb h hg)
set_option maxHeartbeats 1000000 in
theorem szInterest (v : Value) (l : List ByteArray) (a b c : Int) (w : World) (left : Int) (h : Holds Value.string w v l) (hl : l.length ≤ 9223372036854775807) (hs : ∀ x ∈ l, x.size ≤ maxLen) (h0 : 0 ≤ left) (h1 : left ≤ 1048576) :
    Calls Try.prog 27 #[.agg (wc v a b c), .int .i64 left] w fun e w' => e = .returned (.int .i64 (szL l left)) ∧ Below w.heap.size w w' := by
  obtain ⟨x, n, cap, rfl, hn, hcap, hh⟩ := h.shapeN
  have HB := Lib.hid ((Below.refl w.heap.size w).alloc (Nat.le_refl _) (.cells (wc (.slice x n cap) a b c) 48))
  have HA := Lib.hid (hh.on HB.out); have HS := Lib.hid hs
  clear hh h hs hn
  go_enter Try.func27, Try.ntmps27
  go_wp2_with fail
  refine (szName _ l _ left HA.out hl HS.out h0 h1).mono ?_
  rintro e w' ⟨rfl, hb⟩
  have HB2 := Lib.hid (HB.out.trans (hb.mono HB.out.size)); clear hb
  by_cases hb : (bulk l : Int) ≤ left
  · rw [szL_fit hb]
    have h2 : ¬ left - (bulk l : Int) < 0 := by omega
    go_wp2
    go_ret
    exact ⟨ret_int (szL_fit hb).symm, HB2.out⟩
  · have hz := szL_not (l := l) (left := left) (by omega)
    rw [hz]
    have HZ := Lib.hid hz; clear hz
    go_wp2
    go_ret
    exact ⟨ret_int HZ.out.symm, HB2.out⟩
set_option maxHeartbeats 2000000 in
theorem toInterest (v : Value) (l : List ByteArray) (a b c : Int) (w : World) (h : Holds Value.string w v l) (hl : l.length ≤ 100000000) :
    Calls Try.prog 30 #[.agg (wc v a b c)] w fun e w' => ∃ v', e = .returned (.agg (wc v' a b c)) ∧ Own 9 Value.string w.heap.size w' v' l ∧ Below w.heap.size w w' := by
  obtain ⟨x, n, cap, rfl, hn, hcap, hh⟩ := h.shapeN
  have hb0 := (Below.refl w.heap.size w).alloc (Nat.le_refl _) (.cells (wc (.slice x n cap) a b c) 48)
  have hb1 := hb0.alloc (by simp) (.cells (wc (.slice none 0 0) 0 0 0) 33)
  have hb2 := hb1.alloc (by simp; omega) (.cells (wc (.slice none 0 0) 0 0 0) 33)
  have HB := Lib.hid hb2
  have HA := Lib.hid (hh.on hb2)
  have X0 := Lib.hid (((Ret.Blk.new w (wc (.slice x n cap) a b c) 48).on ((Below.refl _ _).alloc (Nat.le_refl _) (.cells (wc (.slice none 0 0) 0 0 0) 33))).on ((Below.refl _ _).alloc (Nat.le_refl _) (.cells (wc (.slice none 0 0) 0 0 0) 33)))
  have X1 := Lib.hid ((Ret.Blk.new' (w := w.alloc (.cells (wc (.slice x n cap) a b c) 48)) (n := w.heap.size + 1) (wc (.slice none 0 0) 0 0 0) 33 (by simp)).on ((Below.refl _ _).alloc (Nat.le_refl _) (.cells (wc (.slice none 0 0) 0 0 0) 33)))
  have X2 := Lib.hid (Ret.Blk.new' (w := (w.alloc (.cells (wc (.slice x n cap) a b c) 48)).alloc (.cells (wc (.slice none 0 0) 0 0 0) 33)) (n := w.heap.size + 1 + 1) (wc (.slice none 0 0) 0 0 0) 33 (by simp))
  clear hh h hn hb0 hb1 hb2
  go_enter Try.func30, Try.ntmps30
  go_wp2_with fail
  refine (toName _ l _ HA.out hl).mono ?_
  rintro e w1 ⟨v1, rfl, ho, hb⟩
  obtain ⟨x1, n1, c1, rfl, -, hc1, ho1⟩ := ho.shapeN
  have HO := Lib.hid ho1
  have Y0 := Lib.hid (X0.out.on hb); have Y1 := Lib.hid (X1.out.on hb); have Y2 := Lib.hid (X2.out.on hb)
  have HB1 := Lib.hid (HB.out.trans (hb.mono HB.out.size))
  clear ho ho1 hb X0 X1 X2
  have q1 : w1.cell? ⟨w.heap.size, 1, none⟩ = some (.int .i64 a) := Y0.out.cell 1
  have q2 : w1.cell? ⟨w.heap.size, 2, none⟩ = some (.int .i64 b) := Y0.out.cell 2
  have q3 : w1.cell? ⟨w.heap.size, 3, none⟩ = some (.int .i64 c) := Y0.out.cell 3
  have r0 : w1.cell? ⟨w.heap.size + 1, 0, none⟩ = some (.slice none 0 0) := Y1.out.cell 0
  have r1 : w1.cell? ⟨w.heap.size + 1, 1, none⟩ = some (.int .i64 0) := Y1.out.cell 1
  have r2 : w1.cell? ⟨w.heap.size + 1, 2, none⟩ = some (.int .i64 0) := Y1.out.cell 2
  have r3 : w1.cell? ⟨w.heap.size + 1, 3, none⟩ = some (.int .i64 0) := Y1.out.cell 3
  have s0 : w1.cell? ⟨w.heap.size + 1 + 1, 0, none⟩ = some (.slice none 0 0) := Y2.out.cell 0
  have s1 : w1.cell? ⟨w.heap.size + 1 + 1, 1, none⟩ = some (.int .i64 0) := Y2.out.cell 1
  have s2 : w1.cell? ⟨w.heap.size + 1 + 1, 2, none⟩ = some (.int .i64 0) := Y2.out.cell 2
  have s3 : w1.cell? ⟨w.heap.size + 1 + 1, 3, none⟩ = some (.int .i64 0) := Y2.out.cell 3
  have t0 := Y1.out.frozen 0; have t1 := Y1.out.frozen 1; have t2 := Y1.out.frozen 2; have t3 := Y1.out.frozen 3
  have u0_ := Y2.out.frozen 0; have u1_ := Y2.out.frozen 1; have u2_ := Y2.out.frozen 2; have u3_ := Y2.out.frozen 3
  have Z1 := Lib.hid ((((((((Y1.out.other (a := ⟨w.heap.size + 1 + 1, 0, none⟩) (by simp) (.slice x1 n1 c1)).other (a := ⟨w.heap.size + 1 + 1, 1, none⟩) (by simp) (.int .i64 a)).other (a := ⟨w.heap.size + 1 + 1, 2, none⟩) (by simp) (.int .i64 b)).other (a := ⟨w.heap.size + 1 + 1, 3, none⟩) (by simp) (.int .i64 c)).set 0 (.slice x1 n1 c1)).set 1 (.int .i64 a)).set 2 (.int .i64 b)).set 3 (.int .i64 c))
  have Z2 := Lib.hid (own_set (g := w.heap.size + 1) (i := 3) (u := (.int .i64 c)) (own_set (g := w.heap.size + 1) (i := 2) (u := (.int .i64 b)) (own_set (g := w.heap.size + 1) (i := 1) (u := (.int .i64 a)) (own_set (g := w.heap.size + 1) (i := 0) (u := (.slice x1 n1 c1)) (own_set (g := w.heap.size + 1 + 1) (i := 3) (u := (.int .i64 c)) (own_set (g := w.heap.size + 1 + 1) (i := 2) (u := (.int .i64 b)) (own_set (g := w.heap.size + 1 + 1) (i := 1) (u := (.int .i64 a)) (own_set (g := w.heap.size + 1 + 1) (i := 0) (u := (.slice x1 n1 c1)) HO.out (by simp)) (by simp)) (by simp)) (by simp)) (by simp)) (by simp)) (by simp)) (by simp))
  have Z3 := Lib.hid ((((((((HB1.out.setCell (p := ⟨w.heap.size + 1 + 1, 0, none⟩) (by simp; omega) (.slice x1 n1 c1)).setCell (p := ⟨w.heap.size + 1 + 1, 1, none⟩) (by simp; omega) (.int .i64 a)).setCell (p := ⟨w.heap.size + 1 + 1, 2, none⟩) (by simp; omega) (.int .i64 b)).setCell (p := ⟨w.heap.size + 1 + 1, 3, none⟩) (by simp; omega) (.int .i64 c)).setCell (p := ⟨w.heap.size + 1, 0, none⟩) (by simp) (.slice x1 n1 c1)).setCell (p := ⟨w.heap.size + 1, 1, none⟩) (by simp) (.int .i64 a)).setCell (p := ⟨w.heap.size + 1, 2, none⟩) (by simp) (.int .i64 b)).setCell (p := ⟨w.heap.size + 1, 3, none⟩) (by simp) (.int .i64 c))
  clear Y0 Y1 Y2
  go_wp2_with fail
  refine bodyPost_ret (Ret.results_c rfl _ _ (w.heap.size + 1) (wc (.slice x1 n1 c1) a b c).toList rfl aggW Z1.out.cells) rfl ?_
  exact ⟨_, rfl, Z2.out.mono (by simp; omega), Z3.out⟩
set_option maxHeartbeats 2000000 in
theorem eqInterest (v u : Value) (x y : List ByteArray × Int × Int × Int) (w : World) (q : Bool) (hq : decide (x = y) = q) (h : Holds Value.string w v x.1) (g : Holds Value.string w u y.1) (hl : x.1.length ≤ 140737488351232) (hm : y.1.length ≤ 140737488351232) :
    Calls Try.prog 32 #[.agg (wc v x.2.1 x.2.2.1 x.2.2.2), .agg (wc u y.2.1 y.2.2.1 y.2.2.2)] w fun e w' => e = .returned (.bool q) ∧ Below w.heap.size w w' := by
  obtain ⟨ps, a1, a2, a3⟩ := x
  obtain ⟨qs, b1, b2, b3⟩ := y
  simp only at h g hl hm ⊢
  obtain ⟨x, n, cap, rfl, -, hcap, hh⟩ := h.shapeN
  obtain ⟨y, m, cap', rfl, -, hcap', hg⟩ := g.shapeN
  have hb0 := (Below.refl w.heap.size w).alloc (Nat.le_refl _) (.cells (wc (.slice x n cap) a1 a2 a3) 33)
  have HB := Lib.hid (hb0.alloc (by simp) (.cells (wc (.slice y m cap') b1 b2 b3) 33))
  have HH := Lib.hid (hh.on HB.out); have HG := Lib.hid (hg.on HB.out)
  have X0 := Lib.hid ((Ret.Blk.new w (wc (.slice x n cap) a1 a2 a3) 33).on ((Below.refl _ _).alloc (Nat.le_refl _) (.cells (wc (.slice y m cap') b1 b2 b3) 33)))
  have X1 := Lib.hid (Ret.Blk.new' (w := w.alloc (.cells (wc (.slice x n cap) a1 a2 a3) 33)) (n := w.heap.size + 1) (wc (.slice y m cap') b1 b2 b3) 33 (by simp))
  have HQ := Lib.hid hq
  clear hh hg h g hq hb0
  go_enter Try.func32, Try.ntmps32
  go_wp2_with fail
  refine (eqName _ _ ps qs _ HH.out HG.out hl hm).mono ?_
  rintro e w1 ⟨rfl, hb⟩
  have Y0 := Lib.hid (X0.out.on hb); have Y1 := Lib.hid (X1.out.on hb)
  have HB2 := Lib.hid (HB.out.trans (hb.mono HB.out.size)); clear hb X0 X1
  have q1 : w1.cell? ⟨w.heap.size, 1, none⟩ = some (.int .i64 a1) := Y0.out.cell 1
  have q2 : w1.cell? ⟨w.heap.size, 2, none⟩ = some (.int .i64 a2) := Y0.out.cell 2
  have q3 : w1.cell? ⟨w.heap.size, 3, none⟩ = some (.int .i64 a3) := Y0.out.cell 3
  have r1 : w1.cell? ⟨w.heap.size + 1, 1, none⟩ = some (.int .i64 b1) := Y1.out.cell 1
  have r2 : w1.cell? ⟨w.heap.size + 1, 2, none⟩ = some (.int .i64 b2) := Y1.out.cell 2
  have r3 : w1.cell? ⟨w.heap.size + 1, 3, none⟩ = some (.int .i64 b3) := Y1.out.cell 3
  by_cases he : ps = qs
  · rw [eqB_true he]
    by_cases h1 : a1 = b1
    · have t1 : (a1 != b1) = false := by simp [h1]
      by_cases h2 : a2 = b2
      · have t2 : (a2 != b2) = false := by simp [h2]
        by_cases h3 : a3 = b3
        · have t3 : (a3 != b3) = false := by simp [h3]
          have HE : Hid (q = true) := Lib.hid (by rw [← HQ.out]; simp [he, h1, h2, h3])
          clear he h1 h2 h3
          go_wp2
          go_ret
          exact ⟨ret_bool HE.out.symm, HB2.out⟩
        · have t3 : (a3 != b3) = true := by simpa using h3
          have HE : Hid (q = false) := Lib.hid (by rw [← HQ.out]; simp [h3])
          clear he h1 h2 h3
          go_wp2
          go_ret
          exact ⟨ret_bool HE.out.symm, HB2.out⟩
      · have t2 : (a2 != b2) = true := by simpa using h2
        have HE : Hid (q = false) := Lib.hid (by rw [← HQ.out]; simp [h2])
        clear he h1 h2
        go_wp2
        go_ret
        exact ⟨ret_bool HE.out.symm, HB2.out⟩
    · have t1 : (a1 != b1) = true := by simpa using h1
      have HE : Hid (q = false) := Lib.hid (by rw [← HQ.out]; simp [h1])
      clear he h1
      go_wp2
      go_ret
      exact ⟨ret_bool HE.out.symm, HB2.out⟩
  · rw [eqB_false he]
    have HE : Hid (q = false) := Lib.hid (by rw [← HQ.out]; simp [he])
    clear he
    go_wp2
    go_ret
    exact ⟨ret_bool HE.out.symm, HB2.out⟩
end Go.Proofs.Ytjphnlkdbhcblaa.Row
/- What calls leave that give a slice of the call's own; lists of bytes. No conditions. -/
namespace Go.Proofs.Ytjphnlkdbhcblaa.Sl
open Go.ChangeShapes Go.WideShapes Go.ChangeAt Go.RowKit Go.Instr
set_option linter.unusedVariables false
set_option maxRecDepth 100000
def GivesB (w : World) (l : List Int) (e : Ending) (w' : World) : Prop := ∃ v, e = .returned v ∧ Own 5 .u8 w.heap.size w' v l ∧ Below w.heap.size w w'
def GivesI (w : World) (l : List Int) (e : Ending) (w' : World) : Prop := ∃ v, e = .returned v ∧ Own 3 .i64 w.heap.size w' v l ∧ Below w.heap.size w w'
def Byt (l : List Int) : Prop := ∀ x ∈ l, 0 ≤ x ∧ x ≤ 255
theorem Byt.at {l : List Int} (h : Byt l) {j : Nat} (hj : j < l.length) : 0 ≤ nth l j ∧ nth l j ≤ 255 := by rw [nth_eq hj]; exact h _ (List.getElem_mem hj)
end Go.Proofs.Ytjphnlkdbhcblaa.Sl
/- A string turned into a slice of bytes: where they lie, what they are. No conditions. -/
namespace Go.Proofs.Ytjphnlkdbhcblaa.Sl
open Go.ChangeShapes Go.WideShapes Go.ChangeAt Go.RowKit Go.Instr
set_option linter.unusedVariables false
set_option maxRecDepth 100000
def bytesOf (t : ByteArray) : List Int := t.data.toList.map fun c => (c.toNat : Int)
end Go.Proofs.Ytjphnlkdbhcblaa.Sl
/- Plain mathematics of the base-128 encoding, no program in sight: the encoding's bytes, how they are read back, how long they are. No conditions. -/
namespace Go.Proofs.Ytjphnlkdbhcblaa.Var
def enc (n : Nat) : List Int := if h : n < 128 then [(n : Int)] else (((n % 128 : Nat) : Int) + 128) :: enc (n / 128)
  termination_by n
  decreasing_by omega
def var (n : Int) : List Int := if 0 ≤ n ∧ n ≤ 1000000000000 then enc n.toNat else []
def dec : Nat → List Int → Nat → Int → Option (Int × Nat)
  | 0, _, _, _ => none
  | _ + 1, [], _, _ => none
  | f + 1, x :: r, k, n =>
    if x < 128 then (if (x = 0 ∧ 0 < k) ∨ 1000000000000 < n + x * 128 ^ k then none else some (n + x * 128 ^ k, k + 1))
    else dec f r (k + 1) (n + x % 128 * 128 ^ k)
def okAt (l : List Int) (i : Int) : Prop := 0 ≤ i ∧ i ≤ l.length
def res (i : Int) : Option (Int × Nat) → Int × Int × Bool
  | none => (0, 0, false)
  | some (n, c) => (n, i + c, true)
def readV (l : List Int) (i : Int) : Int × Int × Bool := if 0 ≤ i ∧ i ≤ l.length then res i (dec 6 (l.drop i.toNat) 0 0) else (0, 0, false)
end Go.Proofs.Ytjphnlkdbhcblaa.Var
/- Contracts of AppendVarint, the reference model's and the program's: the slice and behind it the number's groups, in memory of the call's own. No conditions but that lengths fit. -/
namespace Go.Proofs.Ytjphnlkdbhcblaa.Sl
open Go.ChangeShapes Go.WideShapes Go.ChangeAt Go.RowKit Go.Instr
set_option linter.unusedVariables false
set_option maxRecDepth 100000
def GrowsB (B : Nat) (w : World) (l : List Int) (e : Ending) (w' : World) : Prop := ∃ v, e = .returned v ∧ Own 5 .u8 B w' v l ∧ Below B w w'
end Go.Proofs.Ytjphnlkdbhcblaa.Sl
/- Contracts of ReadVarint, the reference model's and the program's: what the groups at the offset make, the offset behind them, true; or 0, 0 and false. Nothing in memory turns. No conditions but that the elements are bytes and the length fits. -/
namespace Go.Proofs.Ytjphnlkdbhcblaa.Sl
open Go.ChangeShapes Go.WideShapes Go.ChangeAt Go.RowKit Go.Instr
set_option linter.unusedVariables false
set_option maxRecDepth 100000
def rdV (r : Int × Int × Bool) : Value := .tuple #[.int .i64 r.1, .int .i64 r.2.1, .bool r.2.2]
end Go.Proofs.Ytjphnlkdbhcblaa.Sl
/- Contracts of the program's ReadVarint: what the groups at the offset make, the offset behind them, true; or 0, 0 and false. What was in memory stays as it was. No conditions but that the elements are bytes and the length fits. -/
namespace Go.Proofs.Ytjphnlkdbhcblaa.Sl
open Go.ChangeShapes Go.WideShapes Go.ChangeAt Go.RowKit Go.Instr
set_option linter.unusedVariables false
set_option maxRecDepth 100000
end Go.Proofs.Ytjphnlkdbhcblaa.Sl
/- Contracts of AppendBytes, EqualBytes and EncodeInts, the reference model's and the program's. Slices that are returned lie in memory of the call's own. No conditions but that lengths fit and that the elements are bytes. -/
namespace Go.Proofs.Ytjphnlkdbhcblaa.Sl
open Go.ChangeShapes Go.WideShapes Go.ChangeAt Go.RowKit Go.Instr
set_option linter.unusedVariables false
set_option maxRecDepth 100000
end Go.Proofs.Ytjphnlkdbhcblaa.Sl
/- Contracts of EncodeInts, the reference model's and the program's: the numbers' groups, one number after the other, in memory of the call's own. No conditions but that lengths fit. -/
namespace Go.Proofs.Ytjphnlkdbhcblaa.Sl
open Go.ChangeShapes Go.WideShapes Go.ChangeAt Go.RowKit Go.Instr
set_option linter.unusedVariables false
set_option maxRecDepth 100000
def encs (l : List Int) : List Int := l.flatMap Var.var
end Go.Proofs.Ytjphnlkdbhcblaa.Sl
/- Contracts of the model's functions on interests: AppendName. No conditions but that lengths fit. -/
namespace Go.Proofs.Ytjphnlkdbhcblaa.Row
open Go.ChangeShapes Go.WideShapes Go.ChangeAt Go.RowKit Go.Instr
set_option linter.unusedVariables false
set_option maxRecDepth 100000
def encPs (l : List ByteArray) : List Int := l.flatMap fun s => Var.var s.size ++ Sl.bytesOf s
def encN (l : List ByteArray) : List Int := Var.var l.length ++ encPs l
def appName (b : List Int) (l : List ByteArray) : List Int := if validN l = true then b ++ encN l else b
end Go.Proofs.Ytjphnlkdbhcblaa.Row
/- Contracts of the model's functions on interests: validity, copy, equality, the hop limit. No conditions but that lengths fit. -/
namespace Go.Proofs.Ytjphnlkdbhcblaa.Row
open Go.ChangeShapes Go.WideShapes Go.ChangeAt Go.RowKit Go.Instr
set_option linter.unusedVariables false
set_option maxRecDepth 100000
abbrev Wt := List ByteArray × Int × Int × Int
def validW (x : Wt) : Bool := validN x.1 && decide (0 < x.1.length) && decide (0 ≤ x.2.1 ∧ x.2.1 ≤ 1000000) && decide (0 ≤ x.2.2.1 ∧ x.2.2.1 ≤ 16) && decide (1 ≤ x.2.2.2 ∧ x.2.2.2 ≤ 20)
def GivesW (w : World) (x : Wt) (e : Ending) (w' : World) : Prop := ∃ v', e = .returned (.agg (wc v' x.2.1 x.2.2.1 x.2.2.2)) ∧ Own 9 Value.string w.heap.size w' v' x.1 ∧ Below w.heap.size w w'
def GivesWB (w : World) (x : Wt) (z : Bool) (e : Ending) (w' : World) : Prop := ∃ v', e = .returned (.tuple #[.agg (wc v' x.2.1 x.2.2.1 x.2.2.2), .bool z]) ∧ Own 9 Value.string w.heap.size w' v' x.1 ∧ Below w.heap.size w w'
def decW (x : Wt) : Wt := if x.2.2.1 < 1 then x else (x.1, x.2.1, x.2.2.1 - 1, x.2.2.2)
def decOk (x : Wt) : Bool := decide (1 ≤ x.2.2.1)
end Go.Proofs.Ytjphnlkdbhcblaa.Row
/- Contract of the program's copy of a name. No conditions but that lengths fit. -/
namespace Go.Proofs.Ytjphnlkdbhcblaa.Row
open Go.ChangeShapes Go.WideShapes Go.ChangeAt Go.RowKit Go.Instr
set_option linter.unusedVariables false
set_option maxRecDepth 100000
end Go.Proofs.Ytjphnlkdbhcblaa.Row
/- Names in the kinds of kstruct.py: ValidName, EqualNames, the copies, model and program. No conditions but that lengths fit. -/
namespace Go.Proofs.Ytjphnlkdbhcblaa.Row
open Go.ChangeShapes Go.WideShapes Go.ChangeAt Go.RowKit Go.Instr
set_option linter.unusedVariables false
set_option maxRecDepth 100000
section
variable {w : World} {V U : Value} {l m : List ByteArray} {B E : Nat}
theorem sEqK (z : Bool) (hz : decide (l = m) = z) (h : kN.At w V l) (g : kN.At w U m) (hl : bulk l ≤ 9000000) (hm : bulk m ≤ 9000000) :
    Calls Try.prog 83 #[V, U] w fun e w' => e = .returned (.bool z) ∧ Below w.heap.size w w' := by
  obtain ⟨v, rfl, h9⟩ := kN_at h
  obtain ⟨u, rfl, g9⟩ := kN_at g
  exact hz ▸ specEqualNames v u l m w h9 g9 (by have := bulk_len l; omega) (by have := bulk_len m; omega)
theorem iEqK (z : Bool) (hz : decide (l = m) = z) (h : kN.At w V l) (g : kN.At w U m) (hl : bulk l ≤ 9000000) (hm : bulk m ≤ 9000000) :
    Calls Try.prog 71 #[V, U] w fun e w' => e = .returned (.bool z) ∧ Below w.heap.size w w' := by
  obtain ⟨v, rfl, h9⟩ := kN_at h
  obtain ⟨u, rfl, g9⟩ := kN_at g
  exact hz ▸ implEqualNames v u l m w h9 g9 (by have := bulk_len l; omega) (by have := bulk_len m; omega)
end
end Go.Proofs.Ytjphnlkdbhcblaa.Row
/- Interests in the words of the exact laws: the kind; the laws' helpers for it; an interest that came in as an argument. No conditions but that lengths fit. -/
namespace Go.Proofs.Ytjphnlkdbhcblaa.Row
open Go.ChangeShapes Go.WideShapes Go.ChangeAt Go.RowKit Go.Instr
set_option linter.unusedVariables false
set_option maxRecDepth 100000
def kW : Kd Wt (Rw ByteArray × Int × Int × Int) := (kNm 9).pair (kInt.pair (kInt.pair kInt))
section
variable {w : World} {v V : Value} {x : Wt} {B E : Nat}
theorem kW_at (h : kW.At w V x) : ∃ v, V = .agg (wc v x.2.1 x.2.2.1 x.2.2.2) ∧ Holds Value.string w v x.1 := by
  obtain ⟨⟨r, a, b, c⟩, rfl, rfl, h⟩ := h
  exact ⟨r.v, rfl, kNm_at (e := 9) ⟨r, rfl, rfl, h.1⟩⟩
theorem kW_of (h : Holds Value.string w v x.1) : kW.At w (.agg (wc v x.2.1 x.2.2.1 x.2.2.2)) x := by
  obtain ⟨l, a, b, c⟩ := x
  obtain ⟨m, rfl, e, h⟩ := kNm_of (e := 9) h
  exact ⟨(m, a, b, c), rfl, Prod.ext e rfl, h, trivial, trivial, trivial⟩
theorem kW_mk (h : Own 9 Value.string B w v x.1) (hE : ∀ g, v.ownBlock = some g → g < E) : kW.In B E w (.agg (wc v x.2.1 x.2.2.1 x.2.2.2)) x := by
  obtain ⟨l, a, b, c⟩ := x
  obtain ⟨m, rfl, e, h, hn, hl⟩ := kNm_mk h hE
  have hb : kW.blocks (m, a, b, c) = (kNm 9).blocks m := List.append_nil _
  exact ⟨(m, a, b, c), rfl, Prod.ext e rfl, ⟨h, trivial, trivial, trivial⟩, by rw [hb]; exact hn, by rw [hb]; exact hl⟩
theorem kW_own (h : Own 9 Value.string B w v x.1) : kW.In B w.heap.size w (.agg (wc v x.2.1 x.2.2.1 x.2.2.2)) x := kW_mk h (fun g hg => (h.lt g hg).2)
theorem kW_in (h : kW.In B E w V x) : ∃ v, V = .agg (wc v x.2.1 x.2.2.1 x.2.2.2) ∧ Own 9 Value.string B w v x.1 ∧ ∀ g, v.ownBlock = some g → g < E := by
  obtain ⟨⟨r, a, b, c⟩, rfl, rfl, h, hn, hl⟩ := h
  have hb : kW.blocks (r, a, b, c) = (kNm 9).blocks r := List.append_nil _
  rw [hb] at hn hl
  exact ⟨r.v, rfl, kNm_in (e := 9) ⟨r, rfl, rfl, h.1, hn, hl⟩⟩
theorem kW_shape (h : kW.In B E w V x) : ∃ a n c, V = .agg #[.slice a n c, .int .i64 x.2.1, .int .i64 x.2.2.1, .int .i64 x.2.2.2] ∧ kW.In B E w (.agg #[.slice a n c, .int .i64 x.2.1, .int .i64 x.2.2.1, .int .i64 x.2.2.2]) x := by
  obtain ⟨v, rfl, ho, -⟩ := kW_in h
  obtain ⟨a, n, c, rfl, -⟩ := ho.shapeN
  exact ⟨a, n, c, rfl, h⟩
theorem kW_shapeA (h : kW.At w V x) : ∃ a n c, V = .agg #[.slice a n c, .int .i64 x.2.1, .int .i64 x.2.2.1, .int .i64 x.2.2.2] ∧ kW.At w (.agg #[.slice a n c, .int .i64 x.2.1, .int .i64 x.2.2.1, .int .i64 x.2.2.2]) x := by
  obtain ⟨v, rfl, ho⟩ := kW_at h
  obtain ⟨a, n, c, rfl, -⟩ := ho.shapeN
  exact ⟨a, n, c, rfl, h⟩
end
def WfW (x : Wt) : Prop := (∀ y ∈ x.1, y.size ≤ maxLen) ∧ (Lit.int .i64 x.2.1).wf = true ∧ (Lit.int .i64 x.2.2.1).wf = true ∧ (Lit.int .i64 x.2.2.2).wf = true
theorem szWK (V : Value) (x : Wt) (w : World) (left : Int) (h : kW.At w V x) (hl : x.1.length ≤ 9223372036854775807) (hs : WfW x) (h0 : 0 ≤ left) (h1 : left ≤ 1048576) :
    Calls Try.prog 27 #[V, .int .i64 left] w fun e w' => e = .returned (.int .i64 (szL x.1 left)) ∧ Below w.heap.size w w' := by
  obtain ⟨v, rfl, h9⟩ := kW_at h
  exact szInterest v x.1 _ _ _ w left h9 hl hs.1 h0 h1
theorem toWK (V : Value) (x : Wt) (w : World) (h : kW.At w V x) (hl : x.1.length ≤ 100000000) :
    Calls Try.prog 30 #[V] w fun e w' => ∃ U, e = .returned U ∧ kW.In w.heap.size w'.heap.size w' U x ∧ Below w.heap.size w w' := by
  obtain ⟨v, rfl, h9⟩ := kW_at h
  exact (toInterest v x.1 _ _ _ w h9 hl).mono fun e w' ⟨v, a, b, c⟩ => ⟨_, a, kW_own b, c⟩
theorem sameWK (V U : Value) (x : Wt) (w : World) (h : kW.At w V x) (g : kW.At w U x) (hl : x.1.length ≤ 100000000) :
    Calls Try.prog 32 #[V, U] w fun e w' => e = .returned (.bool true) ∧ Below w.heap.size w w' := by
  obtain ⟨v, rfl, h9⟩ := kW_at h
  obtain ⟨u, rfl, g9⟩ := kW_at g
  exact eqInterest v u x x w true (by simp) h9 g9 (by omega) (by omega)
def mkW (k : Int) (x : Wt) : Wt := (marks markT k x.1.length, x.2.1, x.2.2.1, x.2.2.2)
theorem open_want {H : Type} {enc : TypeId × Value → H} {P : Program} {w : World} {base b2 : Nat} {held : Bool} {t ep : TypeId} {v : Value} {d : DataW H} {p : List MemPlace} {f0 f1 f2 f3 g0 : Field}
    (he : P.underlying t = some (.struct #[f0, f1, f2, f3])) (hN : P.underlying f0.type = some (.struct #[g0])) (hg : P.underlying g0.type = some (.slice ep)) (hs : P.underlying ep = some .string) (hI1 : P.underlying f1.type = some (.int .i64)) (hI2 : P.underlying f2.type = some (.int .i64)) (hI3 : P.underlying f3.type = some (.int .i64))
    (ho0 : f0.offset = 0) (ho1 : f1.offset = 1) (ho2 : f2.offset = 2) (ho3 : f3.offset = 3) (hog : g0.offset = 0) (hc0 : P.cellsOf f0.type = 1) (hc1 : P.cellsOf f1.type = 1) (hc2 : P.cellsOf f2.type = 1) (hc3 : P.cellsOf f3.type = 1) (hcg : P.cellsOf g0.type = 1) (hcs : P.cellsOf ep = 1) (hC : P.cellsOf t = 4)
    (hv : Value.okWide P w .any base t v) (h : DataW.Trod enc P w b2 (fun _ => true) held t v d p) :
    ∃ x, kW.At w v x ∧ WfW x ∧ x.1.length ≤ 9223372036854775807 := by
  obtain ⟨cs, rfl, hcz⟩ := okWide_struct he hv
  obtain ⟨fuel, hfu⟩ := h
  obtain ⟨y0, y1, y2, y3, n2, -, -, q0, q1, q2, q3⟩ := Go.Joins.trod_struct4 he hfu
  rw [ho0, hc0] at q0
  rw [ho1, hc1] at q1
  rw [ho2, hc2] at q2
  rw [ho3, hc3] at q3
  obtain ⟨z0, n3, -, -, q0⟩ := trod_struct1 hN q0
  rw [hog, hcg] at q0
  obtain ⟨ad, k, c, l, e0, hh, hz, hln⟩ := open_strs1 hg hs hcs q0
  obtain ⟨v1, e1, -, w1⟩ := DataW.trod_int hI1 q1
  obtain ⟨v2, e2, -, w2⟩ := DataW.trod_int hI2 q2
  obtain ⟨v3, e3, -, w3⟩ := DataW.trod_int hI3 q3
  obtain ⟨u0, u1, u2, u3, rfl⟩ := Go.Joins.array4 (hcz.trans hC)
  simp [Value.cells] at e0 e1 e2 e3
  subst e0 e1 e2 e3
  refine ⟨(l, v1, v2, v3), kW_of (x := (l, v1, v2, v3)) hh, ⟨hz, w1, w2, w3⟩, hln⟩
end Go.Proofs.Ytjphnlkdbhcblaa.Row
/- Contracts of ReadBytes, the reference model's and the program's: the bytes behind the length at the offset, the offset behind them, true; or an empty slice, 0 and false. What is returned lies in memory of the call's own. No conditions but that the elements are bytes and the lengths fit. -/
namespace Go.Proofs.Ytjphnlkdbhcblaa.Sl
open Go.ChangeShapes Go.WideShapes Go.ChangeAt Go.RowKit Go.Instr
set_option linter.unusedVariables false
set_option maxRecDepth 100000
def readB (l : List Int) (i most : Int) : List Int × Int × Bool :=
  let r := Var.readV l i
  if r.2.2 = false ∨ most < r.1 ∨ (l.length : Int) - r.2.1 < r.1 then ([], 0, false)
  else ((l.drop r.2.1.toNat).take r.1.toNat, r.2.1 + r.1, true)
def GivesB3 (w : World) (l : List Int) (n : Int) (ok : Bool) (e : Ending) (w' : World) : Prop := ∃ v, e = .returned (.tuple #[v, .int .i64 n, .bool ok]) ∧ Own 5 .u8 w.heap.size w' v l ∧ Below w.heap.size w w'
end Go.Proofs.Ytjphnlkdbhcblaa.Sl
/- Contract of the model's EncodeInterest. No conditions but that lengths fit. -/
namespace Go.Proofs.Ytjphnlkdbhcblaa.Sl
open Go.ChangeShapes Go.WideShapes Go.ChangeAt Go.RowKit Go.Instr
set_option linter.unusedVariables false
end Go.Proofs.Ytjphnlkdbhcblaa.Sl
namespace Go.Proofs.Ytjphnlkdbhcblaa.Row
open Go.ChangeShapes Go.WideShapes Go.ChangeAt Go.RowKit Go.Instr
set_option linter.unusedVariables false
set_option maxRecDepth 100000
def encW (x : Wt) : List Int := if validW x = true then appName [] x.1 ++ Sl.encs [x.2.1, x.2.2.1, x.2.2.2] else []
end Go.Proofs.Ytjphnlkdbhcblaa.Row
/- Contracts of the program's functions on interests: validity, AppendName, the numbers, copy, the hop limit. No conditions but that lengths fit. -/
namespace Go.Proofs.Ytjphnlkdbhcblaa.Row
open Go.ChangeShapes Go.WideShapes Go.ChangeAt Go.RowKit Go.Instr
set_option linter.unusedVariables false
set_option maxRecDepth 100000
end Go.Proofs.Ytjphnlkdbhcblaa.Row
/- Pending interests: what chapter 13's functions answer, as functions of lists. No conditions. -/
namespace Go.Proofs.Ytjphnlkdbhcblaa.Row
open Go.ChangeShapes Go.WideShapes Go.ChangeAt Go.RowKit Go.Instr
set_option linter.unusedVariables false
set_option linter.unusedSectionVars false
set_option maxRecDepth 100000
def isP (n : List ByteArray) (x : Pit) : Bool := decide (x.1 = n)
def isS (n : List ByteArray) (k : Int) (x : Snt) : Bool := decide (x.2 = k) && decide (x.1 = n)
def nnR (k : Int) (r : Rqt) : Bool := decide (r.2.1 = k)
def fcR (f : Int) (r : Rqt) : Bool := !decide (r.1 = f)
def gtR (f : Int) (r : Rqt) : Bool := decide (f < r.1)
def wtR (now : Int) (r : Rqt) : Bool := decide (now ≤ r.2.2)
def validQ (l : List Rqt) : Nat → Bool
  | 0 => true
  | k + 1 => validQ l k && (Num.inB (nth l k).1 0 6 && Num.inB (nth l k).2.1 0 1000000 && (decide (k = 0) || decide ((nth l (k - 1)).1 < (nth l k).1)))
def validQs (l : List Rqt) : Bool := validQ l l.length && decide (0 < l.length)
def validI (x : Pit) : Bool := validN x.1 && (decide (0 < x.1.length) && (validQs x.2.1 && Num.inB x.2.2 0 100000))
def vldP (l : List Pit) : Nat → Bool
  | 0 => true
  | k + 1 => vldP l k && (validI (nth l k) && !(l.take k).any (isP (nth l k).1))
def validPs (l : List Pit) : Bool := vldP l l.length && decide (l.length ≤ 12)
def loopR (n : List ByteArray) (k : Int) (x : Pit) : Bool := isP n x && x.2.1.any (nnR k)
def loopP (l : List Pit) (s : List Snt) (w : Wt) : Bool := l.any (loopR w.1 w.2.1) || s.any (isS w.1 w.2.1)
def hasPd (l : List Pit) (n : List ByteArray) : Bool := decide (0 ≤ ixL (isP n) l)
def putO (o : List Rqt) (a : Rqt) : List Rqt := o.takeWhile (fun r => !gtR a.1 r) ++ a :: o.dropWhile (fun r => !gtR a.1 r)
def putR (l : List Rqt) (a : Rqt) : List Rqt := putO (l.filter (fcR a.1)) a
def addOk (l : List Pit) (w : Wt) (f : Int) : Bool := validW w && Num.inB f 0 6 && (decide (0 ≤ ixL (isP w.1) l) || decide ((l.length : Int) < 12))
def askR (w : Wt) (f now : Int) : Rqt := (f, w.2.1, IntKind.i64.wrap (now + w.2.2.2))
def addP (l : List Pit) (w : Wt) (f now : Int) : List Pit :=
  if addOk l w f = true then
    if 0 ≤ ixL (isP w.1) l then l.set (ixL (isP w.1) l).toNat ((nth l (ixL (isP w.1) l).toNat).1, putR (nth l (ixL (isP w.1) l).toNat).2.1 (askR w f now), (nth l (ixL (isP w.1) l).toNat).2.2)
    else l ++ [(w.1, [askR w f now], 0)]
  else l
def lastP (l : List Pit) (n : List ByteArray) : Int := if 0 ≤ ixL (isP n) l then (nth l (ixL (isP n) l).toNat).2.2 else 0
def sentP (l : List Pit) (n : List ByteArray) (now : Int) : List Pit :=
  if 0 ≤ ixL (isP n) l then l.set (ixL (isP n) l).toNat ((nth l (ixL (isP n) l).toNat).1, (nth l (ixL (isP n) l).toNat).2.1, now) else l
def satP (l : List Pit) (n : List ByteArray) : List Pit := if 0 ≤ ixL (isP n) l then l.eraseIdx (ixL (isP n) l).toNat else l
def satR (l : List Pit) (n : List ByteArray) : List Rqt := if 0 ≤ ixL (isP n) l then (nth l (ixL (isP n) l).toNat).2.1 else []
def leftP (now : Int) (x : Pit) : Pit := (x.1, x.2.1.filter (wtR now), x.2.2)
def someR (x : Pit) : Bool := decide (0 < x.2.1.length)
def expP (l : List Pit) (now : Int) : List Pit := (l.map (leftP now)).filter someR
def seenS (s : List Snt) (n : List ByteArray) (k : Int) : List Snt := if 24 < (s ++ [(n, k)]).length then (s ++ [(n, k)]).drop 1 else s ++ [(n, k)]
def eqPs (x y : List Pit) : Bool := decide (x = y)
def putM (a : Rqt) (l : List Rqt) : List Rqt × Bool :=
  if l.any (gtR a.1) then (putR l a, true) else (l.filter (fcR a.1), false)
end Go.Proofs.Ytjphnlkdbhcblaa.Row
/- An element of the list of pending interests and its parts; contracts of the numbers in letters. No conditions. -/
namespace Go.Proofs.Ytjphnlkdbhcblaa.Row
open Go.ChangeShapes Go.WideShapes Go.ChangeAt Go.RowKit Go.Instr
set_option linter.unusedVariables false
set_option maxRecDepth 100000
theorem kPi_parts {w : World} {x0 x1 : Option Addr} {n0 c0 n1 c1 : Nat} {u : Int} {x : Pit} (h : kPi.At w (.agg #[.slice x0 n0 c0, .slice x1 n1 c1, .int .i64 u]) x) :
    kN.At w (.agg #[.slice x0 n0 c0]) x.1 ∧ kLRq.At w (.slice x1 n1 c1) x.2.1 := by
  obtain ⟨a0, b0, d0, a1, b1, d1, e, h0, h1⟩ := kPi_at h
  simp only [Value.agg.injEq, Array.mk.injEq, List.cons.injEq, Value.slice.injEq, Value.int.injEq, and_true, true_and] at e
  obtain ⟨⟨rfl, rfl, rfl⟩, ⟨rfl, rfl, rfl⟩, rfl⟩ := e
  exact ⟨h0, h1⟩
theorem kSn_parts {w : World} {x0 : Option Addr} {n0 c0 : Nat} {u : Int} {x : Snt} (h : kSn.At w (.agg #[.slice x0 n0 c0, .int .i64 u]) x) : kN.At w (.agg #[.slice x0 n0 c0]) x.1 := by
  obtain ⟨a0, b0, d0, e, h0⟩ := kSn_at h
  simp only [Value.agg.injEq, Array.mk.injEq, List.cons.injEq, Value.slice.injEq, Value.int.injEq, and_true, true_and] at e
  obtain ⟨⟨rfl, rfl, rfl⟩, rfl⟩ := e
  exact h0
theorem wtPi_lens {x : Pit} {n : Nat} (h : wtPi x ≤ n) : bulk x.1 ≤ n ∧ x.2.1.length ≤ n := by
  have h1 := bulkK_Rq x.2.1
  unfold wtPi at h
  omega
def FitP (l : List Pit) : Prop := bulkK wtPi l ≤ 1100000
theorem FitP.len {l : List Pit} (h : FitP l) : l.length ≤ 1100000 := Nat.le_trans (bulkK_len wtPi l) h
theorem FitP.each {l : List Pit} (h : FitP l) : ∀ e ∈ l, wtPi e ≤ 1200000 := fun e he => Nat.le_trans (bulkK_mem he) (Nat.le_trans h (by decide))
def FitS (l : List Snt) : Prop := bulkK wtSn l ≤ 1100000
theorem FitS.len {l : List Snt} (h : FitS l) : l.length ≤ 1100000 := Nat.le_trans (bulkK_len wtSn l) h
theorem FitS.each {l : List Snt} (h : FitS l) : ∀ e ∈ l, bulk e.1 ≤ 1200000 := fun e he => Nat.le_trans (bulkK_mem (f := wtSn) he) (Nat.le_trans h (by decide))
end Go.Proofs.Ytjphnlkdbhcblaa.Row
/- Lists that lie as rows of the call's own: a part of a row, an element more, an append within the room, a clearing behind the end; closures while a row is written. For any kind and any program. No conditions but that lengths fit. -/
namespace Go.Proofs.Ytjphnlkdbhcblaa.Row
open Go.ChangeShapes Go.WideShapes Go.ChangeAt Go.RowKit Go.Instr
set_option linter.unusedVariables false
set_option linter.unusedSectionVars false
set_option maxRecDepth 100000
theorem take_nx {α : Type} [Inhabited α] {l : List α} {k : Nat} (h : k < l.length) : l.take (k + 1) = l.take k ++ [nth l k] := by rw [List.take_succ_eq_append_getElem h, nth_eq h]
theorem filter_nx {α : Type} [Inhabited α] {p : α → Bool} {l : List α} {k : Nat} (h : k < l.length) (hp : p (nth l k) = true) : (l.take (k + 1)).filter p = (l.take k).filter p ++ [nth l k] := by
  rw [take_nx h, List.filter_append]; simp [hp]
section
variable {α M : Type} {k : Kd α M} {B C E E' : Nat} {e : TypeId} {w w' : World} {m : M}
end
section
variable {P : Program} {α : Type} {enc : α → List Value} {sz : Nat} {e t : TypeId} {bytes : Nat} {z : Value}
end
def ClosR {α M : Type} (P : Program) (k : Kd α M) (fid : FuncId) (cap : Array Value) (p : α → Bool) (ok : α → Prop) (w : World) (row : Option Nat) : Prop :=
  ∀ (x : α) (V : Value) (W : World), w.grownBy W row → k.At W V x → ok x → Calls P fid (#[V] ++ cap) W fun e w' => e = .returned (.bool (p x)) ∧ Below W.heap.size W w'
theorem ClosR.plain {α M : Type} {P : Program} {k : Kd α M} {fid : FuncId} {cap : Array Value} {p : α → Bool} {ok : α → Prop} {w : World} {row : Option Nat} (h : ClosR P k fid cap p ok w row) : ClosK P k fid cap p ok w := fun x V W hW => h x V W (Sl.grown_of_below hW row)
structure MidK {M : Type} [Inhabited M] (q : M → Bool) (L L' : List M) (i j : Nat) : Prop where
  len : L'.length = L.length
  head : L'.take i = (L.take j).filter q
  rest : ∀ r, j ≤ r → r < L.length → nth L' r = nth L r
  lt : i < j
theorem MidK.keep {M : Type} [Inhabited M] {q : M → Bool} {L L' : List M} {i j : Nat} (h : MidK q L L' i j) (hj : j < L.length) (hq : q (nth L j) = true) : MidK q L (L'.set i (nth L j)) (i + 1) (j + 1) := by
  have h1 := h.len
  have h2 := h.lt
  refine ⟨by simp [h1], ?_, fun r hr hr2 => ?_, by omega⟩
  · rw [List.take_succ_eq_append_getElem (by simp; omega), List.getElem_set_self, List.take_set_of_le (Nat.le_refl _), h.head, filter_nx hj hq]
  · rw [← h.rest r (by omega) hr2]
    simp only [nth, List.getD]
    rw [List.getElem?_set_ne (by omega)]
end Go.Proofs.Ytjphnlkdbhcblaa.Row
/- Copies: what they need. No conditions. -/
namespace Go.Proofs.Ytjphnlkdbhcblaa.Row
open Go.ChangeShapes Go.WideShapes Go.ChangeAt Go.RowKit Go.Instr
set_option linter.unusedVariables false
set_option maxRecDepth 100000
theorem Kd.Own.cap {α M : Type} {k : Kd α M} {B E : Nat} {w : World} {m : M} (h : k.Own B E w m) : k.Own B w.heap.size w m := ⟨h.1, h.2.1, fun g hg => (h.lt g hg).2.2⟩
theorem rq_map (L : List Rqm) : L.map kRq.strip = L := by
  rw [show kRq.strip = id from rfl]
  exact List.map_id L
end Go.Proofs.Ytjphnlkdbhcblaa.Row
/- wantedRequesters: what its iterator hands to a loop. No conditions but that lengths fit. -/
namespace Go.Proofs.Ytjphnlkdbhcblaa.Row
open Go.ChangeShapes Go.WideShapes Go.ChangeAt Go.RowKit Go.Instr
open Go.Shelf
attribute [local go_sem] Oper.semAt_some
set_option linter.unusedVariables false
set_option maxRecDepth 100000
def rqV (x : Rqt) : Value := .agg #[.int .i64 x.1, .int .i64 x.2.1, .int .i64 x.2.2]
theorem belowK_t9 {n₀ : Nat} {X Y Z : World} (h : Below n₀ X Y) (k : Below n₀ Y Z) : Below n₀ X Z := h.trans k
theorem grown_none {W W' : World} (h : Below W.heap.size W W') : W.grownBy W' none := Sl.grown_of_below h none
end Go.Proofs.Ytjphnlkdbhcblaa.Row
/- slices.Collect over wantedRequesters. No conditions but that lengths fit. -/
namespace Go.Proofs.Ytjphnlkdbhcblaa.Row
open Go.ChangeShapes Go.WideShapes Go.ChangeAt Go.RowKit Go.Instr
open Go.Shelf
attribute [local go_sem] Oper.semAt_some
set_option linter.unusedVariables false
set_option maxRecDepth 100000
theorem blk_own {g : Nat} {cs : Array Value} {t : TypeId} : Go.Own (fun (_ : Unit) W => Ret.Blk W g cs t) := fun s X Y row hs hg hrow => by
  refine (hg.block g hs.lt (fun e => ?_)).trans hs
  obtain ⟨o, ho, hc⟩ := hrow g e.symm
  rw [show X.heap[g]? = _ from hs] at ho
  cases ho
  cases hc
end Go.Proofs.Ytjphnlkdbhcblaa.Row
/- The program finds a pending interest: pendingIndex, HasPending, LastSentAt. No conditions but that lengths fit. -/
namespace Go.Proofs.Ytjphnlkdbhcblaa.Row
open Go.ChangeShapes Go.WideShapes Go.ChangeAt Go.RowKit Go.Instr
set_option linter.unusedVariables false
set_option maxRecDepth 100000
end Go.Proofs.Ytjphnlkdbhcblaa.Row
/- Copies: the regions that append one element. No conditions but that lengths fit. -/
namespace Go.Proofs.Ytjphnlkdbhcblaa.Row
open Go.ChangeShapes Go.WideShapes Go.ChangeAt Go.RowKit Go.Instr
set_option linter.unusedVariables false
set_option maxRecDepth 100000
end Go.Proofs.Ytjphnlkdbhcblaa.Row
/- Copies of lists of pending interests and of seen nonces, model and program. No conditions but that lengths fit. -/
namespace Go.Proofs.Ytjphnlkdbhcblaa.Row
open Go.ChangeShapes Go.WideShapes Go.ChangeAt Go.RowKit Go.Instr
set_option linter.unusedVariables false
set_option maxRecDepth 100000
theorem kLRq_holds {w : World} {x : Option Addr} {n c : Nat} {l : List Rqt} (h : kLRq.At w (.slice x n c) l) : HoldsK kRq.cells 3 w (.slice x n c) l := by
  obtain ⟨ad, n', cap, L, e, hn, ht, hh, -⟩ := kLRq_at h
  cases e
  rw [rq_map] at ht
  exact ht ▸ hh
end Go.Proofs.Ytjphnlkdbhcblaa.Row
/- requestersOf: what its iterator hands to a loop. No conditions but that lengths fit. -/
namespace Go.Proofs.Ytjphnlkdbhcblaa.Row
open Go.ChangeShapes Go.WideShapes Go.ChangeAt Go.RowKit Go.Instr
open Go.Shelf
attribute [local go_sem] Oper.semAt_some
set_option linter.unusedVariables false
set_option maxRecDepth 100000
def reqsOf (n : List ByteArray) (l : List Pit) : List Rqt := l.flatMap fun x => if isP n x = true then x.2.1 else []
theorem reqsOf_nx {n : List ByteArray} {l : List Pit} {k : Nat} (h : k < l.length) : reqsOf n (l.take (k + 1)) = reqsOf n (l.take k) ++ (if isP n (nth l k) = true then (nth l k).2.1 else []) := by
  unfold reqsOf
  rw [take_nx h, List.flatMap_append]
  simp
theorem reqsOf_pre {n : List ByteArray} {l : List Pit} {k : Nat} : reqsOf n (l.take k) <+: reqsOf n l := by
  refine ⟨reqsOf n (l.drop k), ?_⟩
  unfold reqsOf
  rw [← List.flatMap_append, List.take_append_drop]
theorem reqsOf_any (n : List ByteArray) (k : Int) (l : List Pit) : (reqsOf n l).any (nnR k) = l.any (loopR n k) := by
  unfold reqsOf
  induction l with
  | nil => rfl
  | cons a r ih =>
    rw [List.flatMap_cons, List.any_append, ih, List.any_cons]
    congr 1
    unfold loopR
    cases h : isP n a <;> simp
set_option maxHeartbeats 8000000 in
theorem reqs_in (n : Nat) (hn : 1 ≤ n) (lp Bl Bn n₀ : Nat) (x : Option Addr) (len cap : Nat) (xn : Option Addr) (nn cn : Nat) (l : List Pit) (nm9 : List ByteArray) (w0 : World) (hw0 : w0.heap.size = n₀)
    (J Jx : List Rqt → World → Prop) (hJ : ∀ s W W', J s W → Below W.heap.size W W' → J s W')
    (hBl : w0.cell? ⟨Bl, 0, none⟩ = some (.slice x len cap)) (hBn : w0.cell? ⟨Bn, 0, none⟩ = some (.slice xn nn cn)) (h : kLPi.At w0 (.slice x len cap) l) (g : kN.At w0 (.agg #[.slice xn nn cn]) nm9) (hf : FitP l) (hm : bulk nm9 ≤ 1200000)
    (hY : ∀ pre y W, J pre W → pre.length < (reqsOf nm9 l).length → YieldAt Fence.wide (n - 1) Try.prog lp #[rqV y] W fun e W' =>
      (e = .returned (.bool true) ∧ J (pre ++ [y]) W' ∧ Below n₀ W W') ∨ (e = .returned (.bool false) ∧ Jx (pre ++ [y]) W'))
    (W : World) (hW : Below n₀ w0 W) (h0 : J [] W) :
    CallsIn Fence.wide n Try.prog 115 #[.func (.yield lp) #[] #[], .pointer (some ⟨Bl, 0, none⟩), .pointer (some ⟨Bn, 0, none⟩)] W fun e W' => (∃ v, e = .returned v) ∧ (J (reqsOf nm9 l) W' ∨ ∃ pre, pre <+: reqsOf nm9 l ∧ Jx pre W') := by
  have hl9 := hf.len
  obtain ⟨x', n', c', L, e9, hnl, ht, hh, hel⟩ := kLPi_at h
  cases e9
  have hlen : l.length = len := by rw [← ht, List.length_map]; exact hnl.symm
  rw [hlen] at hl9
  have hcap : len ≤ cap := by obtain ⟨x', n', cap', hv, hn', hc', -⟩ := hh.shapeN; cases hv; exact hc'
  refine callsIn_of_wp Try.func115 rfl trivial ?_ rfl
  simp only [Try.ntmps115, List.size_toArray, List.length_cons, List.length_nil, Nat.reduceAdd, Nat.reduceSub, Array.replicate_succ, Array.replicate_zero, List.push_toArray, List.append_toArray, List.nil_append, List.cons_append]
  have q0 : W.cell? ⟨Bl, 0, none⟩ = some (.slice x len cap) := (hW.cell (by rw [← hw0]; exact Ret.cell_lt hBl)).trans hBl
  have HBn := Lib.hid hBn; have HG := Lib.hid g; have HW0 := Lib.hid hw0; have HY := Lib.hid hY; have HJ := Lib.hid hJ; have HF := Lib.hid hf
  have HN := Lib.hid hnl; have HT := Lib.hid ht; have HH := Lib.hid hh; have HEL := Lib.hid hel; have HLEN := Lib.hid hlen
  clear hBl hBn g hw0 hY hJ hf hnl ht hh hel hlen h
  gi_wp2
  gi_loopw [10] (fun iv wr => ∃ k : Nat, k ≤ len ∧ iv = .int .i64 k ∧ J (reqsOf nm9 (l.take k)) wr ∧ Hid (Below n₀ w0 wr)) (fun iv _ => len - (intOf iv).toNat)
  case atStart => exact ⟨0, Nat.zero_le _, rfl, by simpa [reqsOf] using h0, Lib.hid hW⟩
  case round =>
    obtain ⟨k, hk, rfl, hJs, hb⟩ := hrel
    by_cases hlt : k < len
    · have hb0 : Below w0.heap.size w0 wr := by rw [HW0.out]; exact hb.out
      have hnl := HN.out
      obtain ⟨b, off, y0, m0, d0, y1, m1, d1, rfl, -, hc0, hc1, hc2, hA⟩ := kLPi_elem (HH.out.on hb0) (fun y hy => kPi.holds_on (HEL.out y hy) hb0) (j := k) (by omega)
      have hpt : nth l k = kPi.strip (nth L k) := by rw [← HT.out, nth_map _ (by omega)]
      have hps := HF.out.each (nth l k) (nth_mem (by have := HLEN.out; omega))
      rw [← hpt] at hA hc2
      obtain ⟨hNM, hRQ⟩ := kPi_parts hA
      have hpt0 := hpt
      obtain ⟨nm, rq, ls, hx⟩ : ∃ nm rq ls, nth l k = (nm, rq, ls) := ⟨_, _, _, rfl⟩
      have hx0 := hx
      rw [hx] at hNM hRQ hc2 hps
      simp only at hNM hRQ hc2
      obtain ⟨l1, l2⟩ := wtPi_lens hps
      have hHQ := kLRq_holds hRQ
      have hrl : rq.length = m1 := (kLRq_len hRQ).symm
      have hal := (Below.refl wr.heap.size wr).alloc (Nat.le_refl _) (.cells #[.slice y0 m0 d0, .slice y1 m1 d1, .int .i64 ls] 101)
      have f0 : (wr.alloc (.cells #[.slice y0 m0 d0, .slice y1 m1 d1, .int .i64 ls] 101)).cell? ⟨Bn, 0, none⟩ = some (.slice xn nn cn) := kc (kc HBn.out hb0) hal
      have HX := Lib.hid (Ret.Blk.new wr #[.slice y0 m0 d0, .slice y1 m1 d1, .int .i64 ls] 101)
      have HB1 := Lib.hid (hb.out.trans (hal.mono (by have := hb.out.size; have := HW0.out; omega)))
      have HJ1 := Lib.hid (HJ.out _ _ _ hJs hal)
      have HNM := Lib.hid (hNM.on hal); have HGN := Lib.hid ((HG.out.on hb0).on hal)
      have HHQ := Lib.hid (hHQ.on hal)
      have HHQ0 := Lib.hid (show HoldsK kRq.cells 3 w0 (.slice y1 m1 d1) rq from by
        obtain ⟨b', off', y0', m0', d0', y1', m1', d1', e9', -, -, hc1', -, hA'⟩ := kLPi_elem HH.out HEL.out (j := k) (by omega)
        cases e9'
        have h6 := (kc hc1' hb0).symm.trans hc1
        simp only [Option.some.injEq, Value.slice.injEq] at h6
        obtain ⟨rfl, rfl, rfl⟩ := h6
        rw [← hpt0] at hA'
        obtain ⟨-, hRQ'⟩ := kPi_parts hA'
        have h7 := kLRq_holds hRQ'
        rw [hx0] at h7
        exact h7)
      obtain ⟨q, hq⟩ : ∃ q, decide (nm = nm9) = q := ⟨_, rfl⟩
      have HQ := Lib.hid hq
      have HEQ := Lib.hid (iEqK q HQ.out HNM.out HGN.out (by simp only at l1; omega) (by omega))
      have HRX := Lib.hid (reqsOf_nx (n := nm9) (show k < l.length by have := HLEN.out; omega))
      have HIP := Lib.hid (show isP nm9 (nth l k) = q by rw [hx]; exact hq)
      have HR2 := Lib.hid (show (nth l k).2.1 = rq by rw [hx])
      have HRL := Lib.hid hrl; have hm9 : m1 ≤ 1200000 := by simp only at l2; omega
      clear hal hNM hRQ hHQ hpt hps hx hA hq hJs hrl hnl hpt0 hx0
      cases q with
      | false =>
        have HD := Lib.hid (show reqsOf nm9 (l.take (k + 1)) = reqsOf nm9 (l.take k) by rw [HRX.out, if_neg (by rw [HIP.out]; simp), List.append_nil])
        gi_wp2
        refine ⟨trivial, ?_⟩
        gi_at_call 71
        refine (callsIn_wide.2 HEQ.out).mono ?_
        rintro e' w2 ⟨rfl, hb2⟩
        have HB2 := Lib.hid (HB1.out.trans (hb2.mono (by have := HB1.out.size; have := HW0.out; omega)))
        have HJ2 := Lib.hid (HJ.out _ _ _ HJ1.out hb2)
        clear hb2
        gi_wp2
        go_roundw
        case rel => exact ⟨k + 1, by omega, by go_num, HD.out ▸ HJ2.out, HB2⟩
        case measure => simp [intOf]; omega
      | true =>
        have HD := Lib.hid (show reqsOf nm9 (l.take (k + 1)) = reqsOf nm9 (l.take k) ++ rq by rw [HRX.out, if_pos HIP.out, HR2.out])
        gi_wp2
        refine ⟨trivial, ?_⟩
        gi_at_call 71
        refine (callsIn_wide.2 HEQ.out).mono ?_
        rintro e' w2 ⟨rfl, hb2⟩
        have HB2 := Lib.hid (HB1.out.trans (hb2.mono (by have := HB1.out.size; have := HW0.out; omega)))
        have HJ2 := Lib.hid (HJ.out _ _ _ HJ1.out hb2)
        have x1 : w2.cell? ⟨wr.heap.size, 1, none⟩ = some (.slice y1 m1 d1) := (HX.out.on hb2).cell 1
        have HHQ2 := Lib.hid (HHQ.out.on hb2)
        have hB1 : n₀ ≤ (wr.alloc (.cells #[.slice y0 m0 d0, .slice y1 m1 d1, .int .i64 ls] 101)).heap.size := by have := HB1.out.size; have := HW0.out; omega
        clear hb2 hc0 hc1 hc2 f0
        obtain ⟨wo, hwo⟩ : ∃ wo, wo = wr := ⟨_, rfl⟩
        subst hwo
        gi_wp2
        gi_loopw [22] (fun iv wr => ∃ j : Nat, j ≤ m1 ∧ iv = .int .i64 j ∧ J (reqsOf nm9 (l.take k) ++ rq.take j) wr ∧ Hid (Below n₀ w2 wr)) (fun iv _ => m1 - (intOf iv).toNat)
        case atStart => exact ⟨0, Nat.zero_le _, rfl, by simpa using HJ2.out, Lib.hid (Below.refl _ _)⟩
        case round =>
          obtain ⟨j, hj, rfl, hJj, hbj⟩ := hrel
          by_cases hjl : j < m1
          · have hjr : j < rq.length := by have := HRL.out; omega
            have hHJ : HoldsK kRq.cells 3 w0 (.slice y1 m1 d1) rq := HHQ0.out
            obtain ⟨bq, oq, rfl, hcm⟩ := hHJ.at szRq_cells hjr
            obtain ⟨f, u, e, hx⟩ : ∃ f u e, nth rq j = (f, u, e) := ⟨_, _, _, rfl⟩
            rw [hx] at hcm
            have hbw : Below w0.heap.size w0 wr := by rw [HW0.out]; exact HB2.out.trans hbj.out
            have c0 : wr.cell? ⟨bq, oq + j * 3, none⟩ = some (.int .i64 f) := by have h5 : w0.cell? ⟨bq, oq + (j * 3 + 0), none⟩ = some (.int .i64 f) := hcm 0 (by decide); rw [Nat.add_zero] at h5; exact kc h5 hbw
            have c1 : wr.cell? ⟨bq, oq + j * 3 + 1, none⟩ = some (.int .i64 u) := by have h5 : w0.cell? ⟨bq, oq + (j * 3 + 1), none⟩ = some (.int .i64 u) := hcm 1 (by decide); rw [← Nat.add_assoc] at h5; exact kc h5 hbw
            have c2 : wr.cell? ⟨bq, oq + j * 3 + 2, none⟩ = some (.int .i64 e) := by have h5 : w0.cell? ⟨bq, oq + (j * 3 + 2), none⟩ = some (.int .i64 e) := hcm 2 (by decide); rw [← Nat.add_assoc] at h5; exact kc h5 hbw
            have hal := (Below.refl wr.heap.size wr).alloc (Nat.le_refl _) (.cells #[.int .i64 f, .int .i64 u, .int .i64 e] 91)
            have hx3 := Ret.Blk.new wr #[.int .i64 f, .int .i64 u, .int .i64 e] 91
            have hpr : reqsOf nm9 (l.take k) ++ rq.take j ++ [(f, u, e)] <+: reqsOf nm9 l := by
              have h5 : reqsOf nm9 (l.take k) ++ rq <+: reqsOf nm9 l := by rw [← HD.out]; exact reqsOf_pre
              refine List.IsPrefix.trans ?_ h5
              rw [List.append_assoc]
              refine List.prefix_append_right_inj _ |>.2 ?_
              rw [← hx, ← take_nx hjr]
              exact List.take_prefix _ _
            have hlt2 : (reqsOf nm9 (l.take k) ++ rq.take j).length < (reqsOf nm9 l).length := by
              have h5 := hpr.length_le
              rw [List.length_append] at h5
              simp only [List.length_singleton] at h5
              omega
            have HBJ := Lib.hid (hbj.out.trans (hal.mono (Nat.le_trans (by have h5 := HB2.out.size; have h6 := HW0.out; omega) hbj.out.size)))
            obtain ⟨fn, tmps, assign, body, hy, hR⟩ := HY.out _ (f, u, e) (wr.alloc (.cells #[.int .i64 f, .int .i64 u, .int .i64 e] 91)) (HJ.out _ _ _ hJj hal) hlt2
            unfold rqV at hy
            dsimp only at hy
            have HTX := Lib.hid (show reqsOf nm9 (l.take k) ++ rq.take j ++ [(f, u, e)] = reqsOf nm9 (l.take k) ++ rq.take (j + 1) by rw [List.append_assoc, take_nx hjr, hx])
            have x0 : (wr.alloc (.cells #[.int .i64 f, .int .i64 u, .int .i64 e] 91)).cell? ⟨wr.heap.size, 0, none⟩ = some (.int .i64 f) := hx3.cell 0
            have x1_ : (wr.alloc (.cells #[.int .i64 f, .int .i64 u, .int .i64 e] 91)).cell? ⟨wr.heap.size, 1, none⟩ = some (.int .i64 u) := hx3.cell 1
            have x2 : (wr.alloc (.cells #[.int .i64 f, .int .i64 u, .int .i64 e] 91)).cell? ⟨wr.heap.size, 2, none⟩ = some (.int .i64 e) := hx3.cell 2
            have HPR := Lib.hid hpr
            clear hal hx3 hx hcm hHJ hpr
            gi_wp2
            refine hR.mono ?_
            rintro e' W3 (⟨rfl, hJ3, hk3⟩ | ⟨rfl, hJx3⟩)
            · have HB3 := Lib.hid (HBJ.out.trans hk3)
              rw [HTX.out] at hJ3
              gi_wp2
              go_roundw
              case rel => exact ⟨j + 1, by omega, by go_num, hJ3, HB3⟩
              case measure => simp [intOf]; omega
            · gi_wp2
              refine bodyPost_ret (results_none rfl _ _ _) rfl ?_
              exact ⟨⟨_, rfl⟩, .inr ⟨_, HPR.out, hJx3⟩⟩
          · obtain rfl : j = m1 := by omega
            have HT2 := Lib.hid (show rq.take j = rq by exact List.take_of_length_le (by rw [HRL.out]; exact Nat.le_refl _))
            have HB3 := Lib.hid (HB2.out.trans hbj.out)
            rw [HT2.out, ← HD.out] at hJj
            clear hjl
            gi_wp2
            go_roundw
            case rel => exact ⟨k + 1, by omega, by go_num, hJj, HB3⟩
            case measure => simp [intOf]; omega
    · obtain rfl : k = len := by omega
      have HF2 := Lib.hid (show l.take k = l by exact List.take_of_length_le (by rw [HLEN.out]; exact Nat.le_refl _))
      rw [HF2.out] at hJs
      gi_wp2
      go_end0
      exact ⟨⟨_, rfl⟩, .inl hJs⟩
end Go.Proofs.Ytjphnlkdbhcblaa.Row
/- slices.Delete and slices.DeleteFunc on rows of pending interests and of seen nonces. No conditions but that lengths fit. -/
namespace Go.Proofs.Ytjphnlkdbhcblaa.Row
open Go.ChangeShapes Go.WideShapes Go.ChangeAt Go.RowKit Go.Instr
set_option linter.unusedVariables false
set_option maxRecDepth 100000
end Go.Proofs.Ytjphnlkdbhcblaa.Row
/- slices.Grow and slices.Concat on seen nonces. No conditions but that lengths fit. -/
namespace Go.Proofs.Ytjphnlkdbhcblaa.Row
open Go.ChangeShapes Go.WideShapes Go.ChangeAt Go.RowKit Go.Instr
set_option linter.unusedVariables false
set_option maxRecDepth 100000
def GivesSn (w : World) (L : List Snm) (e : Ending) (w' : World) : Prop := ∃ v, e = .returned v ∧ OwnK 38 kSn.cells 2 w.heap.size w' v L ∧ Below w.heap.size w w'
def catSn (ls : Nat → List Snm) : Nat → List Snm
  | 0 => []
  | k + 1 => catSn ls k ++ ls k
end Go.Proofs.Ytjphnlkdbhcblaa.Row
/- Lists of elements of a kind, marked part by part: what a part's marking leaves of the list. For any kind and any program. No conditions. -/
namespace Go.Proofs.Ytjphnlkdbhcblaa.Row
open Go.ChangeShapes Go.WideShapes Go.ChangeAt Go.RowKit Go.Instr
set_option linter.unusedVariables false
set_option linter.unusedSectionVars false
set_option maxRecDepth 100000
section
variable {α M β N : Type} [Inhabited M] {k : Kd α M} {l : Kd β N} {B E : Nat} {w w' : World} {P : Program}
def MarkF (P : Program) (k : Kd α M) (fn : FuncId) (arg : M → Value) (adv : α → Nat) (mk : Int → α → α) : Prop :=
  ∀ (B E : Nat) (x : M) (w : World) (q : Int), k.Own B E w x → adv (k.strip x) ≤ 100000000 → 0 ≤ q → q + (adv (k.strip x) : Int) ≤ 100000000000 →
    Calls P fn #[arg x, .int .i64 q] w fun e w' => e = .returned (.int .i64 (q + (adv (k.strip x) : Int))) ∧ ∃ x', k.cells x' = k.cells x ∧ k.blocks x' = k.blocks x ∧ k.strip x' = mk q (k.strip x) ∧ k.Own B E w' x' ∧ WroteBy (k.blocks x) w w'
theorem flatB_one {γ : Type} {f : γ → List Nat} {L : List γ} (h : (L.flatMap f).Nodup) {j : Nat} (hj : j < L.length) : (f L[j]).Nodup :=
  (List.pairwise_flatMap.1 h).1 _ (List.getElem_mem hj)
theorem flatMap_set {γ δ : Type} {f : γ → List δ} {L : List γ} {j : Nat} (hj : j < L.length) {y : γ} (e : f y = f L[j]) : (L.set j y).flatMap f = L.flatMap f := by
  rw [List.flatMap_def, List.flatMap_def, List.map_set]
  congr 1
  have : f y = (L.map f)[j]'(by simpa using hj) := by simp [e]
  rw [this, List.set_getElem_self]
variable {e : TypeId} {ad : Option Addr} {n cap j : Nat} {L : List M}
theorem Kd.Own.row (h : (k.slice e).Own B E w ⟨ad, n, cap, L⟩) : OwnK e k.cells k.size B w (.slice ad n cap) L := h.1.1
theorem Kd.Own.apart (h : (k.slice e).Own B E w ⟨ad, n, cap, L⟩) : (L.flatMap k.blocks).Nodup ∧ ∀ g, (Value.slice ad n cap).ownBlock = some g → g ∉ L.flatMap k.blocks := by
  have h2 : ((Value.slice ad n cap).ownBlock.toList ++ L.flatMap k.blocks).Nodup := h.2.1
  have h3 := List.nodup_append.1 h2
  exact ⟨h3.2.1, fun g hg hg2 => h3.2.2 g (by simp [hg]) g hg2 rfl⟩
theorem Kd.Own.elem (h : (k.slice e).Own B E w ⟨ad, n, cap, L⟩) (hj : j < L.length) : k.Own B E w (nth L j) := by
  rw [nth_eq hj]
  refine ⟨h.1.2 _ (List.getElem_mem hj), flatB_one h.apart.1 hj, fun g hg => h.2.2 g ?_⟩
  exact List.mem_append_right _ (List.mem_flatMap.2 ⟨_, List.getElem_mem hj, hg⟩)
theorem Kd.Own.put {g : Nat} (h : (k.slice e).Own B E w ⟨some ⟨g, 0, none⟩, n, cap, L⟩) (hn : n = L.length) (hj : j < L.length) {i : Nat} (hi : i < k.size) {u : Value} {x' : M} (hc : k.cells x' = (k.cells (nth L j)).set i u) (hb : k.blocks x' = k.blocks (nth L j)) (ho : ∀ {W : World}, k.own B W (nth L j) → k.own B W x') :
    (k.slice e).Own B E (w.setCell ⟨g, j * k.size + i, none⟩ u) ⟨some ⟨g, 0, none⟩, n, cap, L.set j x'⟩ ∧ w.grownBy (w.setCell ⟨g, j * k.size + i, none⟩ u) (some g) := by
  obtain ⟨a1, a2⟩ := ownK_store (fun m => k.len m) h.row hn hj hi hc
  obtain ⟨hnd, hrow⟩ := h.apart
  have hg0 := hrow g rfl
  have hfb := flatMap_set (f := k.blocks) hj (by rw [hb, nth_eq hj])
  have keep : ∀ {y : M}, y ∈ L → k.own B (w.setCell ⟨g, j * k.size + i, none⟩ u) y := fun {y} hy => k.own_keep (h.1.2 y hy) (fun q hq => a2.block q (k.own_lt (h.1.2 y hy) q hq).2 (fun e1 => hg0 (by cases e1; exact List.mem_flatMap.2 ⟨y, hy, hq⟩)))
  refine ⟨⟨⟨a1, fun y hy => ?_⟩, ?_, ?_⟩, a2⟩
  · rcases List.mem_or_eq_of_mem_set (show y ∈ L.set j x' from hy) with hy | rfl
    · exact keep hy
    · exact ho (keep (nth_mem hj))
  · show ((Value.slice (some ⟨g, 0, none⟩) n cap).ownBlock.toList ++ (L.set j x').flatMap k.blocks).Nodup
    rw [hfb]
    exact h.2.1
  · intro q hq
    have hg2 : q ∈ (Value.slice (some ⟨g, 0, none⟩) n cap).ownBlock.toList ++ (L.set j x').flatMap k.blocks := hq
    rw [hfb] at hg2
    exact h.2.2 q hg2
end
section
variable {α : Type} [Inhabited α] (a : α → Nat) (f : Int → α → α)
def advK : List α → Nat
  | [] => 0
  | x :: r => a x + advK r
def mkLK (q : Int) : List α → List α
  | [] => []
  | x :: r => f q x :: mkLK (q + (a x : Int)) r
end
end Go.Proofs.Ytjphnlkdbhcblaa.Row
/- Slices of bytes in the words of kinds: sz, to, eq, mark, held. No conditions but that lengths fit. -/
namespace Go.Proofs.Ytjphnlkdbhcblaa.Row
open Go.ChangeShapes Go.WideShapes Go.ChangeAt Go.RowKit Go.Instr
set_option linter.unusedVariables false
set_option maxRecDepth 100000
def okB (l : List Int) : Prop := l.length ≤ 9223372036854775807
end Go.Proofs.Ytjphnlkdbhcblaa.Row
/- Names and bytes as parts that are marked; an element of a list, step by step. No conditions but that lengths fit. -/
namespace Go.Proofs.Ytjphnlkdbhcblaa.Row
open Go.ChangeShapes Go.WideShapes Go.ChangeAt Go.RowKit Go.Instr
set_option linter.unusedVariables false
set_option linter.unusedSectionVars false
set_option maxRecDepth 100000
section
variable {α M : Type} [Inhabited M] {k : Kd α M} {B E : Nat} {w w' : World} {e : TypeId} {ad : Option Addr} {n cap j g : Nat} {Z : List M} {x x' : M}
end
end Go.Proofs.Ytjphnlkdbhcblaa.Row
/- Lists of Requester: marked and looked at. No conditions but that lengths fit. -/
namespace Go.Proofs.Ytjphnlkdbhcblaa.Row
open Go.ChangeShapes Go.WideShapes Go.ChangeAt Go.RowKit Go.Instr
set_option linter.unusedVariables false
set_option maxRecDepth 100000
def mvRq (z : Rqt) : Nat := 3
def meRq (q : Int) (z : Rqt) : Rqt := (q, q + 1, q + 1 + 1)
end Go.Proofs.Ytjphnlkdbhcblaa.Row
/- Lists of PendingInterest: marked and looked at. No conditions but that lengths fit. -/
namespace Go.Proofs.Ytjphnlkdbhcblaa.Row
open Go.ChangeShapes Go.WideShapes Go.ChangeAt Go.RowKit Go.Instr
set_option linter.unusedVariables false
set_option maxRecDepth 100000
def mvPi (z : Pit) : Nat := z.1.length + advK mvRq z.2.1 + 1
def mePi (q : Int) (z : Pit) : Pit := (marks markT (q) z.1.length, mkLK mvRq meRq (q + (z.1.length : Int)) z.2.1, q + (z.1.length : Int) + (advK mvRq z.2.1 : Int))
end Go.Proofs.Ytjphnlkdbhcblaa.Row
/- Lists of SeenNonce: marked and looked at. No conditions but that lengths fit. -/
namespace Go.Proofs.Ytjphnlkdbhcblaa.Row
open Go.ChangeShapes Go.WideShapes Go.ChangeAt Go.RowKit Go.Instr
set_option linter.unusedVariables false
set_option maxRecDepth 100000
def mvSn (z : Snt) : Nat := z.1.length + 1
def meSn (q : Int) (z : Snt) : Snt := (marks markT (q) z.1.length, q + (z.1.length : Int))
end Go.Proofs.Ytjphnlkdbhcblaa.Row
/- Names in the words that kslice.py wants. No conditions but that lengths fit. -/
namespace Go.Proofs.Ytjphnlkdbhcblaa.Row
open Go.ChangeShapes Go.WideShapes Go.ChangeAt Go.RowKit Go.Instr
set_option linter.unusedVariables false
set_option maxRecDepth 100000
abbrev Nnt := List ByteArray
abbrev Nnm := Rw ByteArray
abbrev kNn : Kd Nnt Nnm := kN
abbrev wtNn (x : Nnt) : Nat := bulk x
abbrev adNn (x : Nnt) : Nat := x.length
abbrev okNn (x : Nnt) : Prop := okN x
abbrev inNn (x : Nnt) : Prop := okN x
theorem okN.ok {x : List ByteArray} (h : okN x) : okNn x := h
end Go.Proofs.Ytjphnlkdbhcblaa.Row
/- Lists of names in the words of kinds: sz, to, eq. No conditions but that lengths fit. -/
namespace Go.Proofs.Ytjphnlkdbhcblaa.Row
open Go.ChangeShapes Go.WideShapes Go.ChangeAt Go.RowKit Go.Instr
set_option linter.unusedVariables false
set_option maxRecDepth 100000
def kLNn : Kd (List Nnt) (Rw Nnm) := kNn.slice 27
def okLNn (l : List Nnt) : Prop := l.length ≤ 9223372036854775807 ∧ ∀ x ∈ l, okNn x
section
variable {w : World} {V : Value} {l : List Nnt} {B E : Nat}
end
def inLNn (l : List Nnt) : Prop := l.length ≤ 9223372036854775807 ∧ ∀ x ∈ l, inNn x
theorem inLNn.ok {l : List Nnt} (h : inLNn l) : okLNn l := ⟨h.1, fun x hx => (h.2 x hx).ok⟩
def adLNn (l : List Nnt) : Nat := bulkK adNn l
end Go.Proofs.Ytjphnlkdbhcblaa.Row
/- Lists of Name: marked and looked at. No conditions but that lengths fit. -/
namespace Go.Proofs.Ytjphnlkdbhcblaa.Row
open Go.ChangeShapes Go.WideShapes Go.ChangeAt Go.RowKit Go.Instr
set_option linter.unusedVariables false
set_option maxRecDepth 100000
def mvNn (z : Nnt) : Nat := z.length
def meNn (q : Int) (z : Nnt) : Nnt := marks markT (q) z.length
end Go.Proofs.Ytjphnlkdbhcblaa.Row
/- Lists of names, marked and held, in the words of the exact laws. No conditions but that lengths fit. -/
namespace Go.Proofs.Ytjphnlkdbhcblaa.Row
open Go.ChangeShapes Go.WideShapes Go.ChangeAt Go.RowKit Go.Instr
set_option linter.unusedVariables false
set_option maxRecDepth 100000
end Go.Proofs.Ytjphnlkdbhcblaa.Row
/- Lists of pending interests and of seen nonces in the words of the exact laws: marks; how much the answers of chapter 13's functions hold. No conditions but that lengths fit. -/
namespace Go.Proofs.Ytjphnlkdbhcblaa.Row
open Go.ChangeShapes Go.WideShapes Go.ChangeAt Go.RowKit Go.Instr
set_option linter.unusedVariables false
set_option maxRecDepth 100000
end Go.Proofs.Ytjphnlkdbhcblaa.Row
/- The model finds a pending interest: l13Find, HasPending, LastSentAt. No conditions but that lengths fit. -/
namespace Go.Proofs.Ytjphnlkdbhcblaa.Row
open Go.ChangeShapes Go.WideShapes Go.ChangeAt Go.RowKit Go.Instr
set_option linter.unusedVariables false
set_option maxRecDepth 100000
end Go.Proofs.Ytjphnlkdbhcblaa.Row
/- MarkSent, model and program. No conditions but that lengths fit. -/
namespace Go.Proofs.Ytjphnlkdbhcblaa.Row
open Go.ChangeShapes Go.WideShapes Go.ChangeAt Go.RowKit Go.Instr
set_option linter.unusedVariables false
set_option maxRecDepth 100000
end Go.Proofs.Ytjphnlkdbhcblaa.Row
/- AddSeenNonce, model and program. No conditions but that lengths fit. -/
namespace Go.Proofs.Ytjphnlkdbhcblaa.Row
open Go.ChangeShapes Go.WideShapes Go.ChangeAt Go.RowKit Go.Instr
set_option linter.unusedVariables false
set_option maxRecDepth 100000
end Go.Proofs.Ytjphnlkdbhcblaa.Row
/- requestersOf: what it hands out; IsLoop: whether a nonce was seen. No conditions but that lengths fit. -/
namespace Go.Proofs.Ytjphnlkdbhcblaa.Row
open Go.ChangeShapes Go.WideShapes Go.ChangeAt Go.RowKit Go.Instr
open Go.Shelf
attribute [local go_sem] Oper.semAt_some
set_option linter.unusedVariables false
set_option maxRecDepth 100000
set_option maxHeartbeats 1000000 in
theorem reqOf (x : Option Addr) (len cap : Nat) (xn : Option Addr) (nn cn : Nat) (w : World) :
    Calls Try.prog 68 #[.slice x len cap, .agg #[.slice xn nn cn]] w fun e w' => e = .returned (.func (.func 115) #[] #[.pointer (some ⟨w.heap.size, 0, none⟩), .pointer (some ⟨w.heap.size + 1, 0, none⟩)]) ∧ w' = (w.alloc (.cells #[.slice x len cap] 35)).alloc (.cells #[.slice xn nn cn] 27) := by
  have hmf : ∀ (fn : Fn) (first cap : Array Value) (w : World), (Instr.makeFunc fn first cap).run Try.prog w = .ok (.func fn first cap) w := fun _ _ _ _ => rfl
  go_enter Try.func68, Try.ntmps68
  go_wp2
  go_ret
  exact ⟨rfl, rfl⟩
theorem stopsQ (n : Nat) (hn : 1 ≤ n) (Bl Bn : Nat) (x : Option Addr) (len cap : Nat) (xn : Option Addr) (nn cn : Nat) (l : List Pit) (nm9 : List ByteArray) (w0 : World)
    (hBl : w0.cell? ⟨Bl, 0, none⟩ = some (.slice x len cap)) (hBn : w0.cell? ⟨Bn, 0, none⟩ = some (.slice xn nn cn)) (h : kLPi.At w0 (.slice x len cap) l) (g : kN.At w0 (.agg #[.slice xn nn cn]) nm9) (hf : FitP l) (hm : bulk nm9 ≤ 1200000) :
    SeqStopsK Fence.wide n Try.prog 115 #[.pointer (some ⟨Bl, 0, none⟩), .pointer (some ⟨Bn, 0, none⟩)] (fun y : Rqt => #[.agg #[.int .i64 y.1, .int .i64 y.2.1, .int .i64 y.2.2]]) (Below w0.heap.size) (fun ys => ys = reqsOf nm9 l) (fun pre => pre <+: reqsOf nm9 l) (reqsOf nm9 l).length w0 := fun lp J Jx W hW hJ _ hY h0 =>
  (reqs_in n hn lp Bl Bn w0.heap.size x len cap xn nn cn l nm9 w0 rfl J Jx (fun s X Y hs hb => hJ s X Y none hs (grown_none hb) (fun r e => by cases e)) hBl hBn h g hf hm hY W hW h0).mono fun e W' h =>
    ⟨h.1, h.2.elim (fun h => .inl ⟨_, rfl, h⟩) (fun ⟨pre, h1, h2⟩ => .inr ⟨pre, h1, h2⟩)⟩
theorem clos_lp (g : Nat) (m : List ByteArray) (kk : Int) (w : World) {xn : Option Addr} {nn cn : Nat} (hg : w.cell? ⟨g, 0, none⟩ = some (.slice xn nn cn)) (hg1 : w.cell? ⟨g, 1, none⟩ = some (.int .i64 kk)) (h : kN.At w (.agg #[.slice xn nn cn]) m) (hm : bulk m ≤ 1200000) :
    ClosK Try.prog kSn 70 #[.pointer (some ⟨g, 0, none⟩)] (isS m kk) (fun x => bulk x.1 ≤ 1200000) w := by
  intro x V w1 hb hA hx
  obtain ⟨x0, n0, c0, rfl, hA⟩ := kSn_shapeA hA
  have hN := kSn_parts hA
  obtain ⟨nm, k2⟩ := x
  have HX := Lib.hid (Ret.Blk.new w1 #[.slice x0 n0 c0, .int .i64 k2] 38)
  have hal := (Below.refl w1.heap.size w1).alloc (Nat.le_refl _) (.cells #[.slice x0 n0 c0, .int .i64 k2] 38)
  have HG := Lib.hid (kc (kc hg hb) hal); have HG1 := Lib.hid (kc (kc hg1 hb) hal)
  have HN := Lib.hid (hN.on hal); have HM := Lib.hid ((h.on hb).on hal); have HB := Lib.hid hal
  simp only at hx HN
  obtain ⟨q, hq⟩ : ∃ q, decide (nm = m) = q := ⟨_, rfl⟩
  have HQ := Lib.hid hq
  unfold isS
  dsimp only
  rw [hq]
  clear hal hN hA hg1 hg h hb hq
  have q0 := HX.out.cell 0
  have q1 := HX.out.cell 1
  have g0 := HG.out
  have g1 := HG1.out
  by_cases hk : k2 = kk
  · subst hk
    go_enter Try.func70, Try.ntmps70
    go_wp2_with fail
    refine (iEqK q HQ.out HN.out HM.out (by omega) (by omega)).mono ?_
    rintro e w2 ⟨rfl, hb2⟩
    have HB2 := Lib.hid (HB.out.trans (hb2.mono HB.out.size))
    clear hb2
    go_wp2
    go_ret
    exact ⟨by simp, HB2.out⟩
  · have hke : (k2 == kk) = false := by simpa using hk
    go_enter Try.func70, Try.ntmps70
    go_wp2
    go_ret
    exact ⟨by simp, HB.out⟩
set_option maxHeartbeats 2000000 in
theorem indexS1 (b0 : Addr) (p : Snt → Bool) (ok : Snt → Prop) (v : Value) (l : List Snt) (w : World) (z : Int) (hz : ixL p l = z) (h : kLSn.At w v l) (hl : l.length ≤ 9000000) (hp : ∀ x ∈ l, ok x) (hc : ClosK Try.prog kSn 70 #[.pointer (some b0)] p ok w) :
    Calls Try.prog 116 #[v, .func (.func 70) #[] #[.pointer (some b0)]] w fun e w' => e = .returned (.int .i64 z) ∧ Below w.heap.size w w' := by
  obtain ⟨x, n, cx, L, rfl, hn, ht, hh, hel⟩ := kLSn_at h
  have hlen : l.length = n := by rw [← ht, List.length_map]; exact hn.symm
  rw [hlen] at hl
  have hcap : n ≤ cx := by obtain ⟨x', n', cap', hv, hn', hc', -⟩ := hh.shapeN; cases hv; exact hc'
  have HN := Lib.hid hn; have HT := Lib.hid ht; have HH := Lib.hid hh; have HEL := Lib.hid hel; have HLEN := Lib.hid hlen; have HP := Lib.hid hp; have HC := Lib.hid hc; have HZ := Lib.hid hz
  clear hn h hh hc hp ht hel hlen hz
  go_enter Try.func116, Try.ntmps116
  go_wp2
  go_loopw [8] (fun iv wr => ∃ i : Nat, i ≤ n ∧ iv = .int .i64 i ∧ Hid (noL p l i) ∧ Hid (Below w.heap.size w wr)) (fun iv _ => n - (intOf iv).toNat)
  case atStart => exact ⟨0, Nat.zero_le _, rfl, Lib.hid (noL_zero _ _), Lib.hid (Below.refl _ _)⟩
  case round =>
    obtain ⟨k, hk, rfl, ha, hb⟩ := hrel
    by_cases hlt : k < n
    · have hlen := HN.out
      obtain ⟨b, off, y0, m0, d0, rfl, -, hc0, hc1, hA⟩ := kLSn_elem (HH.out.on hb.out) (fun y hy => kSn.holds_on (HEL.out y hy) hb.out) (j := k) (by omega)
      have hpt : nth l k = kSn.strip (nth L k) := by rw [← HT.out, nth_map _ (by omega)]
      have hps := HP.out (nth l k) (nth_mem (by have := HLEN.out; omega))
      rw [hpt] at hps
      obtain ⟨q, hq⟩ : ∃ q, p (kSn.strip (nth L k)) = q := ⟨_, rfl⟩
      have HCL := HC.out _ _ wr hb.out hA hps
      rw [hq] at HCL
      rw [← hpt] at hq
      replace HCL := Lib.hid HCL
      have HQ := Lib.hid hq
      clear hlen hpt hps hA hq
      go_wp2_with fail
      refine HCL.out.mono ?_
      rintro e w2 ⟨rfl, hb2⟩
      have HB2 := Lib.hid (hb.out.trans (hb2.mono hb.out.size))
      clear hb2 hc0 hc1 HCL
      cases q with
      | true =>
        have HV := Lib.hid (show z = (k : Int) from HZ.out.symm.trans (ixL_at (by have := HLEN.out; omega) ha.out HQ.out))
        go_wp2
        go_ret
        exact ⟨ret_int HV.out.symm, HB2.out⟩
      | false =>
        have HA := Lib.hid (noL_succ ha.out HQ.out)
        go_wp2
        go_roundw
        case rel => exact ⟨k + 1, by omega, by go_num, HA, HB2⟩
        case measure => simp [intOf]; omega
    · obtain rfl : k = n := by omega
      have HV := Lib.hid (show z = -1 from HZ.out.symm.trans (ixL_none (by rw [HLEN.out]; exact ha.out)))
      clear hlt
      go_wp2
      go_ret
      exact ⟨ret_int HV.out.symm, hb.out⟩
set_option maxHeartbeats 2000000 in
theorem containsS1 (b0 : Addr) (p : Snt → Bool) (ok : Snt → Prop) (v : Value) (l : List Snt) (w : World) (z : Bool) (hz : l.any p = z) (h : kLSn.At w v l) (hl : l.length ≤ 9000000) (hp : ∀ x ∈ l, ok x) (hc : ClosK Try.prog kSn 70 #[.pointer (some b0)] p ok w) :
    Calls Try.prog 69 #[v, .func (.func 70) #[] #[.pointer (some b0)]] w fun e w' => e = .returned (.bool z) ∧ Below w.heap.size w w' := by
  obtain ⟨x, n, cx, rfl, h⟩ := kLSn_shapeA h
  obtain ⟨i, hi⟩ : ∃ i, ixL p l = i := ⟨_, rfl⟩
  have hr : -1 ≤ i := by rw [← hi]; rcases ixL_lt p l with h5 | h5 <;> omega
  rw [any_ixL, hi] at hz
  have HI := Lib.hid hi; have HH := Lib.hid h; have HP := Lib.hid hp; have HC := Lib.hid hc; have HZ := Lib.hid hz
  clear hi h hp hc hz
  go_enter Try.func69, Try.ntmps69
  go_wp2_with fail
  refine (indexS1 b0 p ok _ l _ i HI.out HH.out hl HP.out HC.out).mono ?_
  rintro e w1 ⟨rfl, hb⟩
  have HB := Lib.hid hb
  clear hb
  go_wp2
  go_ret
  exact ⟨ret_bool (by rw [← HZ.out]), HB.out⟩
end Go.Proofs.Ytjphnlkdbhcblaa.Row
/- IsLoop, the program. No conditions but that lengths fit. -/
namespace Go.Proofs.Ytjphnlkdbhcblaa.Row
open Go.ChangeShapes Go.WideShapes Go.ChangeAt Go.RowKit Go.Instr
open Go.Shelf
attribute [local go_sem] Oper.semAt_some
set_option linter.unusedVariables false
set_option maxRecDepth 100000
theorem kW_kN {w : World} {x : Wt} {xn : Option Addr} {nn cn : Nat} {a b c : Int} (h : kW.At w (.agg #[.slice xn nn cn, .int .i64 a, .int .i64 b, .int .i64 c]) x) : kN.At w (.agg #[.slice xn nn cn]) x.1 := by
  obtain ⟨v, e, ho⟩ := kW_at h
  have e2 : v = .slice xn nn cn := by injection e with e; exact (Option.some.inj (congrArg (fun A : Array Value => A[0]?) e)).symm
  subst e2
  exact kN_of ho
theorem any_ini {l ini : List Rqt} {r : Rqt} {p : Rqt → Bool} (h : ini ++ [r] <+: l) (hr : p r = true) : l.any p = true :=
  List.any_eq_true.2 ⟨r, h.subset (by simp), hr⟩
def NoR (k : Int) (pre : List Rqt) : Prop := ∀ r ∈ pre, nnR k r = false
def HitR (k : Int) (pre : List Rqt) : Prop := ∃ ini r, pre = ini ++ [r] ∧ nnR k r = true
theorem keeps_below {W W' : World} (h : Below W.heap.size W W') : KeepsOthers W W' := ⟨h.size, fun k o hk ho => (h.block k (Array.getElem?_eq_some_iff.1 hk).1).trans hk⟩
set_option maxHeartbeats 16000000 in
theorem implIsLoop (V U T : Value) (l : List Pit) (s : List Snt) (x : Wt) (w : World) (z : Bool) (hz : loopP l s x = z) (h : kLPi.At w V l) (h2 : kLSn.At w U s) (g : kW.At w T x) (hf : FitP l) (hfs : FitS s) (hm : bulk x.1 ≤ 1200000) :
    Calls Try.prog 19 #[V, U, T] w fun e w' => e = .returned (.bool z) ∧ Below w.heap.size w w' := by
  obtain ⟨ad, len, cap, rfl, h⟩ := kLPi_shapeA h
  obtain ⟨sa, ns, cs, rfl, h2⟩ := kLSn_shapeA h2
  obtain ⟨xn, nn, cn, rfl, g⟩ := kW_shapeA g
  obtain ⟨nm, kk, hp, lf⟩ := x
  simp only at g hm ⊢
  have gN := kW_kN g
  obtain ⟨w2, e2⟩ : ∃ w2, (w.alloc (.cells #[.slice xn nn cn, .int .i64 kk, .int .i64 hp, .int .i64 lf] 33)).alloc (.cells #[.bool false] 4) = w2 := ⟨_, rfl⟩
  obtain ⟨w4, e4⟩ : ∃ w4, (w2.alloc (.cells #[.slice ad len cap] 35)).alloc (.cells #[.slice xn nn cn] 27) = w4 := ⟨_, rfl⟩
  have hz2 : w2.heap.size = w.heap.size + 2 := by rw [← e2]; simp
  have hz4 : w4.heap.size = w.heap.size + 4 := by rw [← e4]; simp [hz2]
  have b2 : Below w.heap.size w w2 := by rw [← e2]; exact ((Below.refl w.heap.size w).alloc (Nat.le_refl _) _).alloc (by simp) _
  have b4 : Below w2.heap.size w2 w4 := by rw [← e4]; exact ((Below.refl w2.heap.size w2).alloc (Nat.le_refl _) _).alloc (by simp) _
  have k0 : Ret.Blk w2 w.heap.size #[.slice xn nn cn, .int .i64 kk, .int .i64 hp, .int .i64 lf] 33 := by rw [← e2]; exact (Ret.Blk.new w _ _).on ((Below.refl _ _).alloc (Nat.le_refl _) _)
  have k1 : Ret.Box w2 (w.heap.size + 1) (.bool false) 4 := by rw [← e2]; exact Ret.Blk.new' (n := w.heap.size + 1) #[.bool false] 4 (by simp)
  have k2 : w4.cell? ⟨w.heap.size + 2, 0, none⟩ = some (.slice ad len cap) := by rw [← hz2, ← e4]; exact ((Ret.Blk.new w2 #[.slice ad len cap] 35).on ((Below.refl _ _).alloc (Nat.le_refl _) _)).cell 0
  have k3 : w4.cell? ⟨w.heap.size + 3, 0, none⟩ = some (.slice xn nn cn) := by rw [← e4]; exact (Ret.Blk.new' (w := w2.alloc (.cells #[.slice ad len cap] 35)) (n := w.heap.size + 3) #[.slice xn nn cn] 27 (by simp [hz2])).cell 0
  have b04 : Below w.heap.size w w4 := b2.trans (b4.mono (by omega))
  have HQ := Lib.hid (stopsQ 2 (by decide) (w.heap.size + 2) (w.heap.size + 2 + 1) ad len cap xn nn cn l nm w4 k2 k3 (h.on b04) (gN.on b04) hf hm)
  have HS := Lib.hid h2; have HG := Lib.hid gN; have HF := Lib.hid hfs; have HZ := Lib.hid hz
  have HZ2 := Lib.hid hz2; have HZ4 := Lib.hid hz4; have HB2 := Lib.hid b2; have HB4 := Lib.hid b4; have K0 := Lib.hid k0; have K1 := Lib.hid k1; have HB := Lib.hid b04; have HE2 := Lib.hid e2; have HE4 := Lib.hid e4
  clear h h2 g gN hf hfs hz hz2 hz4 b2 b4 k0 k1 k2 k3 b04 e2 e4
  have hmf : ∀ (fn : Fn) (first cap : Array Value) (w : World), (Instr.makeFunc fn first cap).run Try.prog w = .ok (.func fn first cap) w := fun _ _ _ _ => rfl
  refine (callsIn_wide (n := 3)).1 ?_
  refine callsIn_of_wp_marks Try.func19 rfl trivial ?_ rfl
  simp only [Try.ntmps19, List.size_toArray, List.length_cons, List.length_nil, Nat.reduceAdd, Nat.reduceSub, Array.replicate_succ, Array.replicate_zero, List.push_toArray, List.append_toArray, List.nil_append, List.cons_append]
  gi_wp2
  rw [HE2.out]
  have x0 : w2.cell? ⟨w.heap.size, 0, none⟩ = some (.slice xn nn cn) := K0.out.cell 0
  gi_wp2_with (refine ⟨trivial, ?_⟩; gi_at_call 68; refine (callsIn_wide.2 (reqOf _ _ _ _ _ _ _)).mono ?_; rintro e w' ⟨rfl, rfl⟩)
  rw [HE4.out]
  simp only [HZ2.out]
  have c0_ : w4.cell? ⟨w.heap.size, 0, none⟩ = some (.slice xn nn cn) := (K0.out.on HB4.out).cell 0
  have c1_ : w4.cell? ⟨w.heap.size, 1, none⟩ = some (.int .i64 kk) := (K0.out.on HB4.out).cell 1
  have c2_ : w4.cell? ⟨w.heap.size + 1, 0, none⟩ = some (.bool false) := (K1.out.on HB4.out).cell
  have z2_ : w4.frozen? ⟨w.heap.size + 1, 0, none⟩ = false := (K1.out.on HB4.out).frozen
  have hz4 := HZ4.out
  refine wpIn_rangeFunc_ownH rfl (by omega) (gf := 115) (lb := #[.pointer (some ⟨w.heap.size + 2, 0, none⟩), .pointer (some ⟨w.heap.size + 2 + 1, 0, none⟩)]) rfl trivial (enters_of Try.func115 (by kernel_rfl) rfl)
    HQ.out belowK_t9 (belowK_b (Nat.le_refl _)) (Below.refl _ _) (fun _ => rfl)
    (fun pre W => (W.cell? ⟨w.heap.size, 0, none⟩ = some (.slice xn nn cn) ∧ W.cell? ⟨w.heap.size, 1, none⟩ = some (.int .i64 kk) ∧ W.cell? ⟨w.heap.size + 1, 0, none⟩ = some (.bool false) ∧ W.frozen? ⟨w.heap.size + 1, 0, none⟩ = false ∧ Hid (NoR kk pre) ∧ Hid (w4.heap.size ≤ W.heap.size)) ∧ Below w.heap.size w W)
    (fun c pre W => (c = .ret ∧ Hid (HitR kk pre) ∧ W.cell? ⟨w.heap.size + 1, 0, none⟩ = some (.bool true)) ∧ Below w.heap.size w W)
    (OwnFrom.and (Own.from (fun s A B row hs hg hr => ⟨cell_kept hs.1 hg hr, cell_kept hs.2.1 hg hr, cell_kept hs.2.2.1 hg hr, (frozen_kept hs.2.2.1 hg hr).trans hs.2.2.2.1, hs.2.2.2.2.1, Lib.hid (Nat.le_trans hs.2.2.2.2.2.out hg.size)⟩) _) (ownFrom_below (Nat.le_refl _) (by omega)))
    (fun c => OwnFrom.and (Own.from (fun s A B row hs hg hr => ⟨hs.1, hs.2.1, cell_kept hs.2.2 hg hr⟩) _) (ownFrom_below (Nat.le_refl _) (by omega)))
    ⟨⟨c0_, c1_, c2_, z2_, Lib.hid (fun r hr => by simp at hr), Lib.hid (Nat.le_refl _)⟩, HB.out⟩
    (fun y a' W => ∃ Bx, w4.heap.size ≤ Bx ∧ Ret.Blk W Bx #[.int .i64 y.1, .int .i64 y.2.1, .int .i64 y.2.2] 91 ∧ a' = { tmps := #[.slice ad len cap, .slice sa ns cs, .agg #[.slice xn nn cn, .int .i64 kk, .int .i64 hp, .int .i64 lf], undef, undef, .pointer (some ⟨w.heap.size, 0, none⟩), .pointer (some ⟨w.heap.size + 1, 0, none⟩), .pointer (some ⟨Bx, 0, none⟩), .slice ad len cap, .pointer (some ⟨w.heap.size, 0, none⟩), .agg #[.slice xn nn cn], .func (.func 115) #[] #[.pointer (some ⟨w.heap.size + 2, 0, none⟩), .pointer (some ⟨w.heap.size + 2 + 1, 0, none⟩)], .agg #[.int .i64 y.1, .int .i64 y.2.1, .int .i64 y.2.2], undef, undef, undef, undef, undef, undef, undef, undef], defers := [] })
    (fun y a' _ X Y row hs hg hr => by obtain ⟨Bx, h1, h2, h3⟩ := hs; exact ⟨Bx, h1, blk_own () X Y row h2 hg (fun r e => (hr r e).2), h3⟩)
    ?assign ?body ?done ?stop
  case assign =>
    rintro l pre y W K ⟨⟨c0, c1, c2, z2, hno, hsz⟩, hB⟩ hK
    have hal := (Below.refl W.heap.size W).alloc (Nat.le_refl _) (.cells #[.int .i64 y.1, .int .i64 y.2.1, .int .i64 y.2.2] 91)
    gi_wp2
    exact hK _ _ ((KeepsOthers.alloc _ _).from _) ((Below.refl _ W).alloc hsz.out _) ⟨⟨kc c0 hal, kc c1 hal, kc c2 hal, (hal.frozen (Ret.cell_lt c2)).trans z2, hno, Lib.hid (by have := hsz.out; simp; omega)⟩, hB.alloc hB.size _⟩ ⟨W.heap.size, hsz.out, Ret.Blk.new W _ _, rfl⟩
  case body =>
    clear hz4
    rintro q pre ⟨f, u, e⟩ a' W hl - ⟨⟨c0, c1, c2, z2, hno, hsz⟩, hB⟩ ⟨Bx, hBx, bX, rfl⟩ hlt
    have x1 : W.cell? ⟨Bx, 1, none⟩ = some (.int .i64 u) := bX.cell 1
    by_cases hk : u = kk
    · subst hk
      have HX0 := Lib.hid (show HitR u (pre ++ [((f, u, e) : Rqt)]) from ⟨pre, _, rfl, by simp [nnR]⟩)
      gi_wp2
      exact ⟨(KeepsOthers.setCell _ _ _).from _, ⟨rfl, HX0, (World.cell?_setCell_same' _ _ _ (by rw [c2]; rfl)).trans (by simp)⟩, hB.setCell (p := ⟨w.heap.size + 1, 0, none⟩) (by simp) _⟩
    · have hke : (u == kk) = false := by simpa using hk
      have HN2 := Lib.hid (show NoR kk (pre ++ [((f, u, e) : Rqt)]) from fun r hr => by
        rcases List.mem_append.1 hr with h5 | h5
        · exact hno.out r h5
        · rw [List.mem_singleton.1 h5]; simpa [nnR] using hk)
      gi_wp2
      exact ⟨(KeepsOthers.refl _).from _, Below.refl _ _, ⟨c0, c1, c2, z2, HN2, hsz⟩, hB⟩
  case done =>
    rintro D ys W hD rfl ⟨⟨c0, c1, c2, z2, hno, hsz⟩, hB⟩ hK
    obtain ⟨r, hr⟩ : ∃ r, s.any (isS nm kk) = r := ⟨_, rfl⟩
    have HC := Lib.hid (containsS1 ⟨w.heap.size, 0, none⟩ (isS nm kk) (fun x => bulk x.1 ≤ 1200000) _ s W r hr (HS.out.on hB) (Nat.le_trans HF.out.len (by decide)) HF.out.each (clos_lp w.heap.size nm kk W c0 c1 (HG.out.on hB) hm))
    have hzr : z = r := by
      rw [← HZ.out, ← hr]
      unfold loopP
      have h5 : l.any (loopR nm kk) = false := by rw [← reqsOf_any]; exact List.any_eq_false.2 fun r hr => by rw [hno.out r hr]; simp
      show (l.any (loopR nm kk) || s.any (isS nm kk)) = _
      rw [h5, Bool.false_or]
    subst hzr
    have C2 := Lib.hid c2; have Z2 := Lib.hid z2; have HBW := Lib.hid hB
    clear c0 c1 c2 z2 hno hB hr
    gi_wp2_with (refine ⟨trivial, ?_⟩; gi_at_call 69; refine (callsIn_wide.2 HC.out).mono ?_; rintro e w5 ⟨rfl, hb5⟩; have c2 := kc C2.out hb5; have z2 := (hb5.frozen (Ret.cell_lt C2.out)).trans Z2.out)
    have hK5 := (keeps_below hb5).same D _ hK rfl
    have hK' := (KeepsOthers.setCell w5 ⟨w.heap.size + 1, 0, none⟩ (.bool z)).same D _ hK5 rfl
    refine ⟨by simp, .inl ⟨_, _, rfl, run_takeDeferred hK', ?_⟩⟩
    have hc5 := cell_kept (World.cell?_setCell_same' w5 ⟨w.heap.size + 1, 0, none⟩ (.bool z) (by rw [c2]; rfl)) (grownBy_putObj' _ D (.deferred none)) (fun r e => by cases e; exact ⟨_, hK', rfl⟩)
    refine ⟨.bool z, ?_, rfl, ((HBW.out.trans (hb5.mono HBW.out.size)).setCell (p := ⟨w.heap.size + 1, 0, none⟩) (by simp) _).trans (belowK_b (w := w) (Nat.le_refl _) _ D _ _ (by omega) hK' rfl rfl)⟩
    simp [results, Try.f19, go_sem, hc5]
  case stop =>
    rintro D c pre W hD hpre ⟨⟨rfl, hex, c2⟩, hB⟩ hK
    obtain ⟨ini, r, rfl, hr⟩ := hex.out
    have hF : true = z := by
      rw [← HZ.out]
      unfold loopP
      have h5 : l.any (loopR nm kk) = true := by rw [← reqsOf_any]; exact any_ini hpre hr
      show _ = (l.any (loopR nm kk) || s.any (isS nm kk))
      rw [h5, Bool.true_or]
    rw [hF] at c2
    clear hF hr hpre hex
    gi_wp2
    refine ⟨by simp, .inl ⟨_, _, rfl, run_takeDeferred hK, ?_⟩⟩
    have hc5 := cell_kept c2 (grownBy_putObj' _ D (.deferred none)) (fun r e => by cases e; exact ⟨_, hK, rfl⟩)
    refine ⟨.bool z, ?_, rfl, hB.trans (belowK_b (w := w) (Nat.le_refl _) W D _ _ (by omega) hK rfl rfl)⟩
    simp [results, Try.f19, go_sem, hc5]
end Go.Proofs.Ytjphnlkdbhcblaa.Row
/- IsLoop, the model. No conditions but that lengths fit. -/
namespace Go.Proofs.Ytjphnlkdbhcblaa.Row
open Go.ChangeShapes Go.WideShapes Go.ChangeAt Go.RowKit Go.Instr
set_option linter.unusedVariables false
set_option maxRecDepth 100000
set_option maxRecDepth 100000 in
set_option maxHeartbeats 4000000 in
theorem ril0 {Q : Exit → Act → World → Prop} {v1 v2 v3 v4 v6 v9 v10 v11 v12 v13 v14 v15 v16 v17 v18 v19 v20 v21 v22 v23 v24 v25 v26 v27 v28 v29 v30 v31 v32 v33 v34 v35 v36 v37 v38 v39 v40 v41 v42 v43 v44 v45 v46 v47 v48 v49 v50 v51 v52 v53 v54 v55 v56 v57 v58 v59 v60 v61 v62 v63 v64 v65 v66 v67 v68 v69 v70 v71 : Value} {w : World} {b off n c g k j m1 d1 : Nat} {y1 : Option Addr}   (hk : k < n) (hv : decide (j < m1) = false) (K1 : Hid (w.cell? ⟨b, off + k * 3 + 1, none⟩ = some (.slice y1 m1 d1)))
  (hQ : ∀ (u16 u17 u18 u19 u20 u21 u22 u23 u24 u25 u26 u27 u28 u29 u30 u31 u32 : Value)  (wx : World), Below w.heap.size w wx → Q .normal ⟨#[.slice (some ⟨b, off, none⟩) n c, v1, v2, v3, v4, .pointer (some ⟨g, 0, none⟩), v6, .int .i64 k, .int .i64 j, v9, v10, v11, v12, v13, v14, v15, u16, u17, u18, u19, u20, u21, u22, u23, u24, u25, u26, u27, u28, u29, u30, u31, u32, .bool false, v34, v35, v36, v37, v38, v39, v40, v41, v42, v43, v44, v45, v46, v47, v48, v49, v50, v51, v52, v53, v54, v55, v56, v57, v58, v59, v60, v61, v62, v63, v64, v65, v66, v67, v68, v69, v70, v71], []⟩ wx) :
  (Code.region 5 #[⟨some 16, .move (.tmp 8), 3, "l13_pend.go:43", #[], none⟩,
   ⟨some 17, .move (.tmp 0), 35, "l13_pend.go:43", #[], none⟩,
   ⟨some 18, .move (.tmp 7), 3, "l13_pend.go:43", #[], none⟩,
   ⟨some 19, .indexAddr 35 (.tmp 17) (.tmp 18), 0, "l13_pend.go:43", #[⟨1, .data⟩, ⟨2, .data⟩], none⟩,
   ⟨some 20, .fieldAddr 101 (.tmp 19) 1, 0, "l13_pend.go:43", #[⟨3, .data⟩], none⟩,
   ⟨some 21, .load 68 (.tmp 20), 68, "l13_pend.go:43", #[⟨4, .data⟩], none⟩,
   ⟨some 22, .call ⟨.builtin .len, #[.tmp 21], #[68]⟩, 3, "l13_pend.go:43", #[⟨5, .data⟩], none⟩,
   ⟨some 23, .binOp BinOp.lss 3 (.tmp 16) (.tmp 22) 3, 4, "l13_pend.go:43", #[⟨0, .data⟩, ⟨6, .data⟩], none⟩,
   ⟨some 24, .move (.tmp 23), 4, "l13_pend.go:43", #[⟨7, .data⟩], none⟩,
   ⟨some 25, .move (.tmp 0), 35, "l13_pend.go:43", #[⟨8, .guard⟩], some (8, true)⟩,
   ⟨some 26, .move (.tmp 7), 3, "l13_pend.go:43", #[⟨8, .guard⟩], some (8, true)⟩,
   ⟨some 27, .indexAddr 35 (.tmp 25) (.tmp 26), 0, "l13_pend.go:43", #[⟨9, .data⟩, ⟨10, .data⟩, ⟨8, .guard⟩], some (8, true)⟩,
   ⟨some 28, .fieldAddr 101 (.tmp 27) 0, 0, "l13_pend.go:43", #[⟨11, .data⟩, ⟨8, .guard⟩], some (8, true)⟩,
   ⟨some 29, .load 27 (.tmp 28), 27, "l13_pend.go:43", #[⟨12, .data⟩, ⟨8, .guard⟩], some (8, true)⟩,
   ⟨some 30, .fieldAddr 33 (.tmp 5) 0, 0, "l13_pend.go:43", #[⟨8, .guard⟩], some (8, true)⟩,
   ⟨some 31, .load 27 (.tmp 30), 27, "l13_pend.go:43", #[⟨14, .data⟩, ⟨8, .guard⟩], some (8, true)⟩,
   ⟨some 32, .call ⟨.value (.func 83), #[.tmp 29, .tmp 31], #[27, 27]⟩, 4, "l13_pend.go:43", #[⟨13, .data⟩, ⟨15, .data⟩, ⟨8, .chain⟩, ⟨8, .guard⟩], some (8, true)⟩,
   ⟨some 33, .pick (.tmp 24) (.tmp 32) (.const (Value.bool false)), 4, "l13_pend.go:43", #[⟨8, .data⟩, ⟨16, .data⟩], none⟩] true).wp Try.prog Q ⟨#[.slice (some ⟨b, off, none⟩) n c, v1, v2, v3, v4, .pointer (some ⟨g, 0, none⟩), v6, .int .i64 k, .int .i64 j, v9, v10, v11, v12, v13, v14, v15, v16, v17, v18, v19, v20, v21, v22, v23, v24, v25, v26, v27, v28, v29, v30, v31, v32, v33, v34, v35, v36, v37, v38, v39, v40, v41, v42, v43, v44, v45, v46, v47, v48, v49, v50, v51, v52, v53, v54, v55, v56, v57, v58, v59, v60, v61, v62, v63, v64, v65, v66, v67, v68, v69, v70, v71], []⟩ w := by
 have HQ := Lib.hid hQ; clear hQ
 have hdr : Below w.heap.size w w.drew := (Below.refl _ _).drew
 have BB := Lib.hid hdr
 refine wp_region_noPanic ?_
 refine wp_region_held_drew (S := (fun w' => w'.cell? ⟨b, off + k * 3 + 1, none⟩ = some (.slice y1 m1 d1))) (by kernel_rfl) ?_ (fun hHeld => ?_)
 ·
  exact kc K1.out BB.out
 clear hdr
 generalize w.drew = wd at *
 refine wpAnyH_take (i := 0) (oi := ⟨some 16, .move (.tmp 8), 3, "l13_pend.go:43", #[], none⟩) (v := ?_) rfl (by kernel_rfl) (by kernel_rfl) (by kernel_rfl) (fun _ _ _ h => h) (Or.inl ⟨by rfl, ?_⟩) (by assumption) ?_
 rotate_left
 ·
  intro w' hSw; (try dsimp only at hSw); first | (go_simp; done) | (go_simp; with_reducible rfl)
 (try simp only [Act.put, Row.pB0, Row.pB1, Row.pB2])
 refine wpAnyH_take (i := 1) (oi := ⟨some 17, .move (.tmp 0), 35, "l13_pend.go:43", #[], none⟩) (v := ?_) rfl (by kernel_rfl) (by kernel_rfl) (by kernel_rfl) (fun _ _ _ h => h) (Or.inl ⟨by rfl, ?_⟩) (by assumption) ?_
 rotate_left
 ·
  intro w' hSw; (try dsimp only at hSw); first | (go_simp; done) | (go_simp; with_reducible rfl)
 (try simp only [Act.put, Row.pB0, Row.pB1, Row.pB2])
 refine wpAnyH_take (i := 2) (oi := ⟨some 18, .move (.tmp 7), 3, "l13_pend.go:43", #[], none⟩) (v := ?_) rfl (by kernel_rfl) (by kernel_rfl) (by kernel_rfl) (fun _ _ _ h => h) (Or.inl ⟨by rfl, ?_⟩) (by assumption) ?_
 rotate_left
 ·
  intro w' hSw; (try dsimp only at hSw); first | (go_simp; done) | (go_simp; with_reducible rfl)
 (try simp only [Act.put, Row.pB0, Row.pB1, Row.pB2])
 refine wpAnyH_take (i := 3) (oi := ⟨some 19, .indexAddr 35 (.tmp 17) (.tmp 18), 0, "l13_pend.go:43", #[⟨1, .data⟩, ⟨2, .data⟩], none⟩) (v := ?_) rfl (by kernel_rfl) (by kernel_rfl) (by kernel_rfl) (fun _ _ _ h => h) (Or.inl ⟨by rfl, ?_⟩) (by assumption) ?_
 rotate_left
 ·
  intro w' hSw; (try dsimp only at hSw); first | (go_simp; done) | (go_simp; with_reducible rfl)
 (try simp only [Act.put, Row.pB0, Row.pB1, Row.pB2])
 refine wpAnyH_take (i := 4) (oi := ⟨some 20, .fieldAddr 101 (.tmp 19) 1, 0, "l13_pend.go:43", #[⟨3, .data⟩], none⟩) (v := ?_) rfl (by kernel_rfl) (by kernel_rfl) (by kernel_rfl) (fun _ _ _ h => h) (Or.inl ⟨by rfl, ?_⟩) (by assumption) ?_
 rotate_left
 ·
  intro w' hSw; (try dsimp only at hSw); first | (go_simp; done) | (go_simp; with_reducible rfl)
 (try simp only [Act.put, Row.pB0, Row.pB1, Row.pB2])
 refine wpAnyH_take (i := 5) (oi := ⟨some 21, .load 68 (.tmp 20), 68, "l13_pend.go:43", #[⟨4, .data⟩], none⟩) (v := ?_) rfl (by kernel_rfl) (by kernel_rfl) (by kernel_rfl) (fun _ _ _ h => h) (Or.inl ⟨by rfl, ?_⟩) (by assumption) ?_
 rotate_left
 ·
  intro w' hSw; (try dsimp only at hSw); first | (go_simp; done) | (go_simp; with_reducible rfl)
 (try simp only [Act.put, Row.pB0, Row.pB1, Row.pB2])
 refine wpAnyH_take (i := 6) (oi := ⟨some 22, .call ⟨.builtin .len, #[.tmp 21], #[68]⟩, 3, "l13_pend.go:43", #[⟨5, .data⟩], none⟩) (v := ?_) rfl (by kernel_rfl) (by kernel_rfl) (by kernel_rfl) (fun _ _ _ h => h) (Or.inl ⟨by rfl, ?_⟩) (by assumption) ?_
 rotate_left
 ·
  intro w' hSw; (try dsimp only at hSw); first | (go_simp; done) | (go_simp; with_reducible rfl)
 (try simp only [Act.put, Row.pB0, Row.pB1, Row.pB2])
 refine wpAnyH_take (i := 7) (oi := ⟨some 23, .binOp BinOp.lss 3 (.tmp 16) (.tmp 22) 3, 4, "l13_pend.go:43", #[⟨0, .data⟩, ⟨6, .data⟩], none⟩) (v := ?_) rfl (by kernel_rfl) (by kernel_rfl) (by kernel_rfl) (fun _ _ _ h => h) (Or.inl ⟨by rfl, ?_⟩) (by assumption) ?_
 rotate_left
 ·
  intro w' hSw; (try dsimp only at hSw); first | (go_simp; done) | (go_simp; with_reducible rfl)
 (try simp only [Act.put, Row.pB0, Row.pB1, Row.pB2])
 refine wpAnyH_take (i := 8) (oi := ⟨some 24, .move (.tmp 23), 4, "l13_pend.go:43", #[⟨7, .data⟩], none⟩) (v := ?_) rfl (by kernel_rfl) (by kernel_rfl) (by kernel_rfl) (fun _ _ _ h => h) (Or.inl ⟨by rfl, ?_⟩) (by assumption) ?_
 rotate_left
 ·
  intro w' hSw; (try dsimp only at hSw); first | (go_simp; done) | (go_simp; with_reducible rfl)
 (try simp only [Act.put, Row.pB0, Row.pB1, Row.pB2])
 refine wpAnyH_take (i := 9) (oi := ⟨some 25, .move (.tmp 0), 35, "l13_pend.go:43", #[⟨8, .guard⟩], some (8, true)⟩) (v := undef) rfl (by kernel_rfl) (by kernel_rfl) (by kernel_rfl) (fun _ _ _ h => h) (Or.inr ⟨by rfl, rfl⟩) (by assumption) ?_
 (try simp only [Act.put, Row.pB0, Row.pB1, Row.pB2])
 refine wpAnyH_take (i := 10) (oi := ⟨some 26, .move (.tmp 7), 3, "l13_pend.go:43", #[⟨8, .guard⟩], some (8, true)⟩) (v := undef) rfl (by kernel_rfl) (by kernel_rfl) (by kernel_rfl) (fun _ _ _ h => h) (Or.inr ⟨by rfl, rfl⟩) (by assumption) ?_
 (try simp only [Act.put, Row.pB0, Row.pB1, Row.pB2])
 refine wpAnyH_take (i := 11) (oi := ⟨some 27, .indexAddr 35 (.tmp 25) (.tmp 26), 0, "l13_pend.go:43", #[⟨9, .data⟩, ⟨10, .data⟩, ⟨8, .guard⟩], some (8, true)⟩) (v := undef) rfl (by kernel_rfl) (by kernel_rfl) (by kernel_rfl) (fun _ _ _ h => h) (Or.inr ⟨by rfl, rfl⟩) (by assumption) ?_
 (try simp only [Act.put, Row.pB0, Row.pB1, Row.pB2])
 refine wpAnyH_take (i := 12) (oi := ⟨some 28, .fieldAddr 101 (.tmp 27) 0, 0, "l13_pend.go:43", #[⟨11, .data⟩, ⟨8, .guard⟩], some (8, true)⟩) (v := undef) rfl (by kernel_rfl) (by kernel_rfl) (by kernel_rfl) (fun _ _ _ h => h) (Or.inr ⟨by rfl, rfl⟩) (by assumption) ?_
 (try simp only [Act.put, Row.pB0, Row.pB1, Row.pB2])
 refine wpAnyH_take (i := 13) (oi := ⟨some 29, .load 27 (.tmp 28), 27, "l13_pend.go:43", #[⟨12, .data⟩, ⟨8, .guard⟩], some (8, true)⟩) (v := undef) rfl (by kernel_rfl) (by kernel_rfl) (by kernel_rfl) (fun _ _ _ h => h) (Or.inr ⟨by rfl, rfl⟩) (by assumption) ?_
 (try simp only [Act.put, Row.pB0, Row.pB1, Row.pB2])
 refine wpAnyH_take (i := 14) (oi := ⟨some 30, .fieldAddr 33 (.tmp 5) 0, 0, "l13_pend.go:43", #[⟨8, .guard⟩], some (8, true)⟩) (v := undef) rfl (by kernel_rfl) (by kernel_rfl) (by kernel_rfl) (fun _ _ _ h => h) (Or.inr ⟨by rfl, rfl⟩) (by assumption) ?_
 (try simp only [Act.put, Row.pB0, Row.pB1, Row.pB2])
 refine wpAnyH_take (i := 15) (oi := ⟨some 31, .load 27 (.tmp 30), 27, "l13_pend.go:43", #[⟨14, .data⟩, ⟨8, .guard⟩], some (8, true)⟩) (v := undef) rfl (by kernel_rfl) (by kernel_rfl) (by kernel_rfl) (fun _ _ _ h => h) (Or.inr ⟨by rfl, rfl⟩) (by assumption) ?_
 (try simp only [Act.put, Row.pB0, Row.pB1, Row.pB2])
 refine wpAnyH_take (i := 16) (oi := ⟨some 32, .call ⟨.value (.func 83), #[.tmp 29, .tmp 31], #[27, 27]⟩, 4, "l13_pend.go:43", #[⟨13, .data⟩, ⟨15, .data⟩, ⟨8, .chain⟩, ⟨8, .guard⟩], some (8, true)⟩) (v := undef) rfl (by kernel_rfl) (by kernel_rfl) (by kernel_rfl) (fun _ _ _ h => h) (Or.inr ⟨by rfl, rfl⟩) (by assumption) ?_
 (try simp only [Act.put, Row.pB0, Row.pB1, Row.pB2])
 refine wpAnyH_take (i := 17) (oi := ⟨some 33, .pick (.tmp 24) (.tmp 32) (.const (Value.bool false)), 4, "l13_pend.go:43", #[⟨8, .data⟩, ⟨16, .data⟩], none⟩) (v := ?_) rfl (by kernel_rfl) (by kernel_rfl) (by kernel_rfl) (fun _ _ _ h => h) (Or.inl ⟨by rfl, ?_⟩) (by assumption) ?_
 rotate_left
 ·
  intro w' hSw; (try dsimp only at hSw); first | (go_simp; done) | (go_simp; with_reducible rfl)
 (try simp only [Act.put, Row.pB0, Row.pB1, Row.pB2])
 refine wpAnyH_done (by kernel_rfl) ?_ _
 exact NoPanic.normal (HQ.out _ _ _ _ _ _ _ _ _ _ _ _ _ _ _ _ _  _  BB.out)
set_option maxRecDepth 100000 in
set_option maxHeartbeats 4000000 in
theorem ril1 {Q : Exit → Act → World → Prop} {v1 v2 v3 v4 v6 v9 v10 v11 v12 v13 v14 v15 v16 v17 v18 v19 v20 v21 v22 v23 v24 v25 v26 v27 v28 v29 v30 v31 v32 v33 v34 v35 v36 v37 v38 v39 v40 v41 v42 v43 v44 v45 v46 v47 v48 v49 v50 v51 v52 v53 v54 v55 v56 v57 v58 v59 v60 v61 v62 v63 v64 v65 v66 v67 v68 v69 v70 v71 : Value} {w : World} {b off n c g k j m0 d0 m1 d1 nn cn : Nat} {y0 y1 xn : Option Addr} {nm nx : List ByteArray} {z : Bool} (hk : k < n) (hv : decide (j < m1) = true) (HV : Hid (decide (nm = nx) = z)) (H_m : Hid (kN.At w (.agg #[.slice y0 m0 d0]) nm)) (H_n : Hid (kN.At w (.agg #[.slice xn nn cn]) nx)) (HMB : Hid (bulk nm ≤ 1200000)) (HNB : Hid (bulk nx ≤ 1200000)) (K1 : Hid (w.cell? ⟨b, off + k * 3 + 1, none⟩ = some (.slice y1 m1 d1))) (K0 : Hid (w.cell? ⟨b, off + k * 3, none⟩ = some (.slice y0 m0 d0))) (I0 : Hid (w.cell? ⟨g, 0, none⟩ = some (.slice xn nn cn)))
  (hQ : ∀ (u16 u17 u18 u19 u20 u21 u22 u23 u24 u25 u26 u27 u28 u29 u30 u31 u32 : Value)  (wx : World), Below w.heap.size w wx → Q .normal ⟨#[.slice (some ⟨b, off, none⟩) n c, v1, v2, v3, v4, .pointer (some ⟨g, 0, none⟩), v6, .int .i64 k, .int .i64 j, v9, v10, v11, v12, v13, v14, v15, u16, u17, u18, u19, u20, u21, u22, u23, u24, u25, u26, u27, u28, u29, u30, u31, u32, .bool z, v34, v35, v36, v37, v38, v39, v40, v41, v42, v43, v44, v45, v46, v47, v48, v49, v50, v51, v52, v53, v54, v55, v56, v57, v58, v59, v60, v61, v62, v63, v64, v65, v66, v67, v68, v69, v70, v71], []⟩ wx) :
  (Code.region 5 #[⟨some 16, .move (.tmp 8), 3, "l13_pend.go:43", #[], none⟩,
   ⟨some 17, .move (.tmp 0), 35, "l13_pend.go:43", #[], none⟩,
   ⟨some 18, .move (.tmp 7), 3, "l13_pend.go:43", #[], none⟩,
   ⟨some 19, .indexAddr 35 (.tmp 17) (.tmp 18), 0, "l13_pend.go:43", #[⟨1, .data⟩, ⟨2, .data⟩], none⟩,
   ⟨some 20, .fieldAddr 101 (.tmp 19) 1, 0, "l13_pend.go:43", #[⟨3, .data⟩], none⟩,
   ⟨some 21, .load 68 (.tmp 20), 68, "l13_pend.go:43", #[⟨4, .data⟩], none⟩,
   ⟨some 22, .call ⟨.builtin .len, #[.tmp 21], #[68]⟩, 3, "l13_pend.go:43", #[⟨5, .data⟩], none⟩,
   ⟨some 23, .binOp BinOp.lss 3 (.tmp 16) (.tmp 22) 3, 4, "l13_pend.go:43", #[⟨0, .data⟩, ⟨6, .data⟩], none⟩,
   ⟨some 24, .move (.tmp 23), 4, "l13_pend.go:43", #[⟨7, .data⟩], none⟩,
   ⟨some 25, .move (.tmp 0), 35, "l13_pend.go:43", #[⟨8, .guard⟩], some (8, true)⟩,
   ⟨some 26, .move (.tmp 7), 3, "l13_pend.go:43", #[⟨8, .guard⟩], some (8, true)⟩,
   ⟨some 27, .indexAddr 35 (.tmp 25) (.tmp 26), 0, "l13_pend.go:43", #[⟨9, .data⟩, ⟨10, .data⟩, ⟨8, .guard⟩], some (8, true)⟩,
   ⟨some 28, .fieldAddr 101 (.tmp 27) 0, 0, "l13_pend.go:43", #[⟨11, .data⟩, ⟨8, .guard⟩], some (8, true)⟩,
   ⟨some 29, .load 27 (.tmp 28), 27, "l13_pend.go:43", #[⟨12, .data⟩, ⟨8, .guard⟩], some (8, true)⟩,
   ⟨some 30, .fieldAddr 33 (.tmp 5) 0, 0, "l13_pend.go:43", #[⟨8, .guard⟩], some (8, true)⟩,
   ⟨some 31, .load 27 (.tmp 30), 27, "l13_pend.go:43", #[⟨14, .data⟩, ⟨8, .guard⟩], some (8, true)⟩,
   ⟨some 32, .call ⟨.value (.func 83), #[.tmp 29, .tmp 31], #[27, 27]⟩, 4, "l13_pend.go:43", #[⟨13, .data⟩, ⟨15, .data⟩, ⟨8, .chain⟩, ⟨8, .guard⟩], some (8, true)⟩,
   ⟨some 33, .pick (.tmp 24) (.tmp 32) (.const (Value.bool false)), 4, "l13_pend.go:43", #[⟨8, .data⟩, ⟨16, .data⟩], none⟩] true).wp Try.prog Q ⟨#[.slice (some ⟨b, off, none⟩) n c, v1, v2, v3, v4, .pointer (some ⟨g, 0, none⟩), v6, .int .i64 k, .int .i64 j, v9, v10, v11, v12, v13, v14, v15, v16, v17, v18, v19, v20, v21, v22, v23, v24, v25, v26, v27, v28, v29, v30, v31, v32, v33, v34, v35, v36, v37, v38, v39, v40, v41, v42, v43, v44, v45, v46, v47, v48, v49, v50, v51, v52, v53, v54, v55, v56, v57, v58, v59, v60, v61, v62, v63, v64, v65, v66, v67, v68, v69, v70, v71], []⟩ w := by
 have HQ := Lib.hid hQ; clear hQ
 have hdr : Below w.heap.size w w.drew := (Below.refl _ _).drew
 have BB := Lib.hid hdr
 refine wp_region_noPanic ?_
 refine wp_region_held_drew (S := (fun w' => w'.cell? ⟨b, off + k * 3 + 1, none⟩ = some (.slice y1 m1 d1) ∧ w'.cell? ⟨b, off + k * 3, none⟩ = some (.slice y0 m0 d0) ∧ w'.cell? ⟨g, 0, none⟩ = some (.slice xn nn cn))) (by kernel_rfl) ?_ (fun hHeld => ?_)
 ·
  exact ⟨kc K1.out BB.out, kc K0.out BB.out, kc I0.out BB.out⟩
 clear hdr
 generalize w.drew = wd at *
 refine wpAnyH_take (i := 0) (oi := ⟨some 16, .move (.tmp 8), 3, "l13_pend.go:43", #[], none⟩) (v := ?_) rfl (by kernel_rfl) (by kernel_rfl) (by kernel_rfl) (fun _ _ _ h => h) (Or.inl ⟨by rfl, ?_⟩) (by assumption) ?_
 rotate_left
 ·
  intro w' hSw; (try dsimp only at hSw); first | (go_simp; done) | (go_simp; with_reducible rfl)
 (try simp only [Act.put, Row.pB0, Row.pB1, Row.pB2])
 refine wpAnyH_take (i := 1) (oi := ⟨some 17, .move (.tmp 0), 35, "l13_pend.go:43", #[], none⟩) (v := ?_) rfl (by kernel_rfl) (by kernel_rfl) (by kernel_rfl) (fun _ _ _ h => h) (Or.inl ⟨by rfl, ?_⟩) (by assumption) ?_
 rotate_left
 ·
  intro w' hSw; (try dsimp only at hSw); first | (go_simp; done) | (go_simp; with_reducible rfl)
 (try simp only [Act.put, Row.pB0, Row.pB1, Row.pB2])
 refine wpAnyH_take (i := 2) (oi := ⟨some 18, .move (.tmp 7), 3, "l13_pend.go:43", #[], none⟩) (v := ?_) rfl (by kernel_rfl) (by kernel_rfl) (by kernel_rfl) (fun _ _ _ h => h) (Or.inl ⟨by rfl, ?_⟩) (by assumption) ?_
 rotate_left
 ·
  intro w' hSw; (try dsimp only at hSw); first | (go_simp; done) | (go_simp; with_reducible rfl)
 (try simp only [Act.put, Row.pB0, Row.pB1, Row.pB2])
 refine wpAnyH_take (i := 3) (oi := ⟨some 19, .indexAddr 35 (.tmp 17) (.tmp 18), 0, "l13_pend.go:43", #[⟨1, .data⟩, ⟨2, .data⟩], none⟩) (v := ?_) rfl (by kernel_rfl) (by kernel_rfl) (by kernel_rfl) (fun _ _ _ h => h) (Or.inl ⟨by rfl, ?_⟩) (by assumption) ?_
 rotate_left
 ·
  intro w' hSw; (try dsimp only at hSw); first | (go_simp; done) | (go_simp; with_reducible rfl)
 (try simp only [Act.put, Row.pB0, Row.pB1, Row.pB2])
 refine wpAnyH_take (i := 4) (oi := ⟨some 20, .fieldAddr 101 (.tmp 19) 1, 0, "l13_pend.go:43", #[⟨3, .data⟩], none⟩) (v := ?_) rfl (by kernel_rfl) (by kernel_rfl) (by kernel_rfl) (fun _ _ _ h => h) (Or.inl ⟨by rfl, ?_⟩) (by assumption) ?_
 rotate_left
 ·
  intro w' hSw; (try dsimp only at hSw); first | (go_simp; done) | (go_simp; with_reducible rfl)
 (try simp only [Act.put, Row.pB0, Row.pB1, Row.pB2])
 refine wpAnyH_take (i := 5) (oi := ⟨some 21, .load 68 (.tmp 20), 68, "l13_pend.go:43", #[⟨4, .data⟩], none⟩) (v := ?_) rfl (by kernel_rfl) (by kernel_rfl) (by kernel_rfl) (fun _ _ _ h => h) (Or.inl ⟨by rfl, ?_⟩) (by assumption) ?_
 rotate_left
 ·
  intro w' hSw; (try dsimp only at hSw); first | (go_simp; done) | (go_simp; with_reducible rfl)
 (try simp only [Act.put, Row.pB0, Row.pB1, Row.pB2])
 refine wpAnyH_take (i := 6) (oi := ⟨some 22, .call ⟨.builtin .len, #[.tmp 21], #[68]⟩, 3, "l13_pend.go:43", #[⟨5, .data⟩], none⟩) (v := ?_) rfl (by kernel_rfl) (by kernel_rfl) (by kernel_rfl) (fun _ _ _ h => h) (Or.inl ⟨by rfl, ?_⟩) (by assumption) ?_
 rotate_left
 ·
  intro w' hSw; (try dsimp only at hSw); first | (go_simp; done) | (go_simp; with_reducible rfl)
 (try simp only [Act.put, Row.pB0, Row.pB1, Row.pB2])
 refine wpAnyH_take (i := 7) (oi := ⟨some 23, .binOp BinOp.lss 3 (.tmp 16) (.tmp 22) 3, 4, "l13_pend.go:43", #[⟨0, .data⟩, ⟨6, .data⟩], none⟩) (v := ?_) rfl (by kernel_rfl) (by kernel_rfl) (by kernel_rfl) (fun _ _ _ h => h) (Or.inl ⟨by rfl, ?_⟩) (by assumption) ?_
 rotate_left
 ·
  intro w' hSw; (try dsimp only at hSw); first | (go_simp; done) | (go_simp; with_reducible rfl)
 (try simp only [Act.put, Row.pB0, Row.pB1, Row.pB2])
 refine wpAnyH_take (i := 8) (oi := ⟨some 24, .move (.tmp 23), 4, "l13_pend.go:43", #[⟨7, .data⟩], none⟩) (v := ?_) rfl (by kernel_rfl) (by kernel_rfl) (by kernel_rfl) (fun _ _ _ h => h) (Or.inl ⟨by rfl, ?_⟩) (by assumption) ?_
 rotate_left
 ·
  intro w' hSw; (try dsimp only at hSw); first | (go_simp; done) | (go_simp; with_reducible rfl)
 (try simp only [Act.put, Row.pB0, Row.pB1, Row.pB2])
 refine wpAnyH_take (i := 9) (oi := ⟨some 25, .move (.tmp 0), 35, "l13_pend.go:43", #[⟨8, .guard⟩], some (8, true)⟩) (v := ?_) rfl (by kernel_rfl) (by kernel_rfl) (by kernel_rfl) (fun _ _ _ h => h) (Or.inl ⟨by rfl, ?_⟩) (by assumption) ?_
 rotate_left
 ·
  intro w' hSw; (try dsimp only at hSw); first | (go_simp; done) | (go_simp; with_reducible rfl)
 (try simp only [Act.put, Row.pB0, Row.pB1, Row.pB2])
 refine wpAnyH_take (i := 10) (oi := ⟨some 26, .move (.tmp 7), 3, "l13_pend.go:43", #[⟨8, .guard⟩], some (8, true)⟩) (v := ?_) rfl (by kernel_rfl) (by kernel_rfl) (by kernel_rfl) (fun _ _ _ h => h) (Or.inl ⟨by rfl, ?_⟩) (by assumption) ?_
 rotate_left
 ·
  intro w' hSw; (try dsimp only at hSw); first | (go_simp; done) | (go_simp; with_reducible rfl)
 (try simp only [Act.put, Row.pB0, Row.pB1, Row.pB2])
 refine wpAnyH_take (i := 11) (oi := ⟨some 27, .indexAddr 35 (.tmp 25) (.tmp 26), 0, "l13_pend.go:43", #[⟨9, .data⟩, ⟨10, .data⟩, ⟨8, .guard⟩], some (8, true)⟩) (v := ?_) rfl (by kernel_rfl) (by kernel_rfl) (by kernel_rfl) (fun _ _ _ h => h) (Or.inl ⟨by rfl, ?_⟩) (by assumption) ?_
 rotate_left
 ·
  intro w' hSw; (try dsimp only at hSw); first | (go_simp; done) | (go_simp; with_reducible rfl)
 (try simp only [Act.put, Row.pB0, Row.pB1, Row.pB2])
 refine wpAnyH_take (i := 12) (oi := ⟨some 28, .fieldAddr 101 (.tmp 27) 0, 0, "l13_pend.go:43", #[⟨11, .data⟩, ⟨8, .guard⟩], some (8, true)⟩) (v := ?_) rfl (by kernel_rfl) (by kernel_rfl) (by kernel_rfl) (fun _ _ _ h => h) (Or.inl ⟨by rfl, ?_⟩) (by assumption) ?_
 rotate_left
 ·
  intro w' hSw; (try dsimp only at hSw); first | (go_simp; done) | (go_simp; with_reducible rfl)
 (try simp only [Act.put, Row.pB0, Row.pB1, Row.pB2])
 refine wpAnyH_take (i := 13) (oi := ⟨some 29, .load 27 (.tmp 28), 27, "l13_pend.go:43", #[⟨12, .data⟩, ⟨8, .guard⟩], some (8, true)⟩) (v := ?_) rfl (by kernel_rfl) (by kernel_rfl) (by kernel_rfl) (fun _ _ _ h => h) (Or.inl ⟨by rfl, ?_⟩) (by assumption) ?_
 rotate_left
 ·
  intro w' hSw; (try dsimp only at hSw); first | (go_simp; done) | (go_simp; with_reducible rfl)
 (try simp only [Act.put, Row.pB0, Row.pB1, Row.pB2])
 refine wpAnyH_take (i := 14) (oi := ⟨some 30, .fieldAddr 33 (.tmp 5) 0, 0, "l13_pend.go:43", #[⟨8, .guard⟩], some (8, true)⟩) (v := ?_) rfl (by kernel_rfl) (by kernel_rfl) (by kernel_rfl) (fun _ _ _ h => h) (Or.inl ⟨by rfl, ?_⟩) (by assumption) ?_
 rotate_left
 ·
  intro w' hSw; (try dsimp only at hSw); first | (go_simp; done) | (go_simp; with_reducible rfl)
 (try simp only [Act.put, Row.pB0, Row.pB1, Row.pB2])
 refine wpAnyH_take (i := 15) (oi := ⟨some 31, .load 27 (.tmp 30), 27, "l13_pend.go:43", #[⟨14, .data⟩, ⟨8, .guard⟩], some (8, true)⟩) (v := ?_) rfl (by kernel_rfl) (by kernel_rfl) (by kernel_rfl) (fun _ _ _ h => h) (Or.inl ⟨by rfl, ?_⟩) (by assumption) ?_
 rotate_left
 ·
  intro w' hSw; (try dsimp only at hSw); first | (go_simp; done) | (go_simp; with_reducible rfl)
 (try simp only [Act.put, Row.pB0, Row.pB1, Row.pB2])
 refine wpAnyH_ready (rs := [16]) (by kernel_rfl) (by simp) ?_
 refine AllReadyH.cons (o := ⟨some 32, .call ⟨.value (.func 83), #[.tmp 29, .tmp 31], #[27, 27]⟩, 4, "l13_pend.go:43", #[⟨13, .data⟩, ⟨15, .data⟩, ⟨8, .chain⟩, ⟨8, .guard⟩], some (8, true)⟩) rfl (fun K hK => ?_) AllReadyH.nil
 go_simp
 refine (sEqK z HV.out (H_m.out.on BB.out) (H_n.out.on BB.out) (Nat.le_trans HMB.out (by decide)) (Nat.le_trans HNB.out (by decide))).mono ?_
 rintro e wn1 ⟨rfl, hb⟩
 replace BB := Lib.hid (BB.out.trans (hb.mono BB.out.size))
 clear hb
 (try go_wp2_with fail)
 clear hHeld
 refine hK.out _ _ ?_ (fun hHeld => ?_)
 ·
  (try dsimp only); exact ⟨kc K1.out BB.out, kc K0.out BB.out, kc I0.out BB.out⟩
 clear hK K
 (try simp only [Act.put, Row.pB0, Row.pB1, Row.pB2])
 refine wpAnyH_take (i := 17) (oi := ⟨some 33, .pick (.tmp 24) (.tmp 32) (.const (Value.bool false)), 4, "l13_pend.go:43", #[⟨8, .data⟩, ⟨16, .data⟩], none⟩) (v := ?_) rfl (by kernel_rfl) (by kernel_rfl) (by kernel_rfl) (fun _ _ _ h => h) (Or.inl ⟨by rfl, ?_⟩) (by assumption) ?_
 rotate_left
 ·
  intro w' hSw; (try dsimp only at hSw); first | (go_simp; done) | (go_simp; with_reducible rfl)
 (try simp only [Act.put, Row.pB0, Row.pB1, Row.pB2])
 refine wpAnyH_done (by kernel_rfl) ?_ _
 exact NoPanic.normal (HQ.out _ _ _ _ _ _ _ _ _ _ _ _ _ _ _ _ _  _  BB.out)
set_option maxRecDepth 100000 in
set_option maxHeartbeats 4000000 in
theorem ril7 {Q : Exit → Act → World → Prop} {v1 v2 v3 v4 v6 v9 v10 v11 v12 v13 v14 v15 v16 v17 v18 v19 v20 v21 v22 v23 v24 v25 v26 v27 v28 v29 v30 v31 v32 v33 v34 v35 v36 v37 v38 v39 v40 v41 v42 v43 v44 v45 v46 v47 v48 v49 v50 v51 v52 v53 v54 v55 v56 v57 v58 v59 v60 v61 v62 v63 v64 v65 v66 v67 v68 v69 v70 v71 : Value} {w : World} {b off n c g k j ba oa m1 d1 : Nat} {u kk : Int} (hk : k < n) (hj : j < m1) (K1 : Hid (w.cell? ⟨b, off + k * 3 + 1, none⟩ = some (.slice (some ⟨ba, oa, none⟩) m1 d1))) (A1 : Hid (w.cell? ⟨ba, oa + j * 3 + 1, none⟩ = some (.int .i64 u))) (I1 : Hid (w.cell? ⟨g, 1, none⟩ = some (.int .i64 kk)))
  (hQ : ∀ (u36 u37 u38 u39 u40 u41 u42 u43 u44 u45 u46 : Value)  (wx : World), Below w.heap.size w wx → Q .normal ⟨#[.slice (some ⟨b, off, none⟩) n c, v1, v2, v3, v4, .pointer (some ⟨g, 0, none⟩), v6, .int .i64 k, .int .i64 j, v9, v10, v11, v12, v13, v14, v15, v16, v17, v18, v19, v20, v21, v22, v23, v24, v25, v26, v27, v28, v29, v30, v31, v32, v33, v34, v35, u36, u37, u38, u39, u40, u41, u42, u43, u44, u45, u46, .bool (u == kk), v48, v49, v50, v51, v52, v53, v54, v55, v56, v57, v58, v59, v60, v61, v62, v63, v64, v65, v66, v67, v68, v69, v70, v71], []⟩ wx) :
  (Code.region 7 #[⟨some 36, .move (.tmp 0), 35, "l13_pend.go:44", #[], none⟩,
   ⟨some 37, .move (.tmp 7), 3, "l13_pend.go:44", #[], none⟩,
   ⟨some 38, .indexAddr 35 (.tmp 36) (.tmp 37), 0, "l13_pend.go:44", #[⟨0, .data⟩, ⟨1, .data⟩], none⟩,
   ⟨some 39, .fieldAddr 101 (.tmp 38) 1, 0, "l13_pend.go:44", #[⟨2, .data⟩], none⟩,
   ⟨some 40, .load 68 (.tmp 39), 68, "l13_pend.go:44", #[⟨3, .data⟩], none⟩,
   ⟨some 41, .move (.tmp 8), 3, "l13_pend.go:44", #[], none⟩,
   ⟨some 42, .indexAddr 68 (.tmp 40) (.tmp 41), 0, "l13_pend.go:44", #[⟨4, .data⟩, ⟨5, .data⟩], none⟩,
   ⟨some 43, .fieldAddr 91 (.tmp 42) 1, 0, "l13_pend.go:44", #[⟨6, .data⟩], none⟩,
   ⟨some 44, .load 3 (.tmp 43), 3, "l13_pend.go:44", #[⟨7, .data⟩], none⟩,
   ⟨some 45, .fieldAddr 33 (.tmp 5) 1, 0, "l13_pend.go:44", #[], none⟩,
   ⟨some 46, .load 3 (.tmp 45), 3, "l13_pend.go:44", #[⟨9, .data⟩], none⟩,
   ⟨some 47, .binOp BinOp.eql 3 (.tmp 44) (.tmp 46) 3, 4, "l13_pend.go:44", #[⟨8, .data⟩, ⟨10, .data⟩], none⟩] true).wp Try.prog Q ⟨#[.slice (some ⟨b, off, none⟩) n c, v1, v2, v3, v4, .pointer (some ⟨g, 0, none⟩), v6, .int .i64 k, .int .i64 j, v9, v10, v11, v12, v13, v14, v15, v16, v17, v18, v19, v20, v21, v22, v23, v24, v25, v26, v27, v28, v29, v30, v31, v32, v33, v34, v35, v36, v37, v38, v39, v40, v41, v42, v43, v44, v45, v46, v47, v48, v49, v50, v51, v52, v53, v54, v55, v56, v57, v58, v59, v60, v61, v62, v63, v64, v65, v66, v67, v68, v69, v70, v71], []⟩ w := by
 have HQ := Lib.hid hQ; clear hQ
 have hdr : Below w.heap.size w w.drew := (Below.refl _ _).drew
 have BB := Lib.hid hdr
 refine wp_region_noPanic ?_
 refine wp_region_held_drew (S := (fun w' => w'.cell? ⟨b, off + k * 3 + 1, none⟩ = some (.slice (some ⟨ba, oa, none⟩) m1 d1) ∧ w'.cell? ⟨ba, oa + j * 3 + 1, none⟩ = some (.int .i64 u) ∧ w'.cell? ⟨g, 1, none⟩ = some (.int .i64 kk))) (by kernel_rfl) ?_ (fun hHeld => ?_)
 ·
  exact ⟨kc K1.out BB.out, kc A1.out BB.out, kc I1.out BB.out⟩
 clear hdr
 generalize w.drew = wd at *
 refine wpAnyH_take (i := 0) (oi := ⟨some 36, .move (.tmp 0), 35, "l13_pend.go:44", #[], none⟩) (v := ?_) rfl (by kernel_rfl) (by kernel_rfl) (by kernel_rfl) (fun _ _ _ h => h) (Or.inl ⟨by rfl, ?_⟩) (by assumption) ?_
 rotate_left
 ·
  intro w' hSw; (try dsimp only at hSw); first | (go_simp; done) | (go_simp; with_reducible rfl)
 (try simp only [Act.put, Row.pB0, Row.pB1, Row.pB2])
 refine wpAnyH_take (i := 1) (oi := ⟨some 37, .move (.tmp 7), 3, "l13_pend.go:44", #[], none⟩) (v := ?_) rfl (by kernel_rfl) (by kernel_rfl) (by kernel_rfl) (fun _ _ _ h => h) (Or.inl ⟨by rfl, ?_⟩) (by assumption) ?_
 rotate_left
 ·
  intro w' hSw; (try dsimp only at hSw); first | (go_simp; done) | (go_simp; with_reducible rfl)
 (try simp only [Act.put, Row.pB0, Row.pB1, Row.pB2])
 refine wpAnyH_take (i := 2) (oi := ⟨some 38, .indexAddr 35 (.tmp 36) (.tmp 37), 0, "l13_pend.go:44", #[⟨0, .data⟩, ⟨1, .data⟩], none⟩) (v := ?_) rfl (by kernel_rfl) (by kernel_rfl) (by kernel_rfl) (fun _ _ _ h => h) (Or.inl ⟨by rfl, ?_⟩) (by assumption) ?_
 rotate_left
 ·
  intro w' hSw; (try dsimp only at hSw); first | (go_simp; done) | (go_simp; with_reducible rfl)
 (try simp only [Act.put, Row.pB0, Row.pB1, Row.pB2])
 refine wpAnyH_take (i := 3) (oi := ⟨some 39, .fieldAddr 101 (.tmp 38) 1, 0, "l13_pend.go:44", #[⟨2, .data⟩], none⟩) (v := ?_) rfl (by kernel_rfl) (by kernel_rfl) (by kernel_rfl) (fun _ _ _ h => h) (Or.inl ⟨by rfl, ?_⟩) (by assumption) ?_
 rotate_left
 ·
  intro w' hSw; (try dsimp only at hSw); first | (go_simp; done) | (go_simp; with_reducible rfl)
 (try simp only [Act.put, Row.pB0, Row.pB1, Row.pB2])
 refine wpAnyH_take (i := 4) (oi := ⟨some 40, .load 68 (.tmp 39), 68, "l13_pend.go:44", #[⟨3, .data⟩], none⟩) (v := ?_) rfl (by kernel_rfl) (by kernel_rfl) (by kernel_rfl) (fun _ _ _ h => h) (Or.inl ⟨by rfl, ?_⟩) (by assumption) ?_
 rotate_left
 ·
  intro w' hSw; (try dsimp only at hSw); first | (go_simp; done) | (go_simp; with_reducible rfl)
 (try simp only [Act.put, Row.pB0, Row.pB1, Row.pB2])
 refine wpAnyH_take (i := 5) (oi := ⟨some 41, .move (.tmp 8), 3, "l13_pend.go:44", #[], none⟩) (v := ?_) rfl (by kernel_rfl) (by kernel_rfl) (by kernel_rfl) (fun _ _ _ h => h) (Or.inl ⟨by rfl, ?_⟩) (by assumption) ?_
 rotate_left
 ·
  intro w' hSw; (try dsimp only at hSw); first | (go_simp; done) | (go_simp; with_reducible rfl)
 (try simp only [Act.put, Row.pB0, Row.pB1, Row.pB2])
 refine wpAnyH_take (i := 6) (oi := ⟨some 42, .indexAddr 68 (.tmp 40) (.tmp 41), 0, "l13_pend.go:44", #[⟨4, .data⟩, ⟨5, .data⟩], none⟩) (v := ?_) rfl (by kernel_rfl) (by kernel_rfl) (by kernel_rfl) (fun _ _ _ h => h) (Or.inl ⟨by rfl, ?_⟩) (by assumption) ?_
 rotate_left
 ·
  intro w' hSw; (try dsimp only at hSw); first | (go_simp; done) | (go_simp; with_reducible rfl)
 (try simp only [Act.put, Row.pB0, Row.pB1, Row.pB2])
 refine wpAnyH_take (i := 7) (oi := ⟨some 43, .fieldAddr 91 (.tmp 42) 1, 0, "l13_pend.go:44", #[⟨6, .data⟩], none⟩) (v := ?_) rfl (by kernel_rfl) (by kernel_rfl) (by kernel_rfl) (fun _ _ _ h => h) (Or.inl ⟨by rfl, ?_⟩) (by assumption) ?_
 rotate_left
 ·
  intro w' hSw; (try dsimp only at hSw); first | (go_simp; done) | (go_simp; with_reducible rfl)
 (try simp only [Act.put, Row.pB0, Row.pB1, Row.pB2])
 refine wpAnyH_take (i := 8) (oi := ⟨some 44, .load 3 (.tmp 43), 3, "l13_pend.go:44", #[⟨7, .data⟩], none⟩) (v := ?_) rfl (by kernel_rfl) (by kernel_rfl) (by kernel_rfl) (fun _ _ _ h => h) (Or.inl ⟨by rfl, ?_⟩) (by assumption) ?_
 rotate_left
 ·
  intro w' hSw; (try dsimp only at hSw); first | (go_simp; done) | (go_simp; with_reducible rfl)
 (try simp only [Act.put, Row.pB0, Row.pB1, Row.pB2])
 refine wpAnyH_take (i := 9) (oi := ⟨some 45, .fieldAddr 33 (.tmp 5) 1, 0, "l13_pend.go:44", #[], none⟩) (v := ?_) rfl (by kernel_rfl) (by kernel_rfl) (by kernel_rfl) (fun _ _ _ h => h) (Or.inl ⟨by rfl, ?_⟩) (by assumption) ?_
 rotate_left
 ·
  intro w' hSw; (try dsimp only at hSw); first | (go_simp; done) | (go_simp; with_reducible rfl)
 (try simp only [Act.put, Row.pB0, Row.pB1, Row.pB2])
 refine wpAnyH_take (i := 10) (oi := ⟨some 46, .load 3 (.tmp 45), 3, "l13_pend.go:44", #[⟨9, .data⟩], none⟩) (v := ?_) rfl (by kernel_rfl) (by kernel_rfl) (by kernel_rfl) (fun _ _ _ h => h) (Or.inl ⟨by rfl, ?_⟩) (by assumption) ?_
 rotate_left
 ·
  intro w' hSw; (try dsimp only at hSw); first | (go_simp; done) | (go_simp; with_reducible rfl)
 (try simp only [Act.put, Row.pB0, Row.pB1, Row.pB2])
 refine wpAnyH_take (i := 11) (oi := ⟨some 47, .binOp BinOp.eql 3 (.tmp 44) (.tmp 46) 3, 4, "l13_pend.go:44", #[⟨8, .data⟩, ⟨10, .data⟩], none⟩) (v := ?_) rfl (by kernel_rfl) (by kernel_rfl) (by kernel_rfl) (fun _ _ _ h => h) (Or.inl ⟨by rfl, ?_⟩) (by assumption) ?_
 rotate_left
 ·
  intro w' hSw; (try dsimp only at hSw); first | (go_simp; done) | (go_simp; with_reducible rfl)
 (try simp only [Act.put, Row.pB0, Row.pB1, Row.pB2])
 refine wpAnyH_done (by kernel_rfl) ?_ _
 exact NoPanic.normal (HQ.out _ _ _ _ _ _ _ _ _ _ _  _  BB.out)
set_option maxRecDepth 100000 in
set_option maxHeartbeats 4000000 in
theorem ris0 {Q : Exit → Act → World → Prop} {v0 v2 v3 v4 v6 v7 v8 v10 v11 v12 v13 v14 v15 v16 v17 v18 v19 v20 v21 v22 v23 v24 v25 v26 v27 v28 v29 v30 v31 v32 v33 v34 v35 v36 v37 v38 v39 v40 v41 v42 v43 v44 v45 v46 v47 v48 v49 v50 v51 v52 v53 v54 v55 v56 v57 v58 v59 v60 v61 v62 v63 v64 v65 v66 v67 v68 v69 v70 v71 : Value} {w : World} {b off n c g k : Nat}    {u kk : Int} (hk : k < n) (hv : (u == kk) = false) (K1 : Hid (w.cell? ⟨b, off + k * 2 + 1, none⟩ = some (.int .i64 u))) (I1 : Hid (w.cell? ⟨g, 1, none⟩ = some (.int .i64 kk)))
  (hQ : ∀ (u54 u55 u56 u57 u58 u59 u60 u61 u62 u63 u64 u65 u66 u67 u68 u69 u70 : Value)  (wx : World), Below w.heap.size w wx → Q .normal ⟨#[v0, .slice (some ⟨b, off, none⟩) n c, v2, v3, v4, .pointer (some ⟨g, 0, none⟩), v6, v7, v8, .int .i64 k, v10, v11, v12, v13, v14, v15, v16, v17, v18, v19, v20, v21, v22, v23, v24, v25, v26, v27, v28, v29, v30, v31, v32, v33, v34, v35, v36, v37, v38, v39, v40, v41, v42, v43, v44, v45, v46, v47, v48, v49, v50, v51, v52, v53, u54, u55, u56, u57, u58, u59, u60, u61, u62, u63, u64, u65, u66, u67, u68, u69, u70, .bool false], []⟩ wx) :
  (Code.region 12 #[⟨some 54, .move (.tmp 1), 24, "l13_pend.go:50", #[], none⟩,
   ⟨some 55, .move (.tmp 9), 3, "l13_pend.go:50", #[], none⟩,
   ⟨some 56, .indexAddr 24 (.tmp 54) (.tmp 55), 0, "l13_pend.go:50", #[⟨0, .data⟩, ⟨1, .data⟩], none⟩,
   ⟨some 57, .fieldAddr 38 (.tmp 56) 1, 0, "l13_pend.go:50", #[⟨2, .data⟩], none⟩,
   ⟨some 58, .load 3 (.tmp 57), 3, "l13_pend.go:50", #[⟨3, .data⟩], none⟩,
   ⟨some 59, .fieldAddr 33 (.tmp 5) 1, 0, "l13_pend.go:50", #[], none⟩,
   ⟨some 60, .load 3 (.tmp 59), 3, "l13_pend.go:50", #[⟨5, .data⟩], none⟩,
   ⟨some 61, .binOp BinOp.eql 3 (.tmp 58) (.tmp 60) 3, 4, "l13_pend.go:50", #[⟨4, .data⟩, ⟨6, .data⟩], none⟩,
   ⟨some 62, .move (.tmp 61), 4, "l13_pend.go:50", #[⟨7, .data⟩], none⟩,
   ⟨some 63, .move (.tmp 1), 24, "l13_pend.go:50", #[⟨8, .guard⟩], some (8, true)⟩,
   ⟨some 64, .move (.tmp 9), 3, "l13_pend.go:50", #[⟨8, .guard⟩], some (8, true)⟩,
   ⟨some 65, .indexAddr 24 (.tmp 63) (.tmp 64), 0, "l13_pend.go:50", #[⟨9, .data⟩, ⟨10, .data⟩, ⟨8, .guard⟩], some (8, true)⟩,
   ⟨some 66, .fieldAddr 38 (.tmp 65) 0, 0, "l13_pend.go:50", #[⟨11, .data⟩, ⟨8, .guard⟩], some (8, true)⟩,
   ⟨some 67, .load 27 (.tmp 66), 27, "l13_pend.go:50", #[⟨12, .data⟩, ⟨8, .guard⟩], some (8, true)⟩,
   ⟨some 68, .fieldAddr 33 (.tmp 5) 0, 0, "l13_pend.go:50", #[⟨8, .guard⟩], some (8, true)⟩,
   ⟨some 69, .load 27 (.tmp 68), 27, "l13_pend.go:50", #[⟨14, .data⟩, ⟨8, .guard⟩], some (8, true)⟩,
   ⟨some 70, .call ⟨.value (.func 83), #[.tmp 67, .tmp 69], #[27, 27]⟩, 4, "l13_pend.go:50", #[⟨13, .data⟩, ⟨15, .data⟩, ⟨8, .chain⟩, ⟨8, .guard⟩], some (8, true)⟩,
   ⟨some 71, .pick (.tmp 62) (.tmp 70) (.const (Value.bool false)), 4, "l13_pend.go:50", #[⟨8, .data⟩, ⟨16, .data⟩], none⟩] true).wp Try.prog Q ⟨#[v0, .slice (some ⟨b, off, none⟩) n c, v2, v3, v4, .pointer (some ⟨g, 0, none⟩), v6, v7, v8, .int .i64 k, v10, v11, v12, v13, v14, v15, v16, v17, v18, v19, v20, v21, v22, v23, v24, v25, v26, v27, v28, v29, v30, v31, v32, v33, v34, v35, v36, v37, v38, v39, v40, v41, v42, v43, v44, v45, v46, v47, v48, v49, v50, v51, v52, v53, v54, v55, v56, v57, v58, v59, v60, v61, v62, v63, v64, v65, v66, v67, v68, v69, v70, v71], []⟩ w := by
 have HQ := Lib.hid hQ; clear hQ
 have hdr : Below w.heap.size w w.drew := (Below.refl _ _).drew
 have BB := Lib.hid hdr
 refine wp_region_noPanic ?_
 refine wp_region_held_drew (S := (fun w' => w'.cell? ⟨b, off + k * 2 + 1, none⟩ = some (.int .i64 u) ∧ w'.cell? ⟨g, 1, none⟩ = some (.int .i64 kk))) (by kernel_rfl) ?_ (fun hHeld => ?_)
 ·
  exact ⟨kc K1.out BB.out, kc I1.out BB.out⟩
 clear hdr
 generalize w.drew = wd at *
 refine wpAnyH_take (i := 0) (oi := ⟨some 54, .move (.tmp 1), 24, "l13_pend.go:50", #[], none⟩) (v := ?_) rfl (by kernel_rfl) (by kernel_rfl) (by kernel_rfl) (fun _ _ _ h => h) (Or.inl ⟨by rfl, ?_⟩) (by assumption) ?_
 rotate_left
 ·
  intro w' hSw; (try dsimp only at hSw); first | (go_simp; done) | (go_simp; with_reducible rfl)
 (try simp only [Act.put, Row.pB0, Row.pB1, Row.pB2])
 refine wpAnyH_take (i := 1) (oi := ⟨some 55, .move (.tmp 9), 3, "l13_pend.go:50", #[], none⟩) (v := ?_) rfl (by kernel_rfl) (by kernel_rfl) (by kernel_rfl) (fun _ _ _ h => h) (Or.inl ⟨by rfl, ?_⟩) (by assumption) ?_
 rotate_left
 ·
  intro w' hSw; (try dsimp only at hSw); first | (go_simp; done) | (go_simp; with_reducible rfl)
 (try simp only [Act.put, Row.pB0, Row.pB1, Row.pB2])
 refine wpAnyH_take (i := 2) (oi := ⟨some 56, .indexAddr 24 (.tmp 54) (.tmp 55), 0, "l13_pend.go:50", #[⟨0, .data⟩, ⟨1, .data⟩], none⟩) (v := ?_) rfl (by kernel_rfl) (by kernel_rfl) (by kernel_rfl) (fun _ _ _ h => h) (Or.inl ⟨by rfl, ?_⟩) (by assumption) ?_
 rotate_left
 ·
  intro w' hSw; (try dsimp only at hSw); first | (go_simp; done) | (go_simp; with_reducible rfl)
 (try simp only [Act.put, Row.pB0, Row.pB1, Row.pB2])
 refine wpAnyH_take (i := 3) (oi := ⟨some 57, .fieldAddr 38 (.tmp 56) 1, 0, "l13_pend.go:50", #[⟨2, .data⟩], none⟩) (v := ?_) rfl (by kernel_rfl) (by kernel_rfl) (by kernel_rfl) (fun _ _ _ h => h) (Or.inl ⟨by rfl, ?_⟩) (by assumption) ?_
 rotate_left
 ·
  intro w' hSw; (try dsimp only at hSw); first | (go_simp; done) | (go_simp; with_reducible rfl)
 (try simp only [Act.put, Row.pB0, Row.pB1, Row.pB2])
 refine wpAnyH_take (i := 4) (oi := ⟨some 58, .load 3 (.tmp 57), 3, "l13_pend.go:50", #[⟨3, .data⟩], none⟩) (v := ?_) rfl (by kernel_rfl) (by kernel_rfl) (by kernel_rfl) (fun _ _ _ h => h) (Or.inl ⟨by rfl, ?_⟩) (by assumption) ?_
 rotate_left
 ·
  intro w' hSw; (try dsimp only at hSw); first | (go_simp; done) | (go_simp; with_reducible rfl)
 (try simp only [Act.put, Row.pB0, Row.pB1, Row.pB2])
 refine wpAnyH_take (i := 5) (oi := ⟨some 59, .fieldAddr 33 (.tmp 5) 1, 0, "l13_pend.go:50", #[], none⟩) (v := ?_) rfl (by kernel_rfl) (by kernel_rfl) (by kernel_rfl) (fun _ _ _ h => h) (Or.inl ⟨by rfl, ?_⟩) (by assumption) ?_
 rotate_left
 ·
  intro w' hSw; (try dsimp only at hSw); first | (go_simp; done) | (go_simp; with_reducible rfl)
 (try simp only [Act.put, Row.pB0, Row.pB1, Row.pB2])
 refine wpAnyH_take (i := 6) (oi := ⟨some 60, .load 3 (.tmp 59), 3, "l13_pend.go:50", #[⟨5, .data⟩], none⟩) (v := ?_) rfl (by kernel_rfl) (by kernel_rfl) (by kernel_rfl) (fun _ _ _ h => h) (Or.inl ⟨by rfl, ?_⟩) (by assumption) ?_
 rotate_left
 ·
  intro w' hSw; (try dsimp only at hSw); first | (go_simp; done) | (go_simp; with_reducible rfl)
 (try simp only [Act.put, Row.pB0, Row.pB1, Row.pB2])
 refine wpAnyH_take (i := 7) (oi := ⟨some 61, .binOp BinOp.eql 3 (.tmp 58) (.tmp 60) 3, 4, "l13_pend.go:50", #[⟨4, .data⟩, ⟨6, .data⟩], none⟩) (v := ?_) rfl (by kernel_rfl) (by kernel_rfl) (by kernel_rfl) (fun _ _ _ h => h) (Or.inl ⟨by rfl, ?_⟩) (by assumption) ?_
 rotate_left
 ·
  intro w' hSw; (try dsimp only at hSw); first | (go_simp; done) | (go_simp; with_reducible rfl)
 (try simp only [Act.put, Row.pB0, Row.pB1, Row.pB2])
 refine wpAnyH_take (i := 8) (oi := ⟨some 62, .move (.tmp 61), 4, "l13_pend.go:50", #[⟨7, .data⟩], none⟩) (v := ?_) rfl (by kernel_rfl) (by kernel_rfl) (by kernel_rfl) (fun _ _ _ h => h) (Or.inl ⟨by rfl, ?_⟩) (by assumption) ?_
 rotate_left
 ·
  intro w' hSw; (try dsimp only at hSw); first | (go_simp; done) | (go_simp; with_reducible rfl)
 (try simp only [Act.put, Row.pB0, Row.pB1, Row.pB2])
 refine wpAnyH_take (i := 9) (oi := ⟨some 63, .move (.tmp 1), 24, "l13_pend.go:50", #[⟨8, .guard⟩], some (8, true)⟩) (v := undef) rfl (by kernel_rfl) (by kernel_rfl) (by kernel_rfl) (fun _ _ _ h => h) (Or.inr ⟨by rfl, rfl⟩) (by assumption) ?_
 (try simp only [Act.put, Row.pB0, Row.pB1, Row.pB2])
 refine wpAnyH_take (i := 10) (oi := ⟨some 64, .move (.tmp 9), 3, "l13_pend.go:50", #[⟨8, .guard⟩], some (8, true)⟩) (v := undef) rfl (by kernel_rfl) (by kernel_rfl) (by kernel_rfl) (fun _ _ _ h => h) (Or.inr ⟨by rfl, rfl⟩) (by assumption) ?_
 (try simp only [Act.put, Row.pB0, Row.pB1, Row.pB2])
 refine wpAnyH_take (i := 11) (oi := ⟨some 65, .indexAddr 24 (.tmp 63) (.tmp 64), 0, "l13_pend.go:50", #[⟨9, .data⟩, ⟨10, .data⟩, ⟨8, .guard⟩], some (8, true)⟩) (v := undef) rfl (by kernel_rfl) (by kernel_rfl) (by kernel_rfl) (fun _ _ _ h => h) (Or.inr ⟨by rfl, rfl⟩) (by assumption) ?_
 (try simp only [Act.put, Row.pB0, Row.pB1, Row.pB2])
 refine wpAnyH_take (i := 12) (oi := ⟨some 66, .fieldAddr 38 (.tmp 65) 0, 0, "l13_pend.go:50", #[⟨11, .data⟩, ⟨8, .guard⟩], some (8, true)⟩) (v := undef) rfl (by kernel_rfl) (by kernel_rfl) (by kernel_rfl) (fun _ _ _ h => h) (Or.inr ⟨by rfl, rfl⟩) (by assumption) ?_
 (try simp only [Act.put, Row.pB0, Row.pB1, Row.pB2])
 refine wpAnyH_take (i := 13) (oi := ⟨some 67, .load 27 (.tmp 66), 27, "l13_pend.go:50", #[⟨12, .data⟩, ⟨8, .guard⟩], some (8, true)⟩) (v := undef) rfl (by kernel_rfl) (by kernel_rfl) (by kernel_rfl) (fun _ _ _ h => h) (Or.inr ⟨by rfl, rfl⟩) (by assumption) ?_
 (try simp only [Act.put, Row.pB0, Row.pB1, Row.pB2])
 refine wpAnyH_take (i := 14) (oi := ⟨some 68, .fieldAddr 33 (.tmp 5) 0, 0, "l13_pend.go:50", #[⟨8, .guard⟩], some (8, true)⟩) (v := undef) rfl (by kernel_rfl) (by kernel_rfl) (by kernel_rfl) (fun _ _ _ h => h) (Or.inr ⟨by rfl, rfl⟩) (by assumption) ?_
 (try simp only [Act.put, Row.pB0, Row.pB1, Row.pB2])
 refine wpAnyH_take (i := 15) (oi := ⟨some 69, .load 27 (.tmp 68), 27, "l13_pend.go:50", #[⟨14, .data⟩, ⟨8, .guard⟩], some (8, true)⟩) (v := undef) rfl (by kernel_rfl) (by kernel_rfl) (by kernel_rfl) (fun _ _ _ h => h) (Or.inr ⟨by rfl, rfl⟩) (by assumption) ?_
 (try simp only [Act.put, Row.pB0, Row.pB1, Row.pB2])
 refine wpAnyH_take (i := 16) (oi := ⟨some 70, .call ⟨.value (.func 83), #[.tmp 67, .tmp 69], #[27, 27]⟩, 4, "l13_pend.go:50", #[⟨13, .data⟩, ⟨15, .data⟩, ⟨8, .chain⟩, ⟨8, .guard⟩], some (8, true)⟩) (v := undef) rfl (by kernel_rfl) (by kernel_rfl) (by kernel_rfl) (fun _ _ _ h => h) (Or.inr ⟨by rfl, rfl⟩) (by assumption) ?_
 (try simp only [Act.put, Row.pB0, Row.pB1, Row.pB2])
 refine wpAnyH_take (i := 17) (oi := ⟨some 71, .pick (.tmp 62) (.tmp 70) (.const (Value.bool false)), 4, "l13_pend.go:50", #[⟨8, .data⟩, ⟨16, .data⟩], none⟩) (v := ?_) rfl (by kernel_rfl) (by kernel_rfl) (by kernel_rfl) (fun _ _ _ h => h) (Or.inl ⟨by rfl, ?_⟩) (by assumption) ?_
 rotate_left
 ·
  intro w' hSw; (try dsimp only at hSw); first | (go_simp; done) | (go_simp; with_reducible rfl)
 (try simp only [Act.put, Row.pB0, Row.pB1, Row.pB2])
 refine wpAnyH_done (by kernel_rfl) ?_ _
 exact NoPanic.normal (HQ.out _ _ _ _ _ _ _ _ _ _ _ _ _ _ _ _ _  _  BB.out)
set_option maxRecDepth 100000 in
set_option maxHeartbeats 4000000 in
theorem ris1 {Q : Exit → Act → World → Prop} {v0 v2 v3 v4 v6 v7 v8 v10 v11 v12 v13 v14 v15 v16 v17 v18 v19 v20 v21 v22 v23 v24 v25 v26 v27 v28 v29 v30 v31 v32 v33 v34 v35 v36 v37 v38 v39 v40 v41 v42 v43 v44 v45 v46 v47 v48 v49 v50 v51 v52 v53 v54 v55 v56 v57 v58 v59 v60 v61 v62 v63 v64 v65 v66 v67 v68 v69 v70 v71 : Value} {w : World} {b off n c g k m0 d0 nn cn : Nat} {y0 xn : Option Addr} {nm nx : List ByteArray} {z : Bool} {u kk : Int} (hk : k < n) (hv : (u == kk) = true) (HV : Hid (decide (nm = nx) = z)) (H_m : Hid (kN.At w (.agg #[.slice y0 m0 d0]) nm)) (H_n : Hid (kN.At w (.agg #[.slice xn nn cn]) nx)) (HMB : Hid (bulk nm ≤ 1200000)) (HNB : Hid (bulk nx ≤ 1200000)) (K1 : Hid (w.cell? ⟨b, off + k * 2 + 1, none⟩ = some (.int .i64 u))) (I1 : Hid (w.cell? ⟨g, 1, none⟩ = some (.int .i64 kk))) (K0 : Hid (w.cell? ⟨b, off + k * 2, none⟩ = some (.slice y0 m0 d0))) (I0 : Hid (w.cell? ⟨g, 0, none⟩ = some (.slice xn nn cn)))
  (hQ : ∀ (u54 u55 u56 u57 u58 u59 u60 u61 u62 u63 u64 u65 u66 u67 u68 u69 u70 : Value)  (wx : World), Below w.heap.size w wx → Q .normal ⟨#[v0, .slice (some ⟨b, off, none⟩) n c, v2, v3, v4, .pointer (some ⟨g, 0, none⟩), v6, v7, v8, .int .i64 k, v10, v11, v12, v13, v14, v15, v16, v17, v18, v19, v20, v21, v22, v23, v24, v25, v26, v27, v28, v29, v30, v31, v32, v33, v34, v35, v36, v37, v38, v39, v40, v41, v42, v43, v44, v45, v46, v47, v48, v49, v50, v51, v52, v53, u54, u55, u56, u57, u58, u59, u60, u61, u62, u63, u64, u65, u66, u67, u68, u69, u70, .bool z], []⟩ wx) :
  (Code.region 12 #[⟨some 54, .move (.tmp 1), 24, "l13_pend.go:50", #[], none⟩,
   ⟨some 55, .move (.tmp 9), 3, "l13_pend.go:50", #[], none⟩,
   ⟨some 56, .indexAddr 24 (.tmp 54) (.tmp 55), 0, "l13_pend.go:50", #[⟨0, .data⟩, ⟨1, .data⟩], none⟩,
   ⟨some 57, .fieldAddr 38 (.tmp 56) 1, 0, "l13_pend.go:50", #[⟨2, .data⟩], none⟩,
   ⟨some 58, .load 3 (.tmp 57), 3, "l13_pend.go:50", #[⟨3, .data⟩], none⟩,
   ⟨some 59, .fieldAddr 33 (.tmp 5) 1, 0, "l13_pend.go:50", #[], none⟩,
   ⟨some 60, .load 3 (.tmp 59), 3, "l13_pend.go:50", #[⟨5, .data⟩], none⟩,
   ⟨some 61, .binOp BinOp.eql 3 (.tmp 58) (.tmp 60) 3, 4, "l13_pend.go:50", #[⟨4, .data⟩, ⟨6, .data⟩], none⟩,
   ⟨some 62, .move (.tmp 61), 4, "l13_pend.go:50", #[⟨7, .data⟩], none⟩,
   ⟨some 63, .move (.tmp 1), 24, "l13_pend.go:50", #[⟨8, .guard⟩], some (8, true)⟩,
   ⟨some 64, .move (.tmp 9), 3, "l13_pend.go:50", #[⟨8, .guard⟩], some (8, true)⟩,
   ⟨some 65, .indexAddr 24 (.tmp 63) (.tmp 64), 0, "l13_pend.go:50", #[⟨9, .data⟩, ⟨10, .data⟩, ⟨8, .guard⟩], some (8, true)⟩,
   ⟨some 66, .fieldAddr 38 (.tmp 65) 0, 0, "l13_pend.go:50", #[⟨11, .data⟩, ⟨8, .guard⟩], some (8, true)⟩,
   ⟨some 67, .load 27 (.tmp 66), 27, "l13_pend.go:50", #[⟨12, .data⟩, ⟨8, .guard⟩], some (8, true)⟩,
   ⟨some 68, .fieldAddr 33 (.tmp 5) 0, 0, "l13_pend.go:50", #[⟨8, .guard⟩], some (8, true)⟩,
   ⟨some 69, .load 27 (.tmp 68), 27, "l13_pend.go:50", #[⟨14, .data⟩, ⟨8, .guard⟩], some (8, true)⟩,
   ⟨some 70, .call ⟨.value (.func 83), #[.tmp 67, .tmp 69], #[27, 27]⟩, 4, "l13_pend.go:50", #[⟨13, .data⟩, ⟨15, .data⟩, ⟨8, .chain⟩, ⟨8, .guard⟩], some (8, true)⟩,
   ⟨some 71, .pick (.tmp 62) (.tmp 70) (.const (Value.bool false)), 4, "l13_pend.go:50", #[⟨8, .data⟩, ⟨16, .data⟩], none⟩] true).wp Try.prog Q ⟨#[v0, .slice (some ⟨b, off, none⟩) n c, v2, v3, v4, .pointer (some ⟨g, 0, none⟩), v6, v7, v8, .int .i64 k, v10, v11, v12, v13, v14, v15, v16, v17, v18, v19, v20, v21, v22, v23, v24, v25, v26, v27, v28, v29, v30, v31, v32, v33, v34, v35, v36, v37, v38, v39, v40, v41, v42, v43, v44, v45, v46, v47, v48, v49, v50, v51, v52, v53, v54, v55, v56, v57, v58, v59, v60, v61, v62, v63, v64, v65, v66, v67, v68, v69, v70, v71], []⟩ w := by
 have HQ := Lib.hid hQ; clear hQ
 have hdr : Below w.heap.size w w.drew := (Below.refl _ _).drew
 have BB := Lib.hid hdr
 refine wp_region_noPanic ?_
 refine wp_region_held_drew (S := (fun w' => w'.cell? ⟨b, off + k * 2 + 1, none⟩ = some (.int .i64 u) ∧ w'.cell? ⟨g, 1, none⟩ = some (.int .i64 kk) ∧ w'.cell? ⟨b, off + k * 2, none⟩ = some (.slice y0 m0 d0) ∧ w'.cell? ⟨g, 0, none⟩ = some (.slice xn nn cn))) (by kernel_rfl) ?_ (fun hHeld => ?_)
 ·
  exact ⟨kc K1.out BB.out, kc I1.out BB.out, kc K0.out BB.out, kc I0.out BB.out⟩
 clear hdr
 generalize w.drew = wd at *
 refine wpAnyH_take (i := 0) (oi := ⟨some 54, .move (.tmp 1), 24, "l13_pend.go:50", #[], none⟩) (v := ?_) rfl (by kernel_rfl) (by kernel_rfl) (by kernel_rfl) (fun _ _ _ h => h) (Or.inl ⟨by rfl, ?_⟩) (by assumption) ?_
 rotate_left
 ·
  intro w' hSw; (try dsimp only at hSw); first | (go_simp; done) | (go_simp; with_reducible rfl)
 (try simp only [Act.put, Row.pB0, Row.pB1, Row.pB2])
 refine wpAnyH_take (i := 1) (oi := ⟨some 55, .move (.tmp 9), 3, "l13_pend.go:50", #[], none⟩) (v := ?_) rfl (by kernel_rfl) (by kernel_rfl) (by kernel_rfl) (fun _ _ _ h => h) (Or.inl ⟨by rfl, ?_⟩) (by assumption) ?_
 rotate_left
 ·
  intro w' hSw; (try dsimp only at hSw); first | (go_simp; done) | (go_simp; with_reducible rfl)
 (try simp only [Act.put, Row.pB0, Row.pB1, Row.pB2])
 refine wpAnyH_take (i := 2) (oi := ⟨some 56, .indexAddr 24 (.tmp 54) (.tmp 55), 0, "l13_pend.go:50", #[⟨0, .data⟩, ⟨1, .data⟩], none⟩) (v := ?_) rfl (by kernel_rfl) (by kernel_rfl) (by kernel_rfl) (fun _ _ _ h => h) (Or.inl ⟨by rfl, ?_⟩) (by assumption) ?_
 rotate_left
 ·
  intro w' hSw; (try dsimp only at hSw); first | (go_simp; done) | (go_simp; with_reducible rfl)
 (try simp only [Act.put, Row.pB0, Row.pB1, Row.pB2])
 refine wpAnyH_take (i := 3) (oi := ⟨some 57, .fieldAddr 38 (.tmp 56) 1, 0, "l13_pend.go:50", #[⟨2, .data⟩], none⟩) (v := ?_) rfl (by kernel_rfl) (by kernel_rfl) (by kernel_rfl) (fun _ _ _ h => h) (Or.inl ⟨by rfl, ?_⟩) (by assumption) ?_
 rotate_left
 ·
  intro w' hSw; (try dsimp only at hSw); first | (go_simp; done) | (go_simp; with_reducible rfl)
 (try simp only [Act.put, Row.pB0, Row.pB1, Row.pB2])
 refine wpAnyH_take (i := 4) (oi := ⟨some 58, .load 3 (.tmp 57), 3, "l13_pend.go:50", #[⟨3, .data⟩], none⟩) (v := ?_) rfl (by kernel_rfl) (by kernel_rfl) (by kernel_rfl) (fun _ _ _ h => h) (Or.inl ⟨by rfl, ?_⟩) (by assumption) ?_
 rotate_left
 ·
  intro w' hSw; (try dsimp only at hSw); first | (go_simp; done) | (go_simp; with_reducible rfl)
 (try simp only [Act.put, Row.pB0, Row.pB1, Row.pB2])
 refine wpAnyH_take (i := 5) (oi := ⟨some 59, .fieldAddr 33 (.tmp 5) 1, 0, "l13_pend.go:50", #[], none⟩) (v := ?_) rfl (by kernel_rfl) (by kernel_rfl) (by kernel_rfl) (fun _ _ _ h => h) (Or.inl ⟨by rfl, ?_⟩) (by assumption) ?_
 rotate_left
 ·
  intro w' hSw; (try dsimp only at hSw); first | (go_simp; done) | (go_simp; with_reducible rfl)
 (try simp only [Act.put, Row.pB0, Row.pB1, Row.pB2])
 refine wpAnyH_take (i := 6) (oi := ⟨some 60, .load 3 (.tmp 59), 3, "l13_pend.go:50", #[⟨5, .data⟩], none⟩) (v := ?_) rfl (by kernel_rfl) (by kernel_rfl) (by kernel_rfl) (fun _ _ _ h => h) (Or.inl ⟨by rfl, ?_⟩) (by assumption) ?_
 rotate_left
 ·
  intro w' hSw; (try dsimp only at hSw); first | (go_simp; done) | (go_simp; with_reducible rfl)
 (try simp only [Act.put, Row.pB0, Row.pB1, Row.pB2])
 refine wpAnyH_take (i := 7) (oi := ⟨some 61, .binOp BinOp.eql 3 (.tmp 58) (.tmp 60) 3, 4, "l13_pend.go:50", #[⟨4, .data⟩, ⟨6, .data⟩], none⟩) (v := ?_) rfl (by kernel_rfl) (by kernel_rfl) (by kernel_rfl) (fun _ _ _ h => h) (Or.inl ⟨by rfl, ?_⟩) (by assumption) ?_
 rotate_left
 ·
  intro w' hSw; (try dsimp only at hSw); first | (go_simp; done) | (go_simp; with_reducible rfl)
 (try simp only [Act.put, Row.pB0, Row.pB1, Row.pB2])
 refine wpAnyH_take (i := 8) (oi := ⟨some 62, .move (.tmp 61), 4, "l13_pend.go:50", #[⟨7, .data⟩], none⟩) (v := ?_) rfl (by kernel_rfl) (by kernel_rfl) (by kernel_rfl) (fun _ _ _ h => h) (Or.inl ⟨by rfl, ?_⟩) (by assumption) ?_
 rotate_left
 ·
  intro w' hSw; (try dsimp only at hSw); first | (go_simp; done) | (go_simp; with_reducible rfl)
 (try simp only [Act.put, Row.pB0, Row.pB1, Row.pB2])
 refine wpAnyH_take (i := 9) (oi := ⟨some 63, .move (.tmp 1), 24, "l13_pend.go:50", #[⟨8, .guard⟩], some (8, true)⟩) (v := ?_) rfl (by kernel_rfl) (by kernel_rfl) (by kernel_rfl) (fun _ _ _ h => h) (Or.inl ⟨by rfl, ?_⟩) (by assumption) ?_
 rotate_left
 ·
  intro w' hSw; (try dsimp only at hSw); first | (go_simp; done) | (go_simp; with_reducible rfl)
 (try simp only [Act.put, Row.pB0, Row.pB1, Row.pB2])
 refine wpAnyH_take (i := 10) (oi := ⟨some 64, .move (.tmp 9), 3, "l13_pend.go:50", #[⟨8, .guard⟩], some (8, true)⟩) (v := ?_) rfl (by kernel_rfl) (by kernel_rfl) (by kernel_rfl) (fun _ _ _ h => h) (Or.inl ⟨by rfl, ?_⟩) (by assumption) ?_
 rotate_left
 ·
  intro w' hSw; (try dsimp only at hSw); first | (go_simp; done) | (go_simp; with_reducible rfl)
 (try simp only [Act.put, Row.pB0, Row.pB1, Row.pB2])
 refine wpAnyH_take (i := 11) (oi := ⟨some 65, .indexAddr 24 (.tmp 63) (.tmp 64), 0, "l13_pend.go:50", #[⟨9, .data⟩, ⟨10, .data⟩, ⟨8, .guard⟩], some (8, true)⟩) (v := ?_) rfl (by kernel_rfl) (by kernel_rfl) (by kernel_rfl) (fun _ _ _ h => h) (Or.inl ⟨by rfl, ?_⟩) (by assumption) ?_
 rotate_left
 ·
  intro w' hSw; (try dsimp only at hSw); first | (go_simp; done) | (go_simp; with_reducible rfl)
 (try simp only [Act.put, Row.pB0, Row.pB1, Row.pB2])
 refine wpAnyH_take (i := 12) (oi := ⟨some 66, .fieldAddr 38 (.tmp 65) 0, 0, "l13_pend.go:50", #[⟨11, .data⟩, ⟨8, .guard⟩], some (8, true)⟩) (v := ?_) rfl (by kernel_rfl) (by kernel_rfl) (by kernel_rfl) (fun _ _ _ h => h) (Or.inl ⟨by rfl, ?_⟩) (by assumption) ?_
 rotate_left
 ·
  intro w' hSw; (try dsimp only at hSw); first | (go_simp; done) | (go_simp; with_reducible rfl)
 (try simp only [Act.put, Row.pB0, Row.pB1, Row.pB2])
 refine wpAnyH_take (i := 13) (oi := ⟨some 67, .load 27 (.tmp 66), 27, "l13_pend.go:50", #[⟨12, .data⟩, ⟨8, .guard⟩], some (8, true)⟩) (v := ?_) rfl (by kernel_rfl) (by kernel_rfl) (by kernel_rfl) (fun _ _ _ h => h) (Or.inl ⟨by rfl, ?_⟩) (by assumption) ?_
 rotate_left
 ·
  intro w' hSw; (try dsimp only at hSw); first | (go_simp; done) | (go_simp; with_reducible rfl)
 (try simp only [Act.put, Row.pB0, Row.pB1, Row.pB2])
 refine wpAnyH_take (i := 14) (oi := ⟨some 68, .fieldAddr 33 (.tmp 5) 0, 0, "l13_pend.go:50", #[⟨8, .guard⟩], some (8, true)⟩) (v := ?_) rfl (by kernel_rfl) (by kernel_rfl) (by kernel_rfl) (fun _ _ _ h => h) (Or.inl ⟨by rfl, ?_⟩) (by assumption) ?_
 rotate_left
 ·
  intro w' hSw; (try dsimp only at hSw); first | (go_simp; done) | (go_simp; with_reducible rfl)
 (try simp only [Act.put, Row.pB0, Row.pB1, Row.pB2])
 refine wpAnyH_take (i := 15) (oi := ⟨some 69, .load 27 (.tmp 68), 27, "l13_pend.go:50", #[⟨14, .data⟩, ⟨8, .guard⟩], some (8, true)⟩) (v := ?_) rfl (by kernel_rfl) (by kernel_rfl) (by kernel_rfl) (fun _ _ _ h => h) (Or.inl ⟨by rfl, ?_⟩) (by assumption) ?_
 rotate_left
 ·
  intro w' hSw; (try dsimp only at hSw); first | (go_simp; done) | (go_simp; with_reducible rfl)
 (try simp only [Act.put, Row.pB0, Row.pB1, Row.pB2])
 refine wpAnyH_ready (rs := [16]) (by kernel_rfl) (by simp) ?_
 refine AllReadyH.cons (o := ⟨some 70, .call ⟨.value (.func 83), #[.tmp 67, .tmp 69], #[27, 27]⟩, 4, "l13_pend.go:50", #[⟨13, .data⟩, ⟨15, .data⟩, ⟨8, .chain⟩, ⟨8, .guard⟩], some (8, true)⟩) rfl (fun K hK => ?_) AllReadyH.nil
 go_simp
 refine (sEqK z HV.out (H_m.out.on BB.out) (H_n.out.on BB.out) (Nat.le_trans HMB.out (by decide)) (Nat.le_trans HNB.out (by decide))).mono ?_
 rintro e wn1 ⟨rfl, hb⟩
 replace BB := Lib.hid (BB.out.trans (hb.mono BB.out.size))
 clear hb
 (try go_wp2_with fail)
 clear hHeld
 refine hK.out _ _ ?_ (fun hHeld => ?_)
 ·
  (try dsimp only); exact ⟨kc K1.out BB.out, kc I1.out BB.out, kc K0.out BB.out, kc I0.out BB.out⟩
 clear hK K
 (try simp only [Act.put, Row.pB0, Row.pB1, Row.pB2])
 refine wpAnyH_take (i := 17) (oi := ⟨some 71, .pick (.tmp 62) (.tmp 70) (.const (Value.bool false)), 4, "l13_pend.go:50", #[⟨8, .data⟩, ⟨16, .data⟩], none⟩) (v := ?_) rfl (by kernel_rfl) (by kernel_rfl) (by kernel_rfl) (fun _ _ _ h => h) (Or.inl ⟨by rfl, ?_⟩) (by assumption) ?_
 rotate_left
 ·
  intro w' hSw; (try dsimp only at hSw); first | (go_simp; done) | (go_simp; with_reducible rfl)
 (try simp only [Act.put, Row.pB0, Row.pB1, Row.pB2])
 refine wpAnyH_done (by kernel_rfl) ?_ _
 exact NoPanic.normal (HQ.out _ _ _ _ _ _ _ _ _ _ _ _ _ _ _ _ _  _  BB.out)
end Go.Proofs.Ytjphnlkdbhcblaa.Row
/- IsLoop, the model. No conditions but that lengths fit. -/
namespace Go.Proofs.Ytjphnlkdbhcblaa.Row
open Go.ChangeShapes Go.WideShapes Go.ChangeAt Go.RowKit Go.Instr
set_option linter.unusedVariables false
set_option maxRecDepth 100000
theorem any_nx {α : Type} [Inhabited α] {l : List α} {p : α → Bool} {k : Nat} (hk : k < l.length) : (l.take (k + 1)).any p = ((l.take k).any p || p (nth l k)) := by
  rw [take_nx hk, List.any_append]
  simp
theorem any_hit {α : Type} [Inhabited α] {l : List α} {p : α → Bool} {k : Nat} (hk : k < l.length) (h : p (nth l k) = true) : l.any p = true :=
  List.any_eq_true.2 ⟨nth l k, nth_mem hk, h⟩
set_option maxHeartbeats 16000000 in
theorem specIsLoop (V U T : Value) (l : List Pit) (s : List Snt) (wt : Wt) (w : World) (z : Bool) (hz : loopP l s wt = z) (h : kLPi.At w V l) (h2 : kLSn.At w U s) (g : kW.At w T wt) (hf : FitP l) (hfs : FitS s) (hm : bulk wt.1 ≤ 1200000) :
    Calls Try.prog 28 #[V, U, T] w fun e w' => e = .returned (.bool z) ∧ Below w.heap.size w w' := by
  have hl := hf.len
  have hp := hf.each
  obtain ⟨x, n, cx, L, rfl, hn, ht, hh, hel⟩ := kLPi_at h
  have hlen : l.length = n := by rw [← ht, List.length_map]; exact hn.symm
  rw [hlen] at hl
  have hcap : n ≤ cx := by obtain ⟨x', n', cap', hv, hn', hc', -⟩ := hh.shapeN; cases hv; exact hc'
  obtain ⟨sa, ns, cs, S, rfl, hn2, ht2, hh2, hel2⟩ := kLSn_at h2
  have hlen2 : s.length = ns := by rw [← ht2, List.length_map]; exact hn2.symm
  have hcap2 : ns ≤ cs := by obtain ⟨x', n', cap', hv, hn', hc', -⟩ := hh2.shapeN; cases hv; exact hc'
  have hl2 : ns ≤ 1100000 := by rw [← hlen2]; exact hfs.len
  obtain ⟨xn, nn, cn, rfl, g⟩ := kW_shapeA g
  obtain ⟨nx, kk, hp9, lf⟩ := wt
  simp only at g hm
  have gN := kW_kN g
  have b1 := (Below.refl w.heap.size w).alloc (Nat.le_refl _) (.cells #[.slice xn nn cn, .int .i64 kk, .int .i64 hp9, .int .i64 lf] 33)
  have HX := Lib.hid (Ret.Blk.new w #[.slice xn nn cn, .int .i64 kk, .int .i64 hp9, .int .i64 lf] 33)
  have HG := Lib.hid gN; have HB := Lib.hid b1; have HZ := Lib.hid hz; have HM := Lib.hid hm
  have HFS := Lib.hid hfs; have HN2 := Lib.hid hn2; have HT2 := Lib.hid ht2; have HH2 := Lib.hid hh2; have HEL2 := Lib.hid hel2; have HLN2 := Lib.hid hlen2
  have HN := Lib.hid hn; have HT := Lib.hid ht; have HH := Lib.hid hh; have HEL := Lib.hid hel; have HLEN := Lib.hid hlen; have HP := Lib.hid hp
  clear b1 g gN hz hm hfs hn2 ht2 hh2 hel2 hlen2 h2 hf hn ht hh hel hlen hp h
  go_enter Try.func28, Try.ntmps28
  go_wp2
  go_loopw [7] (fun iv wr => ∃ k : Nat, k ≤ n ∧ iv = .int .i64 k ∧ Hid ((l.take k).any (loopR nx kk) = false) ∧ Hid (Ret.Blk wr w.heap.size #[.slice xn nn cn, .int .i64 kk, .int .i64 hp9, .int .i64 lf] 33) ∧ Hid (Below w.heap.size w wr)) (fun iv _ => n - (intOf iv).toNat)
  case atStart => exact ⟨0, Nat.zero_le _, rfl, Lib.hid (by simp), HX, HB⟩
  case round =>
    clear HX HB
    obtain ⟨k, hk, rfl, ha, hx, hb⟩ := hrel
    by_cases hlt : k < n
    · have hlen := HN.out
      obtain ⟨b, off, y0, m0, d0, y1, m1, d1, rfl, -, hc0, hc1, hc2, hA⟩ := kLPi_elem HH.out (fun y hy => HEL.out y hy) (j := k) (by omega)
      have hbw := Ret.cell_lt hc0
      have hpt : nth l k = kPi.strip (nth L k) := by rw [← HT.out, nth_map _ (by omega)]
      have hps := HP.out (nth l k) (nth_mem (by have := HLEN.out; omega))
      rw [← hpt] at hA hc2
      replace hA := hA.on hb.out
      replace hc0 := kc hc0 hb.out
      replace hc1 := kc hc1 hb.out
      replace hc2 := kc hc2 hb.out
      obtain ⟨hNM, hRQ⟩ := kPi_parts hA
      have HNM := Lib.hid hNM; have HRQ := Lib.hid hRQ; have HPN := Lib.hid (show bulk (nth l k).1 ≤ 1200000 from (wtPi_lens hps).1); have HPR := Lib.hid (show (nth l k).2.1.length ≤ 1200000 from (wtPi_lens hps).2)
      obtain ⟨nm, rq, ls, hx⟩ : ∃ nm rq ls, nth l k = (nm, rq, ls) := ⟨_, _, _, rfl⟩
      rw [hx] at HNM HRQ HPN HPR hc2 hA
      have HXE := Lib.hid hx
      simp only at HNM HRQ HPN HPR hc2
      clear hNM hRQ hx
      have H0 := Lib.hid hc0; have H1 := Lib.hid hc1; have H2 := Lib.hid hc2
      clear hlen hpt hps hA
      obtain ⟨mr, hmr⟩ : ∃ mr, m1 = mr := ⟨_, rfl⟩
      rw [hmr] at HRQ H1 hc1
      have hrl : rq.length = mr := (kLRq_len HRQ.out).symm
      have HRL := Lib.hid hrl
      have hm9 : mr ≤ 1200000 := by have := HPR.out; omega
      have HHQ := Lib.hid (kLRq_holds HRQ.out)
      have hkl : k < l.length := by have := HLEN.out; omega
      have HAN := Lib.hid (any_nx (p := loopR nx kk) hkl)
      obtain ⟨q, hq⟩ : ∃ q, decide (nm = nx) = q := ⟨_, rfl⟩
      have HQ := Lib.hid hq
      have HGN := Lib.hid (HG.out.on hb.out)
      have HLR := Lib.hid (show loopR nx kk (nth l k) = (q && rq.any (nnR kk)) from by rw [HXE.out, ← hq]; rfl)
      have HKL := Lib.hid hkl
      clear hmr hrl hc0 hc1 hc2 hq hkl
      obtain ⟨wo, hwo⟩ : ∃ wo, wo = wr := ⟨_, rfl⟩
      subst hwo
      go_wp2
      go_loopw [8] (fun iv wr => ∃ j : Nat, j ≤ mr ∧ iv = .int .i64 j ∧ Hid ((rq.take j).any (nnR kk) = false) ∧ Hid (Below wo.heap.size wo wr)) (fun iv _ => mr - (intOf iv).toNat)
      case atStart => exact ⟨0, Nat.zero_le _, rfl, Lib.hid (by simp), Lib.hid (Below.refl _ _)⟩
      case round =>
        obtain ⟨j, hj, rfl, haj, hbq⟩ := hrel
        have C1 := Lib.hid (kc H1.out hbq.out)
        by_cases hjl : j < mr
        · have hjr : j < rq.length := by have := HRL.out; omega
          have C0 := Lib.hid (kc H0.out hbq.out); have I0 := Lib.hid ((hx.out.on hbq.out).cell 0)
          go_wp2_with fail
          refine ril1 hlt (decide_eq_true hjl) HQ (Lib.hid (HNM.out.on hbq.out)) (Lib.hid (HGN.out.on hbq.out)) HPN HM C1 C0 I0 ?_
          intro u16 u17 u18 u19 u20 u21 u22 u23 u24 u25 u26 u27 u28 u29 u30 u31 u32 wx hbx
          have HBX := Lib.hid (hbq.out.trans (hbx.mono hbq.out.size))
          clear hbx
          cases q with
          | false =>
            have HA9 := Lib.hid (show (l.take (k + 1)).any (loopR nx kk) = false by rw [HAN.out, ha.out, HLR.out]; rfl)
            have HX9 := Lib.hid (hx.out.on HBX.out); have HB9 := Lib.hid (hb.out.trans (HBX.out.mono hb.out.size))
            go_wp2
            go_roundw
            case rel => exact ⟨k + 1, by omega, by go_num, HA9, HX9, HB9⟩
            case measure => simp [intOf]; omega
          | true =>
            obtain ⟨ba, oa, rfl, hcm⟩ := (HHQ.out.on HBX.out).at szRq_cells hjr
            obtain ⟨f, u, e, hx5⟩ : ∃ f u e, nth rq j = (f, u, e) := ⟨_, _, _, rfl⟩
            rw [hx5] at hcm
            have e1 : wx.cell? ⟨ba, oa + j * 3 + 1, none⟩ = some (.int .i64 u) := by have h5 : wx.cell? ⟨ba, oa + (j * 3 + 1), none⟩ = some (.int .i64 u) := hcm 1 (by decide); simpa [Nat.add_assoc] using h5
            have D1 := Lib.hid (kc H1.out HBX.out); have I1 := Lib.hid (show wx.cell? ⟨w.heap.size, 1, none⟩ = some (.int .i64 kk) from (hx.out.on HBX.out).cell 1); have E1 := Lib.hid e1
            have HNR := Lib.hid (show nnR kk (nth rq j) = decide (u = kk) from by rw [hx5]; rfl)
            have HAJ := Lib.hid (any_nx (p := nnR kk) hjr)
            have HJR := Lib.hid hjr
            clear hcm hx5 e1 C0 C1 I0
            go_wp2_with fail
            refine ril7 (u := u) (kk := kk) hlt hjl D1 E1 I1 ?_
            intro u36 u37 u38 u39 u40 u41 u42 u43 u44 u45 u46 wy hby
            have HBY := Lib.hid (HBX.out.trans (hby.mono HBX.out.size))
            clear hby
            by_cases hu : u = kk
            · have hv : (u == kk) = true := by simpa using hu
              have HE := Lib.hid (show z = true from by
                rw [← HZ.out]
                show (l.any (loopR nx kk) || _) = true
                rw [any_hit HKL.out (by rw [HLR.out]; exact any_hit HJR.out (by rw [HNR.out]; exact decide_eq_true hu)), Bool.true_or])
              have HB9 := Lib.hid (hb.out.trans (HBY.out.mono hb.out.size))
              clear hu
              go_wp2
              go_ret
              exact ⟨ret_bool HE.out.symm, HB9.out⟩
            · have hv : (u == kk) = false := by simpa using hu
              have HA9 := Lib.hid (show (rq.take (j + 1)).any (nnR kk) = false by rw [HAJ.out, haj.out, HNR.out, decide_eq_false hu]; rfl)
              clear hu
              go_wp2
              go_roundw
              case rel => exact ⟨j + 1, by omega, by go_num, HA9, HBY⟩
              case measure => simp [intOf]; omega
        · go_wp2_with fail
          refine ril0 hlt (decide_eq_false hjl) C1 ?_
          intro u16 u17 u18 u19 u20 u21 u22 u23 u24 u25 u26 u27 u28 u29 u30 u31 u32 wx hbx
          obtain rfl : j = mr := by omega
          have HBX := Lib.hid (hbq.out.trans (hbx.mono hbq.out.size))
          have HA9 := Lib.hid (show (l.take (k + 1)).any (loopR nx kk) = false by
            rw [HAN.out, ha.out, HLR.out, ← show rq.take j = rq from List.take_of_length_le (by rw [HRL.out]; exact Nat.le_refl _), haj.out]; simp)
          have HX9 := Lib.hid (hx.out.on HBX.out); have HB9 := Lib.hid (hb.out.trans (HBX.out.mono hb.out.size))
          clear hbx hjl
          go_wp2
          go_roundw
          case rel => exact ⟨k + 1, by omega, by go_num, HA9, HX9, HB9⟩
          case measure => simp [intOf]; omega
    · obtain rfl : k = n := by omega
      have HAF := Lib.hid (show l.any (loopR nx kk) = false by have h5 := ha.out; rwa [List.take_of_length_le (by rw [HLEN.out]; exact Nat.le_refl _)] at h5)
      have HZ2 := Lib.hid (show s.any (isS nx kk) = z by
        rw [← HZ.out]
        show _ = (l.any (loopR nx kk) || s.any (isS nx kk))
        rw [HAF.out, Bool.false_or])
      clear hlt HN HT HH HEL HP HZ ha
      obtain ⟨wo, hwo⟩ : ∃ wo, wo = wr := ⟨_, rfl⟩
      subst hwo
      go_wp2
      go_loopw [9] (fun iv wr => ∃ k : Nat, k ≤ ns ∧ iv = .int .i64 k ∧ Hid ((s.take k).any (isS nx kk) = false) ∧ Hid (Ret.Blk wr w.heap.size #[.slice xn nn cn, .int .i64 kk, .int .i64 hp9, .int .i64 lf] 33) ∧ Hid (Below w.heap.size w wr)) (fun iv _ => ns - (intOf iv).toNat)
      case atStart => exact ⟨0, Nat.zero_le _, rfl, Lib.hid (by simp), hx, hb⟩
      case round =>
        clear hx hb
        obtain ⟨k, hk, rfl, ha, hx, hb⟩ := hrel
        by_cases hlt : k < ns
        · have hlen := HN2.out
          obtain ⟨b2, off2, y0, m0, d0, rfl, -, hc0, hc1, hA⟩ := kLSn_elem (HH2.out.on hb.out) (fun y hy => kSn.holds_on (HEL2.out y hy) hb.out) (j := k) (by omega)
          have hkl : k < s.length := by have := HLN2.out; omega
          have hpt : nth s k = kSn.strip (nth S k) := by rw [← HT2.out, nth_map _ (by omega)]
          have hps := HFS.out.each (nth s k) (nth_mem hkl)
          rw [← hpt] at hA hc1
          obtain ⟨nm, u, hx5⟩ : ∃ nm u, nth s k = (nm, u) := ⟨_, _, rfl⟩
          rw [hx5] at hA hc1 hps
          simp only at hA hc1 hps
          have HNM := Lib.hid (kSn_parts hA); have HPN := Lib.hid hps
          have I1 := Lib.hid (show wr.cell? ⟨w.heap.size, 1, none⟩ = some (.int .i64 kk) from hx.out.cell 1); have I0 := Lib.hid (show wr.cell? ⟨w.heap.size, 0, none⟩ = some (.slice xn nn cn) from hx.out.cell 0)
          have C0 := Lib.hid hc0; have C1 := Lib.hid hc1
          have HAN := Lib.hid (any_nx (p := isS nx kk) hkl); have HKL := Lib.hid hkl
          obtain ⟨q, hq⟩ : ∃ q, decide (nm = nx) = q := ⟨_, rfl⟩
          have HQ := Lib.hid hq
          have HLR := Lib.hid (show isS nx kk (nth s k) = (decide (u = kk) && q) from by rw [hx5, ← hq]; rfl)
          have HGN := Lib.hid (HG.out.on hb.out)
          clear hlen hc0 hc1 hA hkl hpt hps hx5 hq
          by_cases hu : u = kk
          · go_wp2_with fail
            refine ris1 (u := u) (kk := kk) hlt (by simpa using hu) HQ HNM HGN HPN HM C1 I1 C0 I0 ?_
            intro u54 u55 u56 u57 u58 u59 u60 u61 u62 u63 u64 u65 u66 u67 u68 u69 u70 wx hbx
            have HX9 := Lib.hid (hx.out.on hbx); have HB9 := Lib.hid (hb.out.trans (hbx.mono hb.out.size))
            clear hbx
            cases q with
            | true =>
              have HE := Lib.hid (show z = true from by rw [← HZ2.out]; exact any_hit HKL.out (by rw [HLR.out, decide_eq_true hu]; rfl))
              clear hu
              go_wp2
              go_ret
              exact ⟨ret_bool HE.out.symm, HB9.out⟩
            | false =>
              have HA9 := Lib.hid (show (s.take (k + 1)).any (isS nx kk) = false by rw [HAN.out, ha.out, HLR.out, Bool.and_false]; rfl)
              clear hu
              go_wp2
              go_roundw
              case rel => exact ⟨k + 1, by omega, by go_num, HA9, HX9, HB9⟩
              case measure => simp [intOf]; omega
          · go_wp2_with fail
            refine ris0 (u := u) (kk := kk) hlt (by simpa using hu) C1 I1 ?_
            intro u54 u55 u56 u57 u58 u59 u60 u61 u62 u63 u64 u65 u66 u67 u68 u69 u70 wx hbx
            have HX9 := Lib.hid (hx.out.on hbx); have HB9 := Lib.hid (hb.out.trans (hbx.mono hb.out.size))
            have HA9 := Lib.hid (show (s.take (k + 1)).any (isS nx kk) = false by rw [HAN.out, ha.out, HLR.out, decide_eq_false hu]; rfl)
            clear hu hbx
            go_wp2
            go_roundw
            case rel => exact ⟨k + 1, by omega, by go_num, HA9, HX9, HB9⟩
            case measure => simp [intOf]; omega
        · obtain rfl : k = ns := by omega
          have HE := Lib.hid (show z = false by rw [← HZ2.out]; have h5 := ha.out; rwa [List.take_of_length_le (by rw [HLN2.out]; exact Nat.le_refl _)] at h5)
          clear hlt
          go_wp2
          go_ret
          exact ⟨ret_bool HE.out.symm, hb.out⟩
end Go.Proofs.Ytjphnlkdbhcblaa.Row
/- A slice of numbers that came in as an argument: it holds a list, its numbers fit their kind, its length is within the reach. No conditions. -/
namespace Go.Proofs.Ytjphnlkdbhcblaa.Sl
open Go.ChangeShapes Go.WideShapes Go.ChangeAt Go.RowKit
end Go.Proofs.Ytjphnlkdbhcblaa.Sl
