/- Contracts and mathematics, joined: Clone, EqN, KWant, ReadB, WantE, WantP, PendMath, PendK, RowK, PendC0, PendI, PendG, PendC1, PendC2, PendF, PendS, MarkK, PendM, PendD, PendE0, PendE1, PendE2, ByK, MarkF, RequesterSM, PendingInterestSM, SeenNonceSM, NameK, NameSK, NameSM, NameSW, PendZ, Open. No conditions but those that each states. -/
import Derived.Test.YtjphnlkdbhcblaaB1
import Derived.WalkKit
import Derived.Deep.RegionHeld3
import Derived.SizedLaws
import Derived.ChangeSlices
import Derived.ChangeSame
import Derived.ChangeArms
import Derived.Deep.Strs
import Derived.Lib.SmallJoins
import Derived.Deep.RegionLaw
import Derived.RangeFuncNested
import Derived.RangeFuncBound
import Derived.RangeFuncCalls
import Derived.RangeFuncLeaves
import Derived.RangeFuncBox
import Derived.Shelf.Abstract
import Derived.Shelf.RegionOpen
import Derived.OwnWalkIn
import Derived.TacticsInMore
import Derived.LoopNIn
import Derived.LoopIn
/- Contract of the program's copy of a name. No conditions but that lengths fit. -/
namespace Go.Proofs.Ytjphnlkdbhcblaa.Row
open Go.ChangeShapes Go.WideShapes Go.ChangeAt Go.RowKit Go.Instr
set_option linter.unusedVariables false
set_option maxRecDepth 100000
set_option maxHeartbeats 4000000 in
theorem cloneName (v : Value) (l : List ByteArray) (w : World) (h : Holds Value.string w v l) (hl : l.length ≤ 9000000) :
    Calls Try.prog 95 #[.agg #[v]] w (GivesN w l) := by
  obtain ⟨x, n, cap, rfl, hn, hcap, hh⟩ := h.shapeN
  have HB0 := Lib.hid (((Below.refl w.heap.size w).alloc (Nat.le_refl _) (.cells #[.slice x n cap] 27)).alloc (by simp) (.cells #[.slice none 0 0] 27))
  have HH := Lib.hid (hh.on HB0.out)
  have HR := Lib.hid (Ret.NC.new' (.slice none 0 0) 27 (w := w.alloc (.cells #[.slice x n cap] 27)) (n := w.heap.size + 1) (by simp))
  clear hh h hn
  go_enter Try.func95, Try.ntmps95
  go_wp2_with fail
  refine (cloneS _ l _ HH.out (by omega)).mono ?_
  rintro e w1 ⟨v1, rfl, ho, hb⟩
  obtain ⟨x1, n1, c1, rfl, -, -, ho1⟩ := ho.shapeN
  have HR1 := Lib.hid (HR.out.on hb)
  obtain ⟨hk, hf⟩ := HR1.out
  have HB1 := HB0.out.trans (hb.mono HB0.out.size)
  obtain ⟨q1, q2, q3⟩ := endN (w := w) (g := w.heap.size + 1) (by omega) (by simp) ho1 hk HB1
  have HQ1 := Lib.hid q1; have HQ2 := Lib.hid q2; have HQ3 := Lib.hid q3
  clear q1 q2 q3 ho ho1 hb HB1
  go_wp2
  refine bodyPost_ret (Ret.results_c rfl _ _ (w.heap.size + 1) [_] rfl aggN (Ret.one HQ1.out)) rfl ?_
  exact ⟨_, rfl, HQ2.out, HQ3.out⟩
end Go.Proofs.Ytjphnlkdbhcblaa.Row
/- Names in the kinds of kstruct.py: ValidName, EqualNames, the copies, model and program. No conditions but that lengths fit. -/
namespace Go.Proofs.Ytjphnlkdbhcblaa.Row
open Go.ChangeShapes Go.WideShapes Go.ChangeAt Go.RowKit Go.Instr
set_option linter.unusedVariables false
set_option maxRecDepth 100000
section
variable {w : World} {V U : Value} {l m : List ByteArray} {B E : Nat}
theorem sCpyN (h : kN.At w V l) (hl : bulk l ≤ 9000000) : Calls Try.prog 67 #[V] w fun e w' => ∃ U, e = .returned U ∧ kN.In w.heap.size w'.heap.size w' U l ∧ Below w.heap.size w w' := by
  obtain ⟨v, rfl, h9⟩ := kN_at h
  exact (l4Copy v l w h9 (by have := bulk_len l; omega)).mono fun e w' ⟨v', a, b, c⟩ => ⟨_, a, kN_own b, c⟩
theorem iCpyN (h : kN.At w V l) (hl : bulk l ≤ 9000000) : Calls Try.prog 95 #[V] w fun e w' => ∃ U, e = .returned U ∧ kN.In w.heap.size w'.heap.size w' U l ∧ Below w.heap.size w w' := by
  obtain ⟨v, rfl, h9⟩ := kN_at h
  exact (cloneName v l w h9 (by have := bulk_len l; omega)).mono fun e w' ⟨v', a, b, c⟩ => ⟨_, a, kN_own b, c⟩
end
end Go.Proofs.Ytjphnlkdbhcblaa.Row
/- Interests in the words of the exact laws: the kind; the laws' helpers for it; an interest that came in as an argument. No conditions but that lengths fit. -/
namespace Go.Proofs.Ytjphnlkdbhcblaa.Row
open Go.ChangeShapes Go.WideShapes Go.ChangeAt Go.RowKit Go.Instr
set_option linter.unusedVariables false
set_option maxRecDepth 100000
def kW : Kd Wt (Rw ByteArray × Int × Int × Int) := (kNm 9).pair (kInt.pair (kInt.pair kInt))
section
variable {w : World} {v V : Value} {x : Wt} {B E : Nat}
end
def WfW (x : Wt) : Prop := (∀ y ∈ x.1, y.size ≤ maxLen) ∧ (Lit.int .i64 x.2.1).wf = true ∧ (Lit.int .i64 x.2.2.1).wf = true ∧ (Lit.int .i64 x.2.2.2).wf = true
theorem WfW.hop {x : Wt} (h : WfW x) : x.2.2.1 ≤ 9223372036854775807 := by
  have h2 := h.2.2.1
  simp [Lit.wf] at h2
  exact h2.2
def mkW (k : Int) (x : Wt) : Wt := (marks markT k x.1.length, x.2.1, x.2.2.1, x.2.2.2)
end Go.Proofs.Ytjphnlkdbhcblaa.Row
/- Contracts of ReadBytes, the reference model's and the program's: the bytes behind the length at the offset, the offset behind them, true; or an empty slice, 0 and false. What is returned lies in memory of the call's own. No conditions but that the elements are bytes and the lengths fit. -/
namespace Go.Proofs.Ytjphnlkdbhcblaa.Sl
open Go.ChangeShapes Go.WideShapes Go.ChangeAt Go.RowKit Go.Instr
set_option linter.unusedVariables false
set_option maxRecDepth 100000
def readB (l : List Int) (i most : Int) : List Int × Int × Bool :=
  let r := Var.readV l i
  if r.2.2 = false ∨ most < r.1 ∨ (l.length : Int) - r.2.1 < r.1 then ([], 0, false)
  else ((l.drop r.2.1.toNat).take r.1.toNat, r.2.1 + r.1, true)
theorem Holds.part {k : IntKind} {w : World} {b off n cap : Nat} {l : List Int} (h : Holds k w (.slice (some ⟨b, off, none⟩) n cap) l) {a c c' cc : Nat} (hc : a + c ≤ n) (hcc : c ≤ cc) (he : c' = c) :
    Holds k w (.slice (some ⟨b, off + a, none⟩) c' cc) ((l.drop a).take c) := by
  rw [he]; clear he
  have hn := h.lenEq; subst hn
  have hl : ((l.drop a).take c).length = c := by simp; omega
  refine ⟨_, cc, by rw [hl], by rw [hl]; exact hcc, ?_⟩
  by_cases h0 : c = 0
  · left; subst h0; simp
  · right
    refine ⟨b, off + a, rfl, fun j hj => ?_⟩
    rw [hl] at hj
    obtain ⟨b', off', hx, hcell⟩ := h.at (j := a + j) (by omega)
    cases hx
    rw [Nat.add_assoc, hcell]
    simp only [nth, List.getD, List.getElem?_take, List.getElem?_drop, if_pos hj]
def GivesB3 (w : World) (l : List Int) (n : Int) (ok : Bool) (e : Ending) (w' : World) : Prop := ∃ v, e = .returned (.tuple #[v, .int .i64 n, .bool ok]) ∧ Own 5 .u8 w.heap.size w' v l ∧ Below w.heap.size w w'
theorem GivesB3.of {w w' : World} {v : Value} {l m : List Int} {n p : Int} {a b : Bool} (h : (l, n, a) = (m, p, b)) (ho : Own 5 .u8 w.heap.size w' v l) (hb : Below w.heap.size w w') :
    GivesB3 w m p b (.returned (.tuple #[v, .int .i64 n, .bool a])) w' := by
  cases h; exact ⟨v, rfl, ho, hb⟩
end Go.Proofs.Ytjphnlkdbhcblaa.Sl
/- Contract of the model's EncodeInterest. No conditions but that lengths fit. -/
namespace Go.Proofs.Ytjphnlkdbhcblaa.Sl
open Go.ChangeShapes Go.WideShapes Go.ChangeAt Go.RowKit Go.Instr
set_option linter.unusedVariables false
end Go.Proofs.Ytjphnlkdbhcblaa.Sl
namespace Go.Proofs.Ytjphnlkdbhcblaa.Row
open Go.ChangeShapes Go.WideShapes Go.ChangeAt Go.RowKit Go.Instr
set_option linter.unusedVariables false
set_option maxRecDepth 100000
def encW (x : Wt) : List Int := if validW x = true then appName [] x.1 ++ Sl.encs [x.2.1, x.2.2.1, x.2.2.2] else []
end Go.Proofs.Ytjphnlkdbhcblaa.Row
/- Contracts of the program's functions on interests: validity, AppendName, the numbers, copy, the hop limit. No conditions but that lengths fit. -/
namespace Go.Proofs.Ytjphnlkdbhcblaa.Row
open Go.ChangeShapes Go.WideShapes Go.ChangeAt Go.RowKit Go.Instr
set_option linter.unusedVariables false
set_option maxRecDepth 100000
end Go.Proofs.Ytjphnlkdbhcblaa.Row
/- Pending interests: what chapter 13's functions answer, as functions of lists. No conditions. -/
namespace Go.Proofs.Ytjphnlkdbhcblaa.Row
open Go.ChangeShapes Go.WideShapes Go.ChangeAt Go.RowKit Go.Instr
set_option linter.unusedVariables false
set_option linter.unusedSectionVars false
set_option maxRecDepth 100000
def isP (n : List ByteArray) (x : Pit) : Bool := decide (x.1 = n)
def isS (n : List ByteArray) (k : Int) (x : Snt) : Bool := decide (x.2 = k) && decide (x.1 = n)
def nnR (k : Int) (r : Rqt) : Bool := decide (r.2.1 = k)
def fcR (f : Int) (r : Rqt) : Bool := !decide (r.1 = f)
def gtR (f : Int) (r : Rqt) : Bool := decide (f < r.1)
def wtR (now : Int) (r : Rqt) : Bool := decide (now ≤ r.2.2)
def validQ (l : List Rqt) : Nat → Bool
  | 0 => true
  | k + 1 => validQ l k && (Num.inB (nth l k).1 0 6 && Num.inB (nth l k).2.1 0 1000000 && (decide (k = 0) || decide ((nth l (k - 1)).1 < (nth l k).1)))
def validQs (l : List Rqt) : Bool := validQ l l.length && decide (0 < l.length)
def validI (x : Pit) : Bool := validN x.1 && (decide (0 < x.1.length) && (validQs x.2.1 && Num.inB x.2.2 0 100000))
def vldP (l : List Pit) : Nat → Bool
  | 0 => true
  | k + 1 => vldP l k && (validI (nth l k) && !(l.take k).any (isP (nth l k).1))
def validPs (l : List Pit) : Bool := vldP l l.length && decide (l.length ≤ 12)
def loopR (n : List ByteArray) (k : Int) (x : Pit) : Bool := isP n x && x.2.1.any (nnR k)
def loopP (l : List Pit) (s : List Snt) (w : Wt) : Bool := l.any (loopR w.1 w.2.1) || s.any (isS w.1 w.2.1)
def hasPd (l : List Pit) (n : List ByteArray) : Bool := decide (0 ≤ ixL (isP n) l)
def putO (o : List Rqt) (a : Rqt) : List Rqt := o.takeWhile (fun r => !gtR a.1 r) ++ a :: o.dropWhile (fun r => !gtR a.1 r)
def putR (l : List Rqt) (a : Rqt) : List Rqt := putO (l.filter (fcR a.1)) a
def addOk (l : List Pit) (w : Wt) (f : Int) : Bool := validW w && Num.inB f 0 6 && (decide (0 ≤ ixL (isP w.1) l) || decide ((l.length : Int) < 12))
def askR (w : Wt) (f now : Int) : Rqt := (f, w.2.1, IntKind.i64.wrap (now + w.2.2.2))
def addP (l : List Pit) (w : Wt) (f now : Int) : List Pit :=
  if addOk l w f = true then
    if 0 ≤ ixL (isP w.1) l then l.set (ixL (isP w.1) l).toNat ((nth l (ixL (isP w.1) l).toNat).1, putR (nth l (ixL (isP w.1) l).toNat).2.1 (askR w f now), (nth l (ixL (isP w.1) l).toNat).2.2)
    else l ++ [(w.1, [askR w f now], 0)]
  else l
def lastP (l : List Pit) (n : List ByteArray) : Int := if 0 ≤ ixL (isP n) l then (nth l (ixL (isP n) l).toNat).2.2 else 0
def sentP (l : List Pit) (n : List ByteArray) (now : Int) : List Pit :=
  if 0 ≤ ixL (isP n) l then l.set (ixL (isP n) l).toNat ((nth l (ixL (isP n) l).toNat).1, (nth l (ixL (isP n) l).toNat).2.1, now) else l
def satP (l : List Pit) (n : List ByteArray) : List Pit := if 0 ≤ ixL (isP n) l then l.eraseIdx (ixL (isP n) l).toNat else l
def satR (l : List Pit) (n : List ByteArray) : List Rqt := if 0 ≤ ixL (isP n) l then (nth l (ixL (isP n) l).toNat).2.1 else []
def leftP (now : Int) (x : Pit) : Pit := (x.1, x.2.1.filter (wtR now), x.2.2)
def someR (x : Pit) : Bool := decide (0 < x.2.1.length)
def expP (l : List Pit) (now : Int) : List Pit := (l.map (leftP now)).filter someR
def seenS (s : List Snt) (n : List ByteArray) (k : Int) : List Snt := if 24 < (s ++ [(n, k)]).length then (s ++ [(n, k)]).drop 1 else s ++ [(n, k)]
def eqPs (x y : List Pit) : Bool := decide (x = y)
def putM (a : Rqt) (l : List Rqt) : List Rqt × Bool :=
  if l.any (gtR a.1) then (putR l a, true) else (l.filter (fcR a.1), false)
end Go.Proofs.Ytjphnlkdbhcblaa.Row
/- An element of the list of pending interests and its parts; contracts of the numbers in letters. No conditions. -/
namespace Go.Proofs.Ytjphnlkdbhcblaa.Row
open Go.ChangeShapes Go.WideShapes Go.ChangeAt Go.RowKit Go.Instr
set_option linter.unusedVariables false
set_option maxRecDepth 100000
theorem kPi_parts {w : World} {x0 x1 : Option Addr} {n0 c0 n1 c1 : Nat} {u : Int} {x : Pit} (h : kPi.At w (.agg #[.slice x0 n0 c0, .slice x1 n1 c1, .int .i64 u]) x) :
    kN.At w (.agg #[.slice x0 n0 c0]) x.1 ∧ kLRq.At w (.slice x1 n1 c1) x.2.1 := by
  obtain ⟨a0, b0, d0, a1, b1, d1, e, h0, h1⟩ := kPi_at h
  simp only [Value.agg.injEq, Array.mk.injEq, List.cons.injEq, Value.slice.injEq, Value.int.injEq, and_true, true_and] at e
  obtain ⟨⟨rfl, rfl, rfl⟩, ⟨rfl, rfl, rfl⟩, rfl⟩ := e
  exact ⟨h0, h1⟩
theorem noRow_kRq (e : TypeId) : kRq.NoRow e := Kd.noRow_scalar.pair (Kd.noRow_scalar.pair Kd.noRow_scalar)
theorem noRow_kNe (e : TypeId) (h1 : 9 ≠ e) : kN.NoRow e := (Kd.NoRow.slice (e' := 9) Kd.noRow_scalar h1).wrap
theorem noRow_kLRq (e : TypeId) (h1 : 91 ≠ e) : kLRq.NoRow e := Kd.NoRow.slice (e' := 91) (noRow_kRq e) h1
theorem noRow_kPi : kPi.NoRow 101 := (noRow_kNe _ (by decide)).pair ((noRow_kLRq _ (by decide)).pair Kd.noRow_scalar)
theorem wtPi_lens {x : Pit} {n : Nat} (h : wtPi x ≤ n) : bulk x.1 ≤ n ∧ x.2.1.length ≤ n := by
  have h1 := bulkK_Rq x.2.1
  unfold wtPi at h
  omega
def FitP (l : List Pit) : Prop := bulkK wtPi l ≤ 1100000
theorem FitP.len {l : List Pit} (h : FitP l) : l.length ≤ 1100000 := Nat.le_trans (bulkK_len wtPi l) h
theorem FitP.each {l : List Pit} (h : FitP l) : ∀ e ∈ l, wtPi e ≤ 1200000 := fun e he => Nat.le_trans (bulkK_mem he) (Nat.le_trans h (by decide))
def FitS (l : List Snt) : Prop := bulkK wtSn l ≤ 1100000
theorem FitS.len {l : List Snt} (h : FitS l) : l.length ≤ 1100000 := Nat.le_trans (bulkK_len wtSn l) h
theorem FitS.each {l : List Snt} (h : FitS l) : ∀ e ∈ l, bulk e.1 ≤ 1200000 := fun e he => Nat.le_trans (bulkK_mem (f := wtSn) he) (Nat.le_trans h (by decide))
end Go.Proofs.Ytjphnlkdbhcblaa.Row
/- Lists that lie as rows of the call's own: a part of a row, an element more, an append within the room, a clearing behind the end; closures while a row is written. For any kind and any program. No conditions but that lengths fit. -/
namespace Go.Proofs.Ytjphnlkdbhcblaa.Row
open Go.ChangeShapes Go.WideShapes Go.ChangeAt Go.RowKit Go.Instr
set_option linter.unusedVariables false
set_option linter.unusedSectionVars false
set_option maxRecDepth 100000
theorem take_nx {α : Type} [Inhabited α] {l : List α} {k : Nat} (h : k < l.length) : l.take (k + 1) = l.take k ++ [nth l k] := by rw [List.take_succ_eq_append_getElem h, nth_eq h]
theorem filter_nx {α : Type} [Inhabited α] {p : α → Bool} {l : List α} {k : Nat} (h : k < l.length) (hp : p (nth l k) = true) : (l.take (k + 1)).filter p = (l.take k).filter p ++ [nth l k] := by
  rw [take_nx h, List.filter_append]; simp [hp]
theorem filter_sk {α : Type} [Inhabited α] {p : α → Bool} {l : List α} {k : Nat} (h : k < l.length) (hp : p (nth l k) = false) : (l.take (k + 1)).filter p = (l.take k).filter p := by
  rw [take_nx h, List.filter_append]; simp [hp]
section
variable {α M : Type} {k : Kd α M} {B C E E' : Nat} {e : TypeId} {w w' : World} {m : M}
theorem Kd.Own.upto (h : k.Own B w.heap.size w m) (hb : Below w.heap.size w w') : k.Own B w'.heap.size w' m := (h.on hb).mono (Nat.le_refl _) hb.size
theorem sub_flat {γ δ : Type} (f : γ → List δ) {l l' : List γ} (h : l'.Sublist l) : (l'.flatMap f).Sublist (l.flatMap f) := by
  induction h with
  | slnil => exact List.Sublist.refl _
  | cons a _ ih => rw [List.flatMap_cons]; exact ih.trans (List.sublist_append_right _ _)
  | cons_cons a _ ih => rw [List.flatMap_cons, List.flatMap_cons]; exact (List.Sublist.refl _).append ih
theorem Kd.sub (hN : k.NoRow e) {r : Rw M} (h : (k.slice e).Own B C w r) {L' : List M} (hs : L'.Sublist r.els) {row : Option Nat} (hg : w.grownBy w' row) (hr : ∀ g, row = some g → r.v.ownBlock = some g)
    {ad : Option Addr} {n cap : Nat} (ho : OwnK e k.cells k.size B w' (.slice ad n cap) L') : (k.slice e).Own B w'.heap.size w' ⟨ad, n, cap, L'⟩ := by
  have hnd : (r.v.ownBlock.toList ++ r.els.flatMap k.blocks).Nodup := h.2.1
  have hnd2 := List.nodup_append.1 hnd
  have hel : ∀ y ∈ L', k.own B w' y := fun y hy => k.own_keep (h.1.2 y (hs.subset hy)) (fun g hgy => hg.block g (k.own_lt (h.1.2 y (hs.subset hy)) g hgy).2 (fun er => hnd2.2.2 g (by rw [hr g er.symm]; simp) g (List.mem_flatMap.2 ⟨y, hs.subset hy, hgy⟩) rfl))
  refine ⟨⟨ho, hel⟩, ?_, fun g hgm => ?_⟩
  · show ((Rw.v ⟨ad, n, cap, L'⟩).ownBlock.toList ++ L'.flatMap k.blocks).Nodup
    rw [List.nodup_append]
    refine ⟨by cases (Rw.v ⟨ad, n, cap, L'⟩).ownBlock <;> simp, hnd2.2.1.sublist (sub_flat k.blocks hs), fun a ha b hb eab => ?_⟩
    obtain ⟨y, hy, hyb⟩ := List.mem_flatMap.1 hb
    obtain ⟨cs, hc⟩ := ho.row (g := a) (show (Value.slice ad n cap).ownBlock = some a from Option.mem_toList.1 ha)
    rw [eab] at hc
    exact hN B w' y (hel y hy) b hyb cs hc
  · rcases List.mem_append.1 (show g ∈ (Rw.v ⟨ad, n, cap, L'⟩).ownBlock.toList ++ L'.flatMap k.blocks from hgm) with hgm | hgm
    · exact (ho.lt g (show (Value.slice ad n cap).ownBlock = some g from Option.mem_toList.1 hgm)).2
    · obtain ⟨y, hy, hyb⟩ := List.mem_flatMap.1 hgm
      exact (k.own_lt (hel y hy) g hyb).2
end
section
variable {P : Program} {α : Type} {enc : α → List Value} {sz : Nat} {e t : TypeId} {bytes : Nat} {z : Value}
end
def ClosR {α M : Type} (P : Program) (k : Kd α M) (fid : FuncId) (cap : Array Value) (p : α → Bool) (ok : α → Prop) (w : World) (row : Option Nat) : Prop :=
  ∀ (x : α) (V : Value) (W : World), w.grownBy W row → k.At W V x → ok x → Calls P fid (#[V] ++ cap) W fun e w' => e = .returned (.bool (p x)) ∧ Below W.heap.size W w'
theorem ClosR.plain {α M : Type} {P : Program} {k : Kd α M} {fid : FuncId} {cap : Array Value} {p : α → Bool} {ok : α → Prop} {w : World} {row : Option Nat} (h : ClosR P k fid cap p ok w row) : ClosK P k fid cap p ok w := fun x V W hW => h x V W (Sl.grown_of_below hW row)
structure MidK {M : Type} [Inhabited M] (q : M → Bool) (L L' : List M) (i j : Nat) : Prop where
  len : L'.length = L.length
  head : L'.take i = (L.take j).filter q
  rest : ∀ r, j ≤ r → r < L.length → nth L' r = nth L r
  lt : i < j
theorem MidK.keep {M : Type} [Inhabited M] {q : M → Bool} {L L' : List M} {i j : Nat} (h : MidK q L L' i j) (hj : j < L.length) (hq : q (nth L j) = true) : MidK q L (L'.set i (nth L j)) (i + 1) (j + 1) := by
  have h1 := h.len
  have h2 := h.lt
  refine ⟨by simp [h1], ?_, fun r hr hr2 => ?_, by omega⟩
  · rw [List.take_succ_eq_append_getElem (by simp; omega), List.getElem_set_self, List.take_set_of_le (Nat.le_refl _), h.head, filter_nx hj hq]
  · rw [← h.rest r (by omega) hr2]
    simp only [nth, List.getD]
    rw [List.getElem?_set_ne (by omega)]
theorem MidK.skip {M : Type} [Inhabited M] {q : M → Bool} {L L' : List M} {i j : Nat} (h : MidK q L L' i j) (hj : j < L.length) (hq : q (nth L j) = false) : MidK q L L' i (j + 1) := by
  refine ⟨h.len, ?_, fun r hr hr2 => h.rest r (by omega) hr2, by have := h.lt; omega⟩
  rw [h.head, filter_sk hj hq]
theorem MidK.start {M : Type} [Inhabited M] {q : M → Bool} {L : List M} {i : Nat} (hi : i < L.length) (hn : ∀ j, j < i → q (nth L j) = true) (hp : q (nth L i) = false) : MidK q L L i (i + 1) := by
  refine ⟨rfl, ?_, fun r _ _ => rfl, by omega⟩
  rw [filter_sk hi hp]
  symm
  rw [List.filter_eq_self]
  intro x hx
  obtain ⟨j, hj, rfl⟩ := List.getElem_of_mem hx
  have hji : j < i := by simp at hj; omega
  have := hn j hji
  rw [nth_eq (by omega)] at this
  rw [List.getElem_take, this]
end Go.Proofs.Ytjphnlkdbhcblaa.Row
/- Copies: what they need. No conditions. -/
namespace Go.Proofs.Ytjphnlkdbhcblaa.Row
open Go.ChangeShapes Go.WideShapes Go.ChangeAt Go.RowKit Go.Instr
set_option linter.unusedVariables false
set_option maxRecDepth 100000
theorem one_k {α M : Type} {k : Kd α M} (hs : Sz k.cells k.size) {e : TypeId} {W : World} {m : M} {cs : List Value} (hd : k.cells m = cs) : HoldsK k.cells k.size (W.alloc (.cells cs.toArray e)) (.slice (some ⟨W.heap.size, 0, none⟩) 1 1) [m] := by
  subst hd
  exact holdsK_one hs e W m
theorem Kd.Own.top {α M : Type} {k : Kd α M} {B E : Nat} {w : World} {m : M} (h : k.Own B E w m) : ∀ g ∈ k.blocks m, g < w.heap.size := fun g hg => (h.lt g hg).2.2
theorem Kd.Own.cap {α M : Type} {k : Kd α M} {B E : Nat} {w : World} {m : M} (h : k.Own B E w m) : k.Own B w.heap.size w m := ⟨h.1, h.2.1, fun g hg => (h.lt g hg).2.2⟩
theorem pi_join {B E E' : Nat} {w : World} {m1 : Rw ByteArray} {m2 : Rw Rqm} {u : Int} (h : kN.Own B E w m1) (g : kLRq.Own B E' w m2) (hd : ∀ q ∈ kN.blocks m1, q ∉ kLRq.blocks m2) (N : Nat) (h1 : ∀ g ∈ kN.blocks m1, g < N) (h2 : ∀ g ∈ kLRq.blocks m2, g < N) : kPi.Own B N w ((m1, m2, u) : Pim) := by
  have hn : kN.Own B N w m1 := ⟨h.1, h.2.1, h1⟩
  have hq : kLRq.Own B N w m2 := ⟨g.1, g.2.1, h2⟩
  have hr : (kLRq.pair kInt).Own B N w (m2, u) := Kd.Own.join hq (Kd.own_scalar _ _ _ _) (fun q _ h => by cases h)
  refine Kd.Own.join hn hr (fun q hq1 hq2 => ?_)
  rcases List.mem_append.1 (show q ∈ kLRq.blocks m2 ++ kInt.blocks u from hq2) with h | h
  · exact hd q hq1 h
  · cases h
theorem kN_splitP {B E : Nat} {w : World} {V : Value} {x : List ByteArray} (h : kN.In B E w V x) : ∃ (m1 : Rw ByteArray) (ya : Option Addr) (ma da : Nat), V = .agg #[.slice ya ma da] ∧ kN.strip m1 = x ∧ kN.cells m1 = [.slice ya ma da] ∧ kN.Own B E w m1 := by
  obtain ⟨m1, rfl, rfl, ho⟩ := h.split
  obtain ⟨ya, ma, da, e, -⟩ := kN_shapeA (Kd.at_of (k := kN) ho.holds)
  exact ⟨m1, ya, ma, da, e, rfl, by injection e with e; exact congrArg Array.toList e, ho⟩
theorem rq_map (L : List Rqm) : L.map kRq.strip = L := by
  rw [show kRq.strip = id from rfl]
  exact List.map_id L
theorem kLRq_own {B E : Nat} {w : World} {x : Option Addr} {n c : Nat} {L : List Rqm} (h : OwnK 91 kRq.cells 3 B w (.slice x n c) L) (hE : w.heap.size ≤ E) : kLRq.Own B E w ⟨x, n, c, L⟩ := by
  have hb : kLRq.blocks ⟨x, n, c, L⟩ = (Value.slice x n c).ownBlock.toList := by
    show (Value.slice x n c).ownBlock.toList ++ L.flatMap kRq.blocks = _
    have : L.flatMap kRq.blocks = [] := by
      rw [List.flatMap_eq_nil_iff]; intro y _; rfl
    rw [this, List.append_nil]
  refine ⟨⟨h, fun y _ => ⟨trivial, trivial, trivial⟩⟩, ?_, ?_⟩
  · rw [hb]; cases (Value.slice x n c).ownBlock <;> simp
  · rw [hb]
    intro g hg
    have := (h.lt g (by simpa using hg)).2
    omega
set_option maxHeartbeats 2000000 in
theorem iClnQ (V : Value) (l : List Rqt) (w : World) (h : kLRq.At w V l) (hl : l.length ≤ 9000000) :
    Calls Try.prog 126 #[V] w fun e w' => ∃ U, e = .returned U ∧ kLRq.In w.heap.size w'.heap.size w' U l ∧ Below w.heap.size w w' := by
  obtain ⟨x, n, c, L, rfl, hn, ht, hh, hel⟩ := kLRq_at h
  have hlen : l.length = L.length := by rw [← ht, List.length_map]
  have hL9 : L.length ≤ 9000000 := by omega
  have HT := Lib.hid ht
  subst hn
  cases x with
  | none =>
    have hl0 : L = [] := by
      obtain ⟨x', cap', hv, hc', hh'⟩ := hh
      cases hv
      rcases hh' with h1 | ⟨b, off, h1, _⟩
      · exact h1
      · cases h1
    subst hl0
    have hq : ∀ w : World, (binOp .eql 68 (.slice none 0 c) (.slice none 0 0)).run Try.prog w = .ok (.bool true) w := fun w => by
      exact Lib.run_eql_slice_nil w _ _ _ _ _ _ _ Try.underlying68
    clear hh h hel ht hlen
    simp only [List.length_nil]
    go_enter Try.func126, Try.ntmps126
    go_wp2
    go_ret
    exact ⟨_, rfl, HT.out ▸ (kLRq_own (OwnK.nil _ _ _ _ _) (Nat.le_refl _)).in, Below.refl _ _⟩
  | some ad =>
    have HB := Lib.hid ((Below.refl w.heap.size w).alloc (Nat.le_refl _) (.cells #[] 91))
    have HH := Lib.hid (hh.on HB.out)
    have HO := Lib.hid (ownK_empty kRq.cells 3 91 w)
    have hq : ∀ w : World, (binOp .eql 68 (.slice (some ad) L.length c) (.slice none 0 0)).run Try.prog w = .ok (.bool false) w := fun w => by
      exact Lib.run_eql_slice_nil w _ _ _ _ _ _ _ Try.underlying68
    clear hh h hel ht hlen
    go_enter Try.func126, Try.ntmps126
    go_wp2_with (at_builtin; refine wpList_appK kindRq (B := w.heap.size) (l := []) (m := L) rfl _ _ rfl Try.underlying68 rfl rfl HO.out HH.out (by simp; omega) (by unfold maxLen; simp; omega) (by simp) ?_)
    intro v2 w2 ho hg
    obtain ⟨x2, n2, c2, rfl, -, -, ho⟩ := ho.shapeN
    have HO2 := Lib.hid ho; have HB2 := Lib.hid (HB.out.grown hg (by simp) (fun g hh => (HO.out.lt g hh).1))
    clear ho hg
    go_wp2_with fail
    go_ret
    exact ⟨_, rfl, HT.out ▸ (kLRq_own HO2.out (Nat.le_refl _)).in, HB2.out⟩
end Go.Proofs.Ytjphnlkdbhcblaa.Row
/- wantedRequesters: what its iterator hands to a loop. No conditions but that lengths fit. -/
namespace Go.Proofs.Ytjphnlkdbhcblaa.Row
open Go.ChangeShapes Go.WideShapes Go.ChangeAt Go.RowKit Go.Instr
open Go.Shelf
attribute [local go_sem] Oper.semAt_some
set_option linter.unusedVariables false
set_option maxRecDepth 100000
def rqV (x : Rqt) : Value := .agg #[.int .i64 x.1, .int .i64 x.2.1, .int .i64 x.2.2]
theorem at_rqV (w : World) (x : Rqt) : kRq.At w (rqV x) x := kRq_of
theorem belowK_t9 {n₀ : Nat} {X Y Z : World} (h : Below n₀ X Y) (k : Below n₀ Y Z) : Below n₀ X Z := h.trans k
theorem grown_none {W W' : World} (h : Below W.heap.size W W') : W.grownBy W' none := Sl.grown_of_below h none
set_option maxHeartbeats 4000000 in
theorem wantE (n : Nat) (hn : 1 ≤ n) (l Bl Bf Bc n₀ : Nat) (x : Option Addr) (len cap : Nat) (L : List Rqm) (p : Rqt → Bool) (w0 : World) (hw0 : w0.heap.size = n₀) (hl9 : len ≤ 9000000) (hlen : len = L.length) (hlc : len ≤ cap)
    (J Jx : List Rqt → World → Prop) (hJ : ∀ s W W', J s W → Below W.heap.size W W' → J s W')
    (hc : ClosK Try.prog kRq 103 #[.pointer (some ⟨Bc, 0, none⟩)] p (fun _ => True) w0) (hBl : w0.cell? ⟨Bl, 0, none⟩ = some (.slice x len cap)) (hBf : w0.cell? ⟨Bf, 0, none⟩ = some (.func (.func 103) #[] #[.pointer (some ⟨Bc, 0, none⟩)])) (hh : HoldsK kRq.cells 3 w0 (.slice x len cap) L)
    (hY : ∀ pre y W, J pre W → pre.length < (L.filter p).length → YieldAt Fence.wide (n - 1) Try.prog l #[rqV y] W fun e W' =>
      (e = .returned (.bool true) ∧ J (pre ++ [y]) W' ∧ Below n₀ W W') ∨ (e = .returned (.bool false) ∧ Jx (pre ++ [y]) W'))
    (W : World) (hW : Below n₀ w0 W) (h0 : J [] W) :
    CallsIn Fence.wide n Try.prog 134 #[.func (.yield l) #[] #[], .pointer (some ⟨Bl, 0, none⟩), .pointer (some ⟨Bf, 0, none⟩)] W fun e W' => (∃ v, e = .returned v) ∧ (J (L.filter p) W' ∨ ∃ pre, Jx pre W') := by
  refine callsIn_of_wp Try.func134 rfl trivial ?_ rfl
  simp only [Try.ntmps134, List.size_toArray, List.length_cons, List.length_nil, Nat.reduceAdd, Nat.reduceSub, Array.replicate_succ, Array.replicate_zero, List.push_toArray, List.append_toArray, List.nil_append, List.cons_append]
  have q0 : W.cell? ⟨Bl, 0, none⟩ = some (.slice x len cap) := (hW.cell (by rw [← hw0]; exact Ret.cell_lt hBl)).trans hBl
  have HC := Lib.hid hc; have HBl := Lib.hid hBl; have HBf := Lib.hid hBf; have HH := Lib.hid hh; have HW0 := Lib.hid hw0; have HY := Lib.hid hY; have HJ := Lib.hid hJ; have HLEN := Lib.hid hlen
  clear hc hBl hBf hh hw0 hY hJ hlen
  gi_wp2
  gi_loopw [8] (fun iv wr => ∃ k : Nat, k ≤ len ∧ iv = .int .i64 k ∧ J ((L.take k).filter p) wr ∧ Hid (Below n₀ w0 wr)) (fun iv _ => len - (intOf iv).toNat)
  case atStart => exact ⟨0, Nat.zero_le _, rfl, h0, Lib.hid hW⟩
  case round =>
    obtain ⟨k, hk, rfl, hJs, hb⟩ := hrel
    by_cases hlt : k < len
    · have hlen := HLEN.out
      have hb0 : Below w0.heap.size w0 wr := by rw [HW0.out]; exact hb.out
      obtain ⟨b, off, rfl, hcm⟩ := HH.out.at szRq_cells (j := k) (by omega)
      obtain ⟨f, u, e, hx⟩ : ∃ f u e, nth L k = (f, u, e) := ⟨_, _, _, rfl⟩
      have hcc : ∀ i, i < 3 → wr.cell? ⟨b, off + k * 3 + i, none⟩ = ([.int .i64 f, .int .i64 u, .int .i64 e] : List Value)[i]? := fun i hi => by
        have h5 := hcm i hi
        rw [hx, ← Nat.add_assoc] at h5
        have h6 : ([.int .i64 f, .int .i64 u, .int .i64 e] : List Value)[i]? = some (([.int .i64 f, .int .i64 u, .int .i64 e] : List Value)[i]'hi) := List.getElem?_eq_getElem hi
        rw [h6]
        exact kc (h5.trans h6) hb0
      have c0 : wr.cell? ⟨b, off + k * 3, none⟩ = some (.int .i64 f) := hcc 0 (by decide)
      have c1 : wr.cell? ⟨b, off + k * 3 + 1, none⟩ = some (.int .i64 u) := hcc 1 (by decide)
      have c2 : wr.cell? ⟨b, off + k * 3 + 2, none⟩ = some (.int .i64 e) := hcc 2 (by decide)
      have hal := (Below.refl wr.heap.size wr).alloc (Nat.le_refl _) (.cells #[.int .i64 f, .int .i64 u, .int .i64 e] 91)
      have f0 : (wr.alloc (.cells #[.int .i64 f, .int .i64 u, .int .i64 e] 91)).cell? ⟨Bf, 0, none⟩ = some (.func (.func 103) #[] #[.pointer (some ⟨Bc, 0, none⟩)]) := kc (kc HBf.out hb0) hal
      have HX := Lib.hid (Ret.Blk.new wr #[.int .i64 f, .int .i64 u, .int .i64 e] 91)
      have HB1 := Lib.hid (hb.out.trans (hal.mono (by have := hb.out.size; have := HW0.out; omega)))
      obtain ⟨q, hq⟩ : ∃ q, p (f, u, e) = q := ⟨_, rfl⟩
      have HCL := HC.out (f, u, e) (rqV (f, u, e)) (wr.alloc (.cells #[.int .i64 f, .int .i64 u, .int .i64 e] 91)) (by rw [HW0.out]; exact HB1.out) (at_rqV _ _) trivial
      rw [hq] at HCL
      replace HCL := Lib.hid HCL
      have HJ1 := Lib.hid (HJ.out _ _ _ hJs hal)
      have HQ := Lib.hid hq; have HXE := Lib.hid hx
      clear hcm hcc hx hal hq hlen hb0 hJs
      have hkl : k < L.length := by have := HLEN.out; omega
      cases q with
      | false =>
        have HF := Lib.hid (show (L.take (k + 1)).filter p = (L.take k).filter p from filter_sk hkl (by rw [HXE.out]; exact HQ.out))
        gi_wp2
        refine ⟨trivial, ?_⟩
        gi_at_call 103
        refine (callsIn_wide.2 HCL.out).mono ?_
        rintro e' w2 ⟨rfl, hb2⟩
        have HB2 := Lib.hid (HB1.out.trans (hb2.mono (by have := HB1.out.size; have := HW0.out; omega)))
        have HJ2 := Lib.hid (HJ.out _ _ _ HJ1.out hb2)
        have hx2 := (HX.out.on hb2)
        have x0 : w2.cell? ⟨wr.heap.size, 0, none⟩ = some (.int .i64 f) := hx2.cell 0
        have x1 : w2.cell? ⟨wr.heap.size, 1, none⟩ = some (.int .i64 u) := hx2.cell 1
        have x2 : w2.cell? ⟨wr.heap.size, 2, none⟩ = some (.int .i64 e) := hx2.cell 2
        clear hb2 hx2
        gi_wp2
        refine ⟨(fun f hf => nomatch hf), ?_⟩
        gi_wp2
        go_roundw
        case rel => exact ⟨k + 1, by omega, by go_num, HF.out ▸ HJ2.out, HB2⟩
        case measure => simp [intOf]; omega
      | true =>
        have HF := Lib.hid (show (L.take (k + 1)).filter p = (L.take k).filter p ++ [(f, u, e)] from by rw [filter_nx hkl (by rw [HXE.out]; exact HQ.out), HXE.out])
        have hlt2 : ((L.take k).filter p).length < (L.filter p).length := by
          have h5 : ((L.take (k + 1)).filter p).length ≤ (L.filter p).length := (List.Sublist.filter _ (List.take_sublist _ _)).length_le
          rw [HF.out, List.length_append] at h5
          simp only [List.length_singleton] at h5
          omega
        gi_wp2
        refine ⟨trivial, ?_⟩
        gi_at_call 103
        refine (callsIn_wide.2 HCL.out).mono ?_
        rintro e' w2 ⟨rfl, hb2⟩
        have HB2 := Lib.hid (HB1.out.trans (hb2.mono (by have := HB1.out.size; have := HW0.out; omega)))
        have HJ2 := Lib.hid (HJ.out _ _ _ HJ1.out hb2)
        have hx2 := (HX.out.on hb2)
        have x0 : w2.cell? ⟨wr.heap.size, 0, none⟩ = some (.int .i64 f) := hx2.cell 0
        have x1 : w2.cell? ⟨wr.heap.size, 1, none⟩ = some (.int .i64 u) := hx2.cell 1
        have x2 : w2.cell? ⟨wr.heap.size, 2, none⟩ = some (.int .i64 e) := hx2.cell 2
        clear hb2 hx2
        obtain ⟨fn, tmps, assign, body, hy, hR⟩ := HY.out _ (f, u, e) w2 HJ2.out hlt2
        unfold rqV at hy
        dsimp only at hy
        gi_wp2
        refine hR.mono ?_
        rintro e' W3 (⟨rfl, hJ3, hk3⟩ | ⟨rfl, hJx3⟩)
        · have HB3 := Lib.hid (HB2.out.trans hk3)
          gi_wp2
          go_roundw
          case rel => exact ⟨k + 1, by omega, by go_num, HF.out ▸ hJ3, HB3⟩
          case measure => simp [intOf]; omega
        · gi_wp2
          refine bodyPost_ret (results_none rfl _ _ _) rfl ?_
          exact ⟨⟨_, rfl⟩, .inr ⟨_, hJx3⟩⟩
    · obtain rfl : k = len := by omega
      have HF := Lib.hid (show (L.take k).filter p = L.filter p by rw [List.take_of_length_le (by rw [HLEN.out]; exact Nat.le_refl _)])
      gi_wp2
      go_end0
      exact ⟨⟨_, rfl⟩, .inl (HF.out ▸ hJs)⟩
end Go.Proofs.Ytjphnlkdbhcblaa.Row
/- slices.Collect over wantedRequesters. No conditions but that lengths fit. -/
namespace Go.Proofs.Ytjphnlkdbhcblaa.Row
open Go.ChangeShapes Go.WideShapes Go.ChangeAt Go.RowKit Go.Instr
open Go.Shelf
attribute [local go_sem] Oper.semAt_some
set_option linter.unusedVariables false
set_option maxRecDepth 100000
theorem blk3_new (W : World) (a b c : Value) (t : TypeId) (j : Nat) (u : Value) (hj : [a, b, c][j]? = some u) : (W.alloc (.cells #[a, b, c] t)).cell? ((⟨W.heap.size, 0, none⟩ : Addr).add j) = some u := by
  have h5 := (Ret.Blk.new W #[a, b, c] t).cell j
  have h7 : (⟨W.heap.size, 0, none⟩ : Addr).add j = ⟨W.heap.size, j, none⟩ := by simp [Addr.add]; intro h; exact h.symm
  rw [h7]
  refine h5.trans ?_
  simpa using hj
theorem blk_own {g : Nat} {cs : Array Value} {t : TypeId} : Go.Own (fun (_ : Unit) W => Ret.Blk W g cs t) := fun s X Y row hs hg hrow => by
  refine (hg.block g hs.lt (fun e => ?_)).trans hs
  obtain ⟨o, ho, hc⟩ := hrow g e.symm
  rw [show X.heap[g]? = _ from hs] at ho
  cases ho
  cases hc
theorem stopsE (n : Nat) (hn : 1 ≤ n) (Bl Bf Bc : Nat) (x : Option Addr) (len cap : Nat) (L : List Rqm) (p : Rqt → Bool) (w0 : World) (hl9 : len ≤ 9000000) (hlen : len = L.length) (hlc : len ≤ cap)
    (hc : ClosK Try.prog kRq 103 #[.pointer (some ⟨Bc, 0, none⟩)] p (fun _ => True) w0) (hBl : w0.cell? ⟨Bl, 0, none⟩ = some (.slice x len cap)) (hBf : w0.cell? ⟨Bf, 0, none⟩ = some (.func (.func 103) #[] #[.pointer (some ⟨Bc, 0, none⟩)])) (hh : HoldsK kRq.cells 3 w0 (.slice x len cap) L) :
    SeqStopsK Fence.wide n Try.prog 134 #[.pointer (some ⟨Bl, 0, none⟩), .pointer (some ⟨Bf, 0, none⟩)] (fun y : Rqt => #[.agg #[.int .i64 y.1, .int .i64 y.2.1, .int .i64 y.2.2]]) (Below w0.heap.size) (fun ys => ys = L.filter p) (fun _ => True) (L.filter p).length w0 := fun l J Jx W hW hJ _ hY h0 =>
  (wantE n hn l Bl Bf Bc w0.heap.size x len cap L p w0 rfl hl9 hlen hlc J Jx (fun s X Y hs hb => hJ s X Y none hs (grown_none hb) (fun r e => by cases e)) hc hBl hBf hh hY W hW h0).mono fun e W' h =>
    ⟨h.1, h.2.elim (fun h => .inl ⟨_, rfl, h⟩) (fun ⟨pre, h⟩ => .inr ⟨pre, trivial, h⟩)⟩
set_option maxRecDepth 100000 in
set_option maxHeartbeats 8000000 in
theorem appSeqE (Bl Bf Bc : Nat) (x : Option Addr) (len cap : Nat) (L : List Rqm) (p : Rqt → Bool) (w : World) (hl9 : len ≤ 1200000) (hlen : len = L.length) (hlc : len ≤ cap)
    (hc : ClosK Try.prog kRq 103 #[.pointer (some ⟨Bc, 0, none⟩)] p (fun _ => True) w) (hBl : w.cell? ⟨Bl, 0, none⟩ = some (.slice x len cap)) (hBf : w.cell? ⟨Bf, 0, none⟩ = some (.func (.func 103) #[] #[.pointer (some ⟨Bc, 0, none⟩)])) (hh : HoldsK kRq.cells 3 w (.slice x len cap) L) :
    Calls Try.prog 133 #[.slice none 0 0, .func (.func 134) #[] #[.pointer (some ⟨Bl, 0, none⟩), .pointer (some ⟨Bf, 0, none⟩)]] w fun e w' => ∃ v, e = .returned v ∧ OwnK 91 kRq.cells 3 w.heap.size w' v (L.filter p) ∧ Below w.heap.size w w' := by
  have HSQ := Lib.hid (stopsE 2 (by decide) Bl Bf Bc x len cap L p w (by omega) hlen hlc hc hBl hBf hh)
  have hfl : (L.filter p).length ≤ 1200000 := Nat.le_trans (List.length_filter_le _ _) (by omega)
  obtain ⟨i0, hi, hz0, hz1, hz2⟩ := info_parts kindRq.elem
  have bO := Boxed.new w 68 (.slice none 0 0)
  have hB0 : Below w.heap.size w (w.alloc (.cells #[.slice none 0 0] 68)) := (Below.refl _ w).alloc (Nat.le_refl _) _
  clear hc hBl hBf hh hlen hlc hl9
  refine (callsIn_wide (n := 3)).1 ?_
  refine callsIn_of_wp_marks Try.func133 rfl trivial ?_ rfl
  simp only [Try.ntmps133, List.size_toArray, List.length_cons, List.length_nil, Nat.reduceAdd, Nat.reduceSub, Array.replicate_succ, Array.replicate_zero, List.push_toArray, List.append_toArray, List.nil_append, List.cons_append]
  gi_wp2
  refine wpIn_rangeFunc_ownH rfl (by omega) (gf := 134) (lb := #[.pointer (some ⟨Bl, 0, none⟩), .pointer (some ⟨Bf, 0, none⟩)]) rfl trivial (enters_of Try.func134 (by kernel_rfl) rfl)
    HSQ.out belowK_t9 (belowK_b (by simp)) hB0 (fun _ => rfl)
    (fun pre W => (∃ v, Boxed W w.heap.size 68 v ∧ W.ownsRow w.heap.size 91 3 v pre.length (flat kRq.cells pre) ∧ True) ∧ Below w.heap.size w W)
    (fun _ _ _ => False)
    (OwnFrom.and (Own.from (holdsRow_own w.heap.size w.heap.size 68 91 3 (fun pre : List Rqt => pre.length) (fun pre => flat kRq.cells pre) (fun _ _ => True)) _) (ownFrom_below (Nat.le_refl _) (by simp)))
    (fun _ _ _ _ _ hs _ _ => hs)
    ⟨⟨_, bO, World.ownsRow_nil _ _ _ _, trivial⟩, hB0⟩
    (fun y a' W => ∃ Bx, w.heap.size < Bx ∧ Ret.Blk W Bx #[.int .i64 y.1, .int .i64 y.2.1, .int .i64 y.2.2] 91 ∧ a' = { tmps := #[.slice none 0 0, .func (.func 134) #[] #[.pointer (some ⟨Bl, 0, none⟩), .pointer (some ⟨Bf, 0, none⟩)], .pointer (some ⟨w.heap.size, 0, none⟩), undef, .slice none 0 0, .pointer (some ⟨Bx, 0, none⟩), .func (.func 134) #[] #[.pointer (some ⟨Bl, 0, none⟩), .pointer (some ⟨Bf, 0, none⟩)], .agg #[.int .i64 y.1, .int .i64 y.2.1, .int .i64 y.2.2], undef, undef, undef, undef, undef], defers := [] })
    (fun y a' _ X Y row hs hg hr => by obtain ⟨Bx, h1, h2, h3⟩ := hs; exact ⟨Bx, h1, blk_own () X Y row h2 hg (fun r e => (hr r e).2), h3⟩)
    ?assign ?body ?done ?stop
  case assign =>
    rintro l pre y W K ⟨⟨v, bS, hrow, -⟩, hB⟩ hK
    gi_wp2
    exact hK _ _ ((KeepsOthers.alloc _ _).from _) ((Below.refl _ W).alloc hB.size _) ⟨⟨v, bS.alloc _, hrow.alloc _, trivial⟩, hB.alloc hB.size _⟩ ⟨W.heap.size, bS.lt, Ret.Blk.new W _ _, rfl⟩
  case body =>
    rintro l pre y a' W hl - ⟨⟨v, hv, hrow, -⟩, hB⟩ ⟨Bx, hBx, bX, rfl⟩ hlt
    have hc := hv.cell
    have x0 := bX.cell 0; have x1 := bX.cell 1; have x2 := bX.cell 2
    have hpl : pre.length + 1 ≤ 1200000 := by omega
    gi_wp2_with (gi_at_builtin; refine wpListIn_append_own _ rfl _ _ 68 rfl w.heap.size 91 i0 (.agg #[.int .i64 0, .int .i64 0, .int .i64 0]) 3 _ Try.underlying68 hi hz0 hz1 hz2 rfl (by decide) _ _ _ rfl (hrow.alloc _) ⟨W.heap.size, 0, none⟩ 1 1 [.int .i64 y.1, .int .i64 y.2.1, .int .i64 y.2.2] rfl rfl (blk3_new W _ _ _ _) (by simp [Value.oneCell']) (by unfold maxLen; omega) (by omega) (by have := hB.size; simp; omega) ?_; intro v' w1 hown' hgrow _; obtain ⟨g', cap', rfl⟩ := ownsRow_succ hown'; obtain ⟨hv1, hv2, hr2, hk2, hb2⟩ := hv.appended (by decide) hrow hB.size (Nat.le_refl _) hown' hgrow; have hc1 := hv1.cell; have hf1 := hv1.frozen)
    exact ⟨hk2.from _, hb2, ⟨_, hv2, by rw [List.length_append, flat_append]; exact hr2, trivial⟩, hB.trans hb2⟩
  case done =>
    rintro D ys W hD rfl ⟨⟨v, hv, hrow, -⟩, hB⟩ hK
    have hc := hv.cell
    gi_wp2
    refine ⟨by simp, .inl ⟨_, _, rfl, run_takeDeferred hK, ?_⟩⟩
    exact ⟨_, results_tmp rfl _ _ _, v, rfl, ownsRow_putObj hrow _ hK rfl, hB.trans (belowK_b (w := w) (Nat.le_refl _) W D _ _ (by simp at hD; omega) hK rfl rfl)⟩
  case stop =>
    rintro D c pre W _ _ h _
    exact h.elim
set_option maxHeartbeats 2000000 in
theorem collectE (Bl Bf Bc : Nat) (x : Option Addr) (len cap : Nat) (L : List Rqm) (p : Rqt → Bool) (w : World) (hl9 : len ≤ 1200000) (hlen : len = L.length) (hlc : len ≤ cap)
    (hc : ClosK Try.prog kRq 103 #[.pointer (some ⟨Bc, 0, none⟩)] p (fun _ => True) w) (hBl : w.cell? ⟨Bl, 0, none⟩ = some (.slice x len cap)) (hBf : w.cell? ⟨Bf, 0, none⟩ = some (.func (.func 103) #[] #[.pointer (some ⟨Bc, 0, none⟩)])) (hh : HoldsK kRq.cells 3 w (.slice x len cap) L) :
    Calls Try.prog 101 #[.func (.func 134) #[] #[.pointer (some ⟨Bl, 0, none⟩), .pointer (some ⟨Bf, 0, none⟩)]] w fun e w' => ∃ v, e = .returned v ∧ OwnK 91 kRq.cells 3 w.heap.size w' v (L.filter p) ∧ Below w.heap.size w w' := by
  have HA := Lib.hid (appSeqE Bl Bf Bc x len cap L p w hl9 hlen hlc hc hBl hBf hh)
  clear hc hBl hBf hh hlen hlc hl9
  go_enter Try.func101, Try.ntmps101
  go_wp2_with fail
  refine HA.out.mono ?_
  rintro e w1 ⟨v, rfl, ho, hb⟩
  obtain ⟨x1, n1, c1, rfl, -, -, ho⟩ := ho.shapeN
  have HO := Lib.hid ho; have HB := Lib.hid hb
  clear ho hb
  go_wp2_with fail
  go_ret
  exact ⟨_, rfl, HO.out, HB.out⟩
end Go.Proofs.Ytjphnlkdbhcblaa.Row
/- Copies: the regions that append one element. No conditions but that lengths fit. -/
namespace Go.Proofs.Ytjphnlkdbhcblaa.Row
open Go.ChangeShapes Go.WideShapes Go.ChangeAt Go.RowKit Go.Instr
set_option linter.unusedVariables false
set_option maxRecDepth 100000
set_option maxRecDepth 100000 in
set_option maxHeartbeats 4000000 in
theorem rcp {Q : Exit → Act → World → Prop} {v0 v1 v2 v4 v6 v7 v8 v9 v10 v11 v12 v13 v14 v15 v16 v17 v18 v19 v20 v21 v22 v23 v24 v25 v26 v27 v28 : Value} {w : World} {Lu : List Pim} {B nu cu : Nat} {xu : Option Addr} (HBW : Hid (B ≤ w.heap.size)) (HLM : Hid (Lu.length ≤ 1100000)) {p n0 c0 n1 c1 : Nat} {x0 x1 : Option Addr} {ls : Int} {nm : List ByteArray} {rq : List Rqt} (HOL : Hid (kLPi.Own B w.heap.size w ⟨xu, nu, cu, Lu⟩)) (HPR : Hid (some p ≠ (Value.slice xu nu cu).ownBlock)) (H_n : Hid (kN.At w (.agg #[.slice x0 n0 c0]) nm)) (H_q : Hid (kLRq.At w (.slice x1 n1 c1) rq)) (HNB : Hid (bulk nm ≤ 1200000)) (HRB : Hid (rq.length ≤ 1200000)) (K0 : Hid (w.cell? ⟨p, 0, none⟩ = some (.slice x0 n0 c0))) (K1 : Hid (w.cell? ⟨p, 1, none⟩ = some (.slice x1 n1 c1))) (K2 : Hid (w.cell? ⟨p, 2, none⟩ = some (.int .i64 ls)))
  (hQ : ∀ (u15 u16 u17 u18 u19 u20 u21 u22 u23 u24 u25 u26 : Value) (x4 : Option Addr) (n4 c4 : Nat) (mm : Pim)  (wx : World), Hid (kPi.strip mm = (nm, rq, ls)) → Hid (kLPi.Own B wx.heap.size wx ⟨x4, n4, c4, Lu ++ [mm]⟩) → Below B w wx → Q .normal ⟨#[v0, v1, v2, .slice x4 n4 c4, v4, .pointer (some ⟨p, 0, none⟩), v6, v7, v8, v9, v10, v11, v12, v13, v14, u15, u16, u17, u18, u19, u20, u21, u22, u23, u24, u25, u26, v27, v28], []⟩ wx) :
  (Code.region 5 #[⟨some 15, .move (.tmp 3), 35, "l13_pend.go:146", #[], none⟩,
   ⟨some 16, .fieldAddr 101 (.tmp 5) 0, 0, "l13_pend.go:146", #[], none⟩,
   ⟨some 17, .load 27 (.tmp 16), 27, "l13_pend.go:146", #[⟨1, .data⟩], none⟩,
   ⟨some 18, .call ⟨.value (.func 95), #[.tmp 17], #[27]⟩, 27, "l13_pend.go:146", #[⟨2, .data⟩], none⟩,
   ⟨some 19, .fieldAddr 101 (.tmp 5) 1, 0, "l13_pend.go:146", #[], none⟩,
   ⟨some 20, .load 68 (.tmp 19), 68, "l13_pend.go:146", #[⟨4, .data⟩], none⟩,
   ⟨some 21, .call ⟨.value (.func 126), #[.tmp 20], #[68]⟩, 68, "l13_pend.go:146", #[⟨5, .data⟩, ⟨3, .chain⟩], none⟩,
   ⟨some 22, .fieldAddr 101 (.tmp 5) 2, 0, "l13_pend.go:146", #[], none⟩,
   ⟨some 23, .load 3 (.tmp 22), 3, "l13_pend.go:146", #[⟨7, .data⟩], none⟩,
   ⟨some 24, .build 101 #[(0, .tmp 18), (1, .tmp 21), (2, .tmp 23)], 101, "l13_pend.go:146", #[⟨3, .data⟩, ⟨6, .data⟩, ⟨8, .data⟩], none⟩,
   ⟨some 25, .buildSlice 35 1 #[(0, .tmp 24)], 35, "l13_pend.go:146", #[⟨9, .data⟩], none⟩,
   ⟨some 26, .call ⟨.builtin .append, #[.tmp 15, .tmp 25], #[35, 35]⟩, 35, "l13_pend.go:146", #[⟨0, .data⟩, ⟨10, .data⟩, ⟨6, .chain⟩], none⟩,
   ⟨some 3, .assign (.tmp 26), 35, "l13_pend.go:146", #[⟨11, .data⟩, ⟨11, .chain⟩, ⟨0, .phase⟩, ⟨1, .phase⟩, ⟨2, .phase⟩, ⟨3, .phase⟩, ⟨4, .phase⟩, ⟨5, .phase⟩, ⟨6, .phase⟩, ⟨7, .phase⟩, ⟨8, .phase⟩, ⟨9, .phase⟩, ⟨10, .phase⟩, ⟨11, .phase⟩], none⟩] true).wp Try.prog Q ⟨#[v0, v1, v2, .slice xu nu cu, v4, .pointer (some ⟨p, 0, none⟩), v6, v7, v8, v9, v10, v11, v12, v13, v14, v15, v16, v17, v18, v19, v20, v21, v22, v23, v24, v25, v26, v27, v28], []⟩ w := by
 have HQ := Lib.hid hQ; clear hQ
 have hdr : Below w.heap.size w w.drew := (Below.refl _ _).drew
 have BB := Lib.hid hdr
 have BX := Lib.hid (BB.out.mono HBW.out)
 refine wp_region_noPanic ?_
 refine wp_region_held_drew (S := (fun w' => w'.cell? ⟨p, 0, none⟩ = some (.slice x0 n0 c0) ∧ w'.cell? ⟨p, 1, none⟩ = some (.slice x1 n1 c1) ∧ w'.cell? ⟨p, 2, none⟩ = some (.int .i64 ls))) (by kernel_rfl) ?_ (fun hHeld => ?_)
 ·
  exact ⟨kc K0.out BB.out, kc K1.out BB.out, kc K2.out BB.out⟩
 clear hdr
 generalize w.drew = wd at *
 refine wpAnyH_take (i := 0) (oi := ⟨some 15, .move (.tmp 3), 35, "l13_pend.go:146", #[], none⟩) (v := ?_) rfl (by kernel_rfl) (by kernel_rfl) (by kernel_rfl) (fun _ _ _ h => h) (Or.inl ⟨by rfl, ?_⟩) (by assumption) ?_
 rotate_left
 ·
  intro w' hSw; (try dsimp only at hSw); first | (go_simp; done) | (go_simp; with_reducible rfl)
 (try simp only [Act.put, Row.pB0, Row.pB1, Row.pB2])
 refine wpAnyH_take (i := 1) (oi := ⟨some 16, .fieldAddr 101 (.tmp 5) 0, 0, "l13_pend.go:146", #[], none⟩) (v := ?_) rfl (by kernel_rfl) (by kernel_rfl) (by kernel_rfl) (fun _ _ _ h => h) (Or.inl ⟨by rfl, ?_⟩) (by assumption) ?_
 rotate_left
 ·
  intro w' hSw; (try dsimp only at hSw); first | (go_simp; done) | (go_simp; with_reducible rfl)
 (try simp only [Act.put, Row.pB0, Row.pB1, Row.pB2])
 refine wpAnyH_take (i := 2) (oi := ⟨some 17, .load 27 (.tmp 16), 27, "l13_pend.go:146", #[⟨1, .data⟩], none⟩) (v := ?_) rfl (by kernel_rfl) (by kernel_rfl) (by kernel_rfl) (fun _ _ _ h => h) (Or.inl ⟨by rfl, ?_⟩) (by assumption) ?_
 rotate_left
 ·
  intro w' hSw; (try dsimp only at hSw); first | (go_simp; done) | (go_simp; with_reducible rfl)
 (try simp only [Act.put, Row.pB0, Row.pB1, Row.pB2])
 refine wpAnyH_take (i := 4) (oi := ⟨some 19, .fieldAddr 101 (.tmp 5) 1, 0, "l13_pend.go:146", #[], none⟩) (v := ?_) rfl (by kernel_rfl) (by kernel_rfl) (by kernel_rfl) (fun _ _ _ h => h) (Or.inl ⟨by rfl, ?_⟩) (by assumption) ?_
 rotate_left
 ·
  intro w' hSw; (try dsimp only at hSw); first | (go_simp; done) | (go_simp; with_reducible rfl)
 (try simp only [Act.put, Row.pB0, Row.pB1, Row.pB2])
 refine wpAnyH_take (i := 5) (oi := ⟨some 20, .load 68 (.tmp 19), 68, "l13_pend.go:146", #[⟨4, .data⟩], none⟩) (v := ?_) rfl (by kernel_rfl) (by kernel_rfl) (by kernel_rfl) (fun _ _ _ h => h) (Or.inl ⟨by rfl, ?_⟩) (by assumption) ?_
 rotate_left
 ·
  intro w' hSw; (try dsimp only at hSw); first | (go_simp; done) | (go_simp; with_reducible rfl)
 (try simp only [Act.put, Row.pB0, Row.pB1, Row.pB2])
 refine wpAnyH_take (i := 7) (oi := ⟨some 22, .fieldAddr 101 (.tmp 5) 2, 0, "l13_pend.go:146", #[], none⟩) (v := ?_) rfl (by kernel_rfl) (by kernel_rfl) (by kernel_rfl) (fun _ _ _ h => h) (Or.inl ⟨by rfl, ?_⟩) (by assumption) ?_
 rotate_left
 ·
  intro w' hSw; (try dsimp only at hSw); first | (go_simp; done) | (go_simp; with_reducible rfl)
 (try simp only [Act.put, Row.pB0, Row.pB1, Row.pB2])
 refine wpAnyH_take (i := 8) (oi := ⟨some 23, .load 3 (.tmp 22), 3, "l13_pend.go:146", #[⟨7, .data⟩], none⟩) (v := ?_) rfl (by kernel_rfl) (by kernel_rfl) (by kernel_rfl) (fun _ _ _ h => h) (Or.inl ⟨by rfl, ?_⟩) (by assumption) ?_
 rotate_left
 ·
  intro w' hSw; (try dsimp only at hSw); first | (go_simp; done) | (go_simp; with_reducible rfl)
 (try simp only [Act.put, Row.pB0, Row.pB1, Row.pB2])
 refine wpAnyH_ready (rs := [3]) (by kernel_rfl) (by simp) ?_
 refine AllReadyH.cons (o := ⟨some 18, .call ⟨.value (.func 95), #[.tmp 17], #[27]⟩, 27, "l13_pend.go:146", #[⟨2, .data⟩], none⟩) rfl (fun K hK => ?_) AllReadyH.nil
 go_simp
 refine (iCpyN (H_n.out.on BB.out) (Nat.le_trans HNB.out (by decide))).mono ?_
 rintro e wn1 ⟨U1, rfl, hi, hb⟩
 obtain ⟨m1, rfl, hs1, hi⟩ := hi.split
 obtain ⟨ya, ma, da, e1, -⟩ := kN_shapeA (Kd.at_of (k := kN) hi.holds)
 have hd1 : kN.cells m1 = [.slice ya ma da] := by injection e1 with e; exact congrArg Array.toList e
 rw [e1]
 (first | have HDJ := Lib.hid (show ∀ g ∈ kN.blocks m1, g ∉ kLRq.blocks m2 from fun g h1 h2 => by have h5 := (hi.lt g h1).1; have h6 := (OQ.out.lt g h2).2.2; omega) | skip)
 have ON := Lib.hid (hi.mono BB.out.size (Nat.le_refl _)); have HS1 := Lib.hid hs1; have HD1 := Lib.hid hd1
 clear hi hs1 hd1 e1
 replace BB := Lib.hid (BB.out.trans (hb.mono BB.out.size))
 replace BX := Lib.hid (BX.out.trans (hb.mono (Nat.le_trans HBW.out BX.out.size)))
 clear hb
 (try go_wp2_with fail)
 clear hHeld
 refine hK.out _ _ ?_ (fun hHeld => ?_)
 ·
  (try dsimp only); exact ⟨kc K0.out BB.out, kc K1.out BB.out, kc K2.out BB.out⟩
 clear hK K
 (try simp only [Act.put, Row.pB0, Row.pB1, Row.pB2])
 refine wpAnyH_ready (rs := [6]) (by kernel_rfl) (by simp) ?_
 refine AllReadyH.cons (o := ⟨some 21, .call ⟨.value (.func 126), #[.tmp 20], #[68]⟩, 68, "l13_pend.go:146", #[⟨5, .data⟩, ⟨3, .chain⟩], none⟩) rfl (fun K hK => ?_) AllReadyH.nil
 go_simp
 refine (iClnQ _ rq _ (H_q.out.on BB.out) (Nat.le_trans HRB.out (by decide))).mono ?_
 rintro e wn2 ⟨U2, rfl, hi, hb⟩
 obtain ⟨m2, rfl, hs2, hi⟩ := hi.split
 obtain ⟨yb, mb, db, e2, -⟩ := kLRq_shapeA (Kd.at_of (k := kLRq) hi.holds)
 have hd2 : kLRq.cells m2 = [.slice yb mb db] := by show [kLRq.val m2] = _; rw [e2]
 rw [e2]
 (first | have HDJ := Lib.hid (show ∀ g ∈ kN.blocks m1, g ∉ kLRq.blocks m2 from fun g h1 h2 => by have h5 := (hi.lt g h2).1; have h6 := (ON.out.lt g h1).2.2; omega) | skip)
 have OQ := Lib.hid (hi.mono BB.out.size (Nat.le_refl _)); have HS2 := Lib.hid hs2; have HD2 := Lib.hid hd2
 clear hi hs2 hd2 e2
 replace ON := Lib.hid (ON.out.on hb)
 replace BB := Lib.hid (BB.out.trans (hb.mono BB.out.size))
 replace BX := Lib.hid (BX.out.trans (hb.mono (Nat.le_trans HBW.out BX.out.size)))
 clear hb
 (try go_wp2_with fail)
 clear hHeld
 refine hK.out _ _ ?_ (fun hHeld => ?_)
 ·
  (try dsimp only); exact ⟨kc K0.out BB.out, kc K1.out BB.out, kc K2.out BB.out⟩
 clear hK K
 (try simp only [Act.put, Row.pB0, Row.pB1, Row.pB2])
 refine wpAnyH_take (i := 9) (oi := ⟨some 24, .build 101 #[(0, .tmp 18), (1, .tmp 21), (2, .tmp 23)], 101, "l13_pend.go:146", #[⟨3, .data⟩, ⟨6, .data⟩, ⟨8, .data⟩], none⟩) (v := ?_) rfl (by kernel_rfl) (by kernel_rfl) (by kernel_rfl) (fun _ _ _ h => h) (Or.inl ⟨by rfl, ?_⟩) (by assumption) ?_
 rotate_left
 ·
  intro w' hSw; (try dsimp only at hSw); first | (go_simp; done) | (go_simp; with_reducible rfl)
 (try simp only [Act.put, Row.pB0, Row.pB1, Row.pB2])
 refine wpAnyH_ready (rs := [10]) (by kernel_rfl) (by simp) ?_
 refine AllReadyH.cons (o := ⟨some 25, .buildSlice 35 1 #[(0, .tmp 24)], 35, "l13_pend.go:146", #[⟨9, .data⟩], none⟩) rfl (fun K hK => ?_) AllReadyH.nil
 go_simp
 have hb : Below wn2.heap.size wn2 (wn2.alloc (.cells #[.slice ya ma da, .slice yb mb db, .int .i64 (ls)] 101)) := (Below.refl _ _).alloc (Nat.le_refl _) _
 have HSO := Lib.hid (one_k (k := kPi) szPi_cells (e := 101) (W := wn2) (m := ((m1, m2, ls) : Pim)) (cs := [.slice ya ma da, .slice yb mb db, .int .i64 (ls)]) (by show kN.cells m1 ++ (kLRq.cells m2 ++ kInt.cells (ls)) = _; rw [HD1.out, HD2.out]; rfl))
 have HMM := Lib.hid ((pi_join (u := ls) ON.out OQ.out HDJ.out wn2.heap.size ON.out.top OQ.out.top).on hb)
 replace ON := Lib.hid (ON.out.on hb)
 replace OQ := Lib.hid (OQ.out.on hb)
 replace BB := Lib.hid (BB.out.trans (hb.mono BB.out.size))
 replace BX := Lib.hid (BX.out.trans (hb.mono (Nat.le_trans HBW.out BX.out.size)))
 clear hb
 generalize wn2.alloc (.cells #[.slice ya ma da, .slice yb mb db, .int .i64 (ls)] 101) = wn3 at *
 clear hHeld
 refine hK.out _ _ ?_ (fun hHeld => ?_)
 ·
  (try dsimp only); exact ⟨kc K0.out BB.out, kc K1.out BB.out, kc K2.out BB.out⟩
 clear hK K
 (try simp only [Act.put, Row.pB0, Row.pB1, Row.pB2])
 refine wpAnyH_ready (rs := [11]) (by kernel_rfl) (by simp) ?_
 refine AllReadyH.cons (o := ⟨some 26, .call ⟨.builtin .append, #[.tmp 15, .tmp 25], #[35, 35]⟩, 35, "l13_pend.go:146", #[⟨0, .data⟩, ⟨10, .data⟩, ⟨6, .chain⟩], none⟩) rfl (fun K hK => ?_) AllReadyH.nil
 refine step_appK kindPi (B := B) (v := .slice xu nu cu) (l := Lu) (m := [((m1, m2, ls) : Pim)]) rfl _ _ (by rfl) Try.underlying35 (by rfl) (by rfl) ?_ ?_ ?_ ?_ ?_ ?_
 ·
  exact (HOL.out.on BB.out).1.1
 ·
  exact HSO.out
 ·
  have h5 := HLM.out; simp; omega
 ·
  have h5 := HLM.out; unfold maxLen; simp; omega
 ·
  exact Nat.le_trans HBW.out BB.out.size
 intro v4 wn4 ho4 hg4
 obtain ⟨x4, n4, c4, rfl, -, -, ho4⟩ := ho4.shapeN
 have HO4 := Lib.hid (Kd.push_later noRow_kPi (r := ⟨xu, nu, cu, Lu⟩) (HOL.out.on BB.out) HMM.out HBW.out ho4 hg4)
 replace BX := Lib.hid (BX.out.grown hg4 (Nat.le_trans HBW.out BX.out.size) (fun g e => ((HOL.out.on BB.out).1.1.lt g e).1))
 have k0_ := hg4.cell (kc K0.out BB.out) HPR.out
 have k1_ := hg4.cell (kc K1.out BB.out) HPR.out
 have k2_ := hg4.cell (kc K2.out BB.out) HPR.out
 clear ho4 hg4
 clear hHeld
 refine hK.out _ _ ?_ (fun hHeld => ?_)
 ·
  (try dsimp only); exact ⟨k0_, k1_, k2_⟩
 clear hK K k0_ k1_ k2_
 (try simp only [Act.put, Row.pB0, Row.pB1, Row.pB2])
 refine wpAnyH_take (i := 12) (oi := ⟨some 3, .assign (.tmp 26), 35, "l13_pend.go:146", #[⟨11, .data⟩, ⟨11, .chain⟩, ⟨0, .phase⟩, ⟨1, .phase⟩, ⟨2, .phase⟩, ⟨3, .phase⟩, ⟨4, .phase⟩, ⟨5, .phase⟩, ⟨6, .phase⟩, ⟨7, .phase⟩, ⟨8, .phase⟩, ⟨9, .phase⟩, ⟨10, .phase⟩, ⟨11, .phase⟩], none⟩) (v := ?_) rfl (by kernel_rfl) (by kernel_rfl) (by kernel_rfl) (fun _ _ _ h => h) (Or.inl ⟨by rfl, ?_⟩) (by assumption) ?_
 rotate_left
 ·
  intro w' hSw; (try dsimp only at hSw); first | (go_simp; done) | (go_simp; with_reducible rfl)
 (try simp only [Act.put, Row.pB0, Row.pB1, Row.pB2])
 refine wpAnyH_done (by kernel_rfl) ?_ _
 exact NoPanic.normal (HQ.out _ _ _ _ _ _ _ _ _ _ _ _ x4 n4 c4 (m1, m2, ls) _ (Lib.hid (by show (kN.strip m1, kLRq.strip m2, ls) = _; rw [HS1.out, HS2.out])) HO4 BX.out)
end Go.Proofs.Ytjphnlkdbhcblaa.Row
/- Copies of lists of pending interests and of seen nonces, model and program. No conditions but that lengths fit. -/
namespace Go.Proofs.Ytjphnlkdbhcblaa.Row
open Go.ChangeShapes Go.WideShapes Go.ChangeAt Go.RowKit Go.Instr
set_option linter.unusedVariables false
set_option maxRecDepth 100000
theorem kLRq_holds {w : World} {x : Option Addr} {n c : Nat} {l : List Rqt} (h : kLRq.At w (.slice x n c) l) : HoldsK kRq.cells 3 w (.slice x n c) l := by
  obtain ⟨ad, n', cap, L, e, hn, ht, hh, -⟩ := kLRq_at h
  cases e
  rw [rq_map] at ht
  exact ht ▸ hh
set_option maxHeartbeats 8000000 in
theorem iCopyP (V : Value) (l : List Pit) (w : World) (h : kLPi.At w V l) (hf : FitP l) :
    Calls Try.prog 92 #[V] w fun e w' => ∃ U, e = .returned U ∧ kLPi.In w.heap.size w'.heap.size w' U l ∧ Below w.heap.size w w' := by
  have hl := hf.len
  have hp := hf.each
  obtain ⟨x, n, cx, L, rfl, hn, ht, hh, hel⟩ := kLPi_at h
  have hlen : l.length = n := by rw [← ht, List.length_map]; exact hn.symm
  rw [hlen] at hl
  have hcap : n ≤ cx := by obtain ⟨x', n', cap', hv, hn', hc', -⟩ := hh.shapeN; cases hv; exact hc'
  have HN := Lib.hid hn; have HT := Lib.hid ht; have HH := Lib.hid hh; have HEL := Lib.hid hel; have HLEN := Lib.hid hlen; have HP := Lib.hid hp
  clear hn ht hh hel hlen hp h
  obtain ⟨i0, hi, hz0, hz1, hz2⟩ := info_parts kindPi.elem
  have HI := Lib.hid hi; have HZ0 := Lib.hid hz0; have HZ1 := Lib.hid hz1; have HZ2 := Lib.hid hz2
  clear hi hz0 hz1 hz2
  go_enter Try.func92, Try.ntmps92
  go_wp2_with (at_make; refine wpList_make_own _ rfl _ _ 35 rfl w.heap.size 101 i0 (.agg #[.slice none 0 0, .slice none 0 0, .int .i64 0]) 3 Try.underlying35 HI.out HZ0.out HZ1.out _ _ _ n rfl rfl rfl (by rw [HZ2.out]; omega) (by unfold maxLen; omega) (Nat.le_refl _) ?_)
  intro w9 hown hgrow
  have HB := Lib.hid ((Below.refl w.heap.size w).grown hgrow (Nat.le_refl _) (fun g hg => by cases hg))
  have HO := Lib.hid (show kLPi.Own w.heap.size w9.heap.size w9 ⟨some ⟨w.heap.size, 0, none⟩, 0, n, []⟩ from Kd.own_row hown rfl)
  clear hown hgrow HI HZ0 HZ1 HZ2
  go_wp2
  go_loopw [3, 11] (fun uv iv wr => ∃ k : Nat, k ≤ n ∧ iv = .int .i64 k ∧ ∃ xu nu cu Lu, uv = .slice xu nu cu ∧ Hid (Lu.length = k) ∧ Hid (Lu.map kPi.strip = l.take k) ∧ Hid (kLPi.Own w.heap.size wr.heap.size wr ⟨xu, nu, cu, Lu⟩) ∧ Hid (Below w.heap.size w wr)) (fun _ iv _ => n - (intOf iv).toNat)
  case atStart => exact ⟨0, Nat.zero_le _, rfl, some ⟨w.heap.size, 0, none⟩, 0, n, [], rfl, Lib.hid rfl, Lib.hid (by simp), HO, HB⟩
  case round =>
    clear HO HB
    obtain ⟨k, hk, rfl, xu, nu, cu, Lu, rfl, hM, hst, ho, hb⟩ := hrel
    by_cases hlt : k < n
    · have hlen := HN.out
      obtain ⟨b, off, y0, m0, d0, y1, m1, d1, rfl, -, hc0, hc1, hc2, hA⟩ := kLPi_elem HH.out (fun y hy => HEL.out y hy) (j := k) (by omega)
      have hbw := Ret.cell_lt hc0
      have hpt : nth l k = kPi.strip (nth L k) := by rw [← HT.out, nth_map _ (by omega)]
      have hps := HP.out (nth l k) (nth_mem (by have := HLEN.out; omega))
      rw [← hpt] at hA hc2
      replace hA := hA.on hb.out
      replace hc0 := kc hc0 hb.out
      replace hc1 := kc hc1 hb.out
      replace hc2 := kc hc2 hb.out
      obtain ⟨hNM, hRQ⟩ := kPi_parts hA
      have HNM := Lib.hid hNM; have HRQ := Lib.hid hRQ; have HPN := Lib.hid (show bulk (nth l k).1 ≤ 1200000 from (wtPi_lens hps).1); have HPR := Lib.hid (show (nth l k).2.1.length ≤ 1200000 from (wtPi_lens hps).2)
      obtain ⟨nm, rq, ls, hx⟩ : ∃ nm rq ls, nth l k = (nm, rq, ls) := ⟨_, _, _, rfl⟩
      rw [hx] at HNM HRQ HPN HPR hc2 hA
      have HXE := Lib.hid hx
      simp only at HNM HRQ HPN HPR hc2
      clear hNM hRQ hx
      have H0 := Lib.hid hc0; have H1 := Lib.hid hc1; have H2 := Lib.hid hc2
      clear hlen hpt hps hA
      have hal := (Below.refl wr.heap.size wr).alloc (Nat.le_refl _) (.cells #[.slice y0 m0 d0, .slice y1 m1 d1, .int .i64 ls] 101)
      have HXB := Lib.hid (Ret.Blk.new wr #[.slice y0 m0 d0, .slice y1 m1 d1, .int .i64 ls] 101)
      have HPL := Lib.hid (fun e => by have h5 := (ho.out.1.1.lt _ (Eq.symm e)).2; omega : some wr.heap.size ≠ (Value.slice xu nu cu).ownBlock)
      have HOL := Lib.hid (ho.out.upto hal); have hb2 := Lib.hid (hb.out.trans (hal.mono hb.out.size)); have HN2 := Lib.hid (HNM.out.on hal); have HQ2 := Lib.hid (HRQ.out.on hal)
      have HBW := Lib.hid (show w.heap.size ≤ (wr.alloc (.cells #[.slice y0 m0 d0, .slice y1 m1 d1, .int .i64 ls] 101)).heap.size from hb2.out.size)
      have HLM := Lib.hid (show Lu.length ≤ 1100000 by have := hM.out; omega)
      clear hal
      go_wp2_with fail
      clear hc0 hc1 hc2
      refine rcp (B := w.heap.size) (Lu := Lu) HBW HLM HOL HPL HN2 HQ2 HPN HPR (Lib.hid (HXB.out.cell 0)) (Lib.hid (HXB.out.cell 1)) (Lib.hid (HXB.out.cell 2)) ?_
      intro u15 u16 u17 u18 u19 u20 u21 u22 u23 u24 u25 u26 x4 n4 c4 mm wx hs4 ho4 hbx
      have HB4 := Lib.hid (hb2.out.trans hbx)
      have HO4 := ho4
      have HST := Lib.hid (show (Lu ++ [mm]).map kPi.strip = l.take (k + 1) by
        rw [List.map_append, hst.out, take_nx (by have := HLEN.out; omega), HXE.out]
        show _ ++ [kPi.strip mm] = _
        rw [hs4.out])
      clear hbx hs4 ho4
      go_wp2
      go_roundw
      case rel => exact ⟨k + 1, by omega, by go_num, x4, n4, c4, Lu ++ [mm], rfl, Lib.hid (by have := hM.out; simp; omega), HST, HO4, HB4⟩
      case measure => simp [intOf]; omega
    · obtain rfl : k = n := by omega
      clear hlt
      have HE := Lib.hid (show Lu.map kPi.strip = l by rw [hst.out, List.take_of_length_le (by rw [HLEN.out]; exact Nat.le_refl _)])
      go_wp2
      go_ret
      exact ⟨_, rfl, HE.out ▸ (show kLPi.In _ _ _ (.slice xu nu cu) (Lu.map kPi.strip) from ho.out.in), hb.out⟩
end Go.Proofs.Ytjphnlkdbhcblaa.Row
/- The program finds a pending interest: pendingIndex, HasPending, LastSentAt. No conditions but that lengths fit. -/
namespace Go.Proofs.Ytjphnlkdbhcblaa.Row
open Go.ChangeShapes Go.WideShapes Go.ChangeAt Go.RowKit Go.Instr
set_option linter.unusedVariables false
set_option maxRecDepth 100000
end Go.Proofs.Ytjphnlkdbhcblaa.Row
/- The model finds a pending interest: l13Find, HasPending, LastSentAt. No conditions but that lengths fit. -/
namespace Go.Proofs.Ytjphnlkdbhcblaa.Row
open Go.ChangeShapes Go.WideShapes Go.ChangeAt Go.RowKit Go.Instr
set_option linter.unusedVariables false
set_option maxRecDepth 100000
end Go.Proofs.Ytjphnlkdbhcblaa.Row
/- Lists of elements of a kind, marked part by part: what a part's marking leaves of the list. For any kind and any program. No conditions. -/
namespace Go.Proofs.Ytjphnlkdbhcblaa.Row
open Go.ChangeShapes Go.WideShapes Go.ChangeAt Go.RowKit Go.Instr
set_option linter.unusedVariables false
set_option linter.unusedSectionVars false
set_option maxRecDepth 100000
section
variable {α M β N : Type} [Inhabited M] {k : Kd α M} {l : Kd β N} {B E : Nat} {w w' : World} {P : Program}
def MarkF (P : Program) (k : Kd α M) (fn : FuncId) (arg : M → Value) (adv : α → Nat) (mk : Int → α → α) : Prop :=
  ∀ (B E : Nat) (x : M) (w : World) (q : Int), k.Own B E w x → adv (k.strip x) ≤ 100000000 → 0 ≤ q → q + (adv (k.strip x) : Int) ≤ 100000000000 →
    Calls P fn #[arg x, .int .i64 q] w fun e w' => e = .returned (.int .i64 (q + (adv (k.strip x) : Int))) ∧ ∃ x', k.cells x' = k.cells x ∧ k.blocks x' = k.blocks x ∧ k.strip x' = mk q (k.strip x) ∧ k.Own B E w' x' ∧ WroteBy (k.blocks x) w w'
theorem MarkF.fst {fn : FuncId} {arg : M → Value} {adv : α → Nat} {mk : Int → α → α} (h : MarkF P k fn arg adv mk) (l : Kd β N) : MarkF P (k.pair l) fn (fun x => arg x.1) (fun a => adv a.1) (fun q a => (mk q a.1, a.2)) := by
  intro B E x w q ho hl h0 h1
  obtain ⟨m, n⟩ := x
  obtain ⟨o1, o2, hd⟩ := ho.parts
  refine (h B E m w q o1 hl h0 h1).mono ?_
  rintro e w' ⟨rfl, m', c, b, s, o, hw⟩
  refine ⟨rfl, (m', n), ?_, ?_, ?_, ?_, ?_⟩
  · show k.cells m' ++ l.cells n = k.cells m ++ l.cells n
    rw [c]
  · show k.blocks m' ++ l.blocks n = k.blocks m ++ l.blocks n
    rw [b]
  · show (k.strip m', l.strip n) = (mk q (k.strip m), l.strip n)
    rw [s]
  · exact Kd.Own.join o (hw.own o2 (fun g hg hg2 => hd g hg2 hg)) (by rw [b]; exact hd)
  · exact hw.more (fun g hg => List.mem_append_left _ hg)
theorem MarkF.snd {fn : FuncId} {arg : N → Value} {adv : β → Nat} {mk : Int → β → β} (h : MarkF P l fn arg adv mk) (k : Kd α M) : MarkF P (k.pair l) fn (fun x => arg x.2) (fun a => adv a.2) (fun q a => (a.1, mk q a.2)) := by
  intro B E x w q ho hl h0 h1
  obtain ⟨m, n⟩ := x
  obtain ⟨o1, o2, hd⟩ := ho.parts
  refine (h B E n w q o2 hl h0 h1).mono ?_
  rintro e w' ⟨rfl, n', c, b, s, o, hw⟩
  refine ⟨rfl, (m, n'), ?_, ?_, ?_, ?_, ?_⟩
  · show k.cells m ++ l.cells n' = k.cells m ++ l.cells n
    rw [c]
  · show k.blocks m ++ l.blocks n' = k.blocks m ++ l.blocks n
    rw [b]
  · show (k.strip m, l.strip n') = (k.strip m, mk q (l.strip n))
    rw [s]
  · exact Kd.Own.join (hw.own o1 (fun g hg hg2 => hd g hg hg2)) o (by rw [b]; exact hd)
  · exact hw.more (fun g hg => List.mem_append_right _ hg)
theorem flat_disj {γ : Type} {f : γ → List Nat} {L : List γ} (h : (L.flatMap f).Nodup) {i j : Nat} (hi : i < L.length) (hj : j < L.length) (hne : i ≠ j) : ∀ q ∈ f L[i], q ∉ f L[j] := by
  have h2 := (List.pairwise_flatMap.1 h).2
  have h3 := List.pairwise_iff_getElem.1 h2
  intro q hq hq2
  rcases Nat.lt_or_gt_of_ne hne with hl | hl
  · exact h3 i j hi hj hl q hq q hq2 rfl
  · exact h3 j i hj hi hl q hq2 q hq rfl
theorem flatB_one {γ : Type} {f : γ → List Nat} {L : List γ} (h : (L.flatMap f).Nodup) {j : Nat} (hj : j < L.length) : (f L[j]).Nodup :=
  (List.pairwise_flatMap.1 h).1 _ (List.getElem_mem hj)
theorem flatMap_set {γ δ : Type} {f : γ → List δ} {L : List γ} {j : Nat} (hj : j < L.length) {y : γ} (e : f y = f L[j]) : (L.set j y).flatMap f = L.flatMap f := by
  rw [List.flatMap_def, List.flatMap_def, List.map_set]
  congr 1
  have : f y = (L.map f)[j]'(by simpa using hj) := by simp [e]
  rw [this, List.set_getElem_self]
variable {e : TypeId} {ad : Option Addr} {n cap j : Nat} {L : List M}
theorem Kd.Own.row (h : (k.slice e).Own B E w ⟨ad, n, cap, L⟩) : OwnK e k.cells k.size B w (.slice ad n cap) L := h.1.1
theorem Kd.Own.apart (h : (k.slice e).Own B E w ⟨ad, n, cap, L⟩) : (L.flatMap k.blocks).Nodup ∧ ∀ g, (Value.slice ad n cap).ownBlock = some g → g ∉ L.flatMap k.blocks := by
  have h2 : ((Value.slice ad n cap).ownBlock.toList ++ L.flatMap k.blocks).Nodup := h.2.1
  have h3 := List.nodup_append.1 h2
  exact ⟨h3.2.1, fun g hg hg2 => h3.2.2 g (by simp [hg]) g hg2 rfl⟩
theorem Kd.Own.elem (h : (k.slice e).Own B E w ⟨ad, n, cap, L⟩) (hj : j < L.length) : k.Own B E w (nth L j) := by
  rw [nth_eq hj]
  refine ⟨h.1.2 _ (List.getElem_mem hj), flatB_one h.apart.1 hj, fun g hg => h.2.2 g ?_⟩
  exact List.mem_append_right _ (List.mem_flatMap.2 ⟨_, List.getElem_mem hj, hg⟩)
theorem Kd.Own.part (h : (k.slice e).Own B E w ⟨ad, n, cap, L⟩) (hj : j < L.length) {x' : M} (hc : k.cells x' = k.cells (nth L j)) (hb : k.blocks x' = k.blocks (nth L j)) (ho : k.Own B E w' x') (hw : WroteBy (k.blocks (nth L j)) w w') :
    (k.slice e).Own B E w' ⟨ad, n, cap, L.set j x'⟩ ∧ WroteBy (L.flatMap k.blocks) w w' := by
  rw [nth_eq hj] at hc hb hw
  obtain ⟨hnd, hrow⟩ := h.apart
  have hfb := flatMap_set hj hb
  have hfc : Row.flat k.cells (L.set j x') = Row.flat k.cells L := by
    unfold Row.flat
    exact flatMap_set hj hc
  refine ⟨⟨⟨?_, fun y hy => ?_⟩, ?_, ?_⟩, hw.more (fun g hg => List.mem_flatMap.2 ⟨_, List.getElem_mem hj, hg⟩)⟩
  · have hk : OwnK e k.cells k.size B w' (.slice ad n cap) L := ownK_keep h.row (fun g hg => hw.block g (h.row.lt g hg).2 (fun hg2 => hrow g hg (List.mem_flatMap.2 ⟨_, List.getElem_mem hj, hg2⟩)))
    show OwnK e k.cells k.size B w' (.slice ad n cap) (L.set j x')
    unfold OwnK at hk ⊢
    rw [List.length_set, hfc]
    exact hk
  · obtain ⟨i, hi, rfl⟩ := List.getElem_of_mem (show y ∈ L.set j x' from hy)
    have hi2 : i < L.length := by simpa using hi
    by_cases e1 : j = i
    · subst e1
      rw [List.getElem_set_self]
      exact ho.1
    · rw [List.getElem_set_ne e1]
      refine k.own_keep (h.1.2 _ (List.getElem_mem hi2)) (fun g hg => hw.block g (k.own_lt (h.1.2 _ (List.getElem_mem hi2)) g hg).2 (fun hg2 => flat_disj hnd hi2 hj (fun e2 => e1 e2.symm) g hg hg2))
  · show ((Value.slice ad n cap).ownBlock.toList ++ (L.set j x').flatMap k.blocks).Nodup
    rw [hfb]
    exact h.2.1
  · intro g hg
    have hg2 : g ∈ (Value.slice ad n cap).ownBlock.toList ++ (L.set j x').flatMap k.blocks := hg
    rw [hfb] at hg2
    exact h.2.2 g hg2
theorem Kd.Own.put {g : Nat} (h : (k.slice e).Own B E w ⟨some ⟨g, 0, none⟩, n, cap, L⟩) (hn : n = L.length) (hj : j < L.length) {i : Nat} (hi : i < k.size) {u : Value} {x' : M} (hc : k.cells x' = (k.cells (nth L j)).set i u) (hb : k.blocks x' = k.blocks (nth L j)) (ho : ∀ {W : World}, k.own B W (nth L j) → k.own B W x') :
    (k.slice e).Own B E (w.setCell ⟨g, j * k.size + i, none⟩ u) ⟨some ⟨g, 0, none⟩, n, cap, L.set j x'⟩ ∧ w.grownBy (w.setCell ⟨g, j * k.size + i, none⟩ u) (some g) := by
  obtain ⟨a1, a2⟩ := ownK_store (fun m => k.len m) h.row hn hj hi hc
  obtain ⟨hnd, hrow⟩ := h.apart
  have hg0 := hrow g rfl
  have hfb := flatMap_set (f := k.blocks) hj (by rw [hb, nth_eq hj])
  have keep : ∀ {y : M}, y ∈ L → k.own B (w.setCell ⟨g, j * k.size + i, none⟩ u) y := fun {y} hy => k.own_keep (h.1.2 y hy) (fun q hq => a2.block q (k.own_lt (h.1.2 y hy) q hq).2 (fun e1 => hg0 (by cases e1; exact List.mem_flatMap.2 ⟨y, hy, hq⟩)))
  refine ⟨⟨⟨a1, fun y hy => ?_⟩, ?_, ?_⟩, a2⟩
  · rcases List.mem_or_eq_of_mem_set (show y ∈ L.set j x' from hy) with hy | rfl
    · exact keep hy
    · exact ho (keep (nth_mem hj))
  · show ((Value.slice (some ⟨g, 0, none⟩) n cap).ownBlock.toList ++ (L.set j x').flatMap k.blocks).Nodup
    rw [hfb]
    exact h.2.1
  · intro q hq
    have hg2 : q ∈ (Value.slice (some ⟨g, 0, none⟩) n cap).ownBlock.toList ++ (L.set j x').flatMap k.blocks := hq
    rw [hfb] at hg2
    exact h.2.2 q hg2
end
section
variable {α : Type} [Inhabited α] (a : α → Nat) (f : Int → α → α)
def advK : List α → Nat
  | [] => 0
  | x :: r => a x + advK r
def mkLK (q : Int) : List α → List α
  | [] => []
  | x :: r => f q x :: mkLK (q + (a x : Int)) r
theorem advK_append : ∀ (l m : List α), advK a (l ++ m) = advK a l + advK a m
  | [], m => by simp [advK]
  | x :: l, m => by simp [advK, advK_append l m]; omega
theorem advK_take {l : List α} {j : Nat} (h : j < l.length) : advK a (l.take (j + 1)) = advK a (l.take j) + a (nth l j) := by
  rw [List.take_succ_eq_append_getElem h, advK_append, nth_eq h]; simp [advK]
theorem advK_take_le (l : List α) (j : Nat) : advK a (l.take j) ≤ advK a l := by
  have := advK_append a (l.take j) (l.drop j)
  rw [List.take_append_drop] at this; omega
theorem mkLK_append (q : Int) : ∀ (l m : List α), mkLK a f q (l ++ m) = mkLK a f q l ++ mkLK a f (q + (advK a l : Int)) m
  | [], m => by simp [mkLK, advK]
  | x :: l, m => by
    simp only [List.cons_append, mkLK, advK, mkLK_append _ l m]
    congr 3
    simp; omega
theorem mkLK_length (q : Int) : ∀ l : List α, (mkLK a f q l).length = l.length
  | [] => rfl
  | x :: r => by simp [mkLK, mkLK_length _ r]
theorem mkLK_take (q : Int) {l : List α} {j : Nat} (h : j < l.length) : mkLK a f q (l.take (j + 1)) = mkLK a f q (l.take j) ++ [f (q + (advK a (l.take j) : Int)) (nth l j)] := by
  rw [List.take_succ_eq_append_getElem h, mkLK_append, nth_eq h]; rfl
theorem mkLK_at (q : Int) {l : List α} {j : Nat} (h : j < l.length) : nth (mkLK a f q l) j = f (q + (advK a (l.take j) : Int)) (nth l j) := by
  have e := mkLK_append a f q (l.take (j + 1)) (l.drop (j + 1))
  rw [List.take_append_drop, mkLK_take a f q h] at e
  have h2 : (mkLK a f q (l.take j)).length = j := by rw [mkLK_length, List.length_take]; omega
  rw [e]
  simp only [nth, List.getD]
  rw [List.append_assoc, List.getElem?_append_right (by omega), h2]
  simp
end
end Go.Proofs.Ytjphnlkdbhcblaa.Row
/- MarkSent, model and program. No conditions but that lengths fit. -/
namespace Go.Proofs.Ytjphnlkdbhcblaa.Row
open Go.ChangeShapes Go.WideShapes Go.ChangeAt Go.RowKit Go.Instr
set_option linter.unusedVariables false
set_option maxRecDepth 100000
theorem row_form {α M : Type} {k : Kd α M} {e : TypeId} {B E : Nat} {w : World} {x : Option Addr} {n c : Nat} {L : List M} (h : (k.slice e).Own B E w ⟨x, n, c, L⟩) {j : Nat} (hj : j < L.length) : ∃ g, x = some ⟨g, 0, none⟩ ∧ n = L.length ∧ n ≤ c ∧ B ≤ g ∧ g < w.heap.size := by
  have hnl : n = L.length := h.1.1.holds.lenEq
  have hnc : n ≤ c := by obtain ⟨x', n', cap', hv, hn', hc', -⟩ := h.1.1.holds.shapeN; cases hv; exact hc'
  rcases h.1.1.form with ⟨hv, hL⟩ | ⟨g, cap', hv, h1, h2, h3, h4⟩
  · rw [show L = [] from hL] at hj
    exact absurd hj (by simp)
  · replace hv : Value.slice x n c = .slice (some ⟨g, 0, none⟩) L.length cap' := hv
    injection hv with e5 e6 e7
    exact ⟨g, e5, hnl, hnc, h1, h2⟩
end Go.Proofs.Ytjphnlkdbhcblaa.Row
/- slices.Delete and slices.DeleteFunc on rows of pending interests and of seen nonces. No conditions but that lengths fit. -/
namespace Go.Proofs.Ytjphnlkdbhcblaa.Row
open Go.ChangeShapes Go.WideShapes Go.ChangeAt Go.RowKit Go.Instr
set_option linter.unusedVariables false
set_option maxRecDepth 100000
theorem zvPi (w : World) : (zeroValue 101).run Try.prog w = .ok (.agg #[.slice none 0 0, .slice none 0 0, .int .i64 0]) w := by kernel_rfl
theorem el_keepPi {B C : Nat} {w w' : World} {r : Rw Pim} {y : Pim} (h : kLPi.Own B C w r) (hg : w.grownBy w' r.v.ownBlock) (hy : y ∈ r.els) : kPi.holds w' y := by
  have h2 : (r.v.ownBlock.toList ++ r.els.flatMap kPi.blocks).Nodup := h.2.1
  have h3 := List.nodup_append.1 h2
  exact kPi.own_holds (kPi.own_keep (h.1.2 y hy) (fun g hgy => hg.block g (kPi.own_lt (h.1.2 y hy) g hgy).2 (fun er => h3.2.2 g (by rw [← er]; simp) g (List.mem_flatMap.2 ⟨y, hy, hgy⟩) rfl)))
set_option maxHeartbeats 2000000 in
theorem indexP2 (p : Pit → Bool) (ok : Pit → Prop) (v : Value) (l : List Pit) (w : World) (z : Int) (hz : ixL p l = z) (h : kLPi.At w v l) (hl : l.length ≤ 9000000) (hp : ∀ x ∈ l, ok x) (hc : ClosK Try.prog kPi 105 #[] p ok w) :
    Calls Try.prog 123 #[v, .func (.func 105) #[] #[]] w fun e w' => e = .returned (.int .i64 z) ∧ Below w.heap.size w w' := by
  obtain ⟨x, n, cx, L, rfl, hn, ht, hh, hel⟩ := kLPi_at h
  have hlen : l.length = n := by rw [← ht, List.length_map]; exact hn.symm
  rw [hlen] at hl
  have hcap : n ≤ cx := by obtain ⟨x', n', cap', hv, hn', hc', -⟩ := hh.shapeN; cases hv; exact hc'
  have HN := Lib.hid hn; have HT := Lib.hid ht; have HH := Lib.hid hh; have HEL := Lib.hid hel; have HLEN := Lib.hid hlen; have HP := Lib.hid hp; have HC := Lib.hid hc; have HZ := Lib.hid hz
  clear hn h hh hc hp ht hel hlen hz
  go_enter Try.func123, Try.ntmps123
  go_wp2
  go_loopw [8] (fun iv wr => ∃ i : Nat, i ≤ n ∧ iv = .int .i64 i ∧ Hid (noL p l i) ∧ Hid (Below w.heap.size w wr)) (fun iv _ => n - (intOf iv).toNat)
  case atStart => exact ⟨0, Nat.zero_le _, rfl, Lib.hid (noL_zero _ _), Lib.hid (Below.refl _ _)⟩
  case round =>
    obtain ⟨k, hk, rfl, ha, hb⟩ := hrel
    by_cases hlt : k < n
    · have hlen := HN.out
      obtain ⟨b, off, y0, m0, d0, y1, m1, d1, rfl, -, hc0, hc1, hc2, hA⟩ := kLPi_elem (HH.out.on hb.out) (fun y hy => kPi.holds_on (HEL.out y hy) hb.out) (j := k) (by omega)
      have hpt : nth l k = kPi.strip (nth L k) := by rw [← HT.out, nth_map _ (by omega)]
      have hps := HP.out (nth l k) (nth_mem (by have := HLEN.out; omega))
      rw [hpt] at hps
      obtain ⟨q, hq⟩ : ∃ q, p (kPi.strip (nth L k)) = q := ⟨_, rfl⟩
      have HCL := HC.out _ _ wr hb.out hA hps
      rw [hq] at HCL
      rw [← hpt] at hq
      replace HCL := Lib.hid HCL
      have HQ := Lib.hid hq
      clear hlen hpt hps hA hq
      go_wp2_with fail
      refine HCL.out.mono ?_
      rintro e w2 ⟨rfl, hb2⟩
      have HB2 := Lib.hid (hb.out.trans (hb2.mono hb.out.size))
      clear hb2 hc0 hc1 hc2 HCL
      cases q with
      | true =>
        have HV := Lib.hid (show z = (k : Int) from HZ.out.symm.trans (ixL_at (by have := HLEN.out; omega) ha.out HQ.out))
        go_wp2
        go_ret
        exact ⟨ret_int HV.out.symm, HB2.out⟩
      | false =>
        have HA := Lib.hid (noL_succ ha.out HQ.out)
        go_wp2
        go_roundw
        case rel => exact ⟨k + 1, by omega, by go_num, HA, HB2⟩
        case measure => simp [intOf]; omega
    · obtain rfl : k = n := by omega
      have HV := Lib.hid (show z = -1 from HZ.out.symm.trans (ixL_none (by rw [HLEN.out]; exact ha.out)))
      clear hlt
      go_wp2
      go_ret
      exact ⟨ret_int HV.out.symm, hb.out⟩
set_option maxHeartbeats 8000000 in
theorem delFPi (p : Pit → Bool) (ok : Pit → Prop) (B : Nat) (r : Rw Pim) (w : World) (h : kLPi.Own B w.heap.size w r) (hl : r.els.length ≤ 1100000) (hp : ∀ x ∈ r.els.map kPi.strip, ok x) (hc : ClosR Try.prog kPi 105 #[] p ok w r.v.ownBlock) :
    Calls Try.prog 104 #[r.v, .func (.func 105) #[] #[]] w fun e w' => ∃ r' : Rw Pim, e = .returned r'.v ∧ kLPi.Own B w'.heap.size w' r' ∧ r'.els.map kPi.strip = (r.els.map kPi.strip).filter (fun x => !p x) ∧ r'.els.length ≤ r.els.length ∧ w.grownBy w' r.v.ownBlock := by
  obtain ⟨ad, n, cap, L⟩ := r
  dsimp only at hl hp ⊢
  have HI := Lib.hid (indexP2 p ok (Rw.v ⟨ad, n, cap, L⟩) (L.map kPi.strip) w _ rfl ⟨⟨ad, n, cap, L⟩, rfl, rfl, h.holds⟩ (by rw [List.length_map]; omega) hp hc.plain)
  have HFULL := Lib.hid h
  rcases h.1.1.form with ⟨hv, hL⟩ | ⟨g, cap', hv, g1, g2, g3, g4⟩
  · cases hv
    dsimp only at hL
    subst hL
    clear h hc
    show Calls Try.prog 104 #[.slice none 0 0, .func (.func 105) #[] #[]] w _
    go_enter Try.func104, Try.ntmps104
    go_wp2_with fail
    refine HI.out.mono ?_
    rintro e w1 ⟨rfl, hb⟩
    have HB := Lib.hid hb
    have hx : ixL p (([] : List Pim).map kPi.strip) = -1 := by simp [ixL]
    rw [hx]
    clear hb hx
    go_wp2_with fail
    go_ret
    exact ⟨⟨none, 0, 0, []⟩, rfl, HFULL.out.upto HB.out, by simp, Nat.le_refl _, Sl.grown_of_below HB.out _⟩
  · replace hv : Value.slice ad n cap = .slice (some ⟨g, 0, none⟩) L.length cap' := hv
    cases hv
    dsimp only at g3 g4
    obtain ⟨n, hn⟩ : ∃ n, n = L.length := ⟨_, rfl⟩
    show Calls Try.prog 104 #[.slice (some ⟨g, 0, none⟩) L.length cap, .func (.func 105) #[] #[]] w _
    replace HI := Lib.hid (show Calls Try.prog _ #[.slice (some ⟨g, 0, none⟩) L.length cap, .func (.func 105) #[] #[]] w _ from HI.out)
    rw [← hn] at h g3 hl HI hc HFULL ⊢
    have HN := Lib.hid hn
    have HC := Lib.hid (show ClosR Try.prog kPi 105 #[] p ok w (some g) from hc)
    have HP := Lib.hid hp
    clear hn h hc hp
    go_enter Try.func104, Try.ntmps104
    go_wp2_with fail
    refine HI.out.mono ?_
    rintro e w1 ⟨rfl, hb⟩
    have HG1 := Lib.hid (Sl.grown_of_below hb (some g))
    have HO1 := Lib.hid (HFULL.out.1.1.on hb)
    clear hb HI
    rcases ixL_cases p (L.map kPi.strip) with ⟨h1, h3⟩ | ⟨i0, hi, h1, h4, h5⟩
    · rw [h1]
      have HV : Hid ((L.map kPi.strip).filter (fun x => !p x) = L.map kPi.strip) := Lib.hid (by
        rw [List.filter_eq_self]
        intro x hx
        obtain ⟨j, hj, rfl⟩ := List.getElem_of_mem hx
        have := h3 j hj
        rw [nth_eq hj] at this
        simp only [this]; rfl)
      clear h1 h3
      go_wp2_with fail
      go_ret
      exact ⟨⟨some ⟨g, 0, none⟩, n, cap, L⟩, rfl, Kd.sub noRow_kPi HFULL.out (List.Sublist.refl _) HG1.out (fun g' e => e) HO1.out, HV.out.symm, (by show L.length ≤ n; rw [HN.out]; exact Nat.le_refl _), HG1.out⟩
    · rw [h1]
      rw [List.length_map] at hi
      have HM : Hid (MidK (fun m => !p (kPi.strip m)) L L i0 (i0 + 1)) := Lib.hid (MidK.start hi (fun j hj => by have := h5 j hj; rw [nth_map _ (by omega)] at this; rw [this]; rfl) (by rw [nth_map _ hi] at h4; rw [h4]; rfl))
      have hi0 : i0 + 1 ≤ n := by have := HN.out; omega
      have hne : ((i0 : Int) == -1) = false := by simp <;> omega
      clear h1 h4 h5 hi
      go_wp2_with fail
      go_loopw [5, 6] (fun iv jv wr => ∃ i j : Nat, j ≤ n ∧ i < j ∧ iv = .int .i64 i ∧ jv = .int .i64 j ∧ ∃ L' : List Pim, Hid (MidK (fun m => !p (kPi.strip m)) L L' i j) ∧ Hid (OwnK 101 kPi.cells 3 B wr (.slice (some ⟨g, 0, none⟩) n cap) L') ∧ Hid (w.grownBy wr (some g))) (fun _ jv _ => n - (intOf jv).toNat)
      case atStart => exact ⟨i0, i0 + 1, hi0, by omega, rfl, by go_num, L, HM, HO1, HG1⟩
      case round =>
        clear HO1 HM HG1
        obtain ⟨i, j, hj, hij, rfl, rfl, L', hM, ho, hg⟩ := hrel
        by_cases hlt : j < n
        · have hlen := HN.out
          have hjl : j < L.length := by omega
          have hln : n = L'.length := by rw [hM.out.len]; exact hlen
          have hnj : nth L' j = nth L j := hM.out.rest j (Nat.le_refl _) hjl
          have hho := el_keepPi HFULL.out hg.out (nth_mem hjl)
          obtain ⟨y0, m0, d0, y1, m1, d1, e9, hA⟩ := kPi_shapeA (Kd.at_of (k := kPi) hho)
          have hce : kPi.cells (nth L j) = [.slice y0 m0 d0, .slice y1 m1 d1, .int .i64 (kPi.strip (nth L j)).2.2] := by injection e9 with e; exact congrArg Array.toList e
          have hcs : ∀ i', i' < 3 → wr.cell? ⟨g, j * 3 + i', none⟩ = ([.slice y0 m0 d0, .slice y1 m1 d1, .int .i64 (kPi.strip (nth L j)).2.2] : List Value)[i']? := fun i' hi' => by
            have := (ownK_cell szPi_cells ho.out hln (j := j) (i := i') (by omega) hi').1
            rw [hnj, hce] at this
            exact this
          have hc0 : wr.cell? ⟨g, j * 3, none⟩ = some (.slice y0 m0 d0) := hcs 0 (by decide)
          have hc1 : wr.cell? ⟨g, j * 3 + 1, none⟩ = some (.slice y1 m1 d1) := hcs 1 (by decide)
          have hc2 : wr.cell? ⟨g, j * 3 + 2, none⟩ = some (.int .i64 (kPi.strip (nth L j)).2.2) := hcs 2 (by decide)
          have hal := (Below.refl wr.heap.size wr).alloc (Nat.le_refl _) (.cells #[.slice y0 m0 d0, .slice y1 m1 d1, .int .i64 (kPi.strip (nth L j)).2.2] 101)
          have HGA := Lib.hid (Go.World.grownBy.trans hg.out (Sl.grown_of_below hal (some g)))
          have HCL := Lib.hid (HC.out (kPi.strip (nth L j)) _ _ HGA.out (hA.on hal) (HP.out _ (List.mem_map.2 ⟨_, nth_mem hjl, rfl⟩)))
          have HOA := Lib.hid (ho.out.on hal)
          have hXE := Ret.Blk.new wr #[.slice y0 m0 d0, .slice y1 m1 d1, .int .i64 (kPi.strip (nth L j)).2.2] 101
          have HXE := Lib.hid hXE
          have HIL := Lib.hid (show i < L'.length by omega)
          have HLN := Lib.hid hln
          have HJL := Lib.hid hjl
          have HCE := Lib.hid hce
          have hin : i < n := by omega
          clear hcs hnj hlen hal hjl hln e9 hA hho hce hXE
          obtain ⟨q, hq⟩ : ∃ q, p (kPi.strip (nth L j)) = q := ⟨_, rfl⟩
          rw [hq] at HCL
          have HQ := Lib.hid hq; clear hq
          go_wp2_with fail
          refine HCL.out.mono ?_
          rintro e w2 ⟨rfl, hb2⟩
          have hx2 := HXE.out.on hb2
          have f0 : w2.cell? ⟨wr.heap.size, 0, none⟩ = some (.slice y0 m0 d0) := hx2.cell 0
          have f1 : w2.cell? ⟨wr.heap.size, 1, none⟩ = some (.slice y1 m1 d1) := hx2.cell 1
          have f2 : w2.cell? ⟨wr.heap.size, 2, none⟩ = some (.int .i64 (kPi.strip (nth L j)).2.2) := hx2.cell 2
          have HO2 := Lib.hid (HOA.out.on hb2)
          have HG2 := Lib.hid (Go.World.grownBy.trans HGA.out (Sl.grown_of_below hb2 (some g)))
          clear hc0 hc1 hc2 hb2 hx2 HCL HXE
          cases q with
          | true =>
            have HMS := Lib.hid (hM.out.skip HJL.out (by rw [HQ.out]; rfl))
            clear f0 f1 f2
            go_wp2_with fail
            go_roundw
            case rel => exact ⟨i, j + 1, by omega, by omega, rfl, by go_num, L', HMS, HO2, HG2⟩
            case measure => simp [intOf]; omega
          | false =>
            have HMS := Lib.hid (hM.out.keep HJL.out (by rw [HQ.out]; rfl))
            have hcc : ∀ i', i' < 3 → ∃ z, w2.cell? ⟨g, i * 3 + i', none⟩ = some z := fun i' hi' => ⟨_, (ownK_cell szPi_cells HO2.out HLN.out (j := i) (i := i') HIL.out hi').1.trans (List.getElem?_eq_getElem (by rw [kPi.len]; exact hi'))⟩
            have hff : ∀ i', i' < 3 → w2.frozen? ⟨g, i * 3 + i', none⟩ = false := fun i' hi' => (ownK_cell szPi_cells HO2.out HLN.out (j := i) (i := i') HIL.out hi').2
            obtain ⟨z0, r0⟩ := hcc 0 (by decide); obtain ⟨z1, r1⟩ := hcc 1 (by decide); obtain ⟨z2, r2⟩ := hcc 2 (by decide)
            have t0 := hff 0 (by decide); have t1 := hff 1 (by decide); have t2 := hff 2 (by decide)
            rw [Nat.add_zero] at r0 t0
            have s1 := ownK_put szPi_cells HO2.out HLN.out HIL.out (nth L j)
            have s2 := setCells_grown g (kPi.cells (nth L j)) (i * 3) w2
            rw [HCE.out] at s1 s2
            have HS1 := Lib.hid (show OwnK 101 kPi.cells 3 B (((w2.setCell ⟨g, i * 3, none⟩ (.slice y0 m0 d0)).setCell ⟨g, i * 3 + 1, none⟩ (.slice y1 m1 d1)).setCell ⟨g, i * 3 + 2, none⟩ (.int .i64 (kPi.strip (nth L j)).2.2)) _ _ from s1)
            have HS2 := Lib.hid (Go.World.grownBy.trans HG2.out (show w2.grownBy (((w2.setCell ⟨g, i * 3, none⟩ (.slice y0 m0 d0)).setCell ⟨g, i * 3 + 1, none⟩ (.slice y1 m1 d1)).setCell ⟨g, i * 3 + 2, none⟩ (.int .i64 (kPi.strip (nth L j)).2.2)) (some g) from s2))
            clear hcc hff s1 s2
            go_wp2_with fail
            go_roundw
            case rel => exact ⟨i + 1, j + 1, by omega, by omega, by go_num, by go_num, _, HMS, HS1, HS2⟩
            case measure => simp [intOf]; omega
        · obtain rfl : j = n := by omega
          have hln : j = L'.length := by rw [hM.out.len]; exact HN.out
          have HKK := Lib.hid (show i + (j - i) = L'.length by omega)
          have HLN := Lib.hid hln
          have hpos : 0 < j - i := by omega
          have hi1 : i ≤ cap := by omega
          clear hlt hln
          go_wp2_with (refine wpList_clearK kindPi rfl zvPi rfl _ rfl Try.underlying35 (i := i) (k := j - i) rfl ho.out HKK.out hpos ?_)
          intro w3 ho3 hg3
          have HO3 := Lib.hid ho3
          have HG3 := Lib.hid (Go.World.grownBy.trans hg.out hg3)
          clear ho3 hg3
          go_wp2_with fail
          go_ret
          have hlen3 : (L'.take i ++ List.replicate (j - i) default).length = j := by have := HLN.out; simp; omega
          have hfin := HO3.out.take szPi_cells (i := i) (by omega)
          have htk : (L'.take i ++ List.replicate (j - i) default).take i = L'.take i := by
            have hl1 : (L'.take i).length = i := by have := HLN.out; rw [List.length_take]; omega
            conv => lhs; arg 1; rw [← hl1]
            rw [List.take_left]
          have hall : L.take j = L := List.take_of_length_le (by rw [← HN.out]; exact Nat.le_refl _)
          rw [htk, hM.out.head, hall] at hfin
          refine ⟨⟨some ⟨g, 0, none⟩, i, cap, L.filter (fun m => !p (kPi.strip m))⟩, rfl, Kd.sub noRow_kPi HFULL.out List.filter_sublist HG3.out (fun g' e => e) hfin, ?_, (by show (L.filter _).length ≤ j; rw [HN.out]; exact List.length_filter_le _ _), HG3.out⟩
          show (L.filter (fun m => !p (kPi.strip m))).map kPi.strip = (L.map kPi.strip).filter (fun x => !p x)
          rw [List.filter_map]
          rfl
end Go.Proofs.Ytjphnlkdbhcblaa.Row
/- The closures of ExpirePending, wantedRequesters, an element's requesters stored. No conditions but that lengths fit. -/
namespace Go.Proofs.Ytjphnlkdbhcblaa.Row
open Go.ChangeShapes Go.WideShapes Go.ChangeAt Go.RowKit Go.Instr
set_option linter.unusedVariables false
set_option maxRecDepth 100000
theorem nodup_set {γ : Type} {f : γ → List Nat} {L : List γ} {j E : Nat} {y : γ} (h : (L.flatMap f).Nodup) (hj : j < L.length) (hy : (f y).Nodup) (hsub : ∀ g ∈ f y, g ∈ f L[j] ∨ E ≤ g) (hlt : ∀ g ∈ L.flatMap f, g < E) : ((L.set j y).flatMap f).Nodup := by
  have key : ∀ (i k : Nat) (hi : i < L.length) (hk : k < L.length), i ≠ k → ∀ x ∈ f ((L.set j y)[i]'(by simpa using hi)), x ∉ f ((L.set j y)[k]'(by simpa using hk)) := by
    intro i k hi hk hne x hx hx2
    by_cases e1 : j = i
    · subst e1
      rw [List.getElem_set_self] at hx
      rw [List.getElem_set_ne hne] at hx2
      rcases hsub x hx with h1 | h1
      · exact flat_disj h hj hk hne x h1 hx2
      · have := hlt x (List.mem_flatMap.2 ⟨_, List.getElem_mem hk, hx2⟩); omega
    · rw [List.getElem_set_ne e1] at hx
      by_cases e2 : j = k
      · subst e2
        rw [List.getElem_set_self] at hx2
        rcases hsub x hx2 with h1 | h1
        · exact flat_disj h hj hi (fun e => e1 e) x h1 hx
        · have := hlt x (List.mem_flatMap.2 ⟨_, List.getElem_mem hi, hx⟩); omega
      · rw [List.getElem_set_ne e2] at hx2
        exact flat_disj h hi hk hne x hx hx2
  refine List.pairwise_flatMap.2 ⟨fun a ha => ?_, ?_⟩
  · rcases List.mem_or_eq_of_mem_set ha with h1 | rfl
    · exact (List.pairwise_flatMap.1 h).1 a h1
    · exact hy
  · refine List.pairwise_iff_getElem.2 fun i k hi hk hik x hx z hz e => ?_
    subst e
    exact key i k (by simpa using hi) (by simpa using hk) (by omega) x hx hz
theorem put_rq {B E E' : Nat} {w : World} {g n cap j : Nat} {L : List Pim} {q : Rw Rqm} {v : Value} (h : kLPi.Own B E w ⟨some ⟨g, 0, none⟩, n, cap, L⟩) (hn : n = L.length) (hj : j < L.length) (hq : kLRq.Own E E' w q) (hE : E ≤ E') (hBE : B ≤ E) (hv : kLRq.val q = v) :
    kLPi.Own B E' (w.setCell ⟨g, j * 3 + 1, none⟩ v) ⟨some ⟨g, 0, none⟩, n, cap, L.set j ((nth L j).1, q, (nth L j).2.2)⟩ := by
  subst hv
  replace h : (kPi.slice 101).Own B E w ⟨some ⟨g, 0, none⟩, n, cap, L⟩ := h
  obtain ⟨hap1, hap2⟩ := Kd.Own.apart h
  have hg0 := hap2 g rfl
  have hgE : g < E := h.2.2 g (List.mem_append_left _ (by simp [Value.ownBlock, Rw.v]))
  obtain ⟨a1, a2⟩ := ownK_store (fun m => kPi.len m) (Kd.Own.row h) hn hj (i := 1) (by decide) (y := (((nth L j).1, q, (nth L j).2.2) : Pim)) (u := kLRq.val q) rfl
  have hel := Kd.Own.elem h hj
  have hlt : ∀ x ∈ L.flatMap kPi.blocks, x < E := fun x hx => h.2.2 x (List.mem_append_right _ hx)
  have keep : ∀ {y : Pim}, y ∈ L → kPi.own B (w.setCell ⟨g, j * 3 + 1, none⟩ (kLRq.val q)) y := fun {y} hy => kPi.own_keep (h.1.2 y hy) (fun x hx => a2.block x (kPi.own_lt (h.1.2 y hy) x hx).2 (fun e1 => hg0 (by cases e1; exact List.mem_flatMap.2 ⟨y, hy, hx⟩)))
  have hqk : kLRq.own B (w.setCell ⟨g, j * 3 + 1, none⟩ (kLRq.val q)) q := kLRq.own_mono (kLRq.own_keep hq.1 (fun x hx => a2.block x (kLRq.own_lt hq.1 x hx).2 (fun e1 => by cases e1; have := (hq.lt g hx).1; omega))) hBE
  have hbl : ∀ x, x ∈ kPi.blocks (((nth L j).1, q, (nth L j).2.2) : Pim) → x ∈ kN.blocks (nth L j).1 ∨ x ∈ kLRq.blocks q := fun x hx => by
    rcases List.mem_append.1 (show x ∈ kN.blocks (nth L j).1 ++ (kLRq.blocks q ++ kInt.blocks (nth L j).2.2) from hx) with h1 | h1
    · exact .inl h1
    · rcases List.mem_append.1 h1 with h2 | h2
      · exact .inr h2
      · cases h2
  have hnm : ∀ x ∈ kN.blocks (nth L j).1, x ∈ kPi.blocks (nth L j) := fun x hx => List.mem_append_left _ hx
  have hnd : (kPi.blocks (((nth L j).1, q, (nth L j).2.2) : Pim)).Nodup := by
    show (kN.blocks (nth L j).1 ++ (kLRq.blocks q ++ [])).Nodup
    rw [List.append_nil, List.nodup_append]
    refine ⟨(Kd.Own.parts (k := kN) (l := kLRq.pair kInt) (m := (nth L j).1) (n := (nth L j).2) hel).1.2.1, hq.2.1, fun x hx y hy e => ?_⟩
    subst e
    have h5 := hlt x (List.mem_flatMap.2 ⟨_, nth_mem hj, hnm x hx⟩)
    have h6 := (hq.lt x hy).1
    omega
  have hflat : ∀ x ∈ (L.set j (((nth L j).1, q, (nth L j).2.2) : Pim)).flatMap kPi.blocks, x ∈ L.flatMap kPi.blocks ∨ x ∈ kLRq.blocks q := fun x hx => by
    obtain ⟨y, hy, hxy⟩ := List.mem_flatMap.1 hx
    rcases List.mem_or_eq_of_mem_set hy with h1 | rfl
    · exact .inl (List.mem_flatMap.2 ⟨y, h1, hxy⟩)
    · rcases hbl x hxy with h2 | h2
      · exact .inl (List.mem_flatMap.2 ⟨_, nth_mem hj, hnm x h2⟩)
      · exact .inr h2
  refine ⟨⟨a1, fun y hy => ?_⟩, ?_, ?_⟩
  · rcases List.mem_or_eq_of_mem_set (show y ∈ L.set j _ from hy) with h1 | rfl
    · exact keep h1
    · exact ⟨(keep (nth_mem hj)).1, hqk, trivial⟩
  · show ((Value.slice (some ⟨g, 0, none⟩) n cap).ownBlock.toList ++ (L.set j (((nth L j).1, q, (nth L j).2.2) : Pim)).flatMap kPi.blocks).Nodup
    rw [List.nodup_append]
    refine ⟨by simp [Value.ownBlock], nodup_set (E := E) hap1 hj hnd (fun x hx => ?_) hlt, fun x hx y hy e => ?_⟩
    · rcases hbl x hx with h1 | h1
      · left; rw [← nth_eq hj]; exact hnm x h1
      · exact .inr (hq.lt x h1).1
    · subst e
      obtain rfl : x = g := by simpa [Value.ownBlock] using hx
      rcases hflat x hy with h1 | h1
      · exact hg0 h1
      · have := (hq.lt x h1).1; omega
  · intro x hx
    rcases List.mem_append.1 (show x ∈ (Value.slice (some ⟨g, 0, none⟩) n cap).ownBlock.toList ++ (L.set j (((nth L j).1, q, (nth L j).2.2) : Pim)).flatMap kPi.blocks from hx) with h1 | h1
    · obtain rfl : x = g := by simpa [Value.ownBlock] using h1
      omega
    · rcases hflat x h1 with h2 | h2
      · have := hlt x h2; omega
      · exact (hq.lt x h2).2.1
set_option maxHeartbeats 1000000 in
theorem wantOf (x : Option Addr) (len cap : Nat) (fv : Value) (fid : FuncId) (caps : Array Value) (hf : fv = .func (.func fid) #[] caps) (w : World) :
    Calls Try.prog 102 #[.slice x len cap, fv] w fun e w' => e = .returned (.func (.func 134) #[] #[.pointer (some ⟨w.heap.size, 0, none⟩), .pointer (some ⟨w.heap.size + 1, 0, none⟩)]) ∧ w' = (w.alloc (.cells #[.slice x len cap] 68)).alloc (.cells #[fv] 121) := by
  subst hf
  have hmf : ∀ (fn : Fn) (first cap : Array Value) (w : World), (Instr.makeFunc fn first cap).run Try.prog w = .ok (.func fn first cap) w := fun _ _ _ _ => rfl
  go_enter Try.func102, Try.ntmps102
  go_wp2
  go_ret
  exact ⟨rfl, rfl⟩
theorem clos_ex (g : Nat) (now : Int) (w : World) (hg : w.cell? ⟨g, 0, none⟩ = some (.int .i64 now)) : ClosK Try.prog kRq 103 #[.pointer (some ⟨g, 0, none⟩)] (wtR now) (fun _ => True) w := by
  intro x V w1 hb hA _
  obtain rfl := kRq_at hA
  obtain ⟨a, b, c⟩ := x
  have hg1 := kc hg hb
  have hal := (Below.refl w1.heap.size w1).alloc (Nat.le_refl _) (.cells #[.int .i64 a, .int .i64 b, .int .i64 c] 91)
  have HG := Lib.hid (kc hg1 hal); have HB := Lib.hid hal
  have g0 := HG.out
  clear hg hg1 hb hA hal
  unfold wtR
  dsimp only
  go_enter Try.func103, Try.ntmps103
  go_wp2
  go_ret
  exact ⟨rfl, HB.out⟩
theorem clos_em (w : World) (row : Option Nat) : ClosR Try.prog kPi 105 #[] (fun x => !someR x) (fun x => wtPi x ≤ 1200000) w row := by
  intro x V w1 _ hA hx
  obtain ⟨x0, n0, c0, x1, n1, c1, rfl, hA⟩ := kPi_shapeA hA
  obtain ⟨-, hR⟩ := kPi_parts hA
  have hn1 : x.2.1.length = n1 := (kLRq_len hR).symm
  have hal := (Below.refl w1.heap.size w1).alloc (Nat.le_refl _) (.cells #[.slice x0 n0 c0, .slice x1 n1 c1, .int .i64 x.2.2] 101)
  have HB := Lib.hid hal
  have l2 := (wtPi_lens hx).2
  rw [hn1] at l2
  obtain ⟨q, hq⟩ : ∃ q, (((n1 : Nat) : Int) == 0) = q := ⟨_, rfl⟩
  have HE := Lib.hid (show (!someR x) = q by
    rw [← hq]; unfold someR; rw [hn1, Bool.eq_iff_iff]; simp <;> omega)
  clear hal hA hR hn1 hx
  go_enter Try.func105, Try.ntmps105
  go_wp2
  go_ret
  exact ⟨by rw [HE.out]; rfl, HB.out⟩
end Go.Proofs.Ytjphnlkdbhcblaa.Row
/- ExpirePending, the program. No conditions but that lengths fit. -/
namespace Go.Proofs.Ytjphnlkdbhcblaa.Row
open Go.ChangeShapes Go.WideShapes Go.ChangeAt Go.RowKit Go.Instr
set_option linter.unusedVariables false
set_option maxRecDepth 100000
theorem drop_nx {α : Type} [Inhabited α] {l : List α} {k : Nat} (h : k < l.length) : l.drop k = nth l k :: l.drop (k + 1) := by rw [nth_eq h, List.getElem_cons_drop]
theorem left_step {l : List Pit} {S : List Pit} {k : Nat} {now : Int} (hk : k < l.length) (h : S = (l.take k).map (leftP now) ++ l.drop k) : S.set k (leftP now (nth l k)) = (l.take (k + 1)).map (leftP now) ++ l.drop (k + 1) ∧ nth S k = nth l k := by
  have hl : ((l.take k).map (leftP now)).length = k := by rw [List.length_map, List.length_take]; omega
  subst h
  rw [drop_nx hk]
  constructor
  · rw [List.set_append_right _ _ (by omega), hl, Nat.sub_self, List.set_cons_zero, take_nx hk, List.map_append, List.append_assoc]
    rfl
  · simp only [nth, List.getD]
    rw [List.getElem?_append_right (by omega), hl, Nat.sub_self]
    rfl
set_option maxHeartbeats 16000000 in
theorem implExpirePending (V : Value) (l : List Pit) (now : Int) (w : World) (h : kLPi.At w V l) (hf : FitP l) :
    Calls Try.prog 54 #[V, .int .i64 now] w fun e w' => ∃ U, e = .returned U ∧ kLPi.In w.heap.size w'.heap.size w' U (expP l now) ∧ Below w.heap.size w w' := by
  obtain ⟨x, n, c, rfl, h⟩ := kLPi_shapeA h
  have hal := (Below.refl w.heap.size w).alloc (Nat.le_refl _) (.cells #[.int .i64 now] 3)
  have HX := Lib.hid (Ret.Blk.new w #[.int .i64 now] 3)
  have HH := Lib.hid (h.on hal); have HB := Lib.hid hal; have HF := Lib.hid hf
  have hs0 : (w.alloc (.cells #[.int .i64 now] 3)).heap.size = w.heap.size + 1 := by simp
  clear h hal hf
  go_enter Try.func54, Try.ntmps54
  go_wp2_with fail
  refine (iCopyP _ l _ HH.out HF.out).mono ?_
  rintro e w1 ⟨U, rfl, hi, hb1⟩
  obtain ⟨⟨xu, nu, cu, Lu⟩, rfl, hs, hi⟩ := hi.split
  replace hs : Lu.map kPi.strip = l := hs
  rw [show kLPi.val (⟨xu, nu, cu, Lu⟩ : Rw Pim) = .slice xu nu cu from rfl]
  rw [hs0] at hi
  have HO := Lib.hid hi
  have hnu : nu = Lu.length := hi.1.1.holds.lenEq
  have hcu : nu ≤ cu := by obtain ⟨x', n', cap', hv, hn', hc', -⟩ := hi.1.1.holds.shapeN; cases hv; exact hc'
  have hln : l.length = nu := by rw [← hs, List.length_map]; exact hnu.symm
  have HLN := Lib.hid hln
  have hn9 : nu ≤ 1100000 := by have := HF.out.len; omega
  replace HX := Lib.hid (HX.out.on hb1); replace HB := Lib.hid (HB.out.trans (hb1.mono HB.out.size))
  have HS1 := Lib.hid (show w.heap.size + 1 ≤ w1.heap.size by rw [← hs0]; exact hb1.size)
  have HL0 := Lib.hid (show Lu.length = nu from hnu.symm); have HST := Lib.hid (show Lu.map kPi.strip = (l.take 0).map (leftP now) ++ l.drop 0 by simpa using hs)
  clear hi hs hb1 hs0 hnu hln HH
  go_wp2
  go_loopw [12] (fun iv wr => ∃ k : Nat, k ≤ nu ∧ iv = .int .i64 k ∧ ∃ Lk : List Pim, Hid (Lk.length = nu) ∧ Hid (Lk.map kPi.strip = (l.take k).map (leftP now) ++ l.drop k) ∧ Hid (kLPi.Own (w.heap.size + 1) wr.heap.size wr ⟨xu, nu, cu, Lk⟩) ∧ Hid (Ret.Blk wr w.heap.size #[.int .i64 now] 3) ∧ Hid (Below w.heap.size w wr) ∧ Hid (w.heap.size + 1 ≤ wr.heap.size)) (fun iv _ => nu - (intOf iv).toNat)
  case atStart => exact ⟨0, Nat.zero_le _, rfl, Lu, HL0, HST, HO, HX, HB, HS1⟩
  case round =>
    clear HO HX HB HS1 HL0 HST
    obtain ⟨k, hk, rfl, Lk, hL, hst, ho, hx, hb, hsz⟩ := hrel
    by_cases hlt : k < nu
    · have hkL : k < Lk.length := by have := hL.out; omega
      obtain ⟨gR, rfl, hnl, hnc, hg1, hg2⟩ := row_form ho.out hkL
      have hel := Kd.Own.elem ho.out hkL
      obtain ⟨⟨m1, m2, ls⟩, hmm⟩ : ∃ mm, nth Lk k = mm := ⟨_, rfl⟩
      rw [hmm] at hel
      obtain ⟨hN, hQR, -⟩ := Kd.Own.parts (k := kN) (l := kLRq.pair kInt) hel
      obtain ⟨hQ, -, -⟩ := Kd.Own.parts (k := kLRq) (l := kInt) hQR
      obtain ⟨y0, m0, d0, y1, n1, d1, e9, -⟩ := kPi_shapeA (Kd.at_of (k := kPi) hel.holds)
      have hce : kPi.cells ((m1, m2, ls) : Pim) = [.slice y0 m0 d0, .slice y1 n1 d1, .int .i64 ls] := by injection e9 with e; exact congrArg Array.toList e
      have hq1 : kLRq.val m2 = .slice y1 n1 d1 := Option.some.inj (congrArg (fun L => L[1]?) hce)
      obtain ⟨x2, n2, c2, M2⟩ := m2
      have hq2 : Value.slice x2 n2 c2 = .slice y1 n1 d1 := hq1
      injection hq2 with e1 e2 e3
      subst e1; subst e2; subst e3
      have hcells : ∀ i, i < 3 → wr.cell? ⟨gR, k * 3 + i, none⟩ = ([.slice y0 m0 d0, .slice x2 n2 c2, .int .i64 ls] : List Value)[i]? := fun i hi => by
        have h5 := (ownK_cell szPi_cells ho.out.1.1 hnl hkL (i := i) hi).1
        rw [hmm, hce] at h5
        exact h5
      have c0 : wr.cell? ⟨gR, k * 3, none⟩ = some (.slice y0 m0 d0) := hcells 0 (by decide)
      have c1 : wr.cell? ⟨gR, k * 3 + 1, none⟩ = some (.slice x2 n2 c2) := hcells 1 (by decide)
      have c2_ : wr.cell? ⟨gR, k * 3 + 2, none⟩ = some (.int .i64 ls) := hcells 2 (by decide)
      have hsk : (kN.strip m1, M2, ls) = nth l k := by
        have h5 := (left_step (now := now) (by have := HLN.out; omega) hst.out).2
        rw [nth_map _ hkL, hmm] at h5
        rw [← h5]
        show _ = (kN.strip m1, M2.map kRq.strip, ls)
        rw [rq_map]
      have hM2 : M2.length ≤ 1200000 := by
        have h5 := (wtPi_lens (HF.out.each (nth l k) (nth_mem (by have := HLN.out; omega)))).2
        rw [← hsk] at h5
        exact h5
      have hHM : HoldsK kRq.cells 3 wr (.slice x2 n2 c2) M2 := hQ.1.1.holds
      have hn2 : n2 = M2.length := hHM.lenEq
      have hc2 : n2 ≤ c2 := by obtain ⟨x', n', cap', hv, hn', hc', -⟩ := hHM.shapeN; cases hv; exact hc'
      have hal1 := (Below.refl wr.heap.size wr).alloc (Nat.le_refl _) (.cells #[.slice y0 m0 d0, .slice x2 n2 c2, .int .i64 ls] 101)
      obtain ⟨wa, hwa⟩ : ∃ wa, wr.alloc (.cells #[.slice y0 m0 d0, .slice x2 n2 c2, .int .i64 ls] 101) = wa := ⟨_, rfl⟩
      have HXP := Lib.hid (show Ret.Blk wa wr.heap.size #[.slice y0 m0 d0, .slice x2 n2 c2, .int .i64 ls] 101 from hwa ▸ Ret.Blk.new wr _ _)
      have HWA := Lib.hid hwa
      rw [hwa] at hal1
      have HAL := Lib.hid hal1; have HSK := Lib.hid hsk; have HHM := Lib.hid hHM; have HN2 := Lib.hid hn2; have HMM := Lib.hid hmm; have HNL := Lib.hid hnl; have HKL := Lib.hid hkL; have HM2 := Lib.hid hM2
      have hgw : gR < wr.heap.size := hg2
      clear hel hN hQR hQ e9 hce hq1 hcells hsk hHM hwa hal1 hmm hnl hkL hn2
      go_wp2_with fail
      rw [HWA.out]
      have p1 : wa.cell? ⟨wr.heap.size, 1, none⟩ = some (.slice x2 n2 c2) := HXP.out.cell 1
      have hmf : ∀ (fn : Fn) (first cap : Array Value) (w : World), (Instr.makeFunc fn first cap).run Try.prog w = .ok (.func fn first cap) w := fun _ _ _ _ => rfl
      go_wp2_with fail
      refine (wantOf x2 n2 c2 _ _ _ rfl wa).mono ?_
      rintro e w3 ⟨rfl, rfl⟩
      have hb3 := ((Below.refl wa.heap.size wa).alloc (Nat.le_refl _) (.cells #[.slice x2 n2 c2] 68)).alloc (by simp) (.cells #[.func (.func 103) #[] #[.pointer (some ⟨w.heap.size, 0, none⟩)]] 121)
      have hk1 := (Ret.Blk.new wa #[.slice x2 n2 c2] 68).on ((Below.refl _ _).alloc (Nat.le_refl _) (.cells #[.func (.func 103) #[] #[.pointer (some ⟨w.heap.size, 0, none⟩)]] 121))
      have hk2 := Ret.Blk.new' (w := wa.alloc (.cells #[.slice x2 n2 c2] 68)) (n := wa.heap.size + 1) #[.func (.func 103) #[] #[.pointer (some ⟨w.heap.size, 0, none⟩)]] 121 (by simp)
      obtain ⟨wb, hwb⟩ : ∃ wb, (wa.alloc (.cells #[.slice x2 n2 c2] 68)).alloc (.cells #[.func (.func 103) #[] #[.pointer (some ⟨w.heap.size, 0, none⟩)]] 121) = wb := ⟨_, rfl⟩
      rw [hwb] at hb3 hk1 hk2 ⊢
      have hbb := HAL.out.trans (hb3.mono HAL.out.size)
      have HC := Lib.hid (collectE wa.heap.size (wa.heap.size + 1) w.heap.size x2 n2 c2 M2 (wtR now) wb (by have := HM2.out; have := HN2.out; omega) HN2.out hc2 (clos_ex w.heap.size now wb ((hx.out.on hbb).cell 0)) (hk1.cell 0) (hk2.cell 0) (HHM.out.on hbb))
      have HBB := Lib.hid hbb
      clear hb3 hk1 hk2 hwb hbb p1 c0 c1 c2_
      go_wp2_with fail
      refine HC.out.mono ?_
      rintro e w4 ⟨v4, rfl, ho4, hb4⟩
      obtain ⟨x4, n4, c4, rfl, -, -, ho4⟩ := ho4.shapeN
      have hbc := HBB.out.trans (hb4.mono HBB.out.size)
      have HQ4 := Lib.hid ((kLRq_own (E := w4.heap.size) ho4 (Nat.le_refl _)).mono (B' := wr.heap.size) HBB.out.size (Nat.le_refl _))
      have hoW := ho.out.on hbc
      have t1 : w4.frozen? ⟨gR, k * 3 + 1, none⟩ = false := (ownK_cell szPi_cells hoW.1.1 HNL.out HKL.out (i := 1) (by decide)).2
      have z1 : w4.cell? ⟨gR, k * 3 + 1, none⟩ = (kPi.cells (nth Lk k))[1]? := (ownK_cell szPi_cells hoW.1.1 HNL.out HKL.out (i := 1) (by decide)).1
      obtain ⟨z, hz⟩ : ∃ z, w4.cell? ⟨gR, k * 3 + 1, none⟩ = some z := ⟨_, z1.trans (List.getElem?_eq_getElem (by rw [kPi.len]; decide))⟩
      have HO4 := Lib.hid (put_rq (v := .slice x4 n4 c4) hoW HNL.out HKL.out HQ4.out hbc.size (by omega) rfl)
      have HX4 := Lib.hid ((hx.out.on hbc).other (a := ⟨gR, k * 3 + 1, none⟩) (by show gR ≠ w.heap.size; omega) (.slice x4 n4 c4))
      have HB4 := Lib.hid ((hb.out.trans (hbc.mono hb.out.size)).setCell (p := ⟨gR, k * 3 + 1, none⟩) (by show w.heap.size ≤ gR; omega) (.slice x4 n4 c4))
      have HZ4 := Lib.hid (show w.heap.size + 1 ≤ w4.heap.size from Nat.le_trans hsz.out hbc.size)
      have HST4 := Lib.hid (show (Lk.set k ((nth Lk k).1, ⟨x4, n4, c4, M2.filter (wtR now)⟩, (nth Lk k).2.2)).map kPi.strip = (l.take (k + 1)).map (leftP now) ++ l.drop (k + 1) by
        rw [← (left_step (now := now) (by have := HLN.out; omega) hst.out).1, List.map_set, HMM.out, ← HSK.out]
        congr 1
        show (kN.strip m1, (M2.filter (wtR now)).map kRq.strip, ls) = (kN.strip m1, M2.filter (wtR now), ls)
        rw [rq_map])
      have HLL := Lib.hid (show (Lk.set k ((nth Lk k).1, ⟨x4, n4, c4, M2.filter (wtR now)⟩, (nth Lk k).2.2)).length = nu by rw [List.length_set, hL.out])
      have hkc : k ≤ cu := by omega
      clear ho4 hb4 hbc hoW z1 HC HXP hg1 hg2 hgw
      go_wp2
      go_roundw
      case rel => exact ⟨k + 1, by omega, by go_num, _, HLL, HST4, Lib.hid (by rw [World.size_setCell]; exact HO4.out), HX4, HB4, Lib.hid (by rw [World.size_setCell]; exact HZ4.out)⟩
      case measure => simp [intOf]; omega
    · obtain rfl : k = nu := by omega
      have hst2 : Lk.map kPi.strip = l.map (leftP now) := by
        have h5 := hst.out
        rw [List.take_of_length_le (by rw [HLN.out]; exact Nat.le_refl _), List.drop_eq_nil_of_le (by rw [HLN.out]; exact Nat.le_refl _), List.append_nil] at h5
        exact h5
      have HFD := Lib.hid (show Calls Try.prog 104 #[.slice xu k cu, .func (.func 105) #[] #[]] wr _ from delFPi (fun x => !someR x) (fun x => wtPi x ≤ 1200000) (w.heap.size + 1) ⟨xu, k, cu, Lk⟩ wr ho.out (by show Lk.length ≤ _; rw [hL.out]; exact hn9) (by
        intro x hx
        rw [show (⟨xu, k, cu, Lk⟩ : Rw Pim).els = Lk from rfl, hst2] at hx
        obtain ⟨y, hy, rfl⟩ := List.mem_map.1 hx
        have h5 := HF.out.each y hy
        have h6 : (leftP now y).2.1.length ≤ y.2.1.length := List.length_filter_le _ _
        have h7 := bulkK_Rq (leftP now y).2.1
        have h8 := bulkK_Rq y.2.1
        unfold wtPi at h5 ⊢
        have h9 : (leftP now y).1 = y.1 := rfl
        rw [h9]
        omega) (clos_em wr _))
      have HE := Lib.hid (show (Lk.map kPi.strip).filter (fun x => !(fun x => !someR x) x) = expP l now by
        rw [hst2]
        unfold expP
        congr 1
        funext x
        simp)
      clear hlt hst2
      go_wp2_with fail
      refine HFD.out.mono ?_
      rintro e w5 ⟨⟨x5, n5, c5, L5⟩, rfl, ho5, he5, -, hg5⟩
      have HO5 := Lib.hid ho5
      have HE5 := Lib.hid (show L5.map kPi.strip = expP l now from he5.trans HE.out)
      have HB5 := Lib.hid (hb.out.grown hg5 hb.out.size (fun g hg => by have := (ho.out.1.1.lt g hg).1; omega))
      clear ho5 he5 hg5 HFD
      go_wp2_with fail
      go_ret
      exact ⟨_, rfl, HE5.out ▸ (show kLPi.In w.heap.size _ _ (.slice x5 n5 c5) (L5.map kPi.strip) from (HO5.out.mono (Nat.le_succ _) (Nat.le_refl _)).in), HB5.out⟩
end Go.Proofs.Ytjphnlkdbhcblaa.Row
/- ExpirePending, the model. No conditions but that lengths fit. -/
namespace Go.Proofs.Ytjphnlkdbhcblaa.Row
open Go.ChangeShapes Go.WideShapes Go.ChangeAt Go.RowKit Go.Instr
set_option linter.unusedVariables false
set_option maxRecDepth 100000
set_option maxRecDepth 100000 in
set_option maxHeartbeats 4000000 in
theorem rxm {Q : Exit → Act → World → Prop} {v1 v2 v3 v4 v8 v10 v11 v12 v13 v14 v15 v16 v17 v18 v19 v20 v21 v22 v23 v24 v25 v26 v27 v28 v29 v30 v31 v32 v33 v34 v35 v36 v37 v38 v39 v40 v41 v42 v43 v44 v45 v46 v47 v48 v49 v50 v51 v52 v53 v54 v55 v56 v57 v58 v59 v60 v61 v62 v63 v64 v65 v66 v67 v68 v69 v70 : Value} {w : World} {Lu : List Pim} {B nu cu : Nat} {xu : Option Addr} (HBW : Hid (B ≤ w.heap.size)) (HLM : Hid (Lu.length ≤ 1100000)) {p b off n c k n0 c0 na ca E1 E2 C1 : Nat} {x0 xa : Option Addr} {ls : Int} {nm : List ByteArray} {m1 : Rw ByteArray} {qs : List Rqm} (hk : k < n) (hkc : k ≤ c) (hn : n ≤ 9000000) (HOL : Hid (kLPi.Own B C1 w ⟨xu, nu, cu, Lu⟩)) (HC0 : Hid (B ≤ C1)) (HPR : Hid (some p ≠ (Value.slice xu nu cu).ownBlock)) (HBR : Hid (some b ≠ (Value.slice xu nu cu).ownBlock)) (ON : Hid (kN.Own C1 E1 w m1)) (HS1 : Hid (kN.strip m1 = nm)) (HD1 : Hid (kN.cells m1 = [.slice x0 n0 c0])) (OQ : Hid (kLRq.Own C1 E2 w ⟨xa, na, ca, qs⟩)) (HDJ : Hid (∀ g ∈ kN.blocks m1, g ∉ kLRq.blocks ⟨xa, na, ca, qs⟩)) (K0 : Hid (w.cell? ⟨p, 0, none⟩ = some (.slice x0 n0 c0))) (K2 : Hid (w.cell? ⟨b, off + k * 3 + 2, none⟩ = some (.int .i64 ls)))
  (hQ : ∀ (u59 u60 u61 u62 u63 u64 u65 u66 u67 u68 u69 : Value) (x4 : Option Addr) (n4 c4 : Nat) (mm : Pim)  (wx : World), Hid (kPi.strip mm = (nm, qs, ls)) → Hid (kLPi.Own B wx.heap.size wx ⟨x4, n4, c4, Lu ++ [mm]⟩) → Below B w wx → Q .normal ⟨#[.slice (some ⟨b, off, none⟩) n c, v1, v2, v3, v4, .slice x4 n4 c4, .int .i64 k, .slice xa na ca, v8, .pointer (some ⟨p, 0, none⟩), v10, v11, v12, v13, v14, v15, v16, v17, v18, v19, v20, v21, v22, v23, v24, v25, v26, v27, v28, v29, v30, v31, v32, v33, v34, v35, v36, v37, v38, v39, v40, v41, v42, v43, v44, v45, v46, v47, v48, v49, v50, v51, v52, v53, v54, v55, v56, v57, v58, u59, u60, u61, u62, u63, u64, u65, u66, u67, u68, u69, v70], []⟩ wx) :
  (Code.region 13 #[⟨some 59, .move (.tmp 5), 35, "l13_pend.go:132", #[], none⟩,
   ⟨some 60, .load 27 (.tmp 9), 27, "l13_pend.go:132", #[], none⟩,
   ⟨some 61, .move (.tmp 7), 68, "l13_pend.go:132", #[], none⟩,
   ⟨some 62, .move (.tmp 0), 35, "l13_pend.go:132", #[], none⟩,
   ⟨some 63, .move (.tmp 6), 3, "l13_pend.go:132", #[], none⟩,
   ⟨some 64, .indexAddr 35 (.tmp 62) (.tmp 63), 0, "l13_pend.go:132", #[⟨3, .data⟩, ⟨4, .data⟩], none⟩,
   ⟨some 65, .fieldAddr 101 (.tmp 64) 2, 0, "l13_pend.go:132", #[⟨5, .data⟩], none⟩,
   ⟨some 66, .load 3 (.tmp 65), 3, "l13_pend.go:132", #[⟨6, .data⟩], none⟩,
   ⟨some 67, .build 101 #[(0, .tmp 60), (1, .tmp 61), (2, .tmp 66)], 101, "l13_pend.go:132", #[⟨1, .data⟩, ⟨2, .data⟩, ⟨7, .data⟩], none⟩,
   ⟨some 68, .buildSlice 35 1 #[(0, .tmp 67)], 35, "l13_pend.go:132", #[⟨8, .data⟩], none⟩,
   ⟨some 69, .call ⟨.builtin .append, #[.tmp 59, .tmp 68], #[35, 35]⟩, 35, "l13_pend.go:132", #[⟨0, .data⟩, ⟨9, .data⟩], none⟩,
   ⟨some 5, .assign (.tmp 69), 35, "l13_pend.go:132", #[⟨10, .data⟩, ⟨10, .chain⟩, ⟨0, .phase⟩, ⟨1, .phase⟩, ⟨2, .phase⟩, ⟨3, .phase⟩, ⟨4, .phase⟩, ⟨5, .phase⟩, ⟨6, .phase⟩, ⟨7, .phase⟩, ⟨8, .phase⟩, ⟨9, .phase⟩, ⟨10, .phase⟩], none⟩] true).wp Try.prog Q ⟨#[.slice (some ⟨b, off, none⟩) n c, v1, v2, v3, v4, .slice xu nu cu, .int .i64 k, .slice xa na ca, v8, .pointer (some ⟨p, 0, none⟩), v10, v11, v12, v13, v14, v15, v16, v17, v18, v19, v20, v21, v22, v23, v24, v25, v26, v27, v28, v29, v30, v31, v32, v33, v34, v35, v36, v37, v38, v39, v40, v41, v42, v43, v44, v45, v46, v47, v48, v49, v50, v51, v52, v53, v54, v55, v56, v57, v58, v59, v60, v61, v62, v63, v64, v65, v66, v67, v68, v69, v70], []⟩ w := by
 have HQ := Lib.hid hQ; clear hQ
 have hdr : Below w.heap.size w w.drew := (Below.refl _ _).drew
 have BB := Lib.hid hdr
 have BX := Lib.hid (BB.out.mono HBW.out)
 refine wp_region_noPanic ?_
 refine wp_region_held_drew (S := (fun w' => w'.cell? ⟨p, 0, none⟩ = some (.slice x0 n0 c0) ∧ w'.cell? ⟨b, off + k * 3 + 2, none⟩ = some (.int .i64 ls))) (by kernel_rfl) ?_ (fun hHeld => ?_)
 ·
  exact ⟨kc K0.out BB.out, kc K2.out BB.out⟩
 clear hdr
 generalize w.drew = wd at *
 refine wpAnyH_take (i := 0) (oi := ⟨some 59, .move (.tmp 5), 35, "l13_pend.go:132", #[], none⟩) (v := ?_) rfl (by kernel_rfl) (by kernel_rfl) (by kernel_rfl) (fun _ _ _ h => h) (Or.inl ⟨by rfl, ?_⟩) (by assumption) ?_
 rotate_left
 ·
  intro w' hSw; (try dsimp only at hSw); first | (go_simp; done) | (go_simp; with_reducible rfl)
 (try simp only [Act.put, Row.pB0, Row.pB1, Row.pB2])
 refine wpAnyH_take (i := 1) (oi := ⟨some 60, .load 27 (.tmp 9), 27, "l13_pend.go:132", #[], none⟩) (v := ?_) rfl (by kernel_rfl) (by kernel_rfl) (by kernel_rfl) (fun _ _ _ h => h) (Or.inl ⟨by rfl, ?_⟩) (by assumption) ?_
 rotate_left
 ·
  intro w' hSw; (try dsimp only at hSw); first | (go_simp; done) | (go_simp; with_reducible rfl)
 (try simp only [Act.put, Row.pB0, Row.pB1, Row.pB2])
 refine wpAnyH_take (i := 2) (oi := ⟨some 61, .move (.tmp 7), 68, "l13_pend.go:132", #[], none⟩) (v := ?_) rfl (by kernel_rfl) (by kernel_rfl) (by kernel_rfl) (fun _ _ _ h => h) (Or.inl ⟨by rfl, ?_⟩) (by assumption) ?_
 rotate_left
 ·
  intro w' hSw; (try dsimp only at hSw); first | (go_simp; done) | (go_simp; with_reducible rfl)
 (try simp only [Act.put, Row.pB0, Row.pB1, Row.pB2])
 refine wpAnyH_take (i := 3) (oi := ⟨some 62, .move (.tmp 0), 35, "l13_pend.go:132", #[], none⟩) (v := ?_) rfl (by kernel_rfl) (by kernel_rfl) (by kernel_rfl) (fun _ _ _ h => h) (Or.inl ⟨by rfl, ?_⟩) (by assumption) ?_
 rotate_left
 ·
  intro w' hSw; (try dsimp only at hSw); first | (go_simp; done) | (go_simp; with_reducible rfl)
 (try simp only [Act.put, Row.pB0, Row.pB1, Row.pB2])
 refine wpAnyH_take (i := 4) (oi := ⟨some 63, .move (.tmp 6), 3, "l13_pend.go:132", #[], none⟩) (v := ?_) rfl (by kernel_rfl) (by kernel_rfl) (by kernel_rfl) (fun _ _ _ h => h) (Or.inl ⟨by rfl, ?_⟩) (by assumption) ?_
 rotate_left
 ·
  intro w' hSw; (try dsimp only at hSw); first | (go_simp; done) | (go_simp; with_reducible rfl)
 (try simp only [Act.put, Row.pB0, Row.pB1, Row.pB2])
 refine wpAnyH_take (i := 5) (oi := ⟨some 64, .indexAddr 35 (.tmp 62) (.tmp 63), 0, "l13_pend.go:132", #[⟨3, .data⟩, ⟨4, .data⟩], none⟩) (v := ?_) rfl (by kernel_rfl) (by kernel_rfl) (by kernel_rfl) (fun _ _ _ h => h) (Or.inl ⟨by rfl, ?_⟩) (by assumption) ?_
 rotate_left
 ·
  intro w' hSw; (try dsimp only at hSw); first | (go_simp; done) | (go_simp; with_reducible rfl)
 (try simp only [Act.put, Row.pB0, Row.pB1, Row.pB2])
 refine wpAnyH_take (i := 6) (oi := ⟨some 65, .fieldAddr 101 (.tmp 64) 2, 0, "l13_pend.go:132", #[⟨5, .data⟩], none⟩) (v := ?_) rfl (by kernel_rfl) (by kernel_rfl) (by kernel_rfl) (fun _ _ _ h => h) (Or.inl ⟨by rfl, ?_⟩) (by assumption) ?_
 rotate_left
 ·
  intro w' hSw; (try dsimp only at hSw); first | (go_simp; done) | (go_simp; with_reducible rfl)
 (try simp only [Act.put, Row.pB0, Row.pB1, Row.pB2])
 refine wpAnyH_take (i := 7) (oi := ⟨some 66, .load 3 (.tmp 65), 3, "l13_pend.go:132", #[⟨6, .data⟩], none⟩) (v := ?_) rfl (by kernel_rfl) (by kernel_rfl) (by kernel_rfl) (fun _ _ _ h => h) (Or.inl ⟨by rfl, ?_⟩) (by assumption) ?_
 rotate_left
 ·
  intro w' hSw; (try dsimp only at hSw); first | (go_simp; done) | (go_simp; with_reducible rfl)
 (try simp only [Act.put, Row.pB0, Row.pB1, Row.pB2])
 refine wpAnyH_take (i := 8) (oi := ⟨some 67, .build 101 #[(0, .tmp 60), (1, .tmp 61), (2, .tmp 66)], 101, "l13_pend.go:132", #[⟨1, .data⟩, ⟨2, .data⟩, ⟨7, .data⟩], none⟩) (v := ?_) rfl (by kernel_rfl) (by kernel_rfl) (by kernel_rfl) (fun _ _ _ h => h) (Or.inl ⟨by rfl, ?_⟩) (by assumption) ?_
 rotate_left
 ·
  intro w' hSw; (try dsimp only at hSw); first | (go_simp; done) | (go_simp; with_reducible rfl)
 (try simp only [Act.put, Row.pB0, Row.pB1, Row.pB2])
 refine wpAnyH_ready (rs := [9]) (by kernel_rfl) (by simp) ?_
 refine AllReadyH.cons (o := ⟨some 68, .buildSlice 35 1 #[(0, .tmp 67)], 35, "l13_pend.go:132", #[⟨8, .data⟩], none⟩) rfl (fun K hK => ?_) AllReadyH.nil
 go_simp
 have hb : Below wd.heap.size wd (wd.alloc (.cells #[.slice x0 n0 c0, .slice xa na ca, .int .i64 ls] 101)) := (Below.refl _ _).alloc (Nat.le_refl _) _
 have HSO := Lib.hid (one_k (k := kPi) szPi_cells (e := 101) (W := wd) (m := ((m1, ⟨xa, na, ca, qs⟩, ls) : Pim)) (cs := [.slice x0 n0 c0, .slice xa na ca, .int .i64 ls]) (by show kN.cells m1 ++ ([.slice xa na ca] ++ kInt.cells ls) = _; rw [HD1.out]; rfl))
 have HMM := Lib.hid ((pi_join (u := ls) (ON.out.on BB.out) (OQ.out.on BB.out) HDJ.out wd.heap.size (ON.out.on BB.out).top (OQ.out.on BB.out).top).on hb)
 replace BB := Lib.hid (BB.out.trans (hb.mono BB.out.size))
 replace BX := Lib.hid (BX.out.trans (hb.mono (Nat.le_trans HBW.out BX.out.size)))
 clear hb
 generalize wd.alloc (.cells #[.slice x0 n0 c0, .slice xa na ca, .int .i64 ls] 101) = wn1 at *
 clear hHeld
 refine hK.out _ _ ?_ (fun hHeld => ?_)
 ·
  (try dsimp only); exact ⟨kc K0.out BB.out, kc K2.out BB.out⟩
 clear hK K
 (try simp only [Act.put, Row.pB0, Row.pB1, Row.pB2])
 refine wpAnyH_ready (rs := [10]) (by kernel_rfl) (by simp) ?_
 refine AllReadyH.cons (o := ⟨some 69, .call ⟨.builtin .append, #[.tmp 59, .tmp 68], #[35, 35]⟩, 35, "l13_pend.go:132", #[⟨0, .data⟩, ⟨9, .data⟩], none⟩) rfl (fun K hK => ?_) AllReadyH.nil
 refine step_appK kindPi (B := B) (v := .slice xu nu cu) (l := Lu) (m := [((m1, ⟨xa, na, ca, qs⟩, ls) : Pim)]) rfl _ _ (by rfl) Try.underlying35 (by rfl) (by rfl) ?_ ?_ ?_ ?_ ?_ ?_
 ·
  exact (HOL.out.on BB.out).1.1
 ·
  exact HSO.out
 ·
  have h5 := HLM.out; simp; omega
 ·
  have h5 := HLM.out; unfold maxLen; simp; omega
 ·
  exact Nat.le_trans HBW.out BB.out.size
 intro v4 wn2 ho4 hg4
 obtain ⟨x4, n4, c4, rfl, -, -, ho4⟩ := ho4.shapeN
 have HO4 := Lib.hid (Kd.push_later noRow_kPi (r := ⟨xu, nu, cu, Lu⟩) (HOL.out.on BB.out) HMM.out HC0.out ho4 hg4)
 replace BX := Lib.hid (BX.out.grown hg4 (Nat.le_trans HBW.out BX.out.size) (fun g e => ((HOL.out.on BB.out).1.1.lt g e).1))
 have k0_ := hg4.cell (kc K0.out BB.out) HPR.out
 have k1_ := hg4.cell (kc K2.out BB.out) HBR.out
 clear ho4 hg4
 clear hHeld
 refine hK.out _ _ ?_ (fun hHeld => ?_)
 ·
  (try dsimp only); exact ⟨k0_, k1_⟩
 clear hK K k0_ k1_
 (try simp only [Act.put, Row.pB0, Row.pB1, Row.pB2])
 refine wpAnyH_take (i := 11) (oi := ⟨some 5, .assign (.tmp 69), 35, "l13_pend.go:132", #[⟨10, .data⟩, ⟨10, .chain⟩, ⟨0, .phase⟩, ⟨1, .phase⟩, ⟨2, .phase⟩, ⟨3, .phase⟩, ⟨4, .phase⟩, ⟨5, .phase⟩, ⟨6, .phase⟩, ⟨7, .phase⟩, ⟨8, .phase⟩, ⟨9, .phase⟩, ⟨10, .phase⟩], none⟩) (v := ?_) rfl (by kernel_rfl) (by kernel_rfl) (by kernel_rfl) (fun _ _ _ h => h) (Or.inl ⟨by rfl, ?_⟩) (by assumption) ?_
 rotate_left
 ·
  intro w' hSw; (try dsimp only at hSw); first | (go_simp; done) | (go_simp; with_reducible rfl)
 (try simp only [Act.put, Row.pB0, Row.pB1, Row.pB2])
 refine wpAnyH_done (by kernel_rfl) ?_ _
 exact NoPanic.normal (HQ.out _ _ _ _ _ _ _ _ _ _ _ x4 n4 c4 (m1, ⟨xa, na, ca, qs⟩, ls) _ (Lib.hid (by show (kN.strip m1, List.map kRq.strip qs, ls) = _; rw [HS1.out, rq_map])) HO4 BX.out)
theorem exp_step {l : List Pit} {k : Nat} {now : Int} (hk : k < l.length) : expP (l.take (k + 1)) now = expP (l.take k) now ++ (if someR (leftP now (nth l k)) = true then [leftP now (nth l k)] else []) := by
  unfold expP
  rw [take_nx hk, List.map_append, List.filter_append]
  congr 1
  simp only [List.map_cons, List.map_nil, List.filter_cons, List.filter_nil]
set_option maxHeartbeats 16000000 in
theorem specExpirePending (V : Value) (l : List Pit) (now : Int) (w : World) (h : kLPi.At w V l) (hf : FitP l) :
    Calls Try.prog 53 #[V, .int .i64 now] w fun e w' => ∃ U, e = .returned U ∧ kLPi.In w.heap.size w'.heap.size w' U (expP l now) ∧ Below w.heap.size w w' := by
  have hl := hf.len
  have hp := hf.each
  obtain ⟨x, n, cx, L, rfl, hn, ht, hh, hel⟩ := kLPi_at h
  have hlen : l.length = n := by rw [← ht, List.length_map]; exact hn.symm
  rw [hlen] at hl
  have hcap : n ≤ cx := by obtain ⟨x', n', cap', hv, hn', hc', -⟩ := hh.shapeN; cases hv; exact hc'
  have HN := Lib.hid hn; have HT := Lib.hid ht; have HH := Lib.hid hh; have HEL := Lib.hid hel; have HLEN := Lib.hid hlen; have HP := Lib.hid hp
  clear hn ht hh hel hlen hp h
  have hown := ownK_empty kPi.cells 3 101 w
  have HB := Lib.hid ((Below.refl w.heap.size w).alloc (Nat.le_refl _) (.cells #[] 101))
  have HO := Lib.hid (show kLPi.Own w.heap.size (w.alloc (.cells #[] 101)).heap.size _ ⟨some ⟨w.heap.size, 0, none⟩, 0, 0, []⟩ from Kd.own_row hown rfl)
  clear hown
  go_enter Try.func53, Try.ntmps53
  go_wp2
  go_loopw [5, 6] (fun uv iv wr => ∃ k : Nat, k ≤ n ∧ iv = .int .i64 k ∧ ∃ xu nu cu Lu, uv = .slice xu nu cu ∧ Hid (Lu.length ≤ k) ∧ Hid (Lu.map kPi.strip = expP (l.take k) now) ∧ Hid (kLPi.Own w.heap.size wr.heap.size wr ⟨xu, nu, cu, Lu⟩) ∧ Hid (Below w.heap.size w wr)) (fun _ iv _ => n - (intOf iv).toNat)
  case atStart => exact ⟨0, Nat.zero_le _, rfl, some ⟨w.heap.size, 0, none⟩, 0, 0, [], rfl, Lib.hid (Nat.le_refl _), Lib.hid (by simp [expP]), HO, HB⟩
  case round =>
    clear HO HB
    obtain ⟨k, hk, rfl, xu, nu, cu, Lu, rfl, hM, hst, ho, hb⟩ := hrel
    by_cases hlt : k < n
    · have hlen := HN.out
      obtain ⟨b, off, y0, m0, d0, y1, m1, d1, rfl, -, hc0, hc1, hc2, hA⟩ := kLPi_elem HH.out (fun y hy => HEL.out y hy) (j := k) (by omega)
      have hbw := Ret.cell_lt hc0
      have hpt : nth l k = kPi.strip (nth L k) := by rw [← HT.out, nth_map _ (by omega)]
      have hps := HP.out (nth l k) (nth_mem (by have := HLEN.out; omega))
      rw [← hpt] at hA hc2
      replace hA := hA.on hb.out
      replace hc0 := kc hc0 hb.out
      replace hc1 := kc hc1 hb.out
      replace hc2 := kc hc2 hb.out
      obtain ⟨hNM, hRQ⟩ := kPi_parts hA
      have HNM := Lib.hid hNM; have HRQ := Lib.hid hRQ; have HPN := Lib.hid (show bulk (nth l k).1 ≤ 1200000 from (wtPi_lens hps).1); have HPR := Lib.hid (show (nth l k).2.1.length ≤ 1200000 from (wtPi_lens hps).2)
      obtain ⟨nm, rq, ls, hx⟩ : ∃ nm rq ls, nth l k = (nm, rq, ls) := ⟨_, _, _, rfl⟩
      rw [hx] at HNM HRQ HPN HPR hc2 hA
      have HXE := Lib.hid hx
      simp only at HNM HRQ HPN HPR hc2
      clear hNM hRQ hx
      have H0 := Lib.hid hc0; have H1 := Lib.hid hc1; have H2 := Lib.hid hc2
      clear hlen hpt hps hA
      obtain ⟨mr, hmr⟩ : ∃ mr, m1 = mr := ⟨_, rfl⟩
      rw [hmr] at HRQ H1 hc1
      have hrl : rq.length = mr := (kLRq_len HRQ.out).symm
      have HRL := Lib.hid hrl
      have hm9 : mr ≤ 1200000 := by have := HPR.out; omega
      have hE := ownK_empty kRq.cells 3 91 wr
      have hal := (Below.refl wr.heap.size wr).alloc (Nat.le_refl _) (.cells #[] 91)
      obtain ⟨wa, hwa⟩ : ∃ wa, wr.alloc (.cells #[] 91) = wa := ⟨_, rfl⟩
      have HWA := Lib.hid hwa
      rw [hwa] at hE hal
      have HE := Lib.hid (show OwnK 91 kRq.cells 3 wr.heap.size wa (.slice (some ⟨wr.heap.size, 0, none⟩) 0 0) (([] : List Rqm)) from hE); have HAL := Lib.hid hal
      have HHQ := Lib.hid (kLRq_holds HRQ.out)
      clear hE hal hwa hmr hrl hc0 hc1 hc2
      go_wp2_with fail
      rw [HWA.out]
      obtain ⟨wo, hwo⟩ : ∃ wo, wo = wr := ⟨_, rfl⟩
      subst hwo
      go_loopw [7, 8] (fun av iv wr => ∃ j : Nat, j ≤ mr ∧ iv = .int .i64 j ∧ ∃ xa na ca, av = .slice xa na ca ∧ Hid (OwnK 91 kRq.cells 3 wo.heap.size wr (.slice xa na ca) ((rq.take j).filter (wtR now))) ∧ Hid (Below wo.heap.size wo wr)) (fun _ iv _ => mr - (intOf iv).toNat)
      case atStart => exact ⟨0, Nat.zero_le _, rfl, some ⟨wo.heap.size, 0, none⟩, 0, 0, rfl, Lib.hid (by simpa using HE.out), HAL⟩
      case round =>
        clear HE HAL HWA
        obtain ⟨j, hj, rfl, xa, na, ca, rfl, hoa, hbq⟩ := hrel
        have q1 := kc H1.out hbq.out
        by_cases hjl : j < mr
        · have hjr : j < rq.length := by have := HRL.out; omega
          obtain ⟨bq, oq, rfl, hcm⟩ := (HHQ.out.on hbq.out).at szRq_cells hjr
          obtain ⟨f, u, e, hx⟩ : ∃ f u e, nth rq j = (f, u, e) := ⟨_, _, _, rfl⟩
          rw [hx] at hcm
          have e0 : wr.cell? ⟨bq, oq + j * 3, none⟩ = some (.int .i64 f) := by have h5 : wr.cell? ⟨bq, oq + (j * 3 + 0), none⟩ = some (.int .i64 f) := hcm 0 (by decide); simpa [Nat.add_assoc] using h5
          have e1 : wr.cell? ⟨bq, oq + j * 3 + 1, none⟩ = some (.int .i64 u) := by have h5 : wr.cell? ⟨bq, oq + (j * 3 + 1), none⟩ = some (.int .i64 u) := hcm 1 (by decide); simpa [Nat.add_assoc] using h5
          have e2 : wr.cell? ⟨bq, oq + j * 3 + 2, none⟩ = some (.int .i64 e) := by have h5 : wr.cell? ⟨bq, oq + (j * 3 + 2), none⟩ = some (.int .i64 e) := hcm 2 (by decide); simpa [Nat.add_assoc] using h5
          obtain ⟨q, hq⟩ : ∃ q, decide (now ≤ e) = q := ⟨_, rfl⟩
          have HQ := Lib.hid (show wtR now (nth rq j) = q from by rw [hx]; exact hq)
          have HX := Lib.hid hx
          clear hcm hx
          cases q with
          | false =>
            have HF := Lib.hid (filter_sk (p := wtR now) hjr HQ.out)
            go_wp2
            go_roundw
            case rel => exact ⟨j + 1, by omega, by go_num, xa, na, ca, rfl, Lib.hid (by rw [HF.out]; exact hoa.out), hbq⟩
            case measure => simp [intOf]; omega
          | true =>
            have HF := Lib.hid (filter_nx (p := wtR now) hjr HQ.out)
            have hal5 := (Below.refl wr.heap.size wr).alloc (Nat.le_refl _) (.cells #[.int .i64 f, .int .i64 u, .int .i64 e] 91)
            have HSO := Lib.hid (one_k (k := kRq) szRq_cells (e := 91) (W := wr) (m := ((f, u, e) : Rqm)) (cs := [.int .i64 f, .int .i64 u, .int .i64 e]) rfl)
            have HOA := Lib.hid (hoa.out.on hal5)
            have hfl : ((rq.take j).filter (wtR now)).length ≤ 1200000 := Nat.le_trans (List.length_filter_le _ _) (by rw [List.length_take]; omega)
            have HBA := Lib.hid (hbq.out.trans (hal5.mono hbq.out.size))
            clear hal5
            go_wp2_with (at_builtin; refine wpList_appK kindRq (B := wo.heap.size) (l := (rq.take j).filter (wtR now)) (m := [((f, u, e) : Rqm)]) rfl _ _ rfl Try.underlying68 rfl rfl HOA.out HSO.out (by simp; omega) (by unfold maxLen; simp; omega) HBA.out.size ?_)
            intro v6 w6 ho6 hg6
            obtain ⟨x6, n6, c6, rfl, -, -, ho6⟩ := ho6.shapeN
            have HO6 := Lib.hid (show OwnK 91 kRq.cells 3 wo.heap.size w6 (.slice x6 n6 c6) ((rq.take (j + 1)).filter (wtR now)) from by rw [HF.out, HX.out]; exact ho6)
            have HB6 := Lib.hid (HBA.out.grown hg6 HBA.out.size (fun g hg => (HOA.out.lt g hg).1))
            clear ho6 hg6 e0 e1 e2 q1
            go_wp2
            go_roundw
            case rel => exact ⟨j + 1, by omega, by go_num, x6, n6, c6, rfl, HO6, HB6⟩
            case measure => simp [intOf]; omega
        · obtain rfl : j = mr := by omega
          have hoF : OwnK 91 kRq.cells 3 wo.heap.size wr (.slice xa na ca) (rq.filter (wtR now)) := by
            have h5 := hoa.out
            rwa [List.take_of_length_le (by rw [HRL.out]; exact Nat.le_refl _)] at h5
          have hna : na = (rq.filter (wtR now)).length := hoF.holds.lenEq
          have hfl : (rq.filter (wtR now)).length ≤ 1200000 := Nat.le_trans (List.length_filter_le _ _) (by have := HRL.out; omega)
          have HES := Lib.hid (exp_step (now := now) (show k < l.length by have := HLEN.out; omega))
          rw [HXE.out] at HES
          have HOF := Lib.hid hoF
          clear hjl hoF
          by_cases hz : 0 < na
          · have t0 : decide (0 < (na : Int)) = true := decide_eq_true (by omega)
            have HST9 := Lib.hid (show Hid.out hst = Hid.out hst from rfl)
            have HES2 := Lib.hid (show expP (l.take (k + 1)) now = expP (l.take k) now ++ [(nm, rq.filter (wtR now), ls)] from by
              rw [HES.out, if_pos (by show decide (0 < (rq.filter (wtR now)).length) = true; rw [← hna]; exact decide_eq_true hz)]; rfl)
            have c0 := kc H0.out hbq.out
            have HNQ := Lib.hid (HNM.out.on hbq.out)
            clear HST9 hna hfl
            go_wp2_with fail
            refine (sCpyN HNQ.out (Nat.le_trans HPN.out (by decide))).mono ?_
            rintro e w5 ⟨U, rfl, hi5, hb5⟩
            obtain ⟨m5, za, nz, ea, rfl, hs5, hd5, ho5⟩ := kN_splitP hi5
            have hal := (Below.refl w5.heap.size w5).alloc (Nat.le_refl _) (.cells #[.slice za nz ea] 27)
            have hbl := hb5.trans (hal.mono hb5.size)
            have hbw9 := hbq.out.trans (hbl.mono hbq.out.size)
            have HXB := Lib.hid (Ret.Blk.new w5 #[.slice za nz ea] 27)
            have HPL := Lib.hid (fun e => by have h5 := (ho.out.1.1.lt _ (Eq.symm e)).2; have h6 := hb5.size; have h7 := hbq.out.size; omega : some w5.heap.size ≠ (Value.slice xu nu cu).ownBlock)
            have HBR := Lib.hid (fun e => by have h5 := (ho.out.1.1.lt _ (Eq.symm e)).1; omega : some b ≠ (Value.slice xu nu cu).ownBlock)
            have HOL := Lib.hid (ho.out.on hbw9); have hb2 := Lib.hid (hb.out.trans (hbw9.mono hb.out.size)); have HON := Lib.hid ((ho5.on hal).mono (B' := wo.heap.size) hbq.out.size (Nat.le_refl _)); have HS5 := Lib.hid hs5; have HD5 := Lib.hid hd5
            have HQQ := Lib.hid ((kLRq_own (E := wr.heap.size) HOF.out (Nat.le_refl _)).on hbl)
            have HDJ := Lib.hid (show ∀ g ∈ kN.blocks m5, g ∉ kLRq.blocks ⟨xa, na, ca, rq.filter (wtR now)⟩ from fun g h1 h2 => by have h5 := (ho5.lt g h1).1; have h6 := (HQQ.out.lt g h2).2.1; omega)
            have HBW := Lib.hid (show w.heap.size ≤ (w5.alloc (.cells #[.slice za nz ea] 27)).heap.size from hb2.out.size)
            have HC0 := Lib.hid hb.out.size
            have HLM := Lib.hid (show Lu.length ≤ 1100000 by have := hM.out; omega)
            have C2 := Lib.hid (kc H2.out hbw9)
            clear hal hbl hi5 hb5 hs5 hd5 ho5 hbw9 c0 q1
            go_wp2_with fail
            refine rxm (B := w.heap.size) (Lu := Lu) HBW HLM hlt (by omega) (by omega) HOL HC0 HPL HBR HON HS5 HD5 HQQ HDJ (Lib.hid (HXB.out.cell 0)) C2 ?_
            intro u59 u60 u61 u62 u63 u64 u65 u66 u67 u68 u69 x4 n4 c4 mm wx hs4 ho4 hbx
            have HB4 := Lib.hid (hb2.out.trans hbx)
            have HO4 := ho4
            have HST := Lib.hid (show (Lu ++ [mm]).map kPi.strip = expP (l.take (k + 1)) now by
              rw [List.map_append, hst.out, HES2.out]
              show _ ++ [kPi.strip mm] = _
              rw [hs4.out])
            clear hbx hs4 ho4
            go_wp2
            go_roundw
            case rel => exact ⟨k + 1, by omega, by go_num, x4, n4, c4, Lu ++ [mm], rfl, Lib.hid (by have := hM.out; simp; omega), HST, HO4, HB4⟩
            case measure => simp [intOf]; omega
          · have t0 : decide (0 < (na : Int)) = false := decide_eq_false (by omega)
            have HES2 := Lib.hid (show expP (l.take (k + 1)) now = expP (l.take k) now from by
              rw [HES.out, if_neg (by show ¬ decide (0 < (rq.filter (wtR now)).length) = true; rw [← hna]; simpa using hz), List.append_nil])
            have HOn := Lib.hid (ho.out.upto hbq.out)
            have HB4 := Lib.hid (hb.out.trans (hbq.out.mono hb.out.size))
            clear hna hfl
            go_wp2
            go_roundw
            case rel => exact ⟨k + 1, by omega, by go_num, xu, nu, cu, Lu, rfl, Lib.hid (by have := hM.out; omega), Lib.hid (by rw [HES2.out]; exact hst.out), HOn, HB4⟩
            case measure => simp [intOf]; omega
    · obtain rfl : k = n := by omega
      clear hlt
      have HE := Lib.hid (show Lu.map kPi.strip = expP l now by rw [hst.out, List.take_of_length_le (by rw [HLEN.out]; exact Nat.le_refl _)])
      go_wp2
      go_ret
      exact ⟨_, rfl, HE.out ▸ (show kLPi.In _ _ _ (.slice xu nu cu) (Lu.map kPi.strip) from ho.out.in), hb.out⟩
end Go.Proofs.Ytjphnlkdbhcblaa.Row
/- Slices of bytes in the words of kinds: sz, to, eq, mark, held. No conditions but that lengths fit. -/
namespace Go.Proofs.Ytjphnlkdbhcblaa.Row
open Go.ChangeShapes Go.WideShapes Go.ChangeAt Go.RowKit Go.Instr
set_option linter.unusedVariables false
set_option maxRecDepth 100000
def okB (l : List Int) : Prop := l.length ≤ 9223372036854775807
end Go.Proofs.Ytjphnlkdbhcblaa.Row
/- Names and bytes as parts that are marked; an element of a list, step by step. No conditions but that lengths fit. -/
namespace Go.Proofs.Ytjphnlkdbhcblaa.Row
open Go.ChangeShapes Go.WideShapes Go.ChangeAt Go.RowKit Go.Instr
set_option linter.unusedVariables false
set_option linter.unusedSectionVars false
set_option maxRecDepth 100000
theorem markF_N : MarkF Try.prog kN 97 (fun m => m.v) (fun l => l.length) (fun q l => marks markT q l.length) := by
  intro B E m w k h hl h0 h1
  have ho := kN_own1 h.1
  rw [kN_strip] at hl h1 ⊢
  refine (markStringS B m.v m.els w k ho hl h0 (by omega)).mono ?_
  rintro e w' ⟨a, b, c⟩
  refine ⟨a, ⟨m.ad, m.n, m.cap, marks markT k m.els.length⟩, rfl, by rw [kN_blocks, kN_blocks]; rfl, by rw [kN_strip], ⟨kN_own2 b, ?_, ?_⟩, WroteBy.of c (fun g hg => by rw [kN_blocks]; simp [hg])⟩
  · have := h.2.1
    rw [kN_blocks] at this ⊢
    exact this
  · have := h.2.2
    rw [kN_blocks] at this ⊢
    exact this
section
variable {α M : Type} [Inhabited M] {k : Kd α M} {B E : Nat} {w w' : World} {e : TypeId} {ad : Option Addr} {n cap j g : Nat} {Z : List M} {x x' : M}
theorem nth_set9 {γ : Type} [Inhabited γ] {Z : List γ} {j : Nat} (hj : j < Z.length) (x : γ) : nth (Z.set j x) j = x := by
  rw [nth_eq (by simpa using hj), List.getElem_set_self]
theorem set_nth9 {γ : Type} [Inhabited γ] {Z : List γ} {j : Nat} (hj : j < Z.length) : Z.set j (nth Z j) = Z := by
  rw [nth_eq hj, List.set_getElem_self]
theorem Kd.Own.elem9 (h : (k.slice e).Own B E w ⟨ad, n, cap, Z.set j x⟩) (hj : j < Z.length) : k.Own B E w x := by
  have := Kd.Own.elem h (j := j) (by simpa using hj)
  rwa [nth_set9 hj] at this
theorem Kd.Own.part9 (h : (k.slice e).Own B E w ⟨ad, n, cap, Z.set j x⟩) (hj : j < Z.length) (hc : k.cells x' = k.cells x) (hb : k.blocks x' = k.blocks x) (ho : k.Own B E w' x') (hw : WroteBy (k.blocks x) w w') :
    (k.slice e).Own B E w' ⟨ad, n, cap, Z.set j x'⟩ := by
  have := (Kd.Own.part h (j := j) (by simpa using hj) (x' := x') (by rw [nth_set9 hj]; exact hc) (by rw [nth_set9 hj]; exact hb) ho (by rw [nth_set9 hj]; exact hw)).1
  rwa [List.set_set] at this
theorem Kd.Own.put9 (h : (k.slice e).Own B E w ⟨some ⟨g, 0, none⟩, n, cap, Z.set j x⟩) (hn : n = Z.length) (hj : j < Z.length) {i : Nat} (hi : i < k.size) {u : Value} (hc : k.cells x' = (k.cells x).set i u) (hb : k.blocks x' = k.blocks x) (ho : ∀ {W : World}, k.own B W x → k.own B W x') :
    (k.slice e).Own B E (w.setCell ⟨g, j * k.size + i, none⟩ u) ⟨some ⟨g, 0, none⟩, n, cap, Z.set j x'⟩ := by
  have := (Kd.Own.put h (j := j) (by simpa using hn) (by simpa using hj) hi (u := u) (x' := x') (by rw [nth_set9 hj]; exact hc) (by rw [nth_set9 hj]; exact hb) (by rw [nth_set9 hj]; exact ho)).1
  rwa [List.set_set] at this
theorem Kd.Own.cell9 (h : (k.slice e).Own B E w ⟨some ⟨g, 0, none⟩, n, cap, Z.set j x⟩) (hn : n = Z.length) (hj : j < Z.length) {i : Nat} (hi : i < k.size) : w.cell? ⟨g, j * k.size + i, none⟩ = (k.cells x)[i]? ∧ w.frozen? ⟨g, j * k.size + i, none⟩ = false := by
  have := ownK_cell (fun m => k.len m) h.row (by simpa using hn) (j := j) (by simpa using hj) hi
  rwa [nth_set9 hj] at this
theorem nth_over {γ : Type} [Inhabited γ] {M L : List γ} {j : Nat} (hm : M.length = j) (hj : j < L.length) : nth (M ++ L.drop j) j = nth L j := by
  simp only [nth, List.getD]
  rw [List.getElem?_append_right (by rw [hm]; exact Nat.le_refl _), hm]
  simp
theorem set_over {γ : Type} [Inhabited γ] {M L : List γ} {j : Nat} (hm : M.length = j) (hj : j < L.length) (x : γ) : (M ++ L.drop j).set j x = M ++ [x] ++ L.drop (j + 1) := by
  have hd : L.drop j = nth L j :: L.drop (j + 1) := by rw [nth_eq hj, List.getElem_cons_drop]
  rw [List.set_append_right _ _ (by rw [hm]; exact Nat.le_refl _), hm, Nat.sub_self, hd, List.set_cons_zero, List.append_assoc]
  rfl
end
end Go.Proofs.Ytjphnlkdbhcblaa.Row
/- Lists of Requester: marked and looked at. No conditions but that lengths fit. -/
namespace Go.Proofs.Ytjphnlkdbhcblaa.Row
open Go.ChangeShapes Go.WideShapes Go.ChangeAt Go.RowKit Go.Instr
set_option linter.unusedVariables false
set_option maxRecDepth 100000
def mvRq (z : Rqt) : Nat := 3
def meRq (q : Int) (z : Rqt) : Rqt := (q, q + 1, q + 1 + 1)
set_option maxHeartbeats 4000000 in
theorem markRequesterSK (B E : Nat) (m : Rw Rqm) (w : World) (k : Int) (h : kLRq.Own B E w m) (hl : advK mvRq (kLRq.strip m) ≤ 100000000) (h0 : 0 ≤ k) (h1 : k + (advK mvRq (kLRq.strip m) : Int) ≤ 100000000000) :
    Calls Try.prog 51 #[kLRq.val m, .int .i64 k] w fun e w' => e = .returned (.int .i64 (k + (advK mvRq (kLRq.strip m) : Int))) ∧ ∃ m', kLRq.val m' = kLRq.val m ∧ kLRq.blocks m' = kLRq.blocks m ∧ kLRq.strip m' = mkLK mvRq meRq k (kLRq.strip m) ∧ kLRq.Own B E w' m' ∧ WroteBy (kLRq.blocks m) w w' := by
  obtain ⟨ad, n, cap, L⟩ := m
  replace h : (kRq.slice 91).Own B E w ⟨ad, n, cap, L⟩ := h
  replace hl : advK mvRq (L.map kRq.strip) ≤ 100000000 := hl
  replace h1 : k + (advK mvRq (L.map kRq.strip) : Int) ≤ 100000000000 := h1
  show Calls Try.prog 51 #[.slice ad n cap, .int .i64 k] w fun e w' => e = .returned (.int .i64 (k + (advK mvRq (L.map kRq.strip) : Int))) ∧ ∃ m' : Rw Rqm, Rw.v m' = .slice ad n cap ∧ (kRq.slice 91).blocks m' = (kRq.slice 91).blocks ⟨ad, n, cap, L⟩ ∧ m'.els.map kRq.strip = mkLK mvRq meRq k (L.map kRq.strip) ∧ (kRq.slice 91).Own B E w' m' ∧ WroteBy ((kRq.slice 91).blocks ⟨ad, n, cap, L⟩) w w'
  rcases h.row.form with ⟨hv, hL⟩ | ⟨g, cap', hv, g1, g2, g3, g4⟩
  · cases hv
    subst hL
    have H := Lib.hid h; clear h
    go_enter Try.func51, Try.ntmps51
    go_wp2
    refine wp_loop_rounds 1 ?_
    rw [rounds_succ]
    go_wp2
    go_ret
    exact ⟨ret_int (by simp [advK]), ⟨⟨none, 0, 0, []⟩, rfl, rfl, rfl, H.out, WroteBy.refl _ _⟩⟩
  · cases hv
    have HROWLT := g2
    obtain ⟨n, hn⟩ : ∃ n, n = L.length := ⟨_, rfl⟩
    rw [← hn] at h g3 ⊢
    obtain ⟨l, hl9⟩ : ∃ l, L.map kRq.strip = l := ⟨_, rfl⟩
    rw [hl9] at hl h1 ⊢
    have hll : l.length = n := by rw [← hl9, List.length_map, hn]
    obtain ⟨bs, hbs⟩ : ∃ bs, (kRq.slice 91).blocks ⟨some ⟨g, 0, none⟩, n, cap, L⟩ = bs := ⟨_, rfl⟩
    have hgb : g ∈ bs := by rw [← hbs]; exact List.mem_append_left _ (by simp [Value.ownBlock, Rw.v])
    have heb : ∀ x ∈ L, ∀ q ∈ kRq.blocks x, q ∈ bs := fun x hx q hq => by rw [← hbs]; exact List.mem_append_right _ (List.mem_flatMap.2 ⟨x, hx, hq⟩)
    have hmaxl : n ≤ 140737488351232 ∨ True := Or.inr trivial
    have hn2 : n ≤ maxLen := by rw [hn]; exact h.row.len
    unfold maxLen at hn2
    rw [hbs]
    have HN := Lib.hid hn; have HT := Lib.hid hl9; have HLL := Lib.hid hll; have HBS := Lib.hid hbs; have HGB := Lib.hid hgb; have HEB := Lib.hid heb
    have HST := Lib.hid (fun j (hj : j < n) => advK_take mvRq (l := l) (j := j) (by rw [hll]; exact hj))
    have HLE := Lib.hid (fun j => advK_take_le mvRq l j)
    have HB : Hid ((kRq.slice 91).Own B E w ⟨some ⟨g, 0, none⟩, n, cap, [] ++ L.drop 0⟩) := Lib.hid (by simpa using h)
    clear hn h hl9 hll hbs hgb heb hmaxl
    go_enter Try.func51, Try.ntmps51
    go_wp2
    go_loopw [1, 5] (fun kv i wr => ∃ j : Nat, j ≤ n ∧ i = .int .i64 j ∧ ∃ p : Int, kv = .int .i64 p ∧ 0 ≤ p ∧ p ≤ 100000000000 ∧ Hid (p = k + (advK mvRq (l.take j) : Int)) ∧ ∃ M : List Rqm, Hid (M.length = j) ∧ Hid (M.map kRq.strip = mkLK mvRq meRq k (l.take j)) ∧ Hid (M.map kRq.blocks = (L.take j).map kRq.blocks) ∧ Hid ((kRq.slice 91).Own B E wr ⟨some ⟨g, 0, none⟩, n, cap, M ++ L.drop j⟩) ∧ Hid (WroteBy bs w wr)) (fun _ i _ => n - (intOf i).toNat)
    case atStart => exact ⟨0, Nat.zero_le _, rfl, k, rfl, h0, by omega, Lib.hid (by simp [advK]), [], Lib.hid rfl, Lib.hid (by simp [mkLK]), Lib.hid rfl, HB, Lib.hid (WroteBy.refl _ _)⟩
    case round =>
      obtain ⟨j, hj, rfl, p, rfl, hp0, hp1, HP, M, HM1, HM2, HM3, HO, HW⟩ := hrel
      by_cases hlt : j < n
      · have hjL : j < L.length := by have := HN.out; omega
        obtain ⟨x0, hx0⟩ : ∃ x, nth L j = x := ⟨_, rfl⟩
        obtain ⟨Z, hZ⟩ : ∃ Z, M ++ L.drop j = Z := ⟨_, rfl⟩
        have hZl : n = Z.length := by rw [← hZ, List.length_append, HM1.out, List.length_drop]; have := HN.out; omega
        have hjZ : j < Z.length := by omega
        have hx9 : nth Z j = x0 := by rw [← hZ, nth_over HM1.out hjL, hx0]
        have ho := HO.out
        rw [hZ, ← set_nth9 hjZ, hx9] at ho
        have hst := HST.out j hlt
        rw [show nth l j = kRq.strip x0 by rw [← HT.out, nth_map _ hjL, hx0]] at hst
        have hle := HLE.out (j + 1)
        have hxb := HEB.out x0 (by rw [← hx0]; exact nth_mem hjL)
        have hmv : mvRq (kRq.strip x0) = 3 := by rfl
        rw [hmv] at hst
        have hp := HP.out
        have btot : p + ((3 : Nat) : Int) ≤ 100000000000 := by omega
        have HX0 := Lib.hid hx0; have HZ := Lib.hid hZ; have HZL := Lib.hid hZl; have HJZ := Lib.hid hjZ; have HO0 := Lib.hid ho; have HSTP := Lib.hid hst; have HXB := Lib.hid hxb; have HJL := Lib.hid hjL; have HMV := Lib.hid hmv
        have HW0 := HW
        clear hx0 hZ hZl hjZ hx9 ho hst hle hxb hp hjL hmv 
        have c0 : wr.cell? ⟨g, j * 3, none⟩ = some (.int .i64 x0.1) := (HO0.out.cell9 HZL.out HJZ.out (i := 0) (by decide)).1; have t0 : wr.frozen? ⟨g, j * 3, none⟩ = false := (HO0.out.cell9 HZL.out HJZ.out (i := 0) (by decide)).2
        have c1 : wr.cell? ⟨g, j * 3 + 1, none⟩ = some (.int .i64 x0.2.1) := (HO0.out.cell9 HZL.out HJZ.out (i := 1) (by decide)).1; have t1 : wr.frozen? ⟨g, j * 3 + 1, none⟩ = false := (HO0.out.cell9 HZL.out HJZ.out (i := 1) (by decide)).2
        have c2 : wr.cell? ⟨g, j * 3 + 2, none⟩ = some (.int .i64 x0.2.2) := (HO0.out.cell9 HZL.out HJZ.out (i := 2) (by decide)).1; have t2 : wr.frozen? ⟨g, j * 3 + 2, none⟩ = false := (HO0.out.cell9 HZL.out HJZ.out (i := 2) (by decide)).2
        have HOF : Hid ((kRq.slice 91).Own B E (((wr.setCell ⟨g, j * 3, none⟩ (.int .i64 (p))).setCell ⟨g, j * 3 + 1, none⟩ (.int .i64 (p + 1))).setCell ⟨g, j * 3 + 2, none⟩ (.int .i64 (p + 1 + 1))) ⟨some ⟨g, 0, none⟩, n, cap, Z.set j (p, p + 1, p + 1 + 1)⟩) := Lib.hid (Kd.Own.put9 (x' := ((p, p + 1, p + 1 + 1) : Rqm)) (Kd.Own.put9 (x' := ((p, p + 1, x0.2.2) : Rqm)) (Kd.Own.put9 (x' := ((p, x0.2.1, x0.2.2) : Rqm)) HO0.out HZL.out HJZ.out (i := 0) (by decide) (u := .int .i64 (p)) rfl rfl (fun h => h)) HZL.out HJZ.out (i := 1) (by decide) (u := .int .i64 (p + 1)) rfl rfl (fun h => h)) HZL.out HJZ.out (i := 2) (by decide) (u := .int .i64 (p + 1 + 1)) rfl rfl (fun h => h))
        have HWF : Hid (WroteBy bs w (((wr.setCell ⟨g, j * 3, none⟩ (.int .i64 (p))).setCell ⟨g, j * 3 + 1, none⟩ (.int .i64 (p + 1))).setCell ⟨g, j * 3 + 2, none⟩ (.int .i64 (p + 1 + 1)))) := Lib.hid (((HW0.out.trans (WroteBy.of (Ret.grownBy_set wr ⟨g, j * 3, none⟩ (.int .i64 (p))) (fun q hq => by cases hq; exact HGB.out))).trans (WroteBy.of (Ret.grownBy_set (wr.setCell ⟨g, j * 3, none⟩ (.int .i64 (p))) ⟨g, j * 3 + 1, none⟩ (.int .i64 (p + 1))) (fun q hq => by cases hq; exact HGB.out))).trans (WroteBy.of (Ret.grownBy_set ((wr.setCell ⟨g, j * 3, none⟩ (.int .i64 (p))).setCell ⟨g, j * 3 + 1, none⟩ (.int .i64 (p + 1))) ⟨g, j * 3 + 2, none⟩ (.int .i64 (p + 1 + 1))) (fun q hq => by cases hq; exact HGB.out)))
        have HSF : Hid (kRq.strip (p, p + 1, p + 1 + 1) = meRq p (kRq.strip x0)) := Lib.hid rfl
        have HBF : Hid (kRq.blocks (p, p + 1, p + 1 + 1) = kRq.blocks x0) := Lib.hid (show _ = _ from rfl)
        clear HO0 HW0  
        go_wp2_with fail
        go_roundw
        case rel =>
          refine ⟨j + 1, by omega, by go_num, p + 1 + 1 + 1, by go_num, by omega, by omega, Lib.hid ?_, M ++ [(p, p + 1, p + 1 + 1)], Lib.hid ?_, Lib.hid ?_, Lib.hid ?_, Lib.hid ?_, HWF⟩
          · rw [HSTP.out, HP.out]; omega
          · simp [HM1.out]
          · rw [List.map_append, HM2.out, mkLK_take _ _ _ (by rw [HLL.out]; exact hlt), show nth l j = kRq.strip x0 by rw [← HT.out, nth_map _ HJL.out, HX0.out], ← HP.out, ← HSF.out]
            rfl
          · rw [List.map_append, HM3.out, List.take_succ_eq_append_getElem HJL.out, List.map_append, ← nth_eq HJL.out, HX0.out]
            simp only [List.map_cons, List.map_nil]
            rw [HBF.out]
          · have h9 := HOF.out
            rw [← HZ.out, set_over HM1.out HJL.out] at h9
            exact h9
        case measure => simp [intOf]; omega
      · obtain rfl : j = n := by omega
        clear hlt
        go_wp2
        go_ret
        have hn := HN.out
        have hp := HP.out
        have e1 : l.take j = l := List.take_of_length_le (by rw [HLL.out]; exact Nat.le_refl _)
        have e2 : L.take j = L := List.take_of_length_le (by omega)
        have e3 : L.drop j = [] := List.drop_eq_nil_of_le (by omega)
        have hh := HO.out
        have hm2 := HM2.out
        have hm3 := HM3.out
        rw [e1] at hp hm2
        rw [e2] at hm3
        rw [e3, List.append_nil] at hh
        refine ⟨ret_int hp, ⟨some ⟨g, 0, none⟩, j, cap, M⟩, rfl, ?_, hm2, hh, HW.out⟩
        rw [← HBS.out]
        show _ ++ M.flatMap kRq.blocks = _ ++ L.flatMap kRq.blocks
        rw [List.flatMap_def, List.flatMap_def, hm3]
        rfl
set_option maxHeartbeats 4000000 in
theorem heldRequesterSK (V : Value) (l : List Rqt) (w : World) (k : Int) (h : kLRq.At w V (mkLK mvRq meRq k l)) (hl : advK mvRq l ≤ 100000000) (hlen : l.length ≤ 100000000) (h0 : 0 ≤ k) (h1 : k + (advK mvRq l : Int) ≤ 100000000000) :
    Calls Try.prog 52 #[V, .int .i64 k] w fun e w' => e = .returned (.int .i64 (k + (advK mvRq l : Int))) ∧ Below w.heap.size w w' := by
  obtain ⟨ad, n, cap, L, rfl, hn, hL, hh, hel⟩ := kLRq_at h
  have hll : l.length = n := by have := congrArg List.length hL; rw [List.length_map, mkLK_length] at this; omega
  rw [hll] at hlen
  have HN := Lib.hid hn; have HT := Lib.hid hL; have HH := Lib.hid hh; have HEL := Lib.hid hel; have HLL := Lib.hid hll
  have HST := Lib.hid (fun j (hj : j < n) => advK_take mvRq (l := l) (j := j) (by rw [hll]; exact hj))
  have HLE := Lib.hid (fun j => advK_take_le mvRq l j)
  clear h hn hL hh hel hll
  go_enter Try.func52, Try.ntmps52
  go_wp2
  go_loopw [1, 5] (fun kv i wr => ∃ j : Nat, j ≤ n ∧ i = .int .i64 j ∧ ∃ p : Int, kv = .int .i64 p ∧ 0 ≤ p ∧ p ≤ 100000000000 ∧ Hid (p = k + (advK mvRq (l.take j) : Int)) ∧ Hid (Below w.heap.size w wr)) (fun _ i _ => n - (intOf i).toNat)
  case atStart => exact ⟨0, Nat.zero_le _, rfl, k, rfl, h0, by omega, Lib.hid (by simp [advK]), Lib.hid (Below.refl _ _)⟩
  case round =>
    obtain ⟨j, hj, rfl, p, rfl, hp0, hp1, HP, hb⟩ := hrel
    by_cases hlt : j < n
    · have hn := HN.out
      obtain ⟨b, off, rfl, -, hc0, hc1, hc2, ha⟩ := kLRq_elem (HH.out.on hb.out) (fun y hy => kRq.holds_on (HEL.out y hy) hb.out) (j := j) (by omega)
      have hme : kRq.strip (nth L j) = meRq p (nth l j) := by rw [← nth_map kRq.strip (by omega), HT.out, mkLK_at _ _ _ (by rw [HLL.out]; exact hlt), ← HP.out]
      rw [hme] at ha hc0 hc1 hc2
      have hst := HST.out j hlt
      have hle := HLE.out (j + 1)
      obtain ⟨z, hz⟩ : ∃ z, nth l j = z := ⟨_, rfl⟩
      rw [hz] at ha hst hc0 hc1 hc2
      obtain e9 := kRq_at ha
      cases e9
      have hmv : mvRq z = 3 := by rfl
      rw [hmv] at hst
      have hp := HP.out
      have HC0 := Lib.hid (show wr.cell? ⟨b, off + j * 3, none⟩ = some (.int .i64 (p)) from by have h8 := hc0; simp only [meRq, ] at h8; exact h8)
      have HC1 := Lib.hid (show wr.cell? ⟨b, off + j * 3 + 1, none⟩ = some (.int .i64 (p + 1)) from by have h8 := hc1; simp only [meRq, ] at h8; exact h8)
      have HC2 := Lib.hid (show wr.cell? ⟨b, off + j * 3 + 2, none⟩ = some (.int .i64 (p + 1 + 1)) from by have h8 := hc2; simp only [meRq, ] at h8; exact h8)
      have btot : p + ((3 : Nat) : Int) ≤ 100000000000 := by omega
      have HSTP := Lib.hid hst
      clear hn ha hme hst hle hmv hp hz hc0 hc1 hc2   
      have c09 : wr.cell? ⟨b, off + j * 3, none⟩ = some (.int .i64 (p)) := HC0.out
      have c19 : wr.cell? ⟨b, off + j * 3 + 1, none⟩ = some (.int .i64 (p + 1)) := HC1.out
      have c29 : wr.cell? ⟨b, off + j * 3 + 2, none⟩ = some (.int .i64 (p + 1 + 1)) := HC2.out
      go_wp2_with fail
      go_roundw
      case rel => exact ⟨j + 1, by omega, by go_num, p + 1 + 1 + 1, by go_num, by omega, by omega, Lib.hid (by rw [HSTP.out, HP.out]; omega), hb⟩
      case measure => simp [intOf]; omega
    · obtain rfl : j = n := by omega
      clear hlt
      go_wp2
      go_ret
      have hp := HP.out
      rw [show l.take j = l from List.take_of_length_le (by rw [HLL.out]; exact Nat.le_refl _)] at hp
      exact ⟨ret_int hp, hb.out⟩
theorem markF_LRq : MarkF Try.prog kLRq 51 (fun m => m.v) (fun l => advK mvRq l) (fun q l => mkLK mvRq meRq q l) := by
  intro B E m w k h hl h0 h1
  refine (markRequesterSK B E m w k h hl h0 h1).mono ?_
  rintro e w' ⟨a, m', hv, hb, hs, ho, hw⟩
  exact ⟨a, m', (show [kLRq.val m'] = [kLRq.val m] by rw [hv]), hb, hs, ho, hw⟩
theorem lenAdvRq : ∀ l : List Rqt, l.length ≤ advK mvRq l
  | [] => Nat.le_refl _
  | x :: r => by
    have h := lenAdvRq r
    have h2 : 1 ≤ mvRq x := by unfold mvRq; omega
    simp only [advK, List.length_cons]
    omega
theorem heldRequesterSA (V : Value) (l : List Rqt) (w : World) (k : Int) (a : Nat) (ha : advK mvRq l = a) (h : kLRq.At w V (mkLK mvRq meRq k l)) (hl : a ≤ 100000000) (h0 : 0 ≤ k) (h1 : k + (a : Int) ≤ 100000000000) :
    Calls Try.prog 52 #[V, .int .i64 k] w fun e w' => e = .returned (.int .i64 (k + (a : Int))) ∧ Below w.heap.size w w' := by
  subst ha
  exact heldRequesterSK V l w k h hl (Nat.le_trans (lenAdvRq l) hl) h0 h1
end Go.Proofs.Ytjphnlkdbhcblaa.Row
/- Lists of PendingInterest: marked and looked at. No conditions but that lengths fit. -/
namespace Go.Proofs.Ytjphnlkdbhcblaa.Row
open Go.ChangeShapes Go.WideShapes Go.ChangeAt Go.RowKit Go.Instr
set_option linter.unusedVariables false
set_option maxRecDepth 100000
def mvPi (z : Pit) : Nat := z.1.length + advK mvRq z.2.1 + 1
def mePi (q : Int) (z : Pit) : Pit := (marks markT (q) z.1.length, mkLK mvRq meRq (q + (z.1.length : Int)) z.2.1, q + (z.1.length : Int) + (advK mvRq z.2.1 : Int))
theorem mfPi0 (B E : Nat) (x : Pim) (w : World) (q : Int) (a : Nat) (ha : (kPi.strip x).1.length = a) (ho : kPi.Own B E w x) (hl : a ≤ 100000000) (h0 : 0 ≤ q) (h1 : q + (a : Int) ≤ 100000000000) :
    Calls Try.prog 97 #[x.1.v, .int .i64 q] w fun e w' => e = .returned (.int .i64 (q + (a : Int))) ∧ ∃ x', kPi.cells x' = kPi.cells x ∧ kPi.blocks x' = kPi.blocks x ∧ kPi.strip x' = (marks markT (q) (kPi.strip x).1.length, (kPi.strip x).2.1, (kPi.strip x).2.2) ∧ kPi.Own B E w' x' ∧ WroteBy (kPi.blocks x) w w' := by
  subst ha
  exact (markF_N.fst _) B E x w q ho hl h0 h1
theorem mfPi1 (B E : Nat) (x : Pim) (w : World) (q : Int) (a : Nat) (ha : advK mvRq (kPi.strip x).2.1 = a) (ho : kPi.Own B E w x) (hl : a ≤ 100000000) (h0 : 0 ≤ q) (h1 : q + (a : Int) ≤ 100000000000) :
    Calls Try.prog 51 #[x.2.1.v, .int .i64 q] w fun e w' => e = .returned (.int .i64 (q + (a : Int))) ∧ ∃ x', kPi.cells x' = kPi.cells x ∧ kPi.blocks x' = kPi.blocks x ∧ kPi.strip x' = ((kPi.strip x).1, mkLK mvRq meRq (q) (kPi.strip x).2.1, (kPi.strip x).2.2) ∧ kPi.Own B E w' x' ∧ WroteBy (kPi.blocks x) w w' := by
  subst ha
  exact ((markF_LRq.fst _).snd _) B E x w q ho hl h0 h1
set_option maxHeartbeats 4000000 in
theorem markPendingInterestSK (B E : Nat) (m : Rw Pim) (w : World) (k : Int) (h : kLPi.Own B E w m) (hl : advK mvPi (kLPi.strip m) ≤ 100000000) (h0 : 0 ≤ k) (h1 : k + (advK mvPi (kLPi.strip m) : Int) ≤ 100000000000) :
    Calls Try.prog 40 #[kLPi.val m, .int .i64 k] w fun e w' => e = .returned (.int .i64 (k + (advK mvPi (kLPi.strip m) : Int))) ∧ ∃ m', kLPi.val m' = kLPi.val m ∧ kLPi.blocks m' = kLPi.blocks m ∧ kLPi.strip m' = mkLK mvPi mePi k (kLPi.strip m) ∧ kLPi.Own B E w' m' ∧ WroteBy (kLPi.blocks m) w w' := by
  obtain ⟨ad, n, cap, L⟩ := m
  replace h : (kPi.slice 101).Own B E w ⟨ad, n, cap, L⟩ := h
  replace hl : advK mvPi (L.map kPi.strip) ≤ 100000000 := hl
  replace h1 : k + (advK mvPi (L.map kPi.strip) : Int) ≤ 100000000000 := h1
  show Calls Try.prog 40 #[.slice ad n cap, .int .i64 k] w fun e w' => e = .returned (.int .i64 (k + (advK mvPi (L.map kPi.strip) : Int))) ∧ ∃ m' : Rw Pim, Rw.v m' = .slice ad n cap ∧ (kPi.slice 101).blocks m' = (kPi.slice 101).blocks ⟨ad, n, cap, L⟩ ∧ m'.els.map kPi.strip = mkLK mvPi mePi k (L.map kPi.strip) ∧ (kPi.slice 101).Own B E w' m' ∧ WroteBy ((kPi.slice 101).blocks ⟨ad, n, cap, L⟩) w w'
  rcases h.row.form with ⟨hv, hL⟩ | ⟨g, cap', hv, g1, g2, g3, g4⟩
  · cases hv
    subst hL
    have H := Lib.hid h; clear h
    go_enter Try.func40, Try.ntmps40
    go_wp2
    refine wp_loop_rounds 1 ?_
    rw [rounds_succ]
    go_wp2
    go_ret
    exact ⟨ret_int (by simp [advK]), ⟨⟨none, 0, 0, []⟩, rfl, rfl, rfl, H.out, WroteBy.refl _ _⟩⟩
  · cases hv
    have HROWLT := g2
    obtain ⟨n, hn⟩ : ∃ n, n = L.length := ⟨_, rfl⟩
    rw [← hn] at h g3 ⊢
    obtain ⟨l, hl9⟩ : ∃ l, L.map kPi.strip = l := ⟨_, rfl⟩
    rw [hl9] at hl h1 ⊢
    have hll : l.length = n := by rw [← hl9, List.length_map, hn]
    obtain ⟨bs, hbs⟩ : ∃ bs, (kPi.slice 101).blocks ⟨some ⟨g, 0, none⟩, n, cap, L⟩ = bs := ⟨_, rfl⟩
    have hgb : g ∈ bs := by rw [← hbs]; exact List.mem_append_left _ (by simp [Value.ownBlock, Rw.v])
    have heb : ∀ x ∈ L, ∀ q ∈ kPi.blocks x, q ∈ bs := fun x hx q hq => by rw [← hbs]; exact List.mem_append_right _ (List.mem_flatMap.2 ⟨x, hx, hq⟩)
    have hmaxl : n ≤ 140737488351232 ∨ True := Or.inr trivial
    have hn2 : n ≤ maxLen := by rw [hn]; exact h.row.len
    unfold maxLen at hn2
    rw [hbs]
    have HN := Lib.hid hn; have HT := Lib.hid hl9; have HLL := Lib.hid hll; have HBS := Lib.hid hbs; have HGB := Lib.hid hgb; have HEB := Lib.hid heb
    have HST := Lib.hid (fun j (hj : j < n) => advK_take mvPi (l := l) (j := j) (by rw [hll]; exact hj))
    have HLE := Lib.hid (fun j => advK_take_le mvPi l j)
    have HB : Hid ((kPi.slice 101).Own B E w ⟨some ⟨g, 0, none⟩, n, cap, [] ++ L.drop 0⟩) := Lib.hid (by simpa using h)
    clear hn h hl9 hll hbs hgb heb hmaxl
    go_enter Try.func40, Try.ntmps40
    go_wp2
    go_loopw [1, 5] (fun kv i wr => ∃ j : Nat, j ≤ n ∧ i = .int .i64 j ∧ ∃ p : Int, kv = .int .i64 p ∧ 0 ≤ p ∧ p ≤ 100000000000 ∧ Hid (p = k + (advK mvPi (l.take j) : Int)) ∧ ∃ M : List Pim, Hid (M.length = j) ∧ Hid (M.map kPi.strip = mkLK mvPi mePi k (l.take j)) ∧ Hid (M.map kPi.blocks = (L.take j).map kPi.blocks) ∧ Hid ((kPi.slice 101).Own B E wr ⟨some ⟨g, 0, none⟩, n, cap, M ++ L.drop j⟩) ∧ Hid (WroteBy bs w wr)) (fun _ i _ => n - (intOf i).toNat)
    case atStart => exact ⟨0, Nat.zero_le _, rfl, k, rfl, h0, by omega, Lib.hid (by simp [advK]), [], Lib.hid rfl, Lib.hid (by simp [mkLK]), Lib.hid rfl, HB, Lib.hid (WroteBy.refl _ _)⟩
    case round =>
      obtain ⟨j, hj, rfl, p, rfl, hp0, hp1, HP, M, HM1, HM2, HM3, HO, HW⟩ := hrel
      by_cases hlt : j < n
      · have hjL : j < L.length := by have := HN.out; omega
        obtain ⟨x0, hx0⟩ : ∃ x, nth L j = x := ⟨_, rfl⟩
        obtain ⟨Z, hZ⟩ : ∃ Z, M ++ L.drop j = Z := ⟨_, rfl⟩
        have hZl : n = Z.length := by rw [← hZ, List.length_append, HM1.out, List.length_drop]; have := HN.out; omega
        have hjZ : j < Z.length := by omega
        have hx9 : nth Z j = x0 := by rw [← hZ, nth_over HM1.out hjL, hx0]
        have ho := HO.out
        rw [hZ, ← set_nth9 hjZ, hx9] at ho
        have hst := HST.out j hlt
        rw [show nth l j = kPi.strip x0 by rw [← HT.out, nth_map _ hjL, hx0]] at hst
        have hle := HLE.out (j + 1)
        have hxb := HEB.out x0 (by rw [← hx0]; exact nth_mem hjL)
        obtain ⟨a0, ha0⟩ : ∃ a, (kPi.strip x0).1.length = a := ⟨_, rfl⟩
        obtain ⟨a1, ha1⟩ : ∃ a, advK mvRq (kPi.strip x0).2.1 = a := ⟨_, rfl⟩
        have hmv : mvPi (kPi.strip x0) = a0 + a1 + 1 := by unfold mvPi; rw [ha0, ha1]
        rw [hmv] at hst
        have hp := HP.out
        have ba0 : a0 ≤ 100000000 := by omega
        have ba1 : a1 ≤ 100000000 := by omega
        have btot : p + ((a0 + a1 + 1 : Nat) : Int) ≤ 100000000000 := by omega
        have HX0 := Lib.hid hx0; have HZ := Lib.hid hZ; have HZL := Lib.hid hZl; have HJZ := Lib.hid hjZ; have HO0 := Lib.hid ho; have HSTP := Lib.hid hst; have HXB := Lib.hid hxb; have HJL := Lib.hid hjL; have HMV := Lib.hid hmv
        have HA0_0 := Lib.hid ha0
        have HA1_0 := Lib.hid ha1
        have HW0 := HW
        clear hx0 hZ hZl hjZ hx9 ho hst hle hxb hp hjL hmv ha0 ha1
        have c : wr.cell? ⟨g, j * 3, none⟩ = some x0.1.v := (HO0.out.cell9 HZL.out HJZ.out (i := 0) (by decide)).1
        go_wp2_with fail
        clear c
        refine (mfPi0 B E x0 wr (p) a0 HA0_0.out (HO0.out.elem9 HJZ.out) ba0 (by omega) (by omega)).mono ?_
        rintro e w1 ⟨rfl, x1, hc, hb, hs, ho, hw⟩
        have HO1 := Lib.hid (HO0.out.part9 HJZ.out hc hb ho hw); have HB1 := Lib.hid hb; have HS1 := Lib.hid hs
        have HW1 := Lib.hid (HW0.out.trans (hw.more (fun q hq => HXB.out q hq)))
        have HA1_1 : Hid (advK mvRq (kPi.strip x1).2.1 = a1) := Lib.hid (by rw [hs]; exact HA1_0.out)
        clear hc hb hs ho hw
        have c : w1.cell? ⟨g, j * 3 + 1, none⟩ = some x1.2.1.v := (HO1.out.cell9 HZL.out HJZ.out (i := 1) (by decide)).1
        go_wp2_with fail
        clear c
        refine (mfPi1 B E x1 w1 (p + (a0 : Int)) a1 HA1_1.out (HO1.out.elem9 HJZ.out) ba1 (by omega) (by omega)).mono ?_
        rintro e w2 ⟨rfl, x2, hc, hb, hs, ho, hw⟩
        have HO2 := Lib.hid (HO1.out.part9 HJZ.out hc hb ho hw); have HB2 := Lib.hid (hb.trans HB1.out); have HS2 := Lib.hid hs
        have HW2 := Lib.hid (HW1.out.trans (hw.more (fun q hq => HXB.out q (by rw [HB1.out] at hq; exact hq))))
        clear hc hb hs ho hw
        have c2 : w2.cell? ⟨g, j * 3 + 2, none⟩ = some (.int .i64 x2.2.2) := (HO2.out.cell9 HZL.out HJZ.out (i := 2) (by decide)).1; have t2 : w2.frozen? ⟨g, j * 3 + 2, none⟩ = false := (HO2.out.cell9 HZL.out HJZ.out (i := 2) (by decide)).2
        have HOF : Hid ((kPi.slice 101).Own B E (w2.setCell ⟨g, j * 3 + 2, none⟩ (.int .i64 (p + (a0 : Int) + (a1 : Int)))) ⟨some ⟨g, 0, none⟩, n, cap, Z.set j (x2.1, x2.2.1, p + (a0 : Int) + (a1 : Int))⟩) := Lib.hid (Kd.Own.put9 (x' := ((x2.1, x2.2.1, p + (a0 : Int) + (a1 : Int)) : Pim)) HO2.out HZL.out HJZ.out (i := 2) (by decide) (u := .int .i64 (p + (a0 : Int) + (a1 : Int))) rfl rfl (fun h => h))
        have HWF : Hid (WroteBy bs w (w2.setCell ⟨g, j * 3 + 2, none⟩ (.int .i64 (p + (a0 : Int) + (a1 : Int))))) := Lib.hid (HW2.out.trans (WroteBy.of (Ret.grownBy_set w2 ⟨g, j * 3 + 2, none⟩ (.int .i64 (p + (a0 : Int) + (a1 : Int)))) (fun q hq => by cases hq; exact HGB.out)))
        have HSF : Hid (kPi.strip (x2.1, x2.2.1, p + (a0 : Int) + (a1 : Int)) = mePi p (kPi.strip x0)) := Lib.hid (by
          show ((kPi.strip x2).1, (kPi.strip x2).2.1, p + (a0 : Int) + (a1 : Int)) = _
          unfold mePi
          simp only [HS2.out, HS1.out, HA0_0.out, HA1_0.out])
        have HBF : Hid (kPi.blocks (x2.1, x2.2.1, p + (a0 : Int) + (a1 : Int)) = kPi.blocks x0) := Lib.hid (show _ = _ from HB2.out)
        clear HO0 HW0 HO1 HW1 HO2 HW2 HB1 HB2 HS1 HS2
        go_wp2_with fail
        go_roundw
        case rel =>
          refine ⟨j + 1, by omega, by go_num, p + (a0 : Int) + (a1 : Int) + 1, by go_num, by omega, by omega, Lib.hid ?_, M ++ [(x2.1, x2.2.1, p + (a0 : Int) + (a1 : Int))], Lib.hid ?_, Lib.hid ?_, Lib.hid ?_, Lib.hid ?_, HWF⟩
          · rw [HSTP.out, HP.out]; omega
          · simp [HM1.out]
          · rw [List.map_append, HM2.out, mkLK_take _ _ _ (by rw [HLL.out]; exact hlt), show nth l j = kPi.strip x0 by rw [← HT.out, nth_map _ HJL.out, HX0.out], ← HP.out, ← HSF.out]
            rfl
          · rw [List.map_append, HM3.out, List.take_succ_eq_append_getElem HJL.out, List.map_append, ← nth_eq HJL.out, HX0.out]
            simp only [List.map_cons, List.map_nil]
            rw [HBF.out]
          · have h9 := HOF.out
            rw [← HZ.out, set_over HM1.out HJL.out] at h9
            exact h9
        case measure => simp [intOf]; omega
      · obtain rfl : j = n := by omega
        clear hlt
        go_wp2
        go_ret
        have hn := HN.out
        have hp := HP.out
        have e1 : l.take j = l := List.take_of_length_le (by rw [HLL.out]; exact Nat.le_refl _)
        have e2 : L.take j = L := List.take_of_length_le (by omega)
        have e3 : L.drop j = [] := List.drop_eq_nil_of_le (by omega)
        have hh := HO.out
        have hm2 := HM2.out
        have hm3 := HM3.out
        rw [e1] at hp hm2
        rw [e2] at hm3
        rw [e3, List.append_nil] at hh
        refine ⟨ret_int hp, ⟨some ⟨g, 0, none⟩, j, cap, M⟩, rfl, ?_, hm2, hh, HW.out⟩
        rw [← HBS.out]
        show _ ++ M.flatMap kPi.blocks = _ ++ L.flatMap kPi.blocks
        rw [List.flatMap_def, List.flatMap_def, hm3]
        rfl
set_option maxHeartbeats 4000000 in
theorem heldPendingInterestSK (V : Value) (l : List Pit) (w : World) (k : Int) (h : kLPi.At w V (mkLK mvPi mePi k l)) (hl : advK mvPi l ≤ 100000000) (hlen : l.length ≤ 100000000) (h0 : 0 ≤ k) (h1 : k + (advK mvPi l : Int) ≤ 100000000000) :
    Calls Try.prog 42 #[V, .int .i64 k] w fun e w' => e = .returned (.int .i64 (k + (advK mvPi l : Int))) ∧ Below w.heap.size w w' := by
  obtain ⟨ad, n, cap, L, rfl, hn, hL, hh, hel⟩ := kLPi_at h
  have hll : l.length = n := by have := congrArg List.length hL; rw [List.length_map, mkLK_length] at this; omega
  rw [hll] at hlen
  have HN := Lib.hid hn; have HT := Lib.hid hL; have HH := Lib.hid hh; have HEL := Lib.hid hel; have HLL := Lib.hid hll
  have HST := Lib.hid (fun j (hj : j < n) => advK_take mvPi (l := l) (j := j) (by rw [hll]; exact hj))
  have HLE := Lib.hid (fun j => advK_take_le mvPi l j)
  clear h hn hL hh hel hll
  go_enter Try.func42, Try.ntmps42
  go_wp2
  go_loopw [1, 5] (fun kv i wr => ∃ j : Nat, j ≤ n ∧ i = .int .i64 j ∧ ∃ p : Int, kv = .int .i64 p ∧ 0 ≤ p ∧ p ≤ 100000000000 ∧ Hid (p = k + (advK mvPi (l.take j) : Int)) ∧ Hid (Below w.heap.size w wr)) (fun _ i _ => n - (intOf i).toNat)
  case atStart => exact ⟨0, Nat.zero_le _, rfl, k, rfl, h0, by omega, Lib.hid (by simp [advK]), Lib.hid (Below.refl _ _)⟩
  case round =>
    obtain ⟨j, hj, rfl, p, rfl, hp0, hp1, HP, hb⟩ := hrel
    by_cases hlt : j < n
    · have hn := HN.out
      obtain ⟨b, off, x0, n0, c0, x1, n1, c1, rfl, -, hc0, hc1, hc2, ha⟩ := kLPi_elem (HH.out.on hb.out) (fun y hy => kPi.holds_on (HEL.out y hy) hb.out) (j := j) (by omega)
      have hme : kPi.strip (nth L j) = mePi p (nth l j) := by rw [← nth_map kPi.strip (by omega), HT.out, mkLK_at _ _ _ (by rw [HLL.out]; exact hlt), ← HP.out]
      rw [hme] at ha hc2
      have hst := HST.out j hlt
      have hle := HLE.out (j + 1)
      obtain ⟨z, hz⟩ : ∃ z, nth l j = z := ⟨_, rfl⟩
      rw [hz] at ha hst hc2
      obtain ⟨y0, m0, d0, y1, m1, d1, e9, g0, g1⟩ := kPi_at ha
      cases e9
      obtain ⟨a0, ha0⟩ : ∃ a, z.1.length = a := ⟨_, rfl⟩
      obtain ⟨a1, ha1⟩ : ∃ a, advK mvRq z.2.1 = a := ⟨_, rfl⟩
      obtain ⟨v9, e9, h9_0⟩ := kN_at g0
      cases e9
      have h9_1 := g1; have HA1 := Lib.hid ha1
      have hmv : mvPi z = a0 + a1 + 1 := by unfold mvPi; rw [ha0, ha1]
      rw [hmv] at hst
      have hp := HP.out
      have G0 := Lib.hid (show Holds Value.string wr (.slice x0 n0 c0) (marks markT (p) a0) from by have h8 := h9_0; simp only [mePi, ha0, ha1] at h8; exact h8)
      have G1 := Lib.hid (show kLRq.At wr (.slice x1 n1 c1) (mkLK mvRq meRq (p + (a0 : Int)) z.2.1) from by have h8 := h9_1; simp only [mePi, ha0, ha1] at h8; exact h8)
      have HC2 := Lib.hid (show wr.cell? ⟨b, off + j * 3 + 2, none⟩ = some (.int .i64 (p + (a0 : Int) + (a1 : Int))) from by have h8 := hc2; simp only [mePi, ha0, ha1] at h8; exact h8)
      have HC0 := Lib.hid (show wr.cell? ⟨b, off + j * 3, none⟩ = some (.slice x0 n0 c0) from hc0)
      have HC1 := Lib.hid (show wr.cell? ⟨b, off + j * 3 + 1, none⟩ = some (.slice x1 n1 c1) from hc1)
      have ba0 : a0 ≤ 100000000 := by omega
      have ba1 : a1 ≤ 100000000 := by omega
      have btot : p + ((a0 + a1 + 1 : Nat) : Int) ≤ 100000000000 := by omega
      have HSTP := Lib.hid hst
      clear hn ha hme hst hle hmv hp hz hc0 hc1 hc2 ha0 ha1 h9_0 h9_1 g0 g1
      have c : wr.cell? ⟨b, off + j * 3, none⟩ = some (.slice x0 n0 c0) := HC0.out
      go_wp2_with fail
      clear c
      refine (heldStringS _ _ (p) a0 G0.out ba0 (by omega) (by omega)).mono ?_
      rintro e w1 ⟨rfl, hb1⟩
      replace HC1 := Lib.hid ((hb1.cell (Ret.cell_lt HC1.out)).trans HC1.out)
      replace HC2 := Lib.hid ((hb1.cell (Ret.cell_lt HC2.out)).trans HC2.out)
      replace G1 := Lib.hid (G1.out.on hb1)
      replace hb := Lib.hid (hb.out.trans (hb1.mono hb.out.size)); clear hb1
      have bq : ¬ p + (a0 : Int) < 0 := by omega
      have c : w1.cell? ⟨b, off + j * 3 + 1, none⟩ = some (.slice x1 n1 c1) := HC1.out
      go_wp2_with fail
      clear c bq
      refine (heldRequesterSA _ _ _ (p + (a0 : Int)) a1 HA1.out G1.out ba1 (by omega) (by omega)).mono ?_
      rintro e w2 ⟨rfl, hb1⟩
      replace HC2 := Lib.hid ((hb1.cell (Ret.cell_lt HC2.out)).trans HC2.out)
      replace hb := Lib.hid (hb.out.trans (hb1.mono hb.out.size)); clear hb1
      have bq : ¬ p + (a0 : Int) + (a1 : Int) < 0 := by omega
      have c29 : w2.cell? ⟨b, off + j * 3 + 2, none⟩ = some (.int .i64 (p + (a0 : Int) + (a1 : Int))) := HC2.out
      go_wp2_with fail
      go_roundw
      case rel => exact ⟨j + 1, by omega, by go_num, p + (a0 : Int) + (a1 : Int) + 1, by go_num, by omega, by omega, Lib.hid (by rw [HSTP.out, HP.out]; omega), hb⟩
      case measure => simp [intOf]; omega
    · obtain rfl : j = n := by omega
      clear hlt
      go_wp2
      go_ret
      have hp := HP.out
      rw [show l.take j = l from List.take_of_length_le (by rw [HLL.out]; exact Nat.le_refl _)] at hp
      exact ⟨ret_int hp, hb.out⟩
theorem lenAdvPi : ∀ l : List Pit, l.length ≤ advK mvPi l
  | [] => Nat.le_refl _
  | x :: r => by
    have h := lenAdvPi r
    have h2 : 1 ≤ mvPi x := by unfold mvPi; omega
    simp only [advK, List.length_cons]
    omega
theorem heldPendingInterestSA (V : Value) (l : List Pit) (w : World) (k : Int) (a : Nat) (ha : advK mvPi l = a) (h : kLPi.At w V (mkLK mvPi mePi k l)) (hl : a ≤ 100000000) (h0 : 0 ≤ k) (h1 : k + (a : Int) ≤ 100000000000) :
    Calls Try.prog 42 #[V, .int .i64 k] w fun e w' => e = .returned (.int .i64 (k + (a : Int))) ∧ Below w.heap.size w w' := by
  subst ha
  exact heldPendingInterestSK V l w k h hl (Nat.le_trans (lenAdvPi l) hl) h0 h1
end Go.Proofs.Ytjphnlkdbhcblaa.Row
/- Lists of SeenNonce: marked and looked at. No conditions but that lengths fit. -/
namespace Go.Proofs.Ytjphnlkdbhcblaa.Row
open Go.ChangeShapes Go.WideShapes Go.ChangeAt Go.RowKit Go.Instr
set_option linter.unusedVariables false
set_option maxRecDepth 100000
def mvSn (z : Snt) : Nat := z.1.length + 1
def meSn (q : Int) (z : Snt) : Snt := (marks markT (q) z.1.length, q + (z.1.length : Int))
end Go.Proofs.Ytjphnlkdbhcblaa.Row
/- Names in the words that kslice.py wants. No conditions but that lengths fit. -/
namespace Go.Proofs.Ytjphnlkdbhcblaa.Row
open Go.ChangeShapes Go.WideShapes Go.ChangeAt Go.RowKit Go.Instr
set_option linter.unusedVariables false
set_option maxRecDepth 100000
abbrev Nnt := List ByteArray
abbrev Nnm := Rw ByteArray
abbrev kNn : Kd Nnt Nnm := kN
abbrev wtNn (x : Nnt) : Nat := bulk x
abbrev adNn (x : Nnt) : Nat := x.length
abbrev okNn (x : Nnt) : Prop := okN x
abbrev inNn (x : Nnt) : Prop := okN x
theorem okN.ok {x : List ByteArray} (h : okN x) : okNn x := h
end Go.Proofs.Ytjphnlkdbhcblaa.Row
/- Lists of names in the words of kinds: sz, to, eq. No conditions but that lengths fit. -/
namespace Go.Proofs.Ytjphnlkdbhcblaa.Row
open Go.ChangeShapes Go.WideShapes Go.ChangeAt Go.RowKit Go.Instr
set_option linter.unusedVariables false
set_option maxRecDepth 100000
def kLNn : Kd (List Nnt) (Rw Nnm) := kNn.slice 27
def okLNn (l : List Nnt) : Prop := l.length ≤ 9223372036854775807 ∧ ∀ x ∈ l, okNn x
section
variable {w : World} {V : Value} {l : List Nnt} {B E : Nat}
end
def inLNn (l : List Nnt) : Prop := l.length ≤ 9223372036854775807 ∧ ∀ x ∈ l, inNn x
theorem inLNn.ok {l : List Nnt} (h : inLNn l) : okLNn l := ⟨h.1, fun x hx => (h.2 x hx).ok⟩
def adLNn (l : List Nnt) : Nat := bulkK adNn l
end Go.Proofs.Ytjphnlkdbhcblaa.Row
/- Lists of Name: marked and looked at. No conditions but that lengths fit. -/
namespace Go.Proofs.Ytjphnlkdbhcblaa.Row
open Go.ChangeShapes Go.WideShapes Go.ChangeAt Go.RowKit Go.Instr
set_option linter.unusedVariables false
set_option maxRecDepth 100000
def mvNn (z : Nnt) : Nat := z.length
def meNn (q : Int) (z : Nnt) : Nnt := marks markT (q) z.length
end Go.Proofs.Ytjphnlkdbhcblaa.Row
/- Lists of names, marked and held, in the words of the exact laws. No conditions but that lengths fit. -/
namespace Go.Proofs.Ytjphnlkdbhcblaa.Row
open Go.ChangeShapes Go.WideShapes Go.ChangeAt Go.RowKit Go.Instr
set_option linter.unusedVariables false
set_option maxRecDepth 100000
theorem advK_sum {α : Type} (f : α → Nat) (l : List α) : advK f l = (l.map f).sum := by
  induction l with
  | nil => rfl
  | cons a r ih => simp [advK, ih]
end Go.Proofs.Ytjphnlkdbhcblaa.Row
/- Lists of pending interests and of seen nonces in the words of the exact laws: marks; how much the answers of chapter 13's functions hold. No conditions but that lengths fit. -/
namespace Go.Proofs.Ytjphnlkdbhcblaa.Row
open Go.ChangeShapes Go.WideShapes Go.ChangeAt Go.RowKit Go.Instr
set_option linter.unusedVariables false
set_option maxRecDepth 100000
theorem bulkK_sumP {α : Type} (f : α → Nat) (l : List α) : bulkK f l = l.length + (l.map f).sum := by unfold bulkK bulkKTo; rw [List.take_length]
theorem sum_subP {α : Type} (f : α → Nat) {l m : List α} (h : l.Sublist m) : (l.map f).sum ≤ (m.map f).sum := by
  induction h with
  | slnil => exact Nat.le_refl _
  | cons a _ ih => simp only [List.map_cons, List.sum_cons]; omega
  | cons_cons a _ ih => simp only [List.map_cons, List.sum_cons]; omega
theorem mul_sum9 {α : Type} (f g : α → Nat) (h : ∀ x, f x ≤ 3 * g x + 1) (l : List α) : (l.map f).sum ≤ 3 * (l.map g).sum + l.length := by
  induction l with
  | nil => simp
  | cons a r ih => have := h a; simp only [List.map_cons, List.sum_cons, List.length_cons]; omega
theorem advRq (l : List Rqt) : advK mvRq l = 3 * l.length := by
  induction l with
  | nil => rfl
  | cons a r ih => show mvRq a + advK mvRq r = _; rw [ih, List.length_cons]; show 3 + _ = _; omega
theorem adRq_len (l : List Rqt) : bulkK adRq l = l.length := by
  rw [bulkK_sumP]
  have : (l.map adRq).sum = 0 := by
    induction l with
    | nil => rfl
    | cons a r ih => rw [List.map_cons, List.sum_cons, ih]; rfl
  omega
theorem adPi_eq (x : Pit) : adPi x = x.1.length + x.2.1.length := by unfold adPi; rw [adRq_len]
theorem mvPi_eq (x : Pit) : mvPi x = x.1.length + 3 * x.2.1.length + 1 := by unfold mvPi; rw [advRq]
theorem avPi_le (l : List Pit) : advK mvPi l ≤ 3 * adLPi l := by
  have h := mul_sum9 mvPi adPi (fun x => by rw [mvPi_eq, adPi_eq]; omega) l
  unfold adLPi
  rw [advK_sum, bulkK_sumP]
  omega
theorem avPi_big {l : List Pit} {n : Nat} (h : bulkK wtPi l ≤ n) : advK mvPi l ≤ 3 * n := by
  have h1 := avPi_le l
  have h2 := adLPi_big h
  omega
theorem markLPiK (B E : Nat) (V : Value) (l : List Pit) (w : World) (k : Int) (h : kLPi.In B E w V l) (hl : advK mvPi l ≤ 100000000) (h0 : 0 ≤ k) (h1 : k ≤ 1000000000) :
    Calls Try.prog 40 #[V, .int .i64 k] w fun e w' => e = .returned (.int .i64 (k + (advK mvPi l : Int))) ∧ kLPi.In B E w' V (mkLK mvPi mePi k l) ∧ Wrote B E w w' := by
  obtain ⟨m, rfl, rfl, hw9⟩ := h.split
  refine (markPendingInterestSK B E m w k hw9 hl h0 (by omega)).mono ?_
  rintro e w' ⟨a, n, v, b, s, ho, hw⟩
  exact ⟨a, v ▸ s ▸ ho.in, hw.wrote (fun g hg => ⟨(hw9.lt g hg).1, (hw9.lt g hg).2.1⟩)⟩
theorem heldLPiK (V : Value) (w : World) (k : Int) (l : List Pit) (h : kLPi.At w V (mkLK mvPi mePi k l)) (hl : advK mvPi l ≤ 100000000) (h0 : 0 ≤ k) (h1 : k ≤ 1000000000) :
    Calls Try.prog 42 #[V, .int .i64 k] w fun e w' => e = .returned (.int .i64 (k + (advK mvPi l : Int))) ∧ Below w.heap.size w w' :=
  heldPendingInterestSA V l w k _ rfl h hl h0 (by omega)
theorem subPi {l m : List Pit} (h : l.Sublist m) : adLPi l ≤ adLPi m ∧ advK mvPi l ≤ advK mvPi m := by
  have h1 := sum_subP adPi h; have h2 := sum_subP mvPi h; have h3 := h.length_le
  unfold adLPi
  rw [bulkK_sumP, bulkK_sumP, advK_sum, advK_sum]
  omega
theorem expP_sz (l : List Pit) (now : Int) : adLPi (expP l now) ≤ adLPi l ∧ advK mvPi (expP l now) ≤ advK mvPi l := by
  have h1 := subPi (show (expP l now).Sublist (l.map (leftP now)) from List.filter_sublist)
  have h2 : ∀ l : List Pit, ((l.map (leftP now)).map adPi).sum ≤ (l.map adPi).sum ∧ ((l.map (leftP now)).map mvPi).sum ≤ (l.map mvPi).sum := fun l => by
    induction l with
    | nil => simp
    | cons a r ih =>
      have h3 : (leftP now a).2.1.length ≤ a.2.1.length := List.length_filter_le _ _
      have h4 := adPi_eq (leftP now a); have h5 := mvPi_eq (leftP now a); have h6 := adPi_eq a; have h7 := mvPi_eq a
      have h8 : (leftP now a).1 = a.1 := rfl
      rw [h8] at h4 h5
      simp only [List.map_cons, List.sum_cons]
      omega
  have h3 := h2 l
  have h4 : adLPi (l.map (leftP now)) = l.length + ((l.map (leftP now)).map adPi).sum := by unfold adLPi; rw [bulkK_sumP, List.length_map]
  have h5 : adLPi l = l.length + (l.map adPi).sum := by unfold adLPi; rw [bulkK_sumP]
  have h6 := advK_sum mvPi (l.map (leftP now)); have h7 := advK_sum mvPi l
  omega
end Go.Proofs.Ytjphnlkdbhcblaa.Row
/- A slice of numbers that came in as an argument: it holds a list, its numbers fit their kind, its length is within the reach. No conditions. -/
namespace Go.Proofs.Ytjphnlkdbhcblaa.Sl
open Go.ChangeShapes Go.WideShapes Go.ChangeAt Go.RowKit
end Go.Proofs.Ytjphnlkdbhcblaa.Sl
