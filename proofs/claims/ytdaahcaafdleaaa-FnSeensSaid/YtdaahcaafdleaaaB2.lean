/- Contracts and mathematics, joined: SoftN, DrawDS, Want, Slice, Exact, Gives, Conv, VarMath, Var, ReadV, ReadVI, Bytes, Ints, WantS, WantV, ReadB, WantE, WantR, DecI, VarBack, WantD, DrawB, DrawWant, OpenK, NmK, RequesterK, RequesterSK, PendingInterestK, PendingInterestSK, SeenNonceK, SeenNonceSK, FindK, Clone, EqN, KLaw, KWant, WantP, PendMath, PendK, RowK, JoinK, PendC0, PendD, PendC1, PendC2, PendN0, RequesterSM, PendingInterestSM, SeenNonceSM, NameK, NameSK, NameSM, NameSW, PendZ, PendF, PendS, MarkK, PendM, PendN1, DrawS0, DrawS1, PendN, PendI, PendG, PendL0, PendL1, PendL. No conditions but those that each states. -/
import Derived.Test.YtdaahcaafdleaaaB1
import Derived.WalkKit
import Derived.ProofKit
import Derived.WalkLawsBesides
import Derived.Lib.Hide
import Derived.Below
import Derived.OwnWalk
import Derived.Laws.OwnMore
import Derived.Laws.AppendOwnNone
import Derived.ArgAppend
import Derived.Maps.AppendAt
import Derived.Test.YtdaahcaafdleaaaRows
import Derived.LoopTactic
import Derived.Deep.QuietTactic
import Derived.BigQuiet
import Derived.Lib.ConvBytes
import Derived.Laws.BitsLemmas
import Derived.Laws.Bits128
import Derived.Laws.ShiftsVarLaws
import Derived.Laws.BytesArg
import Derived.Deep.Cut
import Derived.Deep.RegionHeld3
import Derived.Deep.RegionLaw
import Derived.SizedLaws
import Derived.ChangeSlices
import Derived.ChangeSame
import Derived.ChangeArms
import Derived.Deep.Strs
import Derived.Lib.SmallJoins
import Derived.Lib.AppendZerosOnto
import Derived.RangeFuncNested
import Derived.RangeFuncBound
import Derived.RangeFuncCalls
import Derived.RangeFuncLeaves
import Derived.RangeFuncBox
import Derived.Shelf.Abstract
import Derived.Shelf.RegionOpen
import Derived.OwnWalkIn
import Derived.TacticsInMore
import Derived.LoopNIn
import Derived.LoopIn
/- Soft kinds: rows whose rest a call may write; names. No conditions. -/
namespace Go.Proofs.Ytdaahcaafdleaaa.Row
open Go.ChangeShapes Go.WideShapes Go.ChangeAt Go.RowKit Go.Instr
set_option linter.unusedVariables false
set_option maxRecDepth 100000
def adBlk : Option Addr → List Nat
  | some ⟨b, _, none⟩ => [b]
  | _ => []
section
end
section
variable {B E : Nat} {w : World} {V : Value} {ad : Option Addr} {n c : Nat} {l : List ByteArray}
end
end Go.Proofs.Ytdaahcaafdleaaa.Row
/- What a draw keeps, over a cursor: calls, stores into variables, lists that grow. No conditions. -/
namespace Go.Proofs.Ytdaahcaafdleaaa.Draw
open Go.ChangeShapes Go.WideShapes Go.ChangeAt Go.RowKit Go.Instr
open Go.Proofs.Ytdaahcaafdleaaa.Row
open Go.Proofs.Ytdaahcaafdleaaa.Ret (NC Blk Box)
set_option linter.unusedVariables false
set_option maxRecDepth 100000
structure DS (w0 : World) (p : Nat) (v : Value) (l : List UInt8) (w W : World) : Prop where
  cur : Cur w0 p v l W
  keep : Keep p w W
  h0 : w0.heap.size ≤ w.heap.size
  hp : p < w.heap.size
section
variable {w0 w W W' : World} {p g i B : Nat} {v : Value} {l : List UInt8} {u : Value}
theorem DS.size (h : DS w0 p v l w W) : w.heap.size ≤ W.heap.size := h.keep.size
theorem DS.on (h : DS w0 p v l w W) (hb : Below W.heap.size W W') : DS w0 p v l w W' := ⟨h.cur.on hb, h.keep.trans (Keep.of_below hb), h.h0, h.hp⟩
theorem DS.set (h : DS w0 p v l w W) (hg : w.heap.size ≤ g) : DS w0 p v l w (W.setCell ⟨g, i, none⟩ u) := ⟨h.cur.setI i (by have := h.h0; omega) (by have := h.hp; omega) u, h.keep.setI i hg u, h.h0, h.hp⟩
theorem DS.grown (h : DS w0 p v l w W) {α : Type} {enc : α → List Value} {sz : Nat} {e : TypeId} {x : Value} {L : List α} (ho : OwnK e enc sz w.heap.size W x L) (hg : W.grownBy W' x.ownBlock) : DS w0 p v l w W' :=
  ⟨h.cur.grown hg (fun g e => by have h1 := (ho.lt g e).1; have h2 := h.h0; have h3 := h.hp; exact ⟨by omega, by omega⟩), h.keep.grown hg (fun g e => (ho.lt g e).1), h.h0, h.hp⟩
theorem DS.alloc (h : DS w0 p v l w W) (o : Obj) : DS w0 p v l w (W.alloc o) := h.on ((Below.refl _ _).alloc (Nat.le_refl _) o)
end
end Go.Proofs.Ytdaahcaafdleaaa.Draw
/- Contracts of the helpers by which the laws measure, copy, compare, mark and look at interests (a name and three numbers). No conditions but that lengths fit. -/
namespace Go.Proofs.Ytdaahcaafdleaaa.Row
open Go.ChangeShapes Go.WideShapes Go.ChangeAt Go.RowKit Go.Instr
set_option linter.unusedVariables false
set_option maxRecDepth 100000
abbrev wc (v : Value) (a b c : Int) : Array Value := #[v, .int .i64 a, .int .i64 b, .int .i64 c]
theorem aggW : Ret.AggOf Try.prog 33 4 := ⟨by kernel_rfl, by kernel_rfl⟩
end Go.Proofs.Ytdaahcaafdleaaa.Row
/- Slices of numbers in memory, for any program: a slice value that holds a list; a slice in blocks of the call's own that holds a list; what keeps both; one list appended to another. No conditions but that lengths fit. -/
namespace Go.Proofs.Ytdaahcaafdleaaa.Sl
open Go.ChangeShapes Go.WideShapes Go.ChangeAt Go.RowKit
set_option linter.unusedVariables false
set_option maxRecDepth 100000
def nth (l : List Int) (j : Nat) : Int := l.getD j 0
def Holds (k : IntKind) (w : World) (v : Value) (l : List Int) : Prop :=
  ∃ x cap, v = .slice x l.length cap ∧ l.length ≤ cap ∧ (l = [] ∨ ∃ b off, x = some ⟨b, off, none⟩ ∧ ∀ j, j < l.length → w.cell? ⟨b, off + j, none⟩ = some (.int k (nth l j)))
def Own (e : TypeId) (k : IntKind) (B : Nat) (w : World) (v : Value) (l : List Int) : Prop := w.ownsRow B e 1 v l.length (l.map (Value.int k))
section
variable {k : IntKind} {e : TypeId} {B : Nat} {w w' : World} {v : Value} {l : List Int}
theorem Own.form (h : Own e k B w v l) : (v = .slice none 0 0 ∧ l = []) ∨ ∃ g cap, v = .slice (some ⟨g, 0, none⟩) l.length cap ∧ B ≤ g ∧ g < w.heap.size ∧ l.length ≤ cap ∧ cap ≤ maxLen := by
  rcases h.2 with ⟨hv, hn⟩ | ⟨g, cap, cur, hv, hg, hh, h1, h2, h3, h4⟩
  · exact Or.inl ⟨hv, List.eq_nil_of_length_eq_zero hn⟩
  · exact Or.inr ⟨g, cap, hv, hg, (Array.getElem?_eq_some_iff.1 hh).1, h1, h2⟩
theorem Own.lt (h : Own e k B w v l) : ∀ g, v.ownBlock = some g → B ≤ g ∧ g < w.heap.size := World.ownsRow.lt h
theorem Own.grown (h : Own e k B w v l) {row : Option Nat} (hg : w.grownBy w' row) (hne : v.ownBlock = none ∨ v.ownBlock ≠ row) : Own e k B w' v l := World.ownsRow.kept h hg hne
theorem grown_of_below (hb : Below w.heap.size w w') (row : Option Nat) : w.grownBy w' row := ⟨hb.os, hb.tape, hb.output, hb.size, fun i hi _ => hb.block i hi⟩
theorem Own.on (h : Own e k B w v l) (hb : Below w.heap.size w w') : Own e k B w' v l := by
  refine World.ownsRow.kept h (grown_of_below hb none) ?_
  cases hv : v.ownBlock <;> simp
theorem Own.mono (h : Own e k B w v l) {B' : Nat} (hB : B' ≤ B) : Own e k B' w v l := by
  refine ⟨h.1, ?_⟩
  rcases h.2 with h2 | ⟨g, cap, cur, hv, hg, r⟩
  · exact Or.inl h2
  · exact Or.inr ⟨g, cap, cur, hv, Nat.le_trans hB hg, r⟩
theorem Own.nil (e : TypeId) (k : IntKind) (B : Nat) (w : World) : Own e k B w (.slice none 0 0) [] := World.ownsRow_nil w B e 1
theorem Own.len (h : Own e k B w v l) : l.length ≤ maxLen := by
  rcases h.form with ⟨rfl, rfl⟩ | ⟨g, cap, rfl, h1, h2, h3, h4⟩
  · simp
  · omega
theorem Own.block (h : Own e k B w v l) (hn : v ≠ .slice none 0 0) : ∃ g cap, v = .slice (some ⟨g, 0, none⟩) l.length cap ∧ B ≤ g ∧ g < w.heap.size ∧ l.length ≤ cap := by
  rcases h.form with ⟨hv, _⟩ | ⟨g, cap, hv, h1, h2, h3, h4⟩
  · exact absurd hv hn
  · exact ⟨g, cap, hv, h1, h2, h3⟩
theorem cell_lt {a : Addr} {u : Value} (h : w.cell? a = some u) : a.block < w.heap.size := by
  unfold World.cell? at h
  cases hh : w.heap[a.block]? with
  | none => simp [hh] at h
  | some o => exact (Array.getElem?_eq_some_iff.1 hh).1
theorem Holds.on (h : Holds k w v l) (hb : Below w.heap.size w w') : Holds k w' v l := by
  obtain ⟨x, cap, hv, hc, h⟩ := h
  refine ⟨x, cap, hv, hc, ?_⟩
  rcases h with h | ⟨b, off, hx, h⟩
  · exact Or.inl h
  · exact Or.inr ⟨b, off, hx, fun j hj => by rw [hb.cell (cell_lt (h j hj))]; exact h j hj⟩
theorem Holds.nil (k : IntKind) (w : World) : Holds k w (.slice none 0 0) [] := ⟨none, 0, rfl, by simp, Or.inl rfl⟩
theorem Holds.at {x : Option Addr} {n cap : Nat} (h : Holds k w (.slice x n cap) l) {j : Nat} (hj : j < l.length) :
    ∃ b off, x = some ⟨b, off, none⟩ ∧ w.cell? ⟨b, off + j, none⟩ = some (.int k (nth l j)) := by
  obtain ⟨x', cap', hv, hc, h⟩ := h
  cases hv
  rcases h with rfl | ⟨b, off, hx, h⟩
  · simp at hj
  · exact ⟨b, off, hx, h j hj⟩
theorem Holds.grown (h : Holds k w v l) {row : Option Nat} (hg : w.grownBy w' row) (hne : ∀ g, v.ownBlock = some g → some g ≠ row) : Holds k w' v l := by
  obtain ⟨x, cap, rfl, hc, h⟩ := h
  refine ⟨x, cap, rfl, hc, ?_⟩
  rcases h with h | ⟨b, off, rfl, h⟩
  · exact Or.inl h
  · exact Or.inr ⟨b, off, rfl, fun j hj => hg.cell (h j hj) (hne b rfl)⟩
theorem nth_eq {l : List Int} {j : Nat} (hj : j < l.length) : nth l j = l[j] := by simp [nth, List.getD, List.getElem?_eq_getElem hj]
theorem getD_map {j : Nat} (hj : j < l.length) : (l.map (Value.int k))[j]? = some (.int k (nth l j)) := by
  simp [nth, List.getD, List.getElem?_eq_getElem hj]
end
theorem Holds.cells {k : IntKind} {w : World} {ad : Addr} {n cap : Nat} {l : List Int} (h : Holds k w (.slice (some ad) n cap) l) : ∀ j u, (l.map (Value.int k))[j]? = some u → w.cell? (ad.add j) = some u := by
  intro j u hu
  have hj : j < l.length := by have := (List.getElem?_eq_some_iff.1 hu).1; simpa using this
  obtain ⟨b, off, hx, hc⟩ := h.at hj
  cases hx
  rw [Go.WideShapes.add_plain, hc]
  rw [getD_map hj] at hu
  exact hu
def Elem (P : Program) (e : TypeId) (z : Value) (bytes : Nat) : Prop := (P.info? e).map (fun i => (i.zero, i.size, i.bytes)) = some (some z, 1, bytes)
section
variable {P : Program} {w : World} {ops : Array Oper} {rest : List Oper} {o : Oper} {a : Act} {Q : Exit → Act → World → Prop} {k : IntKind} {e t : TypeId} {bytes : Nat} {z : Value}
end
def Fits (e : TypeId) (k : IntKind) (B : Nat) (w : World) (v : Value) (l : List Int) : Prop := Own e k B w v l ∨ ∃ x, v = .slice x l.length l.length ∧ Holds k w v l
theorem Fits.on {k : IntKind} {e : TypeId} {B : Nat} {w w' : World} {v : Value} {l : List Int} (h : Fits e k B w v l) (hb : Below w.heap.size w w') : Fits e k B w' v l := by
  rcases h with h | ⟨x, hv, h⟩
  · exact Or.inl (h.on hb)
  · exact Or.inr ⟨x, hv, h.on hb⟩
section
variable {P : Program} {w : World} {ops : Array Oper} {rest : List Oper} {o : Oper} {a : Act} {Q : Exit → Act → World → Prop} {k : IntKind} {e t : TypeId} {bytes : Nat} {z : Value}
end
end Go.Proofs.Ytdaahcaafdleaaa.Sl
/- Contracts of the helpers by which the exact laws copy, compare, mark and look at slices of numbers: a copy lies in memory of the call's own and holds the same list; comparing tells whether the lists are equal; marking writes the numbers from k on; looking at the marks tells that they are there. No conditions but that lengths fit. -/
namespace Go.Proofs.Ytdaahcaafdleaaa.Sl
open Go.ChangeShapes Go.WideShapes Go.ChangeAt Go.RowKit Go.Instr
set_option linter.unusedVariables false
set_option maxRecDepth 100000
def filled (l : List Int) (k : Nat) : List Int := l.take k ++ List.replicate (l.length - k) 0
def marks (kd : IntKind) (k : Int) : Nat → List Int
  | 0 => []
  | n + 1 => marks kd k n ++ [kd.wrap (k + n)]
def marked (kd : IntKind) (k : Int) (l : List Int) (j : Nat) : List Int := marks kd k j ++ l.drop j
def agree (a b : List Int) (k : Nat) : Prop := ∀ j, j < k → nth a j = nth b j
def eqB (a b : List Int) : Bool := decide (a = b)
def MarkedB (B : Nat) (w : World) (v : Value) (n : Nat) (k : Int) (e : Ending) (w' : World) : Prop :=
  e = .returned (.int .i64 (k + n)) ∧ Own 5 .u8 B w' v (marks .u8 k n) ∧ w.grownBy w' v.ownBlock
def Apart (v u : Value) : Prop := ∀ g, v.ownBlock = some g → u.ownBlock ≠ some g
theorem Apart.symm {v u : Value} (h : Apart v u) : Apart u v := fun g h1 h2 => h g h2 h1
end Go.Proofs.Ytdaahcaafdleaaa.Sl
/- What calls leave that give a slice of the call's own; lists of bytes. No conditions. -/
namespace Go.Proofs.Ytdaahcaafdleaaa.Sl
open Go.ChangeShapes Go.WideShapes Go.ChangeAt Go.RowKit Go.Instr
set_option linter.unusedVariables false
set_option maxRecDepth 100000
def GivesB (w : World) (l : List Int) (e : Ending) (w' : World) : Prop := ∃ v, e = .returned v ∧ Own 5 .u8 w.heap.size w' v l ∧ Below w.heap.size w w'
def Byt (l : List Int) : Prop := ∀ x ∈ l, 0 ≤ x ∧ x ≤ 255
theorem Byt.at {l : List Int} (h : Byt l) {j : Nat} (hj : j < l.length) : 0 ≤ nth l j ∧ nth l j ≤ 255 := by rw [nth_eq hj]; exact h _ (List.getElem_mem hj)
end Go.Proofs.Ytdaahcaafdleaaa.Sl
/- A string turned into a slice of bytes: where they lie, what they are. No conditions. -/
namespace Go.Proofs.Ytdaahcaafdleaaa.Sl
open Go.ChangeShapes Go.WideShapes Go.ChangeAt Go.RowKit Go.Instr
set_option linter.unusedVariables false
set_option maxRecDepth 100000
def bytesOf (t : ByteArray) : List Int := t.data.toList.map fun c => (c.toNat : Int)
end Go.Proofs.Ytdaahcaafdleaaa.Sl
/- Plain mathematics of the base-128 encoding, no program in sight: the encoding's bytes, how they are read back, how long they are. No conditions. -/
namespace Go.Proofs.Ytdaahcaafdleaaa.Var
def enc (n : Nat) : List Int := if h : n < 128 then [(n : Int)] else (((n % 128 : Nat) : Int) + 128) :: enc (n / 128)
  termination_by n
  decreasing_by omega
def var (n : Int) : List Int := if 0 ≤ n ∧ n ≤ 1000000000000 then enc n.toNat else []
def dec : Nat → List Int → Nat → Int → Option (Int × Nat)
  | 0, _, _, _ => none
  | _ + 1, [], _, _ => none
  | f + 1, x :: r, k, n =>
    if x < 128 then (if (x = 0 ∧ 0 < k) ∨ 1000000000000 < n + x * 128 ^ k then none else some (n + x * 128 ^ k, k + 1))
    else dec f r (k + 1) (n + x % 128 * 128 ^ k)
def okAt (l : List Int) (i : Int) : Prop := 0 ≤ i ∧ i ≤ l.length
def res (i : Int) : Option (Int × Nat) → Int × Int × Bool
  | none => (0, 0, false)
  | some (n, c) => (n, i + c, true)
def readV (l : List Int) (i : Int) : Int × Int × Bool := if 0 ≤ i ∧ i ≤ l.length then res i (dec 6 (l.drop i.toNat) 0 0) else (0, 0, false)
end Go.Proofs.Ytdaahcaafdleaaa.Var
/- Contracts of AppendVarint, the reference model's and the program's: the slice and behind it the number's groups, in memory of the call's own. No conditions but that lengths fit. -/
namespace Go.Proofs.Ytdaahcaafdleaaa.Sl
open Go.ChangeShapes Go.WideShapes Go.ChangeAt Go.RowKit Go.Instr
set_option linter.unusedVariables false
set_option maxRecDepth 100000
def GrowsB (B : Nat) (w : World) (l : List Int) (e : Ending) (w' : World) : Prop := ∃ v, e = .returned v ∧ Own 5 .u8 B w' v l ∧ Below B w w'
end Go.Proofs.Ytdaahcaafdleaaa.Sl
/- Contracts of ReadVarint, the reference model's and the program's: what the groups at the offset make, the offset behind them, true; or 0, 0 and false. Nothing in memory turns. No conditions but that the elements are bytes and the length fits. -/
namespace Go.Proofs.Ytdaahcaafdleaaa.Sl
open Go.ChangeShapes Go.WideShapes Go.ChangeAt Go.RowKit Go.Instr
set_option linter.unusedVariables false
set_option maxRecDepth 100000
def rdV (r : Int × Int × Bool) : Value := .tuple #[.int .i64 r.1, .int .i64 r.2.1, .bool r.2.2]
end Go.Proofs.Ytdaahcaafdleaaa.Sl
/- Contracts of the program's ReadVarint: what the groups at the offset make, the offset behind them, true; or 0, 0 and false. What was in memory stays as it was. No conditions but that the elements are bytes and the length fits. -/
namespace Go.Proofs.Ytdaahcaafdleaaa.Sl
open Go.ChangeShapes Go.WideShapes Go.ChangeAt Go.RowKit Go.Instr
set_option linter.unusedVariables false
set_option maxRecDepth 100000
end Go.Proofs.Ytdaahcaafdleaaa.Sl
/- Contracts of AppendBytes, EqualBytes and EncodeInts, the reference model's and the program's. Slices that are returned lie in memory of the call's own. No conditions but that lengths fit and that the elements are bytes. -/
namespace Go.Proofs.Ytdaahcaafdleaaa.Sl
open Go.ChangeShapes Go.WideShapes Go.ChangeAt Go.RowKit Go.Instr
set_option linter.unusedVariables false
set_option maxRecDepth 100000
end Go.Proofs.Ytdaahcaafdleaaa.Sl
/- Contracts of EncodeInts, the reference model's and the program's: the numbers' groups, one number after the other, in memory of the call's own. No conditions but that lengths fit. -/
namespace Go.Proofs.Ytdaahcaafdleaaa.Sl
open Go.ChangeShapes Go.WideShapes Go.ChangeAt Go.RowKit Go.Instr
set_option linter.unusedVariables false
set_option maxRecDepth 100000
def encs (l : List Int) : List Int := l.flatMap Var.var
end Go.Proofs.Ytdaahcaafdleaaa.Sl
/- Contracts of the model's functions on interests: AppendName. No conditions but that lengths fit. -/
namespace Go.Proofs.Ytdaahcaafdleaaa.Row
open Go.ChangeShapes Go.WideShapes Go.ChangeAt Go.RowKit Go.Instr
set_option linter.unusedVariables false
set_option maxRecDepth 100000
def encPs (l : List ByteArray) : List Int := l.flatMap fun s => Var.var s.size ++ Sl.bytesOf s
def encN (l : List ByteArray) : List Int := Var.var l.length ++ encPs l
def appName (b : List Int) (l : List ByteArray) : List Int := if validN l = true then b ++ encN l else b
end Go.Proofs.Ytdaahcaafdleaaa.Row
/- Contracts of the model's functions on interests: validity, copy, equality, the hop limit. No conditions but that lengths fit. -/
namespace Go.Proofs.Ytdaahcaafdleaaa.Row
open Go.ChangeShapes Go.WideShapes Go.ChangeAt Go.RowKit Go.Instr
set_option linter.unusedVariables false
set_option maxRecDepth 100000
abbrev Wt := List ByteArray × Int × Int × Int
def validW (x : Wt) : Bool := validN x.1 && decide (0 < x.1.length) && decide (0 ≤ x.2.1 ∧ x.2.1 ≤ 1000000) && decide (0 ≤ x.2.2.1 ∧ x.2.2.1 ≤ 16) && decide (1 ≤ x.2.2.2 ∧ x.2.2.2 ≤ 20)
def GivesW (w : World) (x : Wt) (e : Ending) (w' : World) : Prop := ∃ v', e = .returned (.agg (wc v' x.2.1 x.2.2.1 x.2.2.2)) ∧ Own 9 Value.string w.heap.size w' v' x.1 ∧ Below w.heap.size w w'
def GivesWB (w : World) (x : Wt) (z : Bool) (e : Ending) (w' : World) : Prop := ∃ v', e = .returned (.tuple #[.agg (wc v' x.2.1 x.2.2.1 x.2.2.2), .bool z]) ∧ Own 9 Value.string w.heap.size w' v' x.1 ∧ Below w.heap.size w w'
def decW (x : Wt) : Wt := if x.2.2.1 < 1 then x else (x.1, x.2.1, x.2.2.1 - 1, x.2.2.2)
def decOk (x : Wt) : Bool := decide (1 ≤ x.2.2.1)
end Go.Proofs.Ytdaahcaafdleaaa.Row
/- Contracts of ReadBytes, the reference model's and the program's: the bytes behind the length at the offset, the offset behind them, true; or an empty slice, 0 and false. What is returned lies in memory of the call's own. No conditions but that the elements are bytes and the lengths fit. -/
namespace Go.Proofs.Ytdaahcaafdleaaa.Sl
open Go.ChangeShapes Go.WideShapes Go.ChangeAt Go.RowKit Go.Instr
set_option linter.unusedVariables false
set_option maxRecDepth 100000
def readB (l : List Int) (i most : Int) : List Int × Int × Bool :=
  let r := Var.readV l i
  if r.2.2 = false ∨ most < r.1 ∨ (l.length : Int) - r.2.1 < r.1 then ([], 0, false)
  else ((l.drop r.2.1.toNat).take r.1.toNat, r.2.1 + r.1, true)
def GivesB3 (w : World) (l : List Int) (n : Int) (ok : Bool) (e : Ending) (w' : World) : Prop := ∃ v, e = .returned (.tuple #[v, .int .i64 n, .bool ok]) ∧ Own 5 .u8 w.heap.size w' v l ∧ Below w.heap.size w w'
end Go.Proofs.Ytdaahcaafdleaaa.Sl
/- Contract of the model's EncodeInterest. No conditions but that lengths fit. -/
namespace Go.Proofs.Ytdaahcaafdleaaa.Sl
open Go.ChangeShapes Go.WideShapes Go.ChangeAt Go.RowKit Go.Instr
set_option linter.unusedVariables false
end Go.Proofs.Ytdaahcaafdleaaa.Sl
namespace Go.Proofs.Ytdaahcaafdleaaa.Row
open Go.ChangeShapes Go.WideShapes Go.ChangeAt Go.RowKit Go.Instr
set_option linter.unusedVariables false
set_option maxRecDepth 100000
def encW (x : Wt) : List Int := if validW x = true then appName [] x.1 ++ Sl.encs [x.2.1, x.2.2.1, x.2.2.2] else []
end Go.Proofs.Ytdaahcaafdleaaa.Row
/- Contract of the model's ReadName. No conditions but that lengths fit. -/
namespace Go.Proofs.Ytdaahcaafdleaaa.Row
open Go.ChangeShapes Go.WideShapes Go.ChangeAt Go.RowKit Go.Instr
set_option linter.unusedVariables false
set_option maxRecDepth 100000
def rdP : Nat → List Int → Int → List ByteArray → Option (List ByteArray × Int)
  | 0, _, i, acc => some (acc, i)
  | k + 1, b, i, acc => if (Sl.readB b i 8).2.2 = true then rdP k b (Sl.readB b i 8).2.1 (acc ++ [strOfNums (Sl.readB b i 8).1]) else none
def rdN (b : List Int) (i : Int) : List ByteArray × Int × Bool :=
  if (Var.readV b i).2.2 = false ∨ 6 < (Var.readV b i).1 then ([], 0, false)
  else match rdP (Var.readV b i).1.toNat b (Var.readV b i).2.1 [] with
    | none => ([], 0, false)
    | some (l, j) => if validN l = true then (l, j, true) else ([], 0, false)
def GivesN3 (w : World) (l : List ByteArray) (n : Int) (ok : Bool) (e : Ending) (w' : World) : Prop := ∃ v, e = .returned (.tuple #[.agg #[v], .int .i64 n, .bool ok]) ∧ Own 9 Value.string w.heap.size w' v l ∧ Below w.heap.size w w'
end Go.Proofs.Ytdaahcaafdleaaa.Row
namespace Go.Proofs.Ytdaahcaafdleaaa.Ret
variable {P : Program}
end Go.Proofs.Ytdaahcaafdleaaa.Ret
namespace Go.Proofs.Ytdaahcaafdleaaa.Row
open Go.ChangeShapes Go.WideShapes Go.ChangeAt Go.RowKit Go.Instr
set_option linter.unusedVariables false
set_option maxRecDepth 100000
end Go.Proofs.Ytdaahcaafdleaaa.Row
/- Contracts of DecodeInts, the reference model's and the program's: so many numbers at the offset, the offset behind them, true; or an empty slice, 0 and false. What is returned lies in memory of the call's own. No conditions but that the elements are bytes and the length fits. -/
namespace Go.Proofs.Ytdaahcaafdleaaa.Sl
open Go.ChangeShapes Go.WideShapes Go.ChangeAt Go.RowKit Go.Instr
set_option linter.unusedVariables false
set_option maxRecDepth 100000
def decA : Nat → List Int → Int → List Int → List Int × Int × Bool
  | 0, _, i, acc => (acc, i, true)
  | k + 1, l, i, acc => if (Var.readV l i).2.2 = true then decA k l (Var.readV l i).2.1 (acc ++ [(Var.readV l i).1]) else ([], 0, false)
def readIs (l : List Int) (i n : Int) : List Int × Int × Bool := if (0 ≤ n ∧ n ≤ 100) ∧ 0 ≤ i ∧ i ≤ l.length then decA n.toNat l i [] else ([], 0, false)
end Go.Proofs.Ytdaahcaafdleaaa.Sl
/- Plain mathematics: what the encoding writes is read back, and what is read is what the encoding writes. No program in sight. -/
namespace Go.Proofs.Ytdaahcaafdleaaa.Var
open Sl (Byt)
end Go.Proofs.Ytdaahcaafdleaaa.Var
/- Contract of the model's DecodeInterest. No conditions but that lengths fit. -/
namespace Go.Proofs.Ytdaahcaafdleaaa.Row
open Go.ChangeShapes Go.WideShapes Go.ChangeAt Go.RowKit Go.Instr
set_option linter.unusedVariables false
set_option maxRecDepth 100000
def w0 : Wt := ([], 0, 0, 0)
def gotW (b : List Int) : Wt := ((rdN b 0).1, Sl.nth (Sl.readIs b (rdN b 0).2.1 3).1 0, Sl.nth (Sl.readIs b (rdN b 0).2.1 3).1 1, Sl.nth (Sl.readIs b (rdN b 0).2.1 3).1 2)
def dcW (b : List Int) : Wt × Bool :=
  if (rdN b 0).2.2 = true ∧ (Sl.readIs b (rdN b 0).2.1 3).2.2 = true ∧ (Sl.readIs b (rdN b 0).2.1 3).2.1 = b.length ∧ validW (gotW b) = true then (gotW b, true) else (w0, false)
end Go.Proofs.Ytdaahcaafdleaaa.Row
/- Contracts of the reference model's draws of byte slices and of slices of integers: what is drawn lies in memory of the call's own; all else but the cursor is as it was. -/
namespace Go.Proofs.Ytdaahcaafdleaaa.Draw
open Go.ChangeShapes Go.WideShapes Go.ChangeAt Go.RowKit Go.Instr
set_option linter.unusedVariables false
set_option maxRecDepth 100000
def BytesIn (B a b : Nat) (x : Value) (w : World) : Prop := ∃ m, Own 5 .u8 B w x m ∧ Byt m ∧ a ≤ m.length ∧ m.length ≤ b
end Go.Proofs.Ytdaahcaafdleaaa.Draw
/- Contracts of the reference model's draws of interests. What was in memory stays as it was, but for the cursor. -/
namespace Go.Proofs.Ytdaahcaafdleaaa.Draw
open Go.ChangeShapes Go.WideShapes Go.ChangeAt Go.RowKit Go.Instr
open Go.Proofs.Ytdaahcaafdleaaa.Row (bulk bulk_append bulk_one bulk_nil bulk_cons wc Wt aggW)
open Go.Proofs.Ytdaahcaafdleaaa.Ret (NC Blk)
set_option linter.unusedVariables false
set_option maxRecDepth 100000
def smI (a b c : Int) : Prop := (-1 ≤ a ∧ a ≤ 1000001) ∧ (-1 ≤ b ∧ b ≤ 17) ∧ (0 ≤ c ∧ c ≤ 21)
def WantIn (B K : Nat) (x : Value) (w : World) : Prop := ∃ u m a b c, x = .agg (wc u a b c) ∧ Row.Own 9 Value.string B w u m ∧ bulk m ≤ K ∧ smI a b c
end Go.Proofs.Ytdaahcaafdleaaa.Draw
namespace Go.Proofs.Ytdaahcaafdleaaa.Row
end Go.Proofs.Ytdaahcaafdleaaa.Row
namespace Go.Proofs.Ytdaahcaafdleaaa.Draw
open Go.ChangeShapes Go.WideShapes Go.ChangeAt Go.RowKit Go.Instr
open Go.Proofs.Ytdaahcaafdleaaa.Row (bulk bulk_append bulk_one bulk_nil bulk_cons wc Wt aggW)
open Go.Proofs.Ytdaahcaafdleaaa.Ret (NC Blk)
set_option linter.unusedVariables false
set_option maxRecDepth 100000
end Go.Proofs.Ytdaahcaafdleaaa.Draw
/- What comes in as an argument, in the words of kinds: which value of the kind it is, and that its parts fit. By structure: numbers, slices of texts, structs, slices of whatever. For any program. No conditions. -/
namespace Go.Proofs.Ytdaahcaafdleaaa.Row
open Go.ChangeShapes Go.WideShapes Go.ChangeAt Go.RowKit Go.Instr
set_option linter.unusedVariables false
set_option maxRecDepth 100000
section
end
end Go.Proofs.Ytdaahcaafdleaaa.Row
/- Names in the words of kinds: sz, to, eq, mark, held. No conditions but that lengths fit. -/
namespace Go.Proofs.Ytdaahcaafdleaaa.Row
open Go.ChangeShapes Go.WideShapes Go.ChangeAt Go.RowKit Go.Instr
set_option linter.unusedVariables false
set_option maxRecDepth 100000
end Go.Proofs.Ytdaahcaafdleaaa.Row
/- Requesters (three ints) in the words of kinds: the kind; to, eq. No conditions. -/
namespace Go.Proofs.Ytdaahcaafdleaaa.Row
open Go.ChangeShapes Go.WideShapes Go.ChangeAt Go.RowKit Go.Instr
set_option linter.unusedVariables false
set_option maxRecDepth 100000
abbrev Rqt := Int × Int × Int
abbrev Rqm := Int × Int × Int
def wtRq (x : Rqt) : Nat := 0
def adRq (x : Rqt) : Nat := 0
def okRq (x : Rqt) : Prop := True
section
variable {w : World} {V : Value} {x : Rqt} {B E : Nat}
end
def inRq (x : Rqt) : Prop := (Lit.int .i64 x.1).wf = true ∧ (Lit.int .i64 x.2.1).wf = true ∧ (Lit.int .i64 x.2.2).wf = true
theorem inRq.ok {x : Rqt} (h : inRq x) : okRq x := trivial
end Go.Proofs.Ytdaahcaafdleaaa.Row
/- Lists of requesters in the words of kinds: sz, to, eq. No conditions but that lengths fit. -/
namespace Go.Proofs.Ytdaahcaafdleaaa.Row
open Go.ChangeShapes Go.WideShapes Go.ChangeAt Go.RowKit Go.Instr
set_option linter.unusedVariables false
set_option maxRecDepth 100000
def okLRq (l : List Rqt) : Prop := l.length ≤ 9223372036854775807 ∧ ∀ x ∈ l, okRq x
section
variable {w : World} {V : Value} {l : List Rqt} {B E : Nat}
end
def inLRq (l : List Rqt) : Prop := l.length ≤ 9223372036854775807 ∧ ∀ x ∈ l, inRq x
theorem inLRq.ok {l : List Rqt} (h : inLRq l) : okLRq l := ⟨h.1, fun x hx => (h.2 x hx).ok⟩
def adLRq (l : List Rqt) : Nat := bulkK adRq l
end Go.Proofs.Ytdaahcaafdleaaa.Row
/- Pending interests in the words of kinds: the kind; sz, to, eq, mark, held. No conditions but that lengths fit. -/
namespace Go.Proofs.Ytdaahcaafdleaaa.Row
open Go.ChangeShapes Go.WideShapes Go.ChangeAt Go.RowKit Go.Instr
set_option linter.unusedVariables false
set_option maxRecDepth 100000
abbrev Pit := List ByteArray × List Rqt × Int
set_option synthInstance.maxSize 100000 in
instance : DecidableEq Pit := inferInstance
abbrev Pim := Rw ByteArray × Rw Rqm × Int
def wtPi (x : Pit) : Nat := bulk x.1 + bulkK wtRq x.2.1
def adPi (x : Pit) : Nat := x.1.length + bulkK adRq x.2.1
def okPi (x : Pit) : Prop := okN x.1 ∧ okLRq x.2.1
section
variable {w : World} {V : Value} {x : Pit} {B E : Nat}
end
def inPi (x : Pit) : Prop := okN x.1 ∧ inLRq x.2.1 ∧ (Lit.int .i64 x.2.2).wf = true
theorem inPi.ok {x : Pit} (h : inPi x) : okPi x := ⟨h.1, h.2.1.ok⟩
end Go.Proofs.Ytdaahcaafdleaaa.Row
/- Lists of pending interests in the words of kinds: sz, to, eq. No conditions but that lengths fit. -/
namespace Go.Proofs.Ytdaahcaafdleaaa.Row
open Go.ChangeShapes Go.WideShapes Go.ChangeAt Go.RowKit Go.Instr
set_option linter.unusedVariables false
set_option maxRecDepth 100000
def okLPi (l : List Pit) : Prop := l.length ≤ 9223372036854775807 ∧ ∀ x ∈ l, okPi x
section
variable {w : World} {V : Value} {l : List Pit} {B E : Nat}
end
def inLPi (l : List Pit) : Prop := l.length ≤ 9223372036854775807 ∧ ∀ x ∈ l, inPi x
theorem inLPi.ok {l : List Pit} (h : inLPi l) : okLPi l := ⟨h.1, fun x hx => (h.2 x hx).ok⟩
def adLPi (l : List Pit) : Nat := bulkK adPi l
end Go.Proofs.Ytdaahcaafdleaaa.Row
/- Seen nonces in the words of kinds: the kind; sz, to, eq, mark, held. No conditions but that lengths fit. -/
namespace Go.Proofs.Ytdaahcaafdleaaa.Row
open Go.ChangeShapes Go.WideShapes Go.ChangeAt Go.RowKit Go.Instr
set_option linter.unusedVariables false
set_option maxRecDepth 100000
abbrev Snt := List ByteArray × Int
set_option synthInstance.maxSize 100000 in
instance : DecidableEq Snt := inferInstance
abbrev Snm := Rw ByteArray × Int
def wtSn (x : Snt) : Nat := bulk x.1
def adSn (x : Snt) : Nat := x.1.length
def okSn (x : Snt) : Prop := okN x.1
section
variable {w : World} {V : Value} {x : Snt} {B E : Nat}
end
def inSn (x : Snt) : Prop := okN x.1 ∧ (Lit.int .i64 x.2).wf = true
theorem inSn.ok {x : Snt} (h : inSn x) : okSn x := h.1
end Go.Proofs.Ytdaahcaafdleaaa.Row
/- Lists of seen nonces in the words of kinds: sz, to, eq. No conditions but that lengths fit. -/
namespace Go.Proofs.Ytdaahcaafdleaaa.Row
open Go.ChangeShapes Go.WideShapes Go.ChangeAt Go.RowKit Go.Instr
set_option linter.unusedVariables false
set_option maxRecDepth 100000
def okLSn (l : List Snt) : Prop := l.length ≤ 9223372036854775807 ∧ ∀ x ∈ l, okSn x
section
variable {w : World} {V : Value} {l : List Snt} {B E : Nat}
end
def inLSn (l : List Snt) : Prop := l.length ≤ 9223372036854775807 ∧ ∀ x ∈ l, inSn x
theorem inLSn.ok {l : List Snt} (h : inLSn l) : okLSn l := ⟨h.1, fun x hx => (h.2 x hx).ok⟩
def adLSn (l : List Snt) : Nat := bulkK adSn l
end Go.Proofs.Ytdaahcaafdleaaa.Row
/- Searching a list for the first element of which something holds; what is asked of a closure that is handed to the library. For any kind. No conditions. -/
namespace Go.Proofs.Ytdaahcaafdleaaa.Row
open Go.ChangeShapes Go.WideShapes Go.ChangeAt Go.RowKit Go.Instr
set_option linter.unusedVariables false
set_option maxRecDepth 100000
section
variable {α : Type} [Inhabited α] {p : α → Bool} {l : List α} {k : Nat}
def ixL (p : α → Bool) (l : List α) : Int := if l.findIdx p < l.length then (l.findIdx p : Int) else -1
def noL (p : α → Bool) (l : List α) (k : Nat) : Prop := ∀ j, j < k → p (nth l j) = false
end
end Go.Proofs.Ytdaahcaafdleaaa.Row
/- Contract of the program's copy of a name. No conditions but that lengths fit. -/
namespace Go.Proofs.Ytdaahcaafdleaaa.Row
open Go.ChangeShapes Go.WideShapes Go.ChangeAt Go.RowKit Go.Instr
set_option linter.unusedVariables false
set_option maxRecDepth 100000
end Go.Proofs.Ytdaahcaafdleaaa.Row
/- Names in the kinds of kstruct.py: ValidName, EqualNames, the copies, model and program. No conditions but that lengths fit. -/
namespace Go.Proofs.Ytdaahcaafdleaaa.Row
open Go.ChangeShapes Go.WideShapes Go.ChangeAt Go.RowKit Go.Instr
set_option linter.unusedVariables false
set_option maxRecDepth 100000
section
variable {w : World} {V U : Value} {l m : List ByteArray} {B E : Nat}
end
end Go.Proofs.Ytdaahcaafdleaaa.Row
/- Kinds of values with memory beneath in the words of the exact laws: slices of one-cell elements, slices of bytes, names; the laws' helpers for them; what keeps a region's loads. No conditions but that lengths fit. -/
namespace Go.Proofs.Ytdaahcaafdleaaa.Row
open Go.ChangeShapes Go.WideShapes Go.ChangeAt Go.RowKit Go.Instr
set_option linter.unusedVariables false
set_option maxRecDepth 100000
section
variable {α : Type} [Inhabited α] {enc : α → Value} {h1 : ∀ x, (enc x).oneCell' = true} {e : TypeId} {w : World} {v : Value} {l : List α} {B E : Nat}
end
section
variable {w : World} {v V : Value} {l : List Int} {B E : Nat}
end
section
variable {w : World} {v V : Value} {l : List ByteArray} {B E : Nat}
end
end Go.Proofs.Ytdaahcaafdleaaa.Row
/- Interests in the words of the exact laws: the kind; the laws' helpers for it; an interest that came in as an argument. No conditions but that lengths fit. -/
namespace Go.Proofs.Ytdaahcaafdleaaa.Row
open Go.ChangeShapes Go.WideShapes Go.ChangeAt Go.RowKit Go.Instr
set_option linter.unusedVariables false
set_option maxRecDepth 100000
section
variable {w : World} {v V : Value} {x : Wt} {B E : Nat}
end
def WfW (x : Wt) : Prop := (∀ y ∈ x.1, y.size ≤ maxLen) ∧ (Lit.int .i64 x.2.1).wf = true ∧ (Lit.int .i64 x.2.2.1).wf = true ∧ (Lit.int .i64 x.2.2.2).wf = true
def mkW (k : Int) (x : Wt) : Wt := (marks markT k x.1.length, x.2.1, x.2.2.1, x.2.2.2)
end Go.Proofs.Ytdaahcaafdleaaa.Row
/- Contracts of the program's functions on interests: validity, AppendName, the numbers, copy, the hop limit. No conditions but that lengths fit. -/
namespace Go.Proofs.Ytdaahcaafdleaaa.Row
open Go.ChangeShapes Go.WideShapes Go.ChangeAt Go.RowKit Go.Instr
set_option linter.unusedVariables false
set_option maxRecDepth 100000
end Go.Proofs.Ytdaahcaafdleaaa.Row
/- Pending interests: what chapter 13's functions answer, as functions of lists. No conditions. -/
namespace Go.Proofs.Ytdaahcaafdleaaa.Row
open Go.ChangeShapes Go.WideShapes Go.ChangeAt Go.RowKit Go.Instr
set_option linter.unusedVariables false
set_option linter.unusedSectionVars false
set_option maxRecDepth 100000
def isP (n : List ByteArray) (x : Pit) : Bool := decide (x.1 = n)
def isS (n : List ByteArray) (k : Int) (x : Snt) : Bool := decide (x.2 = k) && decide (x.1 = n)
def nnR (k : Int) (r : Rqt) : Bool := decide (r.2.1 = k)
def fcR (f : Int) (r : Rqt) : Bool := !decide (r.1 = f)
def gtR (f : Int) (r : Rqt) : Bool := decide (f < r.1)
def wtR (now : Int) (r : Rqt) : Bool := decide (now ≤ r.2.2)
def validQ (l : List Rqt) : Nat → Bool
  | 0 => true
  | k + 1 => validQ l k && (Num.inB (nth l k).1 0 6 && Num.inB (nth l k).2.1 0 1000000 && (decide (k = 0) || decide ((nth l (k - 1)).1 < (nth l k).1)))
def validQs (l : List Rqt) : Bool := validQ l l.length && decide (0 < l.length)
def validI (x : Pit) : Bool := validN x.1 && (decide (0 < x.1.length) && (validQs x.2.1 && Num.inB x.2.2 0 100000))
def vldP (l : List Pit) : Nat → Bool
  | 0 => true
  | k + 1 => vldP l k && (validI (nth l k) && !(l.take k).any (isP (nth l k).1))
def validPs (l : List Pit) : Bool := vldP l l.length && decide (l.length ≤ 12)
def loopR (n : List ByteArray) (k : Int) (x : Pit) : Bool := isP n x && x.2.1.any (nnR k)
def loopP (l : List Pit) (s : List Snt) (w : Wt) : Bool := l.any (loopR w.1 w.2.1) || s.any (isS w.1 w.2.1)
def hasPd (l : List Pit) (n : List ByteArray) : Bool := decide (0 ≤ ixL (isP n) l)
def putO (o : List Rqt) (a : Rqt) : List Rqt := o.takeWhile (fun r => !gtR a.1 r) ++ a :: o.dropWhile (fun r => !gtR a.1 r)
def putR (l : List Rqt) (a : Rqt) : List Rqt := putO (l.filter (fcR a.1)) a
def addOk (l : List Pit) (w : Wt) (f : Int) : Bool := validW w && Num.inB f 0 6 && (decide (0 ≤ ixL (isP w.1) l) || decide ((l.length : Int) < 12))
def askR (w : Wt) (f now : Int) : Rqt := (f, w.2.1, IntKind.i64.wrap (now + w.2.2.2))
def addP (l : List Pit) (w : Wt) (f now : Int) : List Pit :=
  if addOk l w f = true then
    if 0 ≤ ixL (isP w.1) l then l.set (ixL (isP w.1) l).toNat ((nth l (ixL (isP w.1) l).toNat).1, putR (nth l (ixL (isP w.1) l).toNat).2.1 (askR w f now), (nth l (ixL (isP w.1) l).toNat).2.2)
    else l ++ [(w.1, [askR w f now], 0)]
  else l
def lastP (l : List Pit) (n : List ByteArray) : Int := if 0 ≤ ixL (isP n) l then (nth l (ixL (isP n) l).toNat).2.2 else 0
def sentP (l : List Pit) (n : List ByteArray) (now : Int) : List Pit :=
  if 0 ≤ ixL (isP n) l then l.set (ixL (isP n) l).toNat ((nth l (ixL (isP n) l).toNat).1, (nth l (ixL (isP n) l).toNat).2.1, now) else l
def satP (l : List Pit) (n : List ByteArray) : List Pit := if 0 ≤ ixL (isP n) l then l.eraseIdx (ixL (isP n) l).toNat else l
def satR (l : List Pit) (n : List ByteArray) : List Rqt := if 0 ≤ ixL (isP n) l then (nth l (ixL (isP n) l).toNat).2.1 else []
def leftP (now : Int) (x : Pit) : Pit := (x.1, x.2.1.filter (wtR now), x.2.2)
def someR (x : Pit) : Bool := decide (0 < x.2.1.length)
def expP (l : List Pit) (now : Int) : List Pit := (l.map (leftP now)).filter someR
def seenS (s : List Snt) (n : List ByteArray) (k : Int) : List Snt := if 24 < (s ++ [(n, k)]).length then (s ++ [(n, k)]).drop 1 else s ++ [(n, k)]
def eqPs (x y : List Pit) : Bool := decide (x = y)
def putM (a : Rqt) (l : List Rqt) : List Rqt × Bool :=
  if l.any (gtR a.1) then (putR l a, true) else (l.filter (fcR a.1), false)
end Go.Proofs.Ytdaahcaafdleaaa.Row
/- An element of the list of pending interests and its parts; contracts of the numbers in letters. No conditions. -/
namespace Go.Proofs.Ytdaahcaafdleaaa.Row
open Go.ChangeShapes Go.WideShapes Go.ChangeAt Go.RowKit Go.Instr
set_option linter.unusedVariables false
set_option maxRecDepth 100000
def FitP (l : List Pit) : Prop := bulkK wtPi l ≤ 1100000
theorem FitP.len {l : List Pit} (h : FitP l) : l.length ≤ 1100000 := Nat.le_trans (bulkK_len wtPi l) h
def FitS (l : List Snt) : Prop := bulkK wtSn l ≤ 1100000
theorem FitS.len {l : List Snt} (h : FitS l) : l.length ≤ 1100000 := Nat.le_trans (bulkK_len wtSn l) h
end Go.Proofs.Ytdaahcaafdleaaa.Row
/- Lists that lie as rows of the call's own: a part of a row, an element more, an append within the room, a clearing behind the end; closures while a row is written. For any kind and any program. No conditions but that lengths fit. -/
namespace Go.Proofs.Ytdaahcaafdleaaa.Row
open Go.ChangeShapes Go.WideShapes Go.ChangeAt Go.RowKit Go.Instr
set_option linter.unusedVariables false
set_option linter.unusedSectionVars false
set_option maxRecDepth 100000
theorem take_nx {α : Type} [Inhabited α] {l : List α} {k : Nat} (h : k < l.length) : l.take (k + 1) = l.take k ++ [nth l k] := by rw [List.take_succ_eq_append_getElem h, nth_eq h]
theorem filter_nx {α : Type} [Inhabited α] {p : α → Bool} {l : List α} {k : Nat} (h : k < l.length) (hp : p (nth l k) = true) : (l.take (k + 1)).filter p = (l.take k).filter p ++ [nth l k] := by
  rw [take_nx h, List.filter_append]; simp [hp]
section
end
section
end
structure MidK {M : Type} [Inhabited M] (q : M → Bool) (L L' : List M) (i j : Nat) : Prop where
  len : L'.length = L.length
  head : L'.take i = (L.take j).filter q
  rest : ∀ r, j ≤ r → r < L.length → nth L' r = nth L r
  lt : i < j
theorem MidK.keep {M : Type} [Inhabited M] {q : M → Bool} {L L' : List M} {i j : Nat} (h : MidK q L L' i j) (hj : j < L.length) (hq : q (nth L j) = true) : MidK q L (L'.set i (nth L j)) (i + 1) (j + 1) := by
  have h1 := h.len
  have h2 := h.lt
  refine ⟨by simp [h1], ?_, fun r hr hr2 => ?_, by omega⟩
  · rw [List.take_succ_eq_append_getElem (by simp; omega), List.getElem_set_self, List.take_set_of_le (Nat.le_refl _), h.head, filter_nx hj hq]
  · rw [← h.rest r (by omega) hr2]
    simp only [nth, List.getD]
    rw [List.getElem?_set_ne (by omega)]
end Go.Proofs.Ytdaahcaafdleaaa.Row
/- One element as a literal, what is beneath it: for any kind. No conditions. -/
namespace Go.Proofs.Ytdaahcaafdleaaa.Row
open Go.ChangeShapes Go.WideShapes Go.ChangeAt Go.RowKit Go.Instr
set_option linter.unusedVariables false
set_option maxRecDepth 100000
end Go.Proofs.Ytdaahcaafdleaaa.Row
/- Copies: what they need. No conditions. -/
namespace Go.Proofs.Ytdaahcaafdleaaa.Row
open Go.ChangeShapes Go.WideShapes Go.ChangeAt Go.RowKit Go.Instr
set_option linter.unusedVariables false
set_option maxRecDepth 100000
end Go.Proofs.Ytdaahcaafdleaaa.Row
/- slices.Delete and slices.DeleteFunc on rows of pending interests and of seen nonces. No conditions but that lengths fit. -/
namespace Go.Proofs.Ytdaahcaafdleaaa.Row
open Go.ChangeShapes Go.WideShapes Go.ChangeAt Go.RowKit Go.Instr
set_option linter.unusedVariables false
set_option maxRecDepth 100000
end Go.Proofs.Ytdaahcaafdleaaa.Row
/- Copies: the regions that append one element. No conditions but that lengths fit. -/
namespace Go.Proofs.Ytdaahcaafdleaaa.Row
open Go.ChangeShapes Go.WideShapes Go.ChangeAt Go.RowKit Go.Instr
set_option linter.unusedVariables false
set_option maxRecDepth 100000
end Go.Proofs.Ytdaahcaafdleaaa.Row
/- Copies of lists of pending interests and of seen nonces, model and program. No conditions but that lengths fit. -/
namespace Go.Proofs.Ytdaahcaafdleaaa.Row
open Go.ChangeShapes Go.WideShapes Go.ChangeAt Go.RowKit Go.Instr
set_option linter.unusedVariables false
set_option maxRecDepth 100000
end Go.Proofs.Ytdaahcaafdleaaa.Row
/- slices.Grow and slices.Concat on seen nonces. No conditions but that lengths fit. -/
namespace Go.Proofs.Ytdaahcaafdleaaa.Row
open Go.ChangeShapes Go.WideShapes Go.ChangeAt Go.RowKit Go.Instr
set_option linter.unusedVariables false
set_option maxRecDepth 100000
def catSn (ls : Nat → List Snm) : Nat → List Snm
  | 0 => []
  | k + 1 => catSn ls k ++ ls k
end Go.Proofs.Ytdaahcaafdleaaa.Row
/- Lists of Requester: marked and looked at. No conditions but that lengths fit. -/
namespace Go.Proofs.Ytdaahcaafdleaaa.Row
open Go.ChangeShapes Go.WideShapes Go.ChangeAt Go.RowKit Go.Instr
set_option linter.unusedVariables false
set_option maxRecDepth 100000
def mvRq (z : Rqt) : Nat := 3
def meRq (q : Int) (z : Rqt) : Rqt := (q, q + 1, q + 1 + 1)
end Go.Proofs.Ytdaahcaafdleaaa.Row
/- Lists of PendingInterest: marked and looked at. No conditions but that lengths fit. -/
namespace Go.Proofs.Ytdaahcaafdleaaa.Row
open Go.ChangeShapes Go.WideShapes Go.ChangeAt Go.RowKit Go.Instr
set_option linter.unusedVariables false
set_option maxRecDepth 100000
def mvPi (z : Pit) : Nat := z.1.length + advK mvRq z.2.1 + 1
def mePi (q : Int) (z : Pit) : Pit := (marks markT (q) z.1.length, mkLK mvRq meRq (q + (z.1.length : Int)) z.2.1, q + (z.1.length : Int) + (advK mvRq z.2.1 : Int))
end Go.Proofs.Ytdaahcaafdleaaa.Row
/- Lists of SeenNonce: marked and looked at. No conditions but that lengths fit. -/
namespace Go.Proofs.Ytdaahcaafdleaaa.Row
open Go.ChangeShapes Go.WideShapes Go.ChangeAt Go.RowKit Go.Instr
set_option linter.unusedVariables false
set_option maxRecDepth 100000
def mvSn (z : Snt) : Nat := z.1.length + 1
def meSn (q : Int) (z : Snt) : Snt := (marks markT (q) z.1.length, q + (z.1.length : Int))
end Go.Proofs.Ytdaahcaafdleaaa.Row
/- Names in the words that kslice.py wants. No conditions but that lengths fit. -/
namespace Go.Proofs.Ytdaahcaafdleaaa.Row
open Go.ChangeShapes Go.WideShapes Go.ChangeAt Go.RowKit Go.Instr
set_option linter.unusedVariables false
set_option maxRecDepth 100000
abbrev Nnt := List ByteArray
abbrev Nnm := Rw ByteArray
abbrev wtNn (x : Nnt) : Nat := bulk x
abbrev adNn (x : Nnt) : Nat := x.length
abbrev okNn (x : Nnt) : Prop := okN x
abbrev inNn (x : Nnt) : Prop := okN x
theorem okN.ok {x : List ByteArray} (h : okN x) : okNn x := h
end Go.Proofs.Ytdaahcaafdleaaa.Row
/- Lists of names in the words of kinds: sz, to, eq. No conditions but that lengths fit. -/
namespace Go.Proofs.Ytdaahcaafdleaaa.Row
open Go.ChangeShapes Go.WideShapes Go.ChangeAt Go.RowKit Go.Instr
set_option linter.unusedVariables false
set_option maxRecDepth 100000
def okLNn (l : List Nnt) : Prop := l.length ≤ 9223372036854775807 ∧ ∀ x ∈ l, okNn x
section
variable {w : World} {V : Value} {l : List Nnt} {B E : Nat}
end
def inLNn (l : List Nnt) : Prop := l.length ≤ 9223372036854775807 ∧ ∀ x ∈ l, inNn x
theorem inLNn.ok {l : List Nnt} (h : inLNn l) : okLNn l := ⟨h.1, fun x hx => (h.2 x hx).ok⟩
def adLNn (l : List Nnt) : Nat := bulkK adNn l
end Go.Proofs.Ytdaahcaafdleaaa.Row
/- Lists of Name: marked and looked at. No conditions but that lengths fit. -/
namespace Go.Proofs.Ytdaahcaafdleaaa.Row
open Go.ChangeShapes Go.WideShapes Go.ChangeAt Go.RowKit Go.Instr
set_option linter.unusedVariables false
set_option maxRecDepth 100000
def mvNn (z : Nnt) : Nat := z.length
def meNn (q : Int) (z : Nnt) : Nnt := marks markT (q) z.length
end Go.Proofs.Ytdaahcaafdleaaa.Row
/- Lists of names, marked and held, in the words of the exact laws. No conditions but that lengths fit. -/
namespace Go.Proofs.Ytdaahcaafdleaaa.Row
open Go.ChangeShapes Go.WideShapes Go.ChangeAt Go.RowKit Go.Instr
set_option linter.unusedVariables false
set_option maxRecDepth 100000
end Go.Proofs.Ytdaahcaafdleaaa.Row
/- Lists of pending interests and of seen nonces in the words of the exact laws: marks; how much the answers of chapter 13's functions hold. No conditions but that lengths fit. -/
namespace Go.Proofs.Ytdaahcaafdleaaa.Row
open Go.ChangeShapes Go.WideShapes Go.ChangeAt Go.RowKit Go.Instr
set_option linter.unusedVariables false
set_option maxRecDepth 100000
end Go.Proofs.Ytdaahcaafdleaaa.Row
/- The program finds a pending interest: pendingIndex, HasPending, LastSentAt. No conditions but that lengths fit. -/
namespace Go.Proofs.Ytdaahcaafdleaaa.Row
open Go.ChangeShapes Go.WideShapes Go.ChangeAt Go.RowKit Go.Instr
set_option linter.unusedVariables false
set_option maxRecDepth 100000
end Go.Proofs.Ytdaahcaafdleaaa.Row
/- The model finds a pending interest: l13Find, HasPending, LastSentAt. No conditions but that lengths fit. -/
namespace Go.Proofs.Ytdaahcaafdleaaa.Row
open Go.ChangeShapes Go.WideShapes Go.ChangeAt Go.RowKit Go.Instr
set_option linter.unusedVariables false
set_option maxRecDepth 100000
end Go.Proofs.Ytdaahcaafdleaaa.Row
/- Lists of elements of a kind, marked part by part: what a part's marking leaves of the list. For any kind and any program. No conditions. -/
namespace Go.Proofs.Ytdaahcaafdleaaa.Row
open Go.ChangeShapes Go.WideShapes Go.ChangeAt Go.RowKit Go.Instr
set_option linter.unusedVariables false
set_option linter.unusedSectionVars false
set_option maxRecDepth 100000
section
variable {e : TypeId} {ad : Option Addr} {n cap j : Nat} {L : List M}
end
section
variable {α : Type} [Inhabited α] (a : α → Nat) (f : Int → α → α)
def advK : List α → Nat
  | [] => 0
  | x :: r => a x + advK r
def mkLK (q : Int) : List α → List α
  | [] => []
  | x :: r => f q x :: mkLK (q + (a x : Int)) r
end
end Go.Proofs.Ytdaahcaafdleaaa.Row
/- MarkSent, model and program. No conditions but that lengths fit. -/
namespace Go.Proofs.Ytdaahcaafdleaaa.Row
open Go.ChangeShapes Go.WideShapes Go.ChangeAt Go.RowKit Go.Instr
set_option linter.unusedVariables false
set_option maxRecDepth 100000
end Go.Proofs.Ytdaahcaafdleaaa.Row
/- AddSeenNonce, model and program. No conditions but that lengths fit. -/
namespace Go.Proofs.Ytdaahcaafdleaaa.Row
open Go.ChangeShapes Go.WideShapes Go.ChangeAt Go.RowKit Go.Instr
set_option linter.unusedVariables false
set_option maxRecDepth 100000
end Go.Proofs.Ytdaahcaafdleaaa.Row
/- The model's draw of a list of seen nonces (l13Sees): soft kinds, lists that are small. What was in memory stays as it was, but for the cursor. -/
namespace Go.Proofs.Ytdaahcaafdleaaa.Row
open Go.ChangeShapes Go.WideShapes Go.ChangeAt Go.RowKit Go.Instr
set_option linter.unusedVariables false
set_option maxRecDepth 100000
section
variable {B E : Nat} {w : World} {t : TypeId} {ad : Option Addr} {n cap : Nat} {L : List Snm}
end
def smS9 (k : Nat) (x : List Snt) : Prop := x.length ≤ k ∧ ∀ e ∈ x, bulk e.1 ≤ 1000 ∧ -1 ≤ e.2 ∧ e.2 ≤ 1000001
theorem smS9.mono {k k' : Nat} {x : List Snt} (h : smS9 k x) (hk : k ≤ k') : smS9 k' x := ⟨Nat.le_trans h.1 hk, h.2⟩
theorem smS9_snoc {k : Nat} {x : List Snt} {m : List ByteArray} {a : Int} (h : smS9 k x) (hm : bulk m ≤ 1000) (h0 : -1 ≤ a) (h1 : a ≤ 1000001) : smS9 (k + 1) (x ++ [(m, a)]) := by
  refine ⟨?_, fun e he => ?_⟩
  · have := h.1
    rw [List.length_append, List.length_singleton]; omega
  · rcases List.mem_append.1 he with he | he
    · exact h.2 e he
    · rw [List.mem_singleton.1 he]; exact ⟨hm, h0, h1⟩
end Go.Proofs.Ytdaahcaafdleaaa.Row
namespace Go.Proofs.Ytdaahcaafdleaaa.Draw
open Go.ChangeShapes Go.WideShapes Go.ChangeAt Go.RowKit Go.Instr
open Go.Proofs.Ytdaahcaafdleaaa.Row
open Go.Proofs.Ytdaahcaafdleaaa.Ret (NC Blk Box)
set_option linter.unusedVariables false
set_option maxRecDepth 100000
def sliceLen9 : Value → Nat
  | .slice _ n _ => n
  | _ => 0
end Go.Proofs.Ytdaahcaafdleaaa.Draw
/- The model's draw DrawAddSeenNonce. What was in memory stays as it was. -/
namespace Go.Proofs.Ytdaahcaafdleaaa.Ret
open Go.ChangeShapes Go.WideShapes Go.ChangeAt Go.RowKit Go.Instr
end Go.Proofs.Ytdaahcaafdleaaa.Ret
namespace Go.Proofs.Ytdaahcaafdleaaa.Draw
open Go.ChangeShapes Go.WideShapes Go.ChangeAt Go.RowKit Go.Instr
open Go.Proofs.Ytdaahcaafdleaaa.Row
open Go.Proofs.Ytdaahcaafdleaaa.Ret (NC Blk Box)
set_option linter.unusedVariables false
set_option maxRecDepth 100000
end Go.Proofs.Ytdaahcaafdleaaa.Draw
/- AddSeenNonce, the program. No conditions but that lengths fit. -/
namespace Go.Proofs.Ytdaahcaafdleaaa.Row
open Go.ChangeShapes Go.WideShapes Go.ChangeAt Go.RowKit Go.Instr
set_option linter.unusedVariables false
set_option maxRecDepth 100000
end Go.Proofs.Ytdaahcaafdleaaa.Row
/- wantedRequesters: what its iterator hands to a loop. No conditions but that lengths fit. -/
namespace Go.Proofs.Ytdaahcaafdleaaa.Row
open Go.ChangeShapes Go.WideShapes Go.ChangeAt Go.RowKit Go.Instr
open Go.Shelf
attribute [local go_sem] Oper.semAt_some
set_option linter.unusedVariables false
set_option maxRecDepth 100000
def rqV (x : Rqt) : Value := .agg #[.int .i64 x.1, .int .i64 x.2.1, .int .i64 x.2.2]
end Go.Proofs.Ytdaahcaafdleaaa.Row
/- slices.Collect over wantedRequesters. No conditions but that lengths fit. -/
namespace Go.Proofs.Ytdaahcaafdleaaa.Row
open Go.ChangeShapes Go.WideShapes Go.ChangeAt Go.RowKit Go.Instr
open Go.Shelf
attribute [local go_sem] Oper.semAt_some
set_option linter.unusedVariables false
set_option maxRecDepth 100000
end Go.Proofs.Ytdaahcaafdleaaa.Row
/- requestersOf: what its iterator hands to a loop. No conditions but that lengths fit. -/
namespace Go.Proofs.Ytdaahcaafdleaaa.Row
open Go.ChangeShapes Go.WideShapes Go.ChangeAt Go.RowKit Go.Instr
open Go.Shelf
attribute [local go_sem] Oper.semAt_some
set_option linter.unusedVariables false
set_option maxRecDepth 100000
def reqsOf (n : List ByteArray) (l : List Pit) : List Rqt := l.flatMap fun x => if isP n x = true then x.2.1 else []
end Go.Proofs.Ytdaahcaafdleaaa.Row
/- requestersOf: what it hands out; IsLoop: whether a nonce was seen. No conditions but that lengths fit. -/
namespace Go.Proofs.Ytdaahcaafdleaaa.Row
open Go.ChangeShapes Go.WideShapes Go.ChangeAt Go.RowKit Go.Instr
open Go.Shelf
attribute [local go_sem] Oper.semAt_some
set_option linter.unusedVariables false
set_option maxRecDepth 100000
end Go.Proofs.Ytdaahcaafdleaaa.Row
/- IsLoop, the program. No conditions but that lengths fit. -/
namespace Go.Proofs.Ytdaahcaafdleaaa.Row
open Go.ChangeShapes Go.WideShapes Go.ChangeAt Go.RowKit Go.Instr
open Go.Shelf
attribute [local go_sem] Oper.semAt_some
set_option linter.unusedVariables false
set_option maxRecDepth 100000
def NoR (k : Int) (pre : List Rqt) : Prop := ∀ r ∈ pre, nnR k r = false
def HitR (k : Int) (pre : List Rqt) : Prop := ∃ ini r, pre = ini ++ [r] ∧ nnR k r = true
end Go.Proofs.Ytdaahcaafdleaaa.Row
