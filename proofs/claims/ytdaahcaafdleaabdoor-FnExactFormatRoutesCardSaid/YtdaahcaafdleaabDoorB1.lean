/- Contracts and mathematics, joined: Frame, Row, Str, Ret, Name, NameLaw, Many, Keep, Tab, Kd, Blk, Slice, Exact, KLaw, Many2, Kind, OpenK, NmK, RouteK, RouteSK, FindK, PushK, LibS, Cmp, Num, Trunc, Pref, Part, Valid, AppP, Want, Gives, Conv, VarMath, Var, ReadV, ReadVI, Bytes, Ints, WantS, WantV, Clone, EqN, NameTxt, RowK, RouteMath, RouteP, NameMath, Shelf, Form, Math, Fmt, Text. No conditions but those that each states. -/
import Derived.ProofKit
import Derived.Carry
import Derived.SizedLaws
import Derived.ChangeSlices
import Derived.Lib.SmallJoins
import Derived.RowKit
import Derived.WalkKit
import Derived.WalkLawsBesides
import Derived.Lib.Hide
import Derived.Below
import Derived.OwnWalk
import Derived.Laws.OwnMore
import Derived.Laws.AppendOwnNone
import Derived.ArgAppend
import Derived.Maps.AppendAt
import Derived.Test.YtdaahcaafdleaabDoorRows
import Derived.LoopTactic
import Derived.Deep.QuietTactic
import Derived.Deep.RegionHeld3
import Derived.BigQuiet
import Derived.Laws.Rows
import Derived.Laws.ResultCell
import Derived.Deep.Strs
import Derived.ChangeSame
import Derived.Laws.CopyOwn
import Derived.Deep.RegionLaw
import Derived.ChangeArms
import Derived.Lib.AppendZerosOnto
import Derived.Lib.SliceRun
import Derived.Laws.RangeAny
import Derived.Lib.ConvBytes
import Derived.Laws.BitsLemmas
import Derived.Laws.Bits128
import Derived.Laws.ShiftsVarLaws
import Derived.Laws.BytesArg
import Derived.Deep.Cut
import Derived.Maps.OwnSet
import Derived.Lib.AppendStr
import Derived.Lib.Join
import Derived.Shelf.Strings.Builder1
import Derived.Shelf.Strings.Builder2
import Derived.Shelf.Strings.OnBuilder
import Derived.Shelf.Strconv.Itoa0
import Derived.Shelf.Strconv.Itoa1
import Derived.Shelf.LaysM
import Derived.Shelf.Strconv.Itoa2
import Derived.Shelf.Strconv.Itoa3
import Derived.Test.YtdaahcaafdleaabDoorProg
import Derived.Lib.Atoi
import Derived.Lib.AtoiTie
import Derived.Lib.AtoiAll
import Derived.Lib.ItoaNum
import Derived.Lib.ItoaLen
import Derived.WalkSmall
/- The frame of a law, once for every law: a call that returns true and leaves all that was in memory as it was meets the law's statement, whatever the types of its arguments. -/
namespace Go.Proofs.YtdaahcaafdleaabDoor.Frame
open Go.ChangeShapes Go.WideShapes Go.ChangeAt Go.RowKit
theorem stays {H : Type} {enc : TypeId × Value → H} {P : Program} (hl : laidOutB P = true) {W W' : World} (hb : Below W.heap.size W W') :
    ∀ {ts : List TypeId} {vs : List Value} {ds : List (DataW H)} {ps : List MemPlace}, (∀ t ∈ ts, P.readableRec t = true ∧ t < P.types.size) → DataW.TrodAll enc P W 0 (fun _ => true) true ts vs ds ps → (∀ x ∈ ps, x.block < W.heap.size) →
      DataW.TrodAll enc P W' 0 (fun b => decide (b < W.heap.size)) true ts vs ds ps
  | [], [], [], _, _, h, _ => h
  | [], [], _ :: _, _, _, h, _ => h.elim
  | [], _ :: _, [], _, _, h, _ => h.elim
  | [], _ :: _, _ :: _, _, _, h, _ => h.elim
  | _ :: _, [], [], _, _, h, _ => h.elim
  | _ :: _, [], _ :: _, _, _, h, _ => h.elim
  | _ :: _, _ :: _, [], _, _, h, _ => h.elim
  | t :: ts, v :: vs, d :: ds, ps, ht, h, hlt => by
    obtain ⟨p, q, h1, h2, e⟩ := h
    have h3 := ht t (by simp)
    exact ⟨p, q, Below.trod hl h3.1 h3.2 h1 hb (fun x hx => hlt x (by rw [e]; simp [hx])), stays hl hb (fun t' ht' => ht t' (by simp [ht'])) h2 (fun x hx => hlt x (by rw [e]; simp [hx])), e⟩
def rowed (P : Program) (ts : List TypeId) : Bool := ts.all fun t => P.readableRec t && decide (t < P.types.size)
theorem law_post {H : Type} {enc : TypeId × Value → H} {P : Program} {f : Func} {s : ChangeSpec} {tb : TypeId} {W W' : World} {args : Array Value} {ds : List (DataW H)} {before : List MemPlace}
    (hl : laidOutB P = true) (hp : rowed P f.params.toList = true) (hres : f.resultTypes = #[tb]) (hub : P.underlying tb = some .bool) (hvars : s.vars = [])
    (hfn : s.fn H (ds ++ []) = { results := [.lit (.bool true)], args := ds }) (hW : DataW.Whole enc P f.params.toList s.vars false W args.toList ds [] before) (hb : Below W.heap.size W W') :
    s.post enc P f false true false false W args (.bool true) W' := by
  have hlt := hW.lt
  have hW' := hW
  obtain ⟨p, q, hA, hV, rfl, _, _⟩ := hW
  refine ⟨ds, [], p ++ q, [], p, [], hW', ?_, ?_, ?_, hb.frame _, fun h => by cases h⟩
  · rw [hfn, hres]
    exact trodAll_mk1 (shut_bool hub true)
  · rw [hfn]
    refine stays hl hb (fun t ht => ?_) hA (fun x hx => hlt x (by simp [hx]))
    have := List.all_eq_true.1 hp t ht
    simpa using this
  · rw [hfn, hvars]
    exact rfl
def Bytes (w : World) (v : Value) (l : List UInt8) : Prop :=
  (v = .slice none 0 0 ∧ l = []) ∨ ∃ a cap, v = .slice (some a) l.length cap ∧ l.length ≤ cap ∧ cap ≤ 140737488351232 ∧ ∀ i (h : i < l.length), w.cell? (a.add i) = some (.int .u8 l[i].toNat)
theorem cell_lt {w : World} {a : Addr} {v : Value} (h : w.cell? a = some v) : a.block < w.heap.size := by
  unfold World.cell? at h
  cases hh : w.heap[a.block]? with
  | none => simp [hh] at h
  | some o => exact (Array.getElem?_eq_some_iff.1 hh).1
theorem Bytes.on {w w' : World} {v : Value} {l : List UInt8} (h : Bytes w v l) (hb : Below w.heap.size w w') : Bytes w' v l := by
  rcases h with h | ⟨a, cap, h1, h2, h3, h4⟩
  · exact Or.inl h
  · exact Or.inr ⟨a, cap, h1, h2, h3, fun i hi => by rw [hb.cell (cell_lt (h4 i hi))]; exact h4 i hi⟩
end Go.Proofs.YtdaahcaafdleaabDoor.Frame
/- Slices of one-cell elements in memory (strings, numbers, slices), for any program: a slice value that holds a list; a slice in blocks of the call's own that holds a list; what keeps both; one list appended to another. No conditions but that lengths fit. -/
namespace Go.Proofs.YtdaahcaafdleaabDoor.Row
open Go.ChangeShapes Go.WideShapes Go.ChangeAt Go.RowKit
set_option linter.unusedVariables false
set_option maxRecDepth 100000
def nth {α : Type} [Inhabited α] (l : List α) (j : Nat) : α := l.getD j default
def Holds {α : Type} [Inhabited α] (enc : α → Value) (w : World) (v : Value) (l : List α) : Prop :=
  ∃ x cap, v = .slice x l.length cap ∧ l.length ≤ cap ∧ (l = [] ∨ ∃ b off, x = some ⟨b, off, none⟩ ∧ ∀ j, j < l.length → w.cell? ⟨b, off + j, none⟩ = some (enc (nth l j)))
def Own {α : Type} [Inhabited α] (e : TypeId) (enc : α → Value) (B : Nat) (w : World) (v : Value) (l : List α) : Prop := w.ownsRow B e 1 v l.length (l.map enc)
section
variable {α : Type} [Inhabited α] {enc : α → Value} {e : TypeId} {B : Nat} {w w' : World} {v : Value} {l : List α}
theorem Own.form (h : Own e enc B w v l) : (v = .slice none 0 0 ∧ l = []) ∨ ∃ g cap, v = .slice (some ⟨g, 0, none⟩) l.length cap ∧ B ≤ g ∧ g < w.heap.size ∧ l.length ≤ cap ∧ cap ≤ maxLen := by
  rcases h.2 with ⟨hv, hn⟩ | ⟨g, cap, cur, hv, hg, hh, h1, h2, h3, h4⟩
  · exact Or.inl ⟨hv, List.eq_nil_of_length_eq_zero hn⟩
  · exact Or.inr ⟨g, cap, hv, hg, (Array.getElem?_eq_some_iff.1 hh).1, h1, h2⟩
theorem Own.holds (h : Own e enc B w v l) : Holds enc w v l := by
  rcases h.form with ⟨rfl, rfl⟩ | ⟨g, cap, rfl, h1, h2, h3, h4⟩
  · exact ⟨none, 0, rfl, by simp, Or.inl rfl⟩
  · refine ⟨_, cap, rfl, h3, ?_⟩
    by_cases hl : l = []
    · exact Or.inl hl
    · refine Or.inr ⟨g, 0, rfl, fun j hj => ?_⟩
      have h5 := World.ownsRow.cellAt h j (by simpa using hj)
      rw [Nat.zero_add, h5, List.getElem?_map]
      simp [nth, List.getD, List.getElem?_eq_getElem hj]
theorem Own.lt (h : Own e enc B w v l) : ∀ g, v.ownBlock = some g → B ≤ g ∧ g < w.heap.size := World.ownsRow.lt h
theorem Own.grown (h : Own e enc B w v l) {row : Option Nat} (hg : w.grownBy w' row) (hne : v.ownBlock = none ∨ v.ownBlock ≠ row) : Own e enc B w' v l := World.ownsRow.kept h hg hne
theorem grown_of_below (hb : Below w.heap.size w w') (row : Option Nat) : w.grownBy w' row := ⟨hb.os, hb.tape, hb.output, hb.size, fun i hi _ => hb.block i hi⟩
theorem Own.on (h : Own e enc B w v l) (hb : Below w.heap.size w w') : Own e enc B w' v l := by
  refine World.ownsRow.kept h (grown_of_below hb none) ?_
  cases hv : v.ownBlock <;> simp
theorem Own.mono (h : Own e enc B w v l) {B' : Nat} (hB : B' ≤ B) : Own e enc B' w v l := by
  refine ⟨h.1, ?_⟩
  rcases h.2 with h2 | ⟨g, cap, cur, hv, hg, r⟩
  · exact Or.inl h2
  · exact Or.inr ⟨g, cap, cur, hv, Nat.le_trans hB hg, r⟩
theorem Own.nil (e : TypeId) (enc : α → Value) (B : Nat) (w : World) : Own e enc B w (.slice none 0 0) [] := World.ownsRow_nil w B e 1
theorem Own.len (h : Own e enc B w v l) : l.length ≤ maxLen := by
  rcases h.form with ⟨rfl, rfl⟩ | ⟨g, cap, rfl, h1, h2, h3, h4⟩
  · simp
  · omega
theorem Own.block (h : Own e enc B w v l) (hn : v ≠ .slice none 0 0) : ∃ g cap, v = .slice (some ⟨g, 0, none⟩) l.length cap ∧ B ≤ g ∧ g < w.heap.size ∧ l.length ≤ cap := by
  rcases h.form with ⟨hv, _⟩ | ⟨g, cap, hv, h1, h2, h3, h4⟩
  · exact absurd hv hn
  · exact ⟨g, cap, hv, h1, h2, h3⟩
theorem cell_lt {a : Addr} {u : Value} (h : w.cell? a = some u) : a.block < w.heap.size := by
  unfold World.cell? at h
  cases hh : w.heap[a.block]? with
  | none => simp [hh] at h
  | some o => exact (Array.getElem?_eq_some_iff.1 hh).1
theorem Holds.on (h : Holds enc w v l) (hb : Below w.heap.size w w') : Holds enc w' v l := by
  obtain ⟨x, cap, hv, hc, h⟩ := h
  refine ⟨x, cap, hv, hc, ?_⟩
  rcases h with h | ⟨b, off, hx, h⟩
  · exact Or.inl h
  · exact Or.inr ⟨b, off, hx, fun j hj => by rw [hb.cell (cell_lt (h j hj))]; exact h j hj⟩
theorem Holds.nil (enc : α → Value) (w : World) : Holds enc w (.slice none 0 0) [] := ⟨none, 0, rfl, by simp, Or.inl rfl⟩
theorem Holds.shape (h : Holds enc w v l) : ∃ x cap, v = .slice x l.length cap ∧ l.length ≤ cap ∧ Holds enc w (.slice x l.length cap) l := by
  obtain ⟨x, cap, hv, hc, h⟩ := h
  exact ⟨x, cap, hv, hc, x, cap, rfl, hc, h⟩
theorem Holds.at {x : Option Addr} {n cap : Nat} (h : Holds enc w (.slice x n cap) l) {j : Nat} (hj : j < l.length) :
    ∃ b off, x = some ⟨b, off, none⟩ ∧ w.cell? ⟨b, off + j, none⟩ = some (enc (nth l j)) := by
  obtain ⟨x', cap', hv, hc, h⟩ := h
  cases hv
  rcases h with rfl | ⟨b, off, hx, h⟩
  · simp at hj
  · exact ⟨b, off, hx, h j hj⟩
theorem Holds.lenEq {x : Option Addr} {n cap : Nat} (h : Holds enc w (.slice x n cap) l) : n = l.length := by
  obtain ⟨x', cap', hv, hc, h⟩ := h
  cases hv; rfl
theorem Holds.grown (h : Holds enc w v l) {row : Option Nat} (hg : w.grownBy w' row) (hne : ∀ g, v.ownBlock = some g → some g ≠ row) : Holds enc w' v l := by
  obtain ⟨x, cap, rfl, hc, h⟩ := h
  refine ⟨x, cap, rfl, hc, ?_⟩
  rcases h with h | ⟨b, off, rfl, h⟩
  · exact Or.inl h
  · exact Or.inr ⟨b, off, rfl, fun j hj => hg.cell (h j hj) (hne b rfl)⟩
theorem nth_eq {l : List α} {j : Nat} (hj : j < l.length) : nth l j = l[j] := by simp [nth, List.getD, List.getElem?_eq_getElem hj]
theorem getD_map {j : Nat} (hj : j < l.length) : (l.map enc)[j]? = some (enc (nth l j)) := by
  simp [nth, List.getD, List.getElem?_eq_getElem hj]
end
theorem Holds.cells {α : Type} [Inhabited α] {enc : α → Value} {w : World} {ad : Addr} {n cap : Nat} {l : List α} (h : Holds enc w (.slice (some ad) n cap) l) : ∀ j u, (l.map enc)[j]? = some u → w.cell? (ad.add j) = some u := by
  intro j u hu
  have hj : j < l.length := by have := (List.getElem?_eq_some_iff.1 hu).1; simpa using this
  obtain ⟨b, off, hx, hc⟩ := h.at hj
  cases hx
  rw [Go.WideShapes.add_plain, hc]
  rw [getD_map hj] at hu
  exact hu
def Elem (P : Program) (e : TypeId) (z : Value) (bytes : Nat) : Prop := (P.info? e).map (fun i => (i.zero, i.size, i.bytes)) = some (some z, 1, bytes)
section
variable {P : Program} {w : World} {ops : Array Oper} {rest : List Oper} {o : Oper} {a : Act} {Q : Exit → Act → World → Prop} {α : Type} [Inhabited α] {enc : α → Value} {e t : TypeId} {bytes : Nat} {z : Value}
end
def Fits {α : Type} [Inhabited α] (e : TypeId) (enc : α → Value) (B : Nat) (w : World) (v : Value) (l : List α) : Prop := Own e enc B w v l ∨ ∃ x, v = .slice x l.length l.length ∧ Holds enc w v l
theorem Fits.on {α : Type} [Inhabited α] {enc : α → Value} {e : TypeId} {B : Nat} {w w' : World} {v : Value} {l : List α} (h : Fits e enc B w v l) (hb : Below w.heap.size w w') : Fits e enc B w' v l := by
  rcases h with h | ⟨x, hv, h⟩
  · exact Or.inl (h.on hb)
  · exact Or.inr ⟨x, hv, h.on hb⟩
theorem Fits.holds {α : Type} [Inhabited α] {enc : α → Value} {e : TypeId} {B : Nat} {w : World} {v : Value} {l : List α} (h : Fits e enc B w v l) : Holds enc w v l := by
  rcases h with h | ⟨x, hv, h⟩
  · exact h.holds
  · exact h
section
variable {P : Program} {w : World} {ops : Array Oper} {rest : List Oper} {o : Oper} {a : Act} {Q : Exit → Act → World → Prop} {α : Type} [Inhabited α] {enc : α → Value} {e t : TypeId} {bytes : Nat} {z : Value}
end
theorem pB0 {α : Type _} (l : List α) (i : Nat) (a : α) : l.toArray.setIfInBounds i a = (l.set i a).toArray := by simp
theorem pB1 {α : Type _} {x a : α} {xs : List α} : (x :: xs).set 0 a = a :: xs := rfl
theorem pB2 {α : Type _} {x a : α} {xs : List α} {n : Nat} : (x :: xs).set (n + 1) a = x :: xs.set n a := rfl
end Go.Proofs.YtdaahcaafdleaabDoor.Row
/- Contracts of the helpers by which the laws measure, copy, compare, mark and look at slices of strings: a copy lies in memory of the call's own and holds the same list; comparing tells whether the lists are equal; marking writes the texts of the numbers from k on; looking at the marks tells that they are there. No conditions but that lengths fit. -/
namespace Go.Proofs.YtdaahcaafdleaabDoor.Row
open Go.ChangeShapes Go.WideShapes Go.ChangeAt Go.RowKit Go.Instr
set_option linter.unusedVariables false
set_option maxRecDepth 100000
def bulkTo (l : List ByteArray) (k : Nat) : Nat := l.length + ((l.take k).map (·.size)).sum
def bulk (l : List ByteArray) : Nat := bulkTo l l.length
theorem bulkTo_zero (l : List ByteArray) : bulkTo l 0 = l.length := by simp [bulkTo]
theorem bulkTo_succ (l : List ByteArray) {k : Nat} (h : k < l.length) : bulkTo l (k + 1) = bulkTo l k + (nth l k).size := by
  unfold bulkTo
  rw [List.take_succ_eq_append_getElem h, nth_eq h, List.map_append, List.sum_append]
  simp only [List.map_cons, List.map_nil, List.sum_cons, List.sum_nil]
  omega
theorem sum_take_le (l : List Nat) : ∀ k, (l.take k).sum ≤ l.sum := by
  induction l with
  | nil => simp
  | cons a r ih => intro k; cases k with
    | zero => simp
    | succ k => have := ih k; simp only [List.take_succ_cons, List.sum_cons]; omega
theorem bulkTo_le (l : List ByteArray) (k : Nat) : bulkTo l k ≤ bulk l := by
  unfold bulk bulkTo
  have := sum_take_le (l.map (·.size)) k
  rw [List.take_length, List.map_take]; omega
theorem bulk_len (l : List ByteArray) : l.length ≤ bulk l := by unfold bulk bulkTo; omega
def szL (l : List ByteArray) (left : Int) : Int := if (bulk l : Int) ≤ left then left - bulk l else -1
theorem szL_fit {l : List ByteArray} {left : Int} (h : (bulk l : Int) ≤ left) : szL l left = left - bulk l := if_pos h
theorem szL_not {l : List ByteArray} {left : Int} (h : left < (bulk l : Int)) : szL l left = -1 := if_neg (by omega)
def filled (l : List ByteArray) (k : Nat) : List ByteArray := l.take k ++ List.replicate (l.length - k) ByteArray.empty
theorem filled_length (l : List ByteArray) {k : Nat} (h : k ≤ l.length) : (filled l k).length = l.length := by simp [filled]; omega
theorem filled_zero (l : List ByteArray) : filled l 0 = List.replicate l.length ByteArray.empty := by simp [filled]
theorem filled_all (l : List ByteArray) : filled l l.length = l := by simp [filled]
theorem filled_step (l : List ByteArray) {k : Nat} (h : k < l.length) : (filled l k).set k (nth l k) = filled l (k + 1) := by
  have hl : (l.take k).length = k := by simp; omega
  unfold filled
  rw [List.set_append_right _ _ (by omega), hl, Nat.sub_self, show l.length - k = (l.length - (k + 1)) + 1 by omega, List.replicate_succ, List.set_cons_zero, nth_eq h]
  have := List.take_succ_eq_append_getElem h
  rw [this, List.append_assoc]; rfl
def agree {α : Type} [Inhabited α] (a b : List α) (k : Nat) : Prop := ∀ j, j < k → nth a j = nth b j
section
variable {α : Type} [Inhabited α]
theorem agree_zero (a b : List α) : agree a b 0 := fun j h => absurd h (by omega)
theorem agree_succ {a b : List α} {k : Nat} (h : agree a b k) (hk : nth a k = nth b k) : agree a b (k + 1) := fun j hj => by
  by_cases e : j = k
  · subst e; exact hk
  · exact h j (by omega)
theorem agree_all {a b : List α} (hl : a.length = b.length) (h : agree a b a.length) : a = b := by
  apply List.ext_getElem hl
  intro i h1 h2
  have := h i h1
  rwa [nth_eq h1, nth_eq h2] at this
theorem differ_at {a b : List α} {k : Nat} (h : ¬ nth a k = nth b k) : a ≠ b := fun e => h (by rw [e])
end
def eqB (a b : List ByteArray) : Bool := decide (a = b)
theorem eqB_true {a b : List ByteArray} (h : a = b) : eqB a b = true := by simp [eqB, h]
theorem eqB_false {a b : List ByteArray} (h : a ≠ b) : eqB a b = false := by simp [eqB, h]
def marks {α : Type} (f : Int → α) (k : Int) : Nat → List α
  | 0 => []
  | n + 1 => marks f k n ++ [f (k + n)]
section
variable {α : Type} (f : Int → α)
theorem marks_length (k : Int) : ∀ n, (marks f k n).length = n
  | 0 => rfl
  | n + 1 => by simp [marks, marks_length k n]
def marked {α : Type} (f : Int → α) (k : Int) (l : List α) (j : Nat) : List α := marks f k j ++ l.drop j
end
section
variable {α : Type} [Inhabited α] {enc : α → Value}
theorem own_store {e : TypeId} {B : Nat} {w : World} {g n cap : Nat} {l : List α} (h : Own e enc B w (.slice (some ⟨g, 0, none⟩) n cap) l) (hn : n = l.length) (j : Nat) (x : α) :
    Own e enc B (w.setCell ⟨g, j, none⟩ (enc x)) (.slice (some ⟨g, 0, none⟩) n cap) (l.set j x) ∧ w.grownBy (w.setCell ⟨g, j, none⟩ (enc x)) (some g) := by
  subst hn
  have := World.ownsRow.stored h j (enc x)
  refine ⟨?_, this.2⟩
  unfold Own
  rw [List.length_set, List.map_set]
  exact this.1
theorem own_cell {e : TypeId} {B : Nat} {w : World} {g n cap : Nat} {l : List α} (h : Own e enc B w (.slice (some ⟨g, 0, none⟩) n cap) l) (hn : n = l.length) {j : Nat} (hj : j < l.length) :
    w.cell? ⟨g, j, none⟩ = some (enc (nth l j)) ∧ w.frozen? ⟨g, j, none⟩ = false := by
  subst hn
  refine ⟨?_, World.ownsRow.frozenAt h j⟩
  rw [World.ownsRow.cellAt h j (by simpa using hj), getD_map hj]
end
theorem below_drewN {B : Nat} {a w : World} (h : Below B a w) (n : Nat) : Below B a (w.drewN n) := ⟨h.os, h.tape, h.output, h.size, h.block⟩
theorem ret_bool {a b : Bool} (h : a = b) : Ending.returned (.bool a) = .returned (.bool b) := by rw [h]
theorem ret_int {k : IntKind} {a b : Int} (h : a = b) : Ending.returned (.int k a) = .returned (.int k b) := by rw [h]
theorem toList_inj {a b : ByteArray} (h : a.toList = b.toList) : a = b := by
  rw [ByteArray.toList_eq, ByteArray.toList_eq] at h
  exact ByteArray.ext (Array.toList_inj.1 h)
theorem tl_eq {a b : ByteArray} (h : a = b) : (!(a.toList == b.toList)) = false := by subst h; simp
theorem tl_ne {a b : ByteArray} (h : ¬ a = b) : (!(a.toList == b.toList)) = true := by
  have : a.toList ≠ b.toList := fun e => h (toList_inj e)
  simpa using this
theorem elemSTR : Elem Tryd.prog 9 (.string ByteArray.empty) 16 := by unfold Elem; kernel_rfl
set_option maxHeartbeats 1000000 in
theorem szStringS (v : Value) (l : List ByteArray) (w : World) (left : Int) (h : Holds Value.string w v l) (hl : l.length ≤ 9223372036854775807) (hs : ∀ x ∈ l, x.size ≤ maxLen) (h0 : 0 ≤ left) (h1 : left ≤ 1048576) :
    Calls Tryd.prog 24 #[v, .int .i64 left] w fun e w' => e = .returned (.int .i64 (szL l left)) ∧ w = w' := by
  obtain ⟨x, cap, rfl, hcap, hh⟩ := h.shape
  have hle := bulkTo_le l
  obtain ⟨n, hn⟩ : ∃ n, n = l.length := ⟨_, rfl⟩
  have hb0 := bulkTo_zero l
  rw [← hn] at hcap hh hl hb0 ⊢
  by_cases hbig : left < (n : Int)
  · have hS : szL l left = -1 := szL_not (by have := bulk_len l; omega)
    rw [hS]
    clear hh h hs hle hn hb0 hS
    go_enter Tryd.func24, Tryd.ntmps24
    go_wp2
    go_ret
    exact ⟨rfl, rfl⟩
  have HN := Lib.hid hn
  have HH := Lib.hid hh
  have HS := Lib.hid hs
  have HLE := Lib.hid hle
  have HB0 := Lib.hid hb0
  clear hn h hh hs hle hb0
  go_enter Tryd.func24, Tryd.ntmps24
  go_wp2
  go_loop [1, 5] (fun lv i => ∃ k : Nat, k ≤ n ∧ i = .int .i64 k ∧ ∃ u : Int, lv = .int .i64 u ∧ u = left - bulkTo l k ∧ 0 ≤ u) (fun _ i => n - (intOf i).toNat)
  case atStart => exact ⟨0, Nat.zero_le _, rfl, _, rfl, by rw [HB0.out], by omega⟩
  case round =>
    obtain ⟨k, hk, rfl, u, rfl, hu, h0u⟩ := hrel
    have hub : u ≤ left := by omega
    have HU := Lib.hid hu
    clear hu
    by_cases hlt : k < n
    · have hlen := HN.out
      obtain ⟨b, off, rfl, hc⟩ := HH.out.at (j := k) (by omega)
      have hsz := HS.out (nth l k) (by rw [nth_eq (by omega)]; exact List.getElem_mem _)
      have hstep := Lib.hid (bulkTo_succ l (k := k) (by omega))
      have hm : maxLen = 9223372036854775807 := rfl
      rw [hm] at hsz
      have hall := HLE.out (k + 1)
      rw [bulkTo_succ l (k := k) (by omega)] at hall
      have HALL := Lib.hid hall
      clear hlen hm hall
      by_cases hneg : u - ((nth l k).size : Int) < 0
      · go_wp2
        go_ret
        refine ⟨ret_int ?_, rfl⟩
        have e1 := HALL.out
        have e2 := HU.out
        rw [szL_not (by omega)]
      · go_wp2
        go_round
        case rel => exact ⟨k + 1, by omega, by go_num, _, rfl, by rw [hstep.out, HU.out]; omega, by omega⟩
        case measure => simp [intOf]; omega
    · obtain rfl : k = n := by omega
      clear hlt
      go_wp2
      go_ret
      refine ⟨ret_int ?_, rfl⟩
      have := HU.out
      rw [HN.out] at this
      rw [szL_fit (by unfold bulk; omega)]
      exact this
set_option maxHeartbeats 1000000 in
theorem toStringS (v : Value) (l : List ByteArray) (w : World) (h : Holds Value.string w v l) (hl : l.length ≤ 100000000) :
    Calls Tryd.prog 25 #[v] w fun e w' => ∃ v', e = .returned v' ∧ Own 9 Value.string w.heap.size w' v' l ∧ Below w.heap.size w w' := by
  obtain ⟨x, cap, rfl, hcap, hh⟩ := h.shape
  obtain ⟨i0, hi, hz0, hz1, hz2⟩ := info_parts elemSTR
  obtain ⟨n, hn⟩ : ∃ n, n = l.length := ⟨_, rfl⟩
  rw [← hn] at hcap hh hl ⊢
  have HN := Lib.hid hn
  have HH := Lib.hid hh
  have HI := Lib.hid hi; have HZ0 := Lib.hid hz0; have HZ1 := Lib.hid hz1; have HZ2 := Lib.hid hz2
  clear hn h hh hi hz0 hz1 hz2
  go_enter Tryd.func25, Tryd.ntmps25
  go_wp2_with (at_make; refine wpList_make_full _ rfl _ _ 30 rfl w.heap.size 9 i0 (.string ByteArray.empty) 1 Tryd.underlying30 HI.out HZ0.out HZ1.out _ _ _ _ n rfl rfl rfl rfl (by rw [HZ2.out]; omega) (by unfold maxLen; omega) (Nat.le_refl _) ?_)
  intro w1 hown hgrow
  have ho : Own 9 Value.string w.heap.size w1 (.slice (some ⟨w.heap.size, 0, none⟩) n n) (filled l 0) := by
    unfold Own
    rw [filled_zero, List.length_replicate, ← HN.out, List.map_replicate]
    rw [toList_madeCells_one] at hown
    exact hown
  have hb : Below w.heap.size w w1 := (Below.refl _ _).grown hgrow (Nat.le_refl _) (fun k hk => by cases hk)
  have HO := Lib.hid ho; have HB := Lib.hid hb
  clear hown hgrow ho hb
  go_wp2_with fail
  go_loopw [4] (fun i wr => ∃ k : Nat, k ≤ n ∧ i = .int .i64 k ∧ Hid (Own 9 Value.string w.heap.size wr (.slice (some ⟨w.heap.size, 0, none⟩) n n) (filled l k)) ∧ Hid (Below w.heap.size w wr)) (fun i _ => n - (intOf i).toNat)
  case atStart => exact ⟨0, Nat.zero_le _, rfl, HO, HB⟩
  case round =>
    obtain ⟨k, hk, rfl, ho, hb⟩ := hrel
    by_cases hlt : k < n
    · have hlen := HN.out
      obtain ⟨b, off, rfl, hc⟩ := ((HH.out).on hb.out).at (j := k) (by omega)
      obtain ⟨hc2, hf2⟩ := own_cell ho.out (by rw [filled_length l (by omega)]; exact hlen) (j := k) (by rw [filled_length l (by omega)]; omega)
      obtain ⟨hs1, hs2⟩ := own_store ho.out (by rw [filled_length l (by omega)]; exact hlen) k (nth l k)
      rw [filled_step l (by omega)] at hs1
      have HS1 := Lib.hid hs1; have HS2 := Lib.hid hs2
      clear hs1 hs2 hlen
      go_wp2
      go_roundw
      case rel => exact ⟨k + 1, by omega, by go_num, HS1, Lib.hid (hb.out.grown HS2.out (by have := hb.out.size; exact this) (fun g hg => by cases hg; exact Nat.le_refl _))⟩
      case measure => simp [intOf]; omega
    · obtain rfl : k = n := by omega
      clear hlt
      go_wp2
      go_ret
      refine ⟨_, rfl, ?_, hb.out⟩
      have := ho.out
      rw [HN.out, filled_all] at this
      rw [HN.out]
      exact this
theorem eqStringS_len (x y : Option Addr) (n m cx cy : Nat) (w : World) (h : (((n : Nat) : Int) != ((m : Nat) : Int)) = true) :
    Calls Tryd.prog 29 #[.slice x n cx, .slice y m cy] w fun e w' => e = .returned (.bool false) ∧ w = w' := by
  go_enter Tryd.func29, Tryd.ntmps29
  go_wp2
  go_ret
  exact ⟨rfl, rfl⟩
set_option maxHeartbeats 1000000 in
theorem eqStringS (v u : Value) (l m : List ByteArray) (w : World) (h : Holds Value.string w v l) (g : Holds Value.string w u m) (hl : l.length ≤ 140737488351232) (hm : m.length ≤ 140737488351232) :
    Calls Tryd.prog 29 #[v, u] w fun e w' => e = .returned (.bool (eqB l m)) ∧ Below w.heap.size w w' := by
  obtain ⟨x, cx, rfl, hcx, hh⟩ := h.shape
  obtain ⟨y, cy, rfl, hcy, hg⟩ := g.shape
  by_cases he : l.length = m.length
  · obtain ⟨n, hn⟩ : ∃ n, n = l.length := ⟨_, rfl⟩
    rw [← he] at hg hm hcy ⊢
    rw [← hn] at hcx hh hl hg hm hcy ⊢
    have HE := Lib.hid he
    have HN := Lib.hid hn
    have HH := Lib.hid hh
    have HG := Lib.hid hg
    have htest : (((n : Nat) : Int) != ((n : Nat) : Int)) = false := by simp
    clear hn h hh g hg he
    go_enter Tryd.func29, Tryd.ntmps29
    go_wp2
    go_loopw [5] (fun i wr => ∃ k nq : Nat, k ≤ n ∧ i = .int .i64 k ∧ Hid (agree l m k) ∧ wr = w.drewN nq) (fun i _ => n - (intOf i).toNat)
    case atStart => exact ⟨0, 0, Nat.zero_le _, rfl, Lib.hid (agree_zero _ _), rfl⟩
    case round =>
      obtain ⟨k, nq, hk, rfl, ha, rfl⟩ := hrel
      by_cases hlt : k < n
      · have hlen := HN.out
        have hlen2 := HE.out
        obtain ⟨b, off, rfl, hc⟩ := HH.out.at (j := k) (by omega)
        obtain ⟨b', off', rfl, hc'⟩ := HG.out.at (j := k) (by omega)
        clear hlen hlen2
        by_cases hd : nth l k = nth m k
        · have hd2 := tl_eq hd
          have HD := Lib.hid hd; clear hd
          go_wp2_with fail
          go_quiet (fail)
          go_wp2_with fail
          go_roundw
          case rel => exact ⟨k + 1, _, by omega, by go_num, Lib.hid (agree_succ ha.out HD.out), rfl⟩
          case measure => simp [intOf]; omega
        · have hd2 := tl_ne hd
          have HD := Lib.hid (eqB_false (differ_at hd)); clear hd
          go_wp2_with fail
          go_quiet (fail)
          go_wp2_with fail
          go_ret
          exact ⟨ret_bool HD.out.symm, below_drewN (below_drewN (Below.refl _ _) _) _⟩
      · obtain rfl : k = n := by omega
        have HD := Lib.hid (eqB_true (agree_all HE.out (HN.out ▸ ha.out)))
        clear hlt
        go_wp2
        go_ret
        exact ⟨ret_bool HD.out.symm, below_drewN (Below.refl _ _) _⟩
  · have htest : (((l.length : Nat) : Int) != ((m.length : Nat) : Int)) = true := by
      rw [bne_iff_ne]; omega
    rw [eqB_false (fun e => he (by rw [e]))]
    exact (eqStringS_len x y _ _ cx cy w htest).mono fun e w' ⟨h1, h2⟩ => ⟨h1, by subst h2; exact Below.refl _ _⟩
def str (l : List UInt8) : ByteArray := ⟨l.toArray⟩
theorem str_cons (c : UInt8) (l : List UInt8) : str [c] ++ str l = str (c :: l) := by
  simp [str, ByteArray.ext_iff]
theorem str_size (l : List UInt8) : (str l).size = l.length := by simp [str, ByteArray.size]
def digs (u : Nat) : List UInt8 := if u = 0 then [] else digs (u / 10) ++ [UInt8.ofNat (48 + u % 10)]
decreasing_by omega
def markT (k : Int) : ByteArray := if k ≤ 0 then str [109, 48] else str (109 :: digs k.toNat)
theorem ret_str {a b : ByteArray} (h : a = b) : Ending.returned (.string a) = .returned (.string b) := by rw [h]
theorem conv1 (wx : World) (v : Int) (h0 : 0 ≤ v) (h1 : v < 256) :
    (convert 44 9 (.slice (some ⟨wx.heap.size, 0, none⟩) 1 1)).run Tryd.prog (wx.alloc (.cells #[.int .u8 v] 5)) = .ok (.string (str [UInt8.ofNat v.toNat])) (wx.alloc (.cells #[.int .u8 v] 5)) := by
  have := run_convert_bytes_back (P := Tryd.prog) (wx.alloc (.cells #[.int .u8 v] 5)) 44 9 5 ⟨wx.heap.size, 0, none⟩ 1 [UInt8.ofNat v.toNat] Tryd.underlying44 Tryd.underlying5 Tryd.underlying9 ?_
  · exact this
  · intro j hj
    have : j = 0 := by simpa using hj
    subst this
    have e : ((UInt8.ofNat v.toNat).toNat : Int) = v := by simp; omega
    simp only [List.getElem_cons_zero, e]
    simp [Addr.add, World.cell?_alloc_mark]
end Go.Proofs.YtdaahcaafdleaabDoor.Row
/- Results that lie in a variable of the call's own: a struct is read back cell by cell. For any program. -/
namespace Go.Proofs.YtdaahcaafdleaabDoor.Ret
variable {P : Program}
def AggOf (P : Program) (ty : TypeId) (n : Nat) : Prop := (match P.underlying ty with | some (.struct _) => true | some (.array _ _) => true | _ => false) = true ∧ (P.info? ty).map (·.size) = some n
theorem run_loadVar_cells (w : World) (b : Nat) (ty : TypeId) (cs : List Value) (hc : ∀ j v, cs[j]? = some v → w.cell? ⟨b, j, none⟩ = some v) (ha : AggOf P ty cs.length) :
    (loadVar ty ⟨b, 0, none⟩).run P w = .ok (.agg cs.toArray) w := by
  obtain ⟨hd, hi⟩ := ha
  have hl : (loadCells ⟨b, 0, none⟩ cs.length).run P w = .ok cs.toArray w :=
    run_loadCells_list (P := P) w ⟨b, 0, none⟩ cs (fun j v hv => by
      have hadd : (⟨b, 0, none⟩ : Addr).add j = ⟨b, j, none⟩ := by unfold Addr.add; split <;> simp_all
      rw [hadd]; exact hc j v hv)
  cases hq : P.info? ty with
  | none => simp [hq] at hi
  | some i =>
    have hs : i.size = cs.length := by simpa [hq] using hi
    cases hu : P.underlying ty with
    | none => simp [hu] at hd
    | some d =>
      have hagg : (isAgg ty).run P w = .ok true w := by
        unfold isAgg
        rw [Sem.run_bind, run_underlying hu w]
        cases d <;> simp_all
      simp [loadVar, Sem.run_bind, hagg, sizeOf, typeInfo, hq, hs, hl]
theorem results_c {fn : Func} {p : Tmp} {ty : TypeId} (h : fn.results = #[.cell p ty]) (tmps : Array Value) (w : World) (b : Nat) (cs : List Value) (hp : tmps.getD p undef = .pointer (some ⟨b, 0, none⟩))
    (ha : AggOf P ty cs.length) (hc : ∀ j v, cs[j]? = some v → w.cell? ⟨b, j, none⟩ = some v) : (results fn tmps).run P w = .ok (.agg cs.toArray) w := by
  have hp' : tmps[p]?.getD undef = .pointer (some ⟨b, 0, none⟩) := by simpa using hp
  have hl := run_loadVar_cells (P := P) w b ty cs hc ha
  simp [results, h, hp', asAddr, hl]
theorem one {w : World} {b : Nat} {u : Value} (h : w.cell? ⟨b, 0, none⟩ = some u) : ∀ j v, [u][j]? = some v → w.cell? ⟨b, j, none⟩ = some v := by
  intro j v hv
  cases j with
  | zero => simp at hv; subst hv; exact h
  | succ j => simp at hv
theorem cell_at {w : World} {u : Value} {t : TypeId} {n : Nat} (hn : n = w.heap.size) : (w.alloc (.cells #[u] t)).cell? ⟨n, 0, none⟩ = some u := by
  rw [World.cell?_alloc_at _ _ _ _ hn]; rfl
theorem set_same {w : World} {a : Addr} {u v : Value} (h : w.cell? a = some u) : (w.setCell a v).cell? a = some v := World.cell?_setCell_same' w a v (by rw [h]; rfl)
theorem grownBy_set (w : World) (a : Addr) (u : Value) : w.grownBy (w.setCell a u) (some a.block) := ⟨rfl, rfl, rfl, by simp [World.setCell], fun i hi hne => Go.RowKit.Below.heap_setCell _ _ _ _ (fun e => hne (by rw [e]))⟩
open Go.RowKit in
theorem cell_lt {w : World} {a : Addr} {u : Value} (h : w.cell? a = some u) : a.block < w.heap.size := World.block_lt_of_cell? w a h
def NC (w : World) (g : Nat) (u : Value) : Prop := w.cell? ⟨g, 0, none⟩ = some u ∧ w.frozen? ⟨g, 0, none⟩ = false
section
open Go.RowKit
variable {w w' : World} {g : Nat} {u : Value}
theorem NC.lt (h : NC w g u) : g < w.heap.size := cell_lt h.1
theorem NC.on (h : NC w g u) (hb : Below w.heap.size w w') : NC w' g u := ⟨by rw [hb.cell h.lt]; exact h.1, by rw [hb.frozen h.lt]; exact h.2⟩
theorem NC.grown (h : NC w g u) {row : Option Nat} (hg : w.grownBy w' row) (hne : some g ≠ row) : NC w' g u := ⟨hg.cell h.1 hne, (World.frozen?_of_block (hg.block g h.lt hne)).trans h.2⟩
theorem NC.new (w : World) (u : Value) (t : TypeId) : NC (w.alloc (.cells #[u] t)) w.heap.size u := ⟨cell_at rfl, World.frozen?_alloc_at _ _ _ _ rfl⟩
theorem NC.new' {w : World} (u : Value) (t : TypeId) {n : Nat} (h : n = w.heap.size) : NC (w.alloc (.cells #[u] t)) n u := by subst h; exact NC.new w u t
theorem NC.alloc (h : NC w g u) (o : Obj) : NC (w.alloc o) g u := ⟨by rw [World.cell?_alloc_past _ _ _ h.lt]; exact h.1, by rw [World.frozen?_alloc_past _ _ _ h.lt]; exact h.2⟩
theorem NC.drew (h : NC w g u) : NC w.drew g u := h
theorem NC.other (h : NC w g u) {a : Addr} (hne : a.block ≠ g) (v : Value) : NC (w.setCell a v) g u := h.grown (grownBy_set w a v) (fun e => hne (by cases e; rfl))
end
def Box (w : World) (g : Nat) (u : Value) (t : TypeId) : Prop := w.heap[g]? = some (.cells #[u] t)
section
open Go.RowKit
variable {w w' : World} {g : Nat} {u : Value} {t : TypeId}
theorem Box.lt (h : Box w g u t) : g < w.heap.size := (Array.getElem?_eq_some_iff.1 h).1
theorem Box.cell (h : Box w g u t) : w.cell? ⟨g, 0, none⟩ = some u := by rw [cell_of_row w g 0 #[u] t _ h]; rfl
theorem Box.on (h : Box w g u t) (hb : Below w.heap.size w w') : Box w' g u t := (hb.block g h.lt).trans h
theorem Box.grown (h : Box w g u t) {row : Option Nat} (hg : w.grownBy w' row) (hne : some g ≠ row) : Box w' g u t := (hg.block g h.lt hne).trans h
theorem Box.new (w : World) (u : Value) (t : TypeId) : Box (w.alloc (.cells #[u] t)) w.heap.size u t := heap_alloc_new w _
theorem Box.frozen (h : Box w g u t) : w.frozen? ⟨g, 0, none⟩ = false := by simp [World.frozen?, show w.heap[g]? = some (.cells #[u] t) from h]
theorem Box.set (h : Box w g u t) (v : Value) : Box (w.setCell ⟨g, 0, none⟩ v) g v t := by
  have h' : w.heap[g]? = some (.cells #[u] t) := h
  unfold Box
  simp [World.setCell, Array.getElem?_modify, h']
theorem Box.new' {w : World} (u : Value) (t : TypeId) {n : Nat} (h : n = w.heap.size) : Box (w.alloc (.cells #[u] t)) n u t := by subst h; exact Box.new w u t
end
end Go.Proofs.YtdaahcaafdleaabDoor.Ret
/- Contracts of the helpers by which the laws measure, copy, compare, mark and look at names (a struct of one slice of strings). No conditions but that lengths fit. -/
namespace Go.Proofs.YtdaahcaafdleaabDoor.Row
open Go.ChangeShapes Go.WideShapes Go.ChangeAt Go.RowKit Go.Instr
set_option linter.unusedVariables false
set_option maxRecDepth 100000
theorem Own.shape {α : Type} [Inhabited α] {enc : α → Value} {e : TypeId} {B : Nat} {w : World} {v : Value} {l : List α} (h : Own e enc B w v l) : ∃ x cap, v = .slice x l.length cap ∧ l.length ≤ cap ∧ Own e enc B w (.slice x l.length cap) l := by
  rcases h.form with ⟨rfl, rfl⟩ | ⟨g, cap, rfl, h1, h2, h3, h4⟩
  · exact ⟨none, 0, rfl, by simp, h⟩
  · exact ⟨_, cap, rfl, h3, h⟩
theorem Own.shapeN {α : Type} [Inhabited α] {enc : α → Value} {e : TypeId} {B : Nat} {w : World} {v : Value} {l : List α} (h : Own e enc B w v l) : ∃ x n cap, v = .slice x n cap ∧ n = l.length ∧ n ≤ cap ∧ Own e enc B w (.slice x n cap) l := by
  obtain ⟨x, cap, rfl, hc, ho⟩ := h.shape
  exact ⟨x, _, cap, rfl, rfl, hc, ho⟩
theorem Holds.shapeN {α : Type} [Inhabited α] {enc : α → Value} {w : World} {v : Value} {l : List α} (h : Holds enc w v l) : ∃ x n cap, v = .slice x n cap ∧ n = l.length ∧ n ≤ cap ∧ Holds enc w (.slice x n cap) l := by
  obtain ⟨x, cap, rfl, hc, ho⟩ := h.shape
  exact ⟨x, _, cap, rfl, rfl, hc, ho⟩
theorem nb {α : Type} [Inhabited α] {enc : α → Value} {e : TypeId} {B : Nat} {w : World} {v : Value} {l : List α} (h : Own e enc B w v l) {b : Nat} (hb : b < B) : v.ownBlock = none ∨ v.ownBlock ≠ some b := by
  cases hv : v.ownBlock with
  | none => exact Or.inl rfl
  | some g =>
    have := (h.lt g hv).1
    exact Or.inr (fun e => by cases e; omega)
theorem bigLen {l : List ByteArray} {n : Nat} (h : bulk l ≤ n) : l.length ≤ n := Nat.le_trans (bulk_len l) h
set_option maxHeartbeats 1000000 in
theorem szName (v : Value) (l : List ByteArray) (w : World) (left : Int) (h : Holds Value.string w v l) (hl : l.length ≤ 9223372036854775807) (hs : ∀ x ∈ l, x.size ≤ maxLen) (h0 : 0 ≤ left) (h1 : left ≤ 1048576) :
    Calls Tryd.prog 17 #[.agg #[v], .int .i64 left] w fun e w' => e = .returned (.int .i64 (szL l left)) ∧ Below w.heap.size w w' := by
  obtain ⟨x, cap, rfl, hcap, hh⟩ := h.shape
  have HH := Lib.hid hh; have HS := Lib.hid hs
  clear hh h hs
  go_enter Tryd.func17, Tryd.ntmps17
  go_wp2_with fail
  have HA := Lib.hid (HH.out.on ((Below.refl w.heap.size w).alloc (Nat.le_refl _) (.cells #[.slice x l.length cap] 32)))
  refine (szStringS _ l _ left HA.out hl HS.out h0 h1).mono ?_
  rintro e w' ⟨rfl, rfl⟩
  by_cases hb : (bulk l : Int) ≤ left
  · rw [szL_fit hb]
    have h2 : ¬ left - (bulk l : Int) < 0 := by omega
    go_wp2
    go_ret
    exact ⟨ret_int (szL_fit hb).symm, (Below.refl _ _).alloc (Nat.le_refl _) _⟩
  · have hz := szL_not (l := l) (left := left) (by omega)
    rw [hz]
    have HZ := Lib.hid hz; clear hz
    go_wp2
    go_ret
    exact ⟨ret_int HZ.out.symm, (Below.refl _ _).alloc (Nat.le_refl _) _⟩
set_option maxHeartbeats 1000000 in
theorem toName (v : Value) (l : List ByteArray) (w : World) (h : Holds Value.string w v l) (hl : l.length ≤ 100000000) :
    Calls Tryd.prog 18 #[.agg #[v]] w fun e w' => ∃ v', e = .returned (.agg #[v']) ∧ Own 9 Value.string w.heap.size w' v' l ∧ Below w.heap.size w w' := by
  obtain ⟨x, cap, rfl, hcap, hh⟩ := h.shape
  have HH := Lib.hid hh
  clear hh h
  go_enter Tryd.func18, Tryd.ntmps18
  go_wp2_with fail
  have HB := Lib.hid ((((Below.refl w.heap.size w).alloc (Nat.le_refl _) (.cells #[.slice x l.length cap] 32)).alloc (by simp) (.cells #[.slice none 0 0] 36)).alloc (by simp; omega) (.cells #[.slice none 0 0] 36))
  have HA := Lib.hid (HH.out.on HB.out)
  refine (toStringS _ l _ HA.out hl).mono ?_
  rintro e w1 ⟨v1, rfl, ho, hb⟩
  obtain ⟨x1, c1, rfl, hc1, ho1⟩ := ho.shape
  have HO := Lib.hid ho1
  have HB1 := Lib.hid hb
  clear ho ho1 hb
  have hk1 : w1.cell? ⟨w.heap.size + 1, 0, none⟩ = some (.slice none 0 0) := by rw [HB1.out.cell (by simp), World.cell?_alloc_past _ _ _ (by simp), World.cell?_alloc_at _ _ _ _ (by simp)]; rfl
  have hk2 : w1.cell? ⟨w.heap.size + 1 + 1, 0, none⟩ = some (.slice none 0 0) := by rw [HB1.out.cell (by simp), World.cell?_alloc_at _ _ _ _ (by simp)]; rfl
  have hf1 : w1.frozen? ⟨w.heap.size + 1, 0, none⟩ = false := by rw [HB1.out.frozen (by simp), World.frozen?_alloc_past _ _ _ (by simp), World.frozen?_alloc_at _ _ _ _ (by simp)]
  have hf2 : w1.frozen? ⟨w.heap.size + 1 + 1, 0, none⟩ = false := by rw [HB1.out.frozen (by simp), World.frozen?_alloc_at _ _ _ _ (by simp)]
  go_wp2
  have hk3 := Ret.set_same (v := .slice x1 l.length c1) (a := ⟨w.heap.size + 1, 0, none⟩) (w := w1.setCell ⟨w.heap.size + 1 + 1, 0, none⟩ (.slice x1 l.length c1)) (u := .slice none 0 0) (by rw [World.cell?_setCell_other _ _ _ _ (by simp)]; exact hk1)
  refine bodyPost_ret (Ret.results_c rfl _ _ (w.heap.size + 1) [.slice x1 l.length c1] rfl (by unfold Ret.AggOf; exact ⟨by kernel_rfl, by kernel_rfl⟩) (Ret.one hk3)) rfl ?_
  have hs := HB1.out.size
  simp at hs
  have hO2 := (HO.out.grown (Ret.grownBy_set w1 ⟨w.heap.size + 1 + 1, 0, none⟩ (.slice x1 l.length c1)) (nb HO.out (by simp))).grown (Ret.grownBy_set _ ⟨w.heap.size + 1, 0, none⟩ (.slice x1 l.length c1)) (nb HO.out (by simp))
  exact ⟨_, rfl, hO2.mono (by simp; omega), ((HB.out.trans (HB1.out.mono (by simp; omega))).setCell (by simp; omega) _).setCell (by simp) _⟩
set_option maxHeartbeats 1000000 in
theorem eqName (v u : Value) (l m : List ByteArray) (w : World) (h : Holds Value.string w v l) (g : Holds Value.string w u m) (hl : l.length ≤ 140737488351232) (hm : m.length ≤ 140737488351232) :
    Calls Tryd.prog 23 #[.agg #[v], .agg #[u]] w fun e w' => e = .returned (.bool (eqB l m)) ∧ Below w.heap.size w w' := by
  obtain ⟨x, cx, rfl, hcx, hh⟩ := h.shape
  obtain ⟨y, cy, rfl, hcy, hg⟩ := g.shape
  have HH := Lib.hid hh; have HG := Lib.hid hg
  clear hh h hg g
  go_enter Tryd.func23, Tryd.ntmps23
  go_wp2_with fail
  have HB := Lib.hid (((Below.refl w.heap.size w).alloc (Nat.le_refl _) (.cells #[.slice x l.length cx] 36)).alloc (Nat.le_trans (Nat.le_refl _) (by simp)) (.cells #[.slice y m.length cy] 36))
  have HA := Lib.hid (HH.out.on HB.out); have HC := Lib.hid (HG.out.on HB.out)
  refine (eqStringS _ _ l m _ HA.out HC.out hl hm).mono ?_
  rintro e w' ⟨rfl, hb⟩
  have HB2 := Lib.hid (HB.out.trans (hb.mono (by simp; omega))); clear hb
  by_cases he : l = m
  · have HE := Lib.hid (eqB_true he)
    rw [HE.out]
    clear he
    go_wp2
    go_ret
    exact ⟨ret_bool HE.out.symm, HB2.out⟩
  · have HE := Lib.hid (eqB_false he)
    rw [HE.out]
    clear he
    go_wp2
    go_ret
    exact ⟨ret_bool HE.out.symm, HB2.out⟩
end Go.Proofs.YtdaahcaafdleaabDoor.Row
/- What the exact laws on names use besides the contracts: a name that came in as an argument; equal names compared; blocks that differ. No conditions. -/
namespace Go.Proofs.YtdaahcaafdleaabDoor.Row
open Go.ChangeShapes Go.WideShapes Go.ChangeAt Go.RowKit Go.Instr
set_option linter.unusedVariables false
set_option maxRecDepth 100000
def Apart (v u : Value) : Prop := ∀ g, v.ownBlock = some g → u.ownBlock ≠ some g
theorem Apart.symm {v u : Value} (h : Apart v u) : Apart u v := fun g h1 h2 => h g h2 h1
def Far {α : Type} [Inhabited α] (enc : α → Value) (B : Nat) (w : World) (v : Value) (l : List α) : Prop :=
  ∃ x cap, v = .slice x l.length cap ∧ l.length ≤ cap ∧ (l = [] ∨ ∃ b off, x = some ⟨b, off, none⟩ ∧ b < B ∧ ∀ j, j < l.length → w.cell? ⟨b, off + j, none⟩ = some (enc (nth l j)))
section
variable {α : Type} [Inhabited α] {enc : α → Value} {B : Nat} {w w' : World} {v : Value} {l : List α}
theorem Far.holds (h : Far enc B w v l) : Holds enc w v l := by
  obtain ⟨x, cap, hv, hc, hh⟩ := h
  refine ⟨x, cap, hv, hc, ?_⟩
  rcases hh with h1 | ⟨b, off, hx, _, h2⟩
  · exact Or.inl h1
  · exact Or.inr ⟨b, off, hx, h2⟩
theorem Far.on (h : Far enc B w v l) (hb : Below w.heap.size w w') : Far enc B w' v l := by
  obtain ⟨x, cap, hv, hc, hh⟩ := h
  refine ⟨x, cap, hv, hc, ?_⟩
  rcases hh with h1 | ⟨b, off, hx, hlt, h2⟩
  · exact Or.inl h1
  · exact Or.inr ⟨b, off, hx, hlt, fun j hj => by rw [hb.cell (cell_lt (h2 j hj))]; exact h2 j hj⟩
theorem Far.grown (h : Far enc B w v l) {row : Option Nat} (hg : w.grownBy w' row) (hr : ∀ g, row = some g → B ≤ g) : Far enc B w' v l := by
  obtain ⟨x, cap, hv, hc, hh⟩ := h
  refine ⟨x, cap, hv, hc, ?_⟩
  rcases hh with h1 | ⟨b, off, hx, hlt, h2⟩
  · exact Or.inl h1
  · exact Or.inr ⟨b, off, hx, hlt, fun j hj => hg.cell (h2 j hj) (fun e => by have := hr b e.symm; omega)⟩
def Over (B : Nat) (u : Value) : Prop := ∀ g, u.ownBlock = some g → B ≤ g
end
theorem open_strs1 {H : Type} {enc : TypeId × Value → H} {P : Program} {w : World} {b2 n : Nat} {held : Bool} {e s : TypeId} {cs : List Value} {y0 : DataW H × List MemPlace} (he : P.underlying e = some (.slice s)) (hs : P.underlying s = some .string) (hcs : P.cellsOf s = 1)
    (h0 : DataW.trod enc P w b2 (fun _ => true) held n e cs = some y0) : ∃ (ad : Option Addr) (k c : Nat) (l : List ByteArray), cs = [.slice ad k c] ∧ Holds Value.string w (.slice ad k c) l ∧ (∀ x ∈ l, x.size ≤ maxLen) ∧ l.length ≤ 9223372036854775807 := by
  have hmx : maxLen = 9223372036854775807 := rfl
  rcases Deep.open_strs he hs hcs h0 with ⟨hc, hx⟩ | ⟨a, len, cap, m, Sx, hc, hb, hl, hm, hmm, hx, hi⟩
  · exact ⟨none, 0, 0, [], hc, Holds.nil _ _, by simp, by simp⟩
  · simp only [if_true] at hmm
    have hL : ((List.range len).map Sx).length = len := by simp
    refine ⟨some a, len, cap, (List.range len).map Sx, hc, ⟨some a, cap, by rw [hL], by rw [hL]; exact hl, ?_⟩, ?_, by rw [hL, ← hmx]; exact Nat.le_trans hl hm⟩
    · by_cases h0 : len = 0
      · left; subst h0; simp
      · right
        obtain ⟨b, off, spot⟩ := a
        have h1 := (hi 0 (by omega)).1
        have hs : spot = none := by simpa [Addr.add] using World.cell?_spot h1
        subst hs
        refine ⟨b, off, rfl, fun i hii => ?_⟩
        rw [hL] at hii
        have h2 := (hi i (by omega)).1
        rw [Go.WideShapes.add_plain] at h2
        rw [h2, nth_eq (by rw [hL]; exact hii)]
        simp
    · intro x hx
      obtain ⟨i, hi2, rfl⟩ := List.mem_map.1 hx
      exact (hi i (by have := List.mem_range.1 hi2; omega)).2
end Go.Proofs.YtdaahcaafdleaabDoor.Row
/- Slices of elements of several cells (structs) in memory, for any program: a slice value that holds a list; a slice in blocks of the call's own that holds a list; what keeps both; appending, storing. No conditions but that lengths fit. -/
namespace Go.Proofs.YtdaahcaafdleaabDoor.Row
open Go.ChangeShapes Go.WideShapes Go.ChangeAt Go.RowKit
set_option linter.unusedVariables false
set_option maxRecDepth 100000
def Sz {α : Type} (enc : α → List Value) (sz : Nat) : Prop := ∀ x, (enc x).length = sz
def flat {α : Type} (enc : α → List Value) (l : List α) : List Value := l.flatMap enc
section
variable {α : Type} {enc : α → List Value} {sz : Nat}
theorem flat_length (hs : Sz enc sz) (l : List α) : (flat enc l).length = l.length * sz := by
  unfold flat
  induction l with
  | nil => simp
  | cons a r ih => rw [List.flatMap_cons, List.length_append, ih, hs a, List.length_cons, Nat.add_mul]; omega
theorem flat_append (l m : List α) : flat enc (l ++ m) = flat enc l ++ flat enc m := by simp [flat]
theorem flat_one (x : α) : flat enc [x] = enc x := by simp [flat]
theorem flat_at [Inhabited α] (hs : Sz enc sz) : ∀ (l : List α) (j i : Nat), j < l.length → i < sz → (flat enc l)[j * sz + i]? = (enc (nth l j))[i]?
  | a :: r, 0, i, _, hi => by
    unfold flat
    rw [List.flatMap_cons, List.getElem?_append_left (by rw [hs a]; omega)]
    simp [nth]
  | a :: r, j + 1, i, hj, hi => by
    have ih := flat_at hs r j i (by simpa using hj) hi
    unfold flat at *
    rw [List.flatMap_cons, List.getElem?_append_right (by rw [hs a, Nat.add_mul]; omega), hs a, show (j + 1) * sz + i - sz = j * sz + i by rw [Nat.add_mul]; omega, ih]
    simp [nth]
theorem flat_set [Inhabited α] (hs : Sz enc sz) {y : α} {u : Value} {i : Nat} (hi : i < sz) : ∀ (l : List α) (j : Nat), j < l.length → enc y = (enc (nth l j)).set i u → (flat enc l).set (j * sz + i) u = flat enc (l.set j y)
  | a :: r, 0, _, he => by
    have he : enc y = (enc a).set i u := by simpa [nth] using he
    unfold flat
    rw [List.flatMap_cons, List.set_cons_zero, List.flatMap_cons, List.set_append_left _ _ (by rw [hs a]; omega), he]
    simp
  | a :: r, j + 1, hj, he => by
    have ih := flat_set hs hi r j (by simpa using hj) (by simpa [nth] using he)
    unfold flat at *
    rw [List.flatMap_cons, List.set_cons_succ, List.flatMap_cons, List.set_append_right _ _ (by rw [hs a, Nat.add_mul]; omega), hs a, show (j + 1) * sz + i - sz = j * sz + i by rw [Nat.add_mul]; omega, ih]
theorem flat_one' (h1c : ∀ x, ∀ u ∈ enc x, u.oneCell' = true) (l : List α) : ∀ u ∈ flat enc l, u.oneCell' = true := by
  intro u hu
  unfold flat at hu
  obtain ⟨x, _, hx⟩ := List.mem_flatMap.1 hu
  exact h1c x u hx
end
def HoldsK {α : Type} (enc : α → List Value) (sz : Nat) (w : World) (v : Value) (l : List α) : Prop :=
  ∃ x cap, v = .slice x l.length cap ∧ l.length ≤ cap ∧ (l = [] ∨ ∃ b off, x = some ⟨b, off, none⟩ ∧ ∀ j, j < l.length * sz → ∃ u, (flat enc l)[j]? = some u ∧ w.cell? ⟨b, off + j, none⟩ = some u)
def OwnK {α : Type} (e : TypeId) (enc : α → List Value) (sz : Nat) (B : Nat) (w : World) (v : Value) (l : List α) : Prop := w.ownsRow B e sz v l.length (flat enc l)
section
variable {α : Type} {enc : α → List Value} {sz : Nat} {e : TypeId} {B : Nat} {w w' : World} {v : Value} {l : List α}
theorem OwnK.form (h : OwnK e enc sz B w v l) : (v = .slice none 0 0 ∧ l = []) ∨ ∃ g cap, v = .slice (some ⟨g, 0, none⟩) l.length cap ∧ B ≤ g ∧ g < w.heap.size ∧ l.length ≤ cap ∧ cap ≤ maxLen := by
  rcases h.2 with ⟨hv, hn⟩ | ⟨g, cap, cur, hv, hg, hh, h1, h2, h3, h4⟩
  · exact Or.inl ⟨hv, List.eq_nil_of_length_eq_zero hn⟩
  · exact Or.inr ⟨g, cap, hv, hg, (Array.getElem?_eq_some_iff.1 hh).1, h1, h2⟩
theorem OwnK.holds (h : OwnK e enc sz B w v l) : HoldsK enc sz w v l := by
  rcases h.form with ⟨rfl, rfl⟩ | ⟨g, cap, rfl, h1, h2, h3, h4⟩
  · exact ⟨none, 0, rfl, by simp, Or.inl rfl⟩
  · refine ⟨_, cap, rfl, h3, ?_⟩
    by_cases hl : l = []
    · exact Or.inl hl
    · refine Or.inr ⟨g, 0, rfl, fun j hj => ?_⟩
      have h5 := World.ownsRow.cellAt h j hj
      have h6 : (flat enc l)[j]? = some ((flat enc l)[j]'(by rw [h.1]; exact hj)) := List.getElem?_eq_getElem _
      exact ⟨_, h6, by rw [Nat.zero_add, h5]; exact h6⟩
theorem OwnK.lt (h : OwnK e enc sz B w v l) : ∀ g, v.ownBlock = some g → B ≤ g ∧ g < w.heap.size := World.ownsRow.lt h
theorem OwnK.grown (h : OwnK e enc sz B w v l) {row : Option Nat} (hg : w.grownBy w' row) (hne : v.ownBlock = none ∨ v.ownBlock ≠ row) : OwnK e enc sz B w' v l := World.ownsRow.kept h hg hne
theorem OwnK.on (h : OwnK e enc sz B w v l) (hb : Below w.heap.size w w') : OwnK e enc sz B w' v l := by
  refine World.ownsRow.kept h (grown_of_below hb none) ?_
  cases hv : v.ownBlock <;> simp
theorem OwnK.mono (h : OwnK e enc sz B w v l) {B' : Nat} (hB : B' ≤ B) : OwnK e enc sz B' w v l := by
  refine ⟨h.1, ?_⟩
  rcases h.2 with h2 | ⟨g, cap, cur, hv, hg, r⟩
  · exact Or.inl h2
  · exact Or.inr ⟨g, cap, cur, hv, Nat.le_trans hB hg, r⟩
theorem OwnK.nil (e : TypeId) (enc : α → List Value) (sz B : Nat) (w : World) : OwnK e enc sz B w (.slice none 0 0) [] := World.ownsRow_nil w B e sz
theorem OwnK.len (h : OwnK e enc sz B w v l) : l.length ≤ maxLen := by
  rcases h.form with ⟨rfl, rfl⟩ | ⟨g, cap, rfl, h1, h2, h3, h4⟩
  · simp
  · omega
theorem HoldsK.on (h : HoldsK enc sz w v l) (hb : Below w.heap.size w w') : HoldsK enc sz w' v l := by
  obtain ⟨x, cap, hv, hc, h⟩ := h
  refine ⟨x, cap, hv, hc, ?_⟩
  rcases h with h | ⟨b, off, hx, h⟩
  · exact Or.inl h
  · refine Or.inr ⟨b, off, hx, fun j hj => ?_⟩
    obtain ⟨u, h1, h2⟩ := h j hj
    exact ⟨u, h1, by rw [hb.cell (cell_lt h2)]; exact h2⟩
theorem HoldsK.nil (enc : α → List Value) (sz : Nat) (w : World) : HoldsK enc sz w (.slice none 0 0) [] := ⟨none, 0, rfl, by simp, Or.inl rfl⟩
theorem HoldsK.shape (h : HoldsK enc sz w v l) : ∃ x cap, v = .slice x l.length cap ∧ l.length ≤ cap ∧ HoldsK enc sz w (.slice x l.length cap) l := by
  obtain ⟨x, cap, hv, hc, h⟩ := h
  exact ⟨x, cap, hv, hc, x, cap, rfl, hc, h⟩
theorem OwnK.shape (h : OwnK e enc sz B w v l) : ∃ x cap, v = .slice x l.length cap ∧ l.length ≤ cap ∧ OwnK e enc sz B w (.slice x l.length cap) l := by
  rcases h.form with ⟨rfl, rfl⟩ | ⟨g, cap, rfl, h1, h2, h3, h4⟩
  · exact ⟨none, 0, rfl, by simp, h⟩
  · exact ⟨_, cap, rfl, h3, h⟩
theorem OwnK.shapeN (h : OwnK e enc sz B w v l) : ∃ x n cap, v = .slice x n cap ∧ n = l.length ∧ n ≤ cap ∧ OwnK e enc sz B w (.slice x n cap) l := by
  obtain ⟨x, cap, rfl, hc, ho⟩ := h.shape
  exact ⟨x, _, cap, rfl, rfl, hc, ho⟩
theorem HoldsK.shapeN (h : HoldsK enc sz w v l) : ∃ x n cap, v = .slice x n cap ∧ n = l.length ∧ n ≤ cap ∧ HoldsK enc sz w (.slice x n cap) l := by
  obtain ⟨x, cap, rfl, hc, ho⟩ := h.shape
  exact ⟨x, _, cap, rfl, rfl, hc, ho⟩
theorem HoldsK.lenEq {x : Option Addr} {n cap : Nat} (h : HoldsK enc sz w (.slice x n cap) l) : n = l.length := by
  obtain ⟨x', cap', hv, hc, h⟩ := h
  cases hv; rfl
theorem HoldsK.at [Inhabited α] (hs : Sz enc sz) {x : Option Addr} {n cap : Nat} (h : HoldsK enc sz w (.slice x n cap) l) {j : Nat} (hj : j < l.length) :
    ∃ b off, x = some ⟨b, off, none⟩ ∧ ∀ i, i < sz → w.cell? ⟨b, off + (j * sz + i), none⟩ = (enc (nth l j))[i]? := by
  obtain ⟨x', cap', hv, hc, h⟩ := h
  cases hv
  rcases h with rfl | ⟨b, off, hx, h⟩
  · simp at hj
  · refine ⟨b, off, hx, fun i hi => ?_⟩
    have hlt : j * sz + i < l.length * sz := by
      have : (j + 1) * sz ≤ l.length * sz := Nat.mul_le_mul_right _ hj
      rw [Nat.add_mul] at this; omega
    obtain ⟨u, h1, h2⟩ := h _ hlt
    rw [h2, ← flat_at hs l j i hj hi, h1]
theorem HoldsK.cells (hs : Sz enc sz) {ad : Addr} {n cap : Nat} (h : HoldsK enc sz w (.slice (some ad) n cap) l) : ∀ j u, (flat enc l)[j]? = some u → w.cell? (ad.add j) = some u := by
  intro j u hu
  have hj : j < l.length * sz := by have := (List.getElem?_eq_some_iff.1 hu).1; rwa [flat_length hs] at this
  obtain ⟨x', cap', hv, hc, h⟩ := h
  cases hv
  rcases h with rfl | ⟨b, off, hx, h⟩
  · simp [flat] at hu
  · cases hx
    obtain ⟨u', h1, h2⟩ := h j hj
    rw [Go.WideShapes.add_plain, h2, ← h1, hu]
theorem HoldsK.grown (h : HoldsK enc sz w v l) {row : Option Nat} (hg : w.grownBy w' row) (hne : ∀ g, v.ownBlock = some g → some g ≠ row) : HoldsK enc sz w' v l := by
  obtain ⟨x, cap, rfl, hc, h⟩ := h
  refine ⟨x, cap, rfl, hc, ?_⟩
  rcases h with h | ⟨b, off, rfl, h⟩
  · exact Or.inl h
  · refine Or.inr ⟨b, off, rfl, fun j hj => ?_⟩
    obtain ⟨u, h1, h2⟩ := h j hj
    exact ⟨u, h1, hg.cell h2 (hne b rfl)⟩
end
def ElemK (P : Program) (e : TypeId) (z : Value) (sz bytes : Nat) : Prop := (P.info? e).map (fun i => (i.zero, i.size, i.bytes)) = some (some z, sz, bytes)
structure Kind {α : Type} (P : Program) (e : TypeId) (enc : α → List Value) (z : Value) (sz bytes : Nat) : Prop where
  elem : ElemK P e z sz bytes
  zs : z.cells.size = sz
  pos : 0 < sz
  size : Sz enc sz
  one : ∀ x, ∀ u ∈ enc x, u.oneCell' = true
section
variable {P : Program} {w : World} {ops : Array Oper} {rest : List Oper} {o : Oper} {a : Act} {Q : Exit → Act → World → Prop} {α : Type} {enc : α → List Value} {sz : Nat} {e t : TypeId} {bytes : Nat} {z : Value}
end
theorem holdsK_one {α : Type} {enc : α → List Value} {sz : Nat} (hs : Sz enc sz) (e : TypeId) (w : World) (x : α) : HoldsK enc sz (w.alloc (.cells (enc x).toArray e)) (.slice (some ⟨w.heap.size, 0, none⟩) 1 1) [x] := by
  refine ⟨_, 1, rfl, by simp, Or.inr ⟨_, _, rfl, fun j hj => ?_⟩⟩
  have hj' : j < (enc x).length := by rw [hs x]; simpa using hj
  refine ⟨(enc x)[j], by rw [flat_one]; exact List.getElem?_eq_getElem hj', ?_⟩
  rw [Nat.zero_add, World.cell?_alloc_mark]
  simp [hj']
theorem madeK {α : Type} [Inhabited α] {enc : α → List Value} {sz : Nat} (hs : Sz enc sz) (hp : 0 < sz) {z : Value} (hz : z.cells.toList = enc default) (n : Nat) : (madeCells z.cells (n * sz)).toList = flat enc (List.replicate n default) := by
  have hzs : z.cells.size = sz := by rw [← Array.length_toList, hz, hs]
  apply List.ext_getElem?
  intro j
  by_cases hj : j < n * sz
  · have e1 : j = j / sz * sz + j % sz := by rw [Nat.mul_comm]; exact (Nat.div_add_mod j sz).symm
    have h1 : j / sz < n := (Nat.div_lt_iff_lt_mul hp).2 hj
    have h2 : j % sz < sz := Nat.mod_lt _ hp
    have hL : (madeCells z.cells (n * sz)).toList[j]? = some (z.cells[j % z.cells.size]!) := by simp [madeCells, hj]
    rw [hL]
    conv => rhs; rw [e1]
    rw [flat_at hs _ _ _ (by simpa using h1) h2]
    have : nth (List.replicate n (default : α)) (j / sz) = default := by simp [nth, List.getD, h1]
    rw [this, ← hz, hzs, getElem!_pos z.cells (j % sz) (by omega)]
    simp [Array.getElem?_toList, getElem?_pos z.cells (j % sz) (by omega)]
  · rw [List.getElem?_eq_none (by simp [madeCells]; omega), List.getElem?_eq_none (by rw [flat_length hs]; simp; omega)]
section
variable {α : Type} [Inhabited α] {enc : α → List Value} {sz : Nat}
theorem ownK_store (hs : Sz enc sz) {e : TypeId} {B : Nat} {w : World} {g n cap : Nat} {l : List α} (h : OwnK e enc sz B w (.slice (some ⟨g, 0, none⟩) n cap) l) (hn : n = l.length) {j i : Nat} (hj : j < l.length) (hi : i < sz) {y : α} {u : Value} (hy : enc y = (enc (nth l j)).set i u) :
    OwnK e enc sz B (w.setCell ⟨g, j * sz + i, none⟩ u) (.slice (some ⟨g, 0, none⟩) n cap) (l.set j y) ∧ w.grownBy (w.setCell ⟨g, j * sz + i, none⟩ u) (some g) := by
  subst hn
  have := World.ownsRow.stored h (j * sz + i) u
  refine ⟨?_, this.2⟩
  unfold OwnK
  rw [List.length_set, ← flat_set hs hi l j hj hy]
  exact this.1
theorem ownK_cell (hs : Sz enc sz) {e : TypeId} {B : Nat} {w : World} {g n cap : Nat} {l : List α} (h : OwnK e enc sz B w (.slice (some ⟨g, 0, none⟩) n cap) l) (hn : n = l.length) {j i : Nat} (hj : j < l.length) (hi : i < sz) :
    w.cell? ⟨g, j * sz + i, none⟩ = (enc (nth l j))[i]? ∧ w.frozen? ⟨g, j * sz + i, none⟩ = false := by
  subst hn
  have hlt : j * sz + i < l.length * sz := by
    have : (j + 1) * sz ≤ l.length * sz := Nat.mul_le_mul_right _ hj
    rw [Nat.add_mul] at this; omega
  exact ⟨by rw [World.ownsRow.cellAt h _ hlt, flat_at hs l j i hj hi], World.ownsRow.frozenAt h _⟩
end
theorem nth_set {α : Type} [Inhabited α] {l : List α} {k : Nat} (h : k < l.length) (x : α) : nth (l.set k x) k = x := by simp [nth, List.getD, h]
def filledK {α : Type} [Inhabited α] (l : List α) (k : Nat) : List α := l.take k ++ List.replicate (l.length - k) default
section
variable {α : Type} [Inhabited α]
end
theorem step_appK {P : Program} {ops : Array Oper} {o : Oper} {a : Act} {w : World} {K : Act → World → Prop} {Q : Exit → Act → World → Prop} {E : Prop} {α : Type} {enc : α → List Value} {sz : Nat} {e t : TypeId} {bytes : Nat} {z : Value}
    (KD : Kind P e enc z sz bytes) (hg : o.guard = none) (s x : Operand) (hop : o.op = Op.call { callee := Callee.builtin Builtin.append, args := #[s, x], argTypes := #[t, t] }) (ht : P.underlying t = some (.slice e))
    {B : Nat} {v : Value} {ad : Addr} {n c : Nat} {l m : List α} (hs : a.eval s = v) (hx : a.eval x = .slice (some ad) n c) (hown : OwnK e enc sz B w v l) (hsrc : HoldsK enc sz w (.slice (some ad) n c) m) (hlen : (l.length + m.length) * bytes ≤ 140737488355328) (hmx : l.length + m.length ≤ maxLen) (hB : B ≤ w.heap.size)
    (hK : ∀ v' w', OwnK e enc sz B w' v' (l ++ m) → w.grownBy w' v.ownBlock → K (a.put o.dst v') w') :
    if Region.wanted o (yielded ops a.tmps) = true then Oper.wp P o a w K Q else E := by
  have hw : Region.wanted o (yielded ops a.tmps) = true := by simp [Region.wanted, hg]
  rw [if_pos hw]
  obtain ⟨i, h1, h2, h3, h4⟩ := info_parts KD.elem
  obtain rfl := hsrc.lenEq
  obtain ⟨v', w', hrun, r1, r2, _⟩ := run_append_own (P := P) w B t o.type e i z sz bytes ht h1 h2 h3 h4 KD.zs KD.pos v l.length (flat enc l) hown ad m.length c (flat enc m) (flat_length KD.size m) (hsrc.cells KD.size) (flat_one' KD.one m) hmx hlen hB
  unfold Oper.wp
  simp [execOp, hop, resolve, invoke, builtin, hs, hx, hrun, Result.andThen]
  refine hK v' w' ?_ r2
  unfold OwnK
  rw [List.length_append, flat_append]; exact r1
end Go.Proofs.YtdaahcaafdleaabDoor.Row
/- What laws over several values use: blocks that differ, loads' facts kept by calls. For any program. -/
namespace Go.Proofs.YtdaahcaafdleaabDoor.Row
open Go.ChangeShapes Go.WideShapes Go.ChangeAt Go.RowKit Go.Instr
set_option linter.unusedVariables false
set_option maxRecDepth 100000
end Go.Proofs.YtdaahcaafdleaabDoor.Row
/- Tables (slices of a name and a number each) in memory: a slice that holds a list of entries, each of which holds its name; one whose blocks are all the call's own and all differ. No conditions. -/
namespace Go.Proofs.YtdaahcaafdleaabDoor.Row
open Go.ChangeShapes Go.WideShapes Go.ChangeAt Go.RowKit Go.Instr
set_option linter.unusedVariables false
set_option maxRecDepth 100000
structure Ent where
  ad : Option Addr
  n : Nat
  cap : Nat
  ps : List ByteArray
  val : Int
instance : Inhabited Ent := ⟨⟨none, 0, 0, [], 0⟩⟩
def Ent.v (x : Ent) : Value := .slice x.ad x.n x.cap
def Ent.t (x : Ent) : List ByteArray × Int := (x.ps, x.val)
def Ent.whole (x : Ent) : Value := .agg #[x.v, .int .i64 x.val]
def strip (L : List Ent) : List (List ByteArray × Int) := L.map Ent.t
theorem strip_length (L : List Ent) : (strip L).length = L.length := by simp [strip]
theorem nth_mem {α : Type} [Inhabited α] {L : List α} {k : Nat} (h : k < L.length) : nth L k ∈ L := by rw [nth_eq h]; exact List.getElem_mem _
def encE (x : Ent) : List Value := [x.v, .int .i64 x.val]
theorem szE : Sz encE 2 := fun _ => rfl
def TabH (w : World) (v : Value) (L : List Ent) : Prop := HoldsK encE 2 w v L ∧ ∀ x ∈ L, Holds Value.string w x.v x.ps
section
variable {B : Nat} {w w' : World} {v : Value} {L : List Ent}
theorem TabH.on (h : TabH w v L) (hb : Below w.heap.size w w') : TabH w' v L := ⟨h.1.on hb, fun x hx => (h.2 x hx).on hb⟩
theorem TabH.nil (w : World) : TabH w (.slice none 0 0) [] := ⟨HoldsK.nil _ _ _, by simp⟩
theorem TabH.shapeN (h : TabH w v L) : ∃ x n cap, v = .slice x n cap ∧ n = L.length ∧ n ≤ cap ∧ TabH w (.slice x n cap) L := by
  obtain ⟨x, n, cap, rfl, hn, hc, ho⟩ := h.1.shapeN
  exact ⟨x, n, cap, rfl, hn, hc, ho, h.2⟩
theorem TabH.at {x : Option Addr} {n cap : Nat} (h : TabH w (.slice x n cap) L) {k : Nat} (hk : k < L.length) :
    ∃ b off, x = some ⟨b, off, none⟩ ∧ w.cell? ⟨b, off + k * 2, none⟩ = some (.slice (nth L k).ad (nth L k).n (nth L k).cap) ∧ w.cell? ⟨b, off + k * 2 + 1, none⟩ = some (.int .i64 (nth L k).val) ∧ Holds Value.string w (.slice (nth L k).ad (nth L k).n (nth L k).cap) (nth L k).ps := by
  obtain ⟨b, off, hx, hc⟩ := h.1.at szE hk
  exact ⟨b, off, hx, by have := hc 0 (by decide); simpa [encE, Ent.v] using this, by have := hc 1 (by decide); simpa [encE, Nat.add_assoc] using this, h.2 _ (nth_mem hk)⟩
end
def TabHolds (w : World) (v : Value) (T : List (List ByteArray × Int)) : Prop := ∃ L, strip L = T ∧ TabH w v L
structure Wrote (B E : Nat) (w w' : World) : Prop where
  os : w'.os = w.os
  tape : w'.tape = w.tape
  output : w'.output = w.output
  size : w.heap.size ≤ w'.heap.size
  block : ∀ i, i < w.heap.size → ¬ (B ≤ i ∧ i < E) → w'.heap[i]? = w.heap[i]?
theorem Wrote.refl (B E : Nat) (w : World) : Wrote B E w w := ⟨rfl, rfl, rfl, Nat.le_refl _, fun _ _ _ => rfl⟩
theorem Wrote.trans {B E : Nat} {w w1 w2 : World} (h : Wrote B E w w1) (g : Wrote B E w1 w2) : Wrote B E w w2 := ⟨g.os.trans h.os, g.tape.trans h.tape, g.output.trans h.output, Nat.le_trans h.size g.size, fun i hi hn => (g.block i (Nat.lt_of_lt_of_le hi h.size) hn).trans (h.block i hi hn)⟩
theorem Wrote.grown {B E : Nat} {w w' : World} (h : Wrote B E w w') {g : Nat} (hg : g < w.heap.size) (hn : g < B ∨ E ≤ g) : w'.heap[g]? = w.heap[g]? := h.block g hg (by omega)
theorem Wrote.row {e : TypeId} {sz n B0 B E : Nat} {w w' : World} {v : Value} {xs : List Value} (h : Wrote B E w w') (ho : w.ownsRow B0 e sz v n xs) (hn : ∀ g, v.ownBlock = some g → g < B ∨ E ≤ g) : w'.ownsRow B0 e sz v n xs := by
  refine ⟨ho.1, ?_⟩
  rcases ho.2 with h2 | ⟨g, cap, cur, hv, hB, hc, r⟩
  · exact Or.inl h2
  · refine Or.inr ⟨g, cap, cur, hv, hB, ?_, r⟩
    rw [h.grown (Array.getElem?_eq_some_iff.1 hc).1 (hn g (by rw [hv]; rfl))]
    exact hc
def NameIn (B E : Nat) (w : World) (v : Value) (l : List ByteArray) : Prop := Own 9 Value.string B w v l ∧ ∀ g, v.ownBlock = some g → g < E
section
variable {B E B' E' : Nat} {w w' : World} {v : Value} {l : List ByteArray} {T : List (List ByteArray × Int)}
theorem NameIn.on (h : NameIn B E w v l) (hb : Below w.heap.size w w') : NameIn B E w' v l := ⟨h.1.on hb, h.2⟩
theorem NameIn.holds (h : NameIn B E w v l) : Holds Value.string w v l := h.1.holds
theorem TabHolds.on (h : TabHolds w v T) (hb : Below w.heap.size w w') : TabHolds w' v T := by
  obtain ⟨L, e, h⟩ := h
  exact ⟨L, e, h.on hb⟩
theorem TabHolds.shapeN (h : TabHolds w v T) : ∃ x n cap, v = .slice x n cap ∧ n = T.length ∧ n ≤ cap ∧ TabHolds w (.slice x n cap) T := by
  obtain ⟨L, e, h⟩ := h
  obtain ⟨x, n, cap, rfl, hn, hc, ho⟩ := h.shapeN
  exact ⟨x, n, cap, rfl, by rw [hn, ← e, strip_length], hc, L, e, ho⟩
end
end Go.Proofs.YtdaahcaafdleaabDoor.Row
/- Kinds of values with memory beneath them, for any program: scalars, structs, slices of whatever: what lies in memory, what it reads as, what is the call's own; what keeps it. No conditions. -/
namespace Go.Proofs.YtdaahcaafdleaabDoor.Row
open Go.ChangeShapes Go.WideShapes Go.ChangeAt Go.RowKit Go.Instr
set_option linter.unusedVariables false
set_option maxRecDepth 100000
structure Rw (M : Type) where
  ad : Option Addr
  n : Nat
  cap : Nat
  els : List M
instance {M : Type} : Inhabited (Rw M) := ⟨⟨none, 0, 0, []⟩⟩
def Rw.v {M : Type} (r : Rw M) : Value := .slice r.ad r.n r.cap
structure Kd (α M : Type) where
  strip : M → α
  cells : M → List Value
  size : Nat
  val : M → Value
  len : ∀ m, (cells m).length = size
  one : ∀ m, ∀ u ∈ cells m, u.oneCell' = true
  holds : World → M → Prop
  own : Nat → World → M → Prop
  blocks : M → List Nat
  holds_on : ∀ {w w' m}, holds w m → Below w.heap.size w w' → holds w' m
  own_holds : ∀ {B w m}, own B w m → holds w m
  own_keep : ∀ {B w w' m}, own B w m → (∀ g ∈ blocks m, w'.heap[g]? = w.heap[g]?) → own B w' m
  own_lt : ∀ {B w m}, own B w m → ∀ g ∈ blocks m, B ≤ g ∧ g < w.heap.size
  own_mono : ∀ {B B' w m}, own B w m → B' ≤ B → own B' w m
def Kd.scalar {α : Type} (enc : α → Value) (h1 : ∀ x, (enc x).oneCell' = true) : Kd α α where
  strip := id
  cells := fun x => [enc x]
  size := 1
  val := enc
  len := fun _ => rfl
  one := fun x u hu => by rw [List.mem_singleton.1 hu]; exact h1 x
  holds := fun _ _ => True
  own := fun _ _ _ => True
  blocks := fun _ => []
  holds_on := fun _ _ => trivial
  own_holds := fun _ => trivial
  own_keep := fun _ _ => trivial
  own_lt := fun _ g hg => by cases hg
  own_mono := fun _ _ => trivial
def kInt : Kd Int Int := Kd.scalar (Value.int .i64) (fun _ => rfl)
def kByte : Kd Int Int := Kd.scalar (Value.int .u8) (fun _ => rfl)
def kBool : Kd Bool Bool := Kd.scalar Value.bool (fun _ => rfl)
def kStr : Kd ByteArray ByteArray := Kd.scalar Value.string (fun _ => rfl)
def Kd.pair {α M β N : Type} (k : Kd α M) (l : Kd β N) : Kd (α × β) (M × N) where
  strip := fun m => (k.strip m.1, l.strip m.2)
  cells := fun m => k.cells m.1 ++ l.cells m.2
  size := k.size + l.size
  val := fun m => .agg (k.cells m.1 ++ l.cells m.2).toArray
  len := fun m => by rw [List.length_append, k.len, l.len]
  one := fun m u hu => (List.mem_append.1 hu).elim (k.one _ u) (l.one _ u)
  holds := fun w m => k.holds w m.1 ∧ l.holds w m.2
  own := fun B w m => k.own B w m.1 ∧ l.own B w m.2
  blocks := fun m => k.blocks m.1 ++ l.blocks m.2
  holds_on := fun h hb => ⟨k.holds_on h.1 hb, l.holds_on h.2 hb⟩
  own_holds := fun h => ⟨k.own_holds h.1, l.own_holds h.2⟩
  own_keep := fun h hg => ⟨k.own_keep h.1 (fun g e => hg g (List.mem_append_left _ e)), l.own_keep h.2 (fun g e => hg g (List.mem_append_right _ e))⟩
  own_lt := fun h g e => (List.mem_append.1 e).elim (k.own_lt h.1 g) (l.own_lt h.2 g)
  own_mono := fun h hB => ⟨k.own_mono h.1 hB, l.own_mono h.2 hB⟩
def Kd.wrap {α M : Type} (k : Kd α M) : Kd α M := { k with val := fun m => .agg (k.cells m).toArray }
theorem ownK_keep {α : Type} {enc : α → List Value} {sz B : Nat} {e : TypeId} {w w' : World} {v : Value} {l : List α} (h : OwnK e enc sz B w v l) (hg : ∀ g, v.ownBlock = some g → w'.heap[g]? = w.heap[g]?) : OwnK e enc sz B w' v l := by
  refine ⟨h.1, ?_⟩
  rcases h.2 with h2 | ⟨g, cap, cur, hv, hB, hc, r⟩
  · exact Or.inl h2
  · refine Or.inr ⟨g, cap, cur, hv, hB, ?_, r⟩
    rw [hg g (by rw [hv]; rfl)]
    exact hc
def Kd.slice {α M : Type} (e : TypeId) (k : Kd α M) : Kd (List α) (Rw M) where
  strip := fun r => r.els.map k.strip
  cells := fun r => [r.v]
  size := 1
  val := Rw.v
  len := fun _ => rfl
  one := fun r u hu => by rw [List.mem_singleton.1 hu]; rfl
  holds := fun w r => HoldsK k.cells k.size w r.v r.els ∧ ∀ x ∈ r.els, k.holds w x
  own := fun B w r => OwnK e k.cells k.size B w r.v r.els ∧ ∀ x ∈ r.els, k.own B w x
  blocks := fun r => r.v.ownBlock.toList ++ r.els.flatMap k.blocks
  holds_on := fun h hb => ⟨h.1.on hb, fun x hx => k.holds_on (h.2 x hx) hb⟩
  own_holds := fun h => ⟨h.1.holds, fun x hx => k.own_holds (h.2 x hx)⟩
  own_keep := fun h hg => ⟨ownK_keep h.1 (fun g e => hg g (List.mem_append_left _ (by simp [e]))), fun x hx => k.own_keep (h.2 x hx) (fun g e => hg g (List.mem_append_right _ (List.mem_flatMap.2 ⟨x, hx, e⟩)))⟩
  own_lt := fun h g e => by
    rcases List.mem_append.1 e with e | e
    · exact h.1.lt g (by simpa using e)
    · obtain ⟨x, hx, e⟩ := List.mem_flatMap.1 e
      exact k.own_lt (h.2 x hx) g e
  own_mono := fun h hB => ⟨h.1.mono hB, fun x hx => k.own_mono (h.2 x hx) hB⟩
section
variable {α M : Type} {k : Kd α M} {B B' E E' : Nat} {w w' : World} {v : Value} {m : M} {a : α}
def Kd.At (k : Kd α M) (w : World) (v : Value) (a : α) : Prop := ∃ m, v = k.val m ∧ k.strip m = a ∧ k.holds w m
def Kd.In (k : Kd α M) (B E : Nat) (w : World) (v : Value) (a : α) : Prop := ∃ m, v = k.val m ∧ k.strip m = a ∧ k.own B w m ∧ (k.blocks m).Nodup ∧ ∀ g ∈ k.blocks m, g < E
theorem Kd.At.on (h : k.At w v a) (hb : Below w.heap.size w w') : k.At w' v a := by
  obtain ⟨m, e1, e2, h⟩ := h
  exact ⟨m, e1, e2, k.holds_on h hb⟩
theorem Kd.In.at (h : k.In B E w v a) : k.At w v a := by
  obtain ⟨m, e1, e2, h, -, -⟩ := h
  exact ⟨m, e1, e2, k.own_holds h⟩
theorem Kd.In.keep (h : k.In B E w v a) (hg : ∀ g, B ≤ g → g < E → w'.heap[g]? = w.heap[g]?) : k.In B E w' v a := by
  obtain ⟨m, e1, e2, h, h1, h2⟩ := h
  exact ⟨m, e1, e2, k.own_keep h (fun g e => hg g (k.own_lt h g e).1 (h2 g e)), h1, h2⟩
theorem Kd.In.on (h : k.In B E w v a) (hb : Below w.heap.size w w') : k.In B E w' v a := by
  obtain ⟨m, e1, e2, h, h1, h2⟩ := h
  exact ⟨m, e1, e2, k.own_keep h (fun g e => hb.block g (k.own_lt h g e).2), h1, h2⟩
theorem Kd.In.grown (h : k.In B E w v a) {row : Option Nat} (hg : w.grownBy w' row) (hr : ∀ g, row = some g → g < B ∨ E ≤ g) : k.In B E w' v a := by
  obtain ⟨m, e1, e2, h, h1, h2⟩ := h
  refine ⟨m, e1, e2, k.own_keep h (fun g e => hg.block g (k.own_lt h g e).2 (fun er => ?_)), h1, h2⟩
  have := hr g er.symm
  have := (k.own_lt h g e).1
  have := h2 g e
  omega
theorem Kd.In.mono (h : k.In B E w v a) (hB : B' ≤ B) (hE : E ≤ E') : k.In B' E' w v a := by
  obtain ⟨m, e1, e2, h, h1, h2⟩ := h
  exact ⟨m, e1, e2, k.own_mono h hB, h1, fun g e => Nat.lt_of_lt_of_le (h2 g e) hE⟩
end
theorem flat_single {α : Type} (enc : α → Value) (l : List α) : flat (fun x => [enc x]) l = l.map enc := by
  induction l with
  | nil => rfl
  | cons a r ih => simp only [flat, List.flatMap_cons] at *; simp [ih]
theorem holdsK_single {α : Type} [Inhabited α] {enc : α → Value} {w : World} {v : Value} {l : List α} : HoldsK (fun x => [enc x]) 1 w v l ↔ Holds enc w v l := by
  constructor
  · rintro ⟨x, cap, hv, hc, h⟩
    refine ⟨x, cap, hv, hc, h.imp id ?_⟩
    rintro ⟨b, off, hx, h⟩
    refine ⟨b, off, hx, fun j hj => ?_⟩
    obtain ⟨u, h1, h2⟩ := h j (by omega)
    rw [flat_single, getD_map hj] at h1
    rw [h2, ← h1]
  · rintro ⟨x, cap, hv, hc, h⟩
    refine ⟨x, cap, hv, hc, h.imp id ?_⟩
    rintro ⟨b, off, hx, h⟩
    refine ⟨b, off, hx, fun j hj => ?_⟩
    have hj : j < l.length := by omega
    exact ⟨_, by rw [flat_single]; exact getD_map hj, h j hj⟩
theorem ownK_single {α : Type} [Inhabited α] {enc : α → Value} {e : TypeId} {B : Nat} {w : World} {v : Value} {l : List α} : OwnK e (fun x => [enc x]) 1 B w v l ↔ Own e enc B w v l := by
  unfold OwnK Own
  rw [flat_single]
def kNm (e : TypeId) : Kd (List ByteArray) (Rw ByteArray) := kStr.slice e
section
variable {e : TypeId} {w : World} {v : Value} {l : List ByteArray} {B : Nat}
theorem kNm_at (h : (kNm e).At w v l) : Holds Value.string w v l := by
  obtain ⟨m, rfl, rfl, h, -⟩ := h
  have : (kNm e).strip m = m.els := by simp [kNm, Kd.slice, kStr, Kd.scalar]
  rw [this]
  exact holdsK_single.1 h
theorem kNm_of (h : Holds Value.string w v l) : (kNm e).At w v l := by
  obtain ⟨x, n, cap, rfl, -, -, hh⟩ := h.shapeN
  exact ⟨⟨x, n, cap, l⟩, rfl, by simp [kNm, Kd.slice, kStr, Kd.scalar], holdsK_single.2 hh, fun _ _ => trivial⟩
theorem kNm_blocks (r : Rw ByteArray) : (kNm e).blocks r = r.v.ownBlock.toList := by simp [kNm, Kd.slice, kStr, Kd.scalar]
end
end Go.Proofs.YtdaahcaafdleaabDoor.Row
/- A variable of several cells (a struct): its block, whole; what keeps it; its cells written; it is given back. For any program. -/
namespace Go.Proofs.YtdaahcaafdleaabDoor.Ret
open Go.RowKit
set_option linter.unusedVariables false
def Blk (w : World) (g : Nat) (cs : Array Value) (t : TypeId) : Prop := w.heap[g]? = some (.cells cs t)
section
variable {w w' : World} {g : Nat} {cs : Array Value} {t : TypeId}
theorem Blk.lt (h : Blk w g cs t) : g < w.heap.size := (Array.getElem?_eq_some_iff.1 h).1
theorem Blk.cell (h : Blk w g cs t) (i : Nat) : w.cell? ⟨g, i, none⟩ = cs[i]? := cell_of_row w g i cs t _ h
theorem Blk.frozen (h : Blk w g cs t) (i : Nat) : w.frozen? ⟨g, i, none⟩ = false := by simp [World.frozen?, show w.heap[g]? = some (.cells cs t) from h]
theorem Blk.on (h : Blk w g cs t) (hb : Below w.heap.size w w') : Blk w' g cs t := (hb.block g h.lt).trans h
theorem Blk.grown (h : Blk w g cs t) {row : Option Nat} (hg : w.grownBy w' row) (hne : some g ≠ row) : Blk w' g cs t := (hg.block g h.lt hne).trans h
theorem Blk.new (w : World) (cs : Array Value) (t : TypeId) : Blk (w.alloc (.cells cs t)) w.heap.size cs t := heap_alloc_new w _
theorem Blk.new' {w : World} (cs : Array Value) (t : TypeId) {n : Nat} (h : n = w.heap.size) : Blk (w.alloc (.cells cs t)) n cs t := by subst h; exact Blk.new w cs t
theorem Blk.other (h : Blk w g cs t) {a : Addr} (hne : a.block ≠ g) (v : Value) : Blk (w.setCell a v) g cs t := h.grown (grownBy_set w a v) (fun e => hne (by cases e; rfl))
theorem Blk.set (h : Blk w g cs t) (i : Nat) (v : Value) : Blk (w.setCell ⟨g, i, none⟩ v) g (cs.setIfInBounds i v) t := by
  have h' : w.heap[g]? = some (.cells cs t) := h
  unfold Blk
  simp only [World.setCell, Array.getElem?_modify, h']
  simp
theorem Blk.cells (h : Blk w g cs t) : ∀ j v, cs.toList[j]? = some v → w.cell? ⟨g, j, none⟩ = some v := fun j v e => by rw [h.cell]; simpa using e
end
end Go.Proofs.YtdaahcaafdleaabDoor.Ret
/- Slices of numbers in memory, for any program: a slice value that holds a list; a slice in blocks of the call's own that holds a list; what keeps both; one list appended to another. No conditions but that lengths fit. -/
namespace Go.Proofs.YtdaahcaafdleaabDoor.Sl
open Go.ChangeShapes Go.WideShapes Go.ChangeAt Go.RowKit
set_option linter.unusedVariables false
set_option maxRecDepth 100000
def nth (l : List Int) (j : Nat) : Int := l.getD j 0
def Holds (k : IntKind) (w : World) (v : Value) (l : List Int) : Prop :=
  ∃ x cap, v = .slice x l.length cap ∧ l.length ≤ cap ∧ (l = [] ∨ ∃ b off, x = some ⟨b, off, none⟩ ∧ ∀ j, j < l.length → w.cell? ⟨b, off + j, none⟩ = some (.int k (nth l j)))
def Own (e : TypeId) (k : IntKind) (B : Nat) (w : World) (v : Value) (l : List Int) : Prop := w.ownsRow B e 1 v l.length (l.map (Value.int k))
section
variable {k : IntKind} {e : TypeId} {B : Nat} {w w' : World} {v : Value} {l : List Int}
theorem Own.form (h : Own e k B w v l) : (v = .slice none 0 0 ∧ l = []) ∨ ∃ g cap, v = .slice (some ⟨g, 0, none⟩) l.length cap ∧ B ≤ g ∧ g < w.heap.size ∧ l.length ≤ cap ∧ cap ≤ maxLen := by
  rcases h.2 with ⟨hv, hn⟩ | ⟨g, cap, cur, hv, hg, hh, h1, h2, h3, h4⟩
  · exact Or.inl ⟨hv, List.eq_nil_of_length_eq_zero hn⟩
  · exact Or.inr ⟨g, cap, hv, hg, (Array.getElem?_eq_some_iff.1 hh).1, h1, h2⟩
theorem Own.holds (h : Own e k B w v l) : Holds k w v l := by
  rcases h.form with ⟨rfl, rfl⟩ | ⟨g, cap, rfl, h1, h2, h3, h4⟩
  · exact ⟨none, 0, rfl, by simp, Or.inl rfl⟩
  · refine ⟨_, cap, rfl, h3, ?_⟩
    by_cases hl : l = []
    · exact Or.inl hl
    · refine Or.inr ⟨g, 0, rfl, fun j hj => ?_⟩
      have h5 := World.ownsRow.cellAt h j (by simpa using hj)
      rw [Nat.zero_add, h5, List.getElem?_map]
      simp [nth, List.getD, List.getElem?_eq_getElem hj]
theorem Own.lt (h : Own e k B w v l) : ∀ g, v.ownBlock = some g → B ≤ g ∧ g < w.heap.size := World.ownsRow.lt h
theorem Own.grown (h : Own e k B w v l) {row : Option Nat} (hg : w.grownBy w' row) (hne : v.ownBlock = none ∨ v.ownBlock ≠ row) : Own e k B w' v l := World.ownsRow.kept h hg hne
theorem grown_of_below (hb : Below w.heap.size w w') (row : Option Nat) : w.grownBy w' row := ⟨hb.os, hb.tape, hb.output, hb.size, fun i hi _ => hb.block i hi⟩
theorem Own.on (h : Own e k B w v l) (hb : Below w.heap.size w w') : Own e k B w' v l := by
  refine World.ownsRow.kept h (grown_of_below hb none) ?_
  cases hv : v.ownBlock <;> simp
theorem Own.mono (h : Own e k B w v l) {B' : Nat} (hB : B' ≤ B) : Own e k B' w v l := by
  refine ⟨h.1, ?_⟩
  rcases h.2 with h2 | ⟨g, cap, cur, hv, hg, r⟩
  · exact Or.inl h2
  · exact Or.inr ⟨g, cap, cur, hv, Nat.le_trans hB hg, r⟩
theorem Own.nil (e : TypeId) (k : IntKind) (B : Nat) (w : World) : Own e k B w (.slice none 0 0) [] := World.ownsRow_nil w B e 1
theorem Own.len (h : Own e k B w v l) : l.length ≤ maxLen := by
  rcases h.form with ⟨rfl, rfl⟩ | ⟨g, cap, rfl, h1, h2, h3, h4⟩
  · simp
  · omega
theorem Own.block (h : Own e k B w v l) (hn : v ≠ .slice none 0 0) : ∃ g cap, v = .slice (some ⟨g, 0, none⟩) l.length cap ∧ B ≤ g ∧ g < w.heap.size ∧ l.length ≤ cap := by
  rcases h.form with ⟨hv, _⟩ | ⟨g, cap, hv, h1, h2, h3, h4⟩
  · exact absurd hv hn
  · exact ⟨g, cap, hv, h1, h2, h3⟩
theorem cell_lt {a : Addr} {u : Value} (h : w.cell? a = some u) : a.block < w.heap.size := by
  unfold World.cell? at h
  cases hh : w.heap[a.block]? with
  | none => simp [hh] at h
  | some o => exact (Array.getElem?_eq_some_iff.1 hh).1
theorem Holds.on (h : Holds k w v l) (hb : Below w.heap.size w w') : Holds k w' v l := by
  obtain ⟨x, cap, hv, hc, h⟩ := h
  refine ⟨x, cap, hv, hc, ?_⟩
  rcases h with h | ⟨b, off, hx, h⟩
  · exact Or.inl h
  · exact Or.inr ⟨b, off, hx, fun j hj => by rw [hb.cell (cell_lt (h j hj))]; exact h j hj⟩
theorem Holds.nil (k : IntKind) (w : World) : Holds k w (.slice none 0 0) [] := ⟨none, 0, rfl, by simp, Or.inl rfl⟩
theorem Holds.shape (h : Holds k w v l) : ∃ x cap, v = .slice x l.length cap ∧ l.length ≤ cap ∧ Holds k w (.slice x l.length cap) l := by
  obtain ⟨x, cap, hv, hc, h⟩ := h
  exact ⟨x, cap, hv, hc, x, cap, rfl, hc, h⟩
theorem Holds.at {x : Option Addr} {n cap : Nat} (h : Holds k w (.slice x n cap) l) {j : Nat} (hj : j < l.length) :
    ∃ b off, x = some ⟨b, off, none⟩ ∧ w.cell? ⟨b, off + j, none⟩ = some (.int k (nth l j)) := by
  obtain ⟨x', cap', hv, hc, h⟩ := h
  cases hv
  rcases h with rfl | ⟨b, off, hx, h⟩
  · simp at hj
  · exact ⟨b, off, hx, h j hj⟩
theorem Holds.lenEq {x : Option Addr} {n cap : Nat} (h : Holds k w (.slice x n cap) l) : n = l.length := by
  obtain ⟨x', cap', hv, hc, h⟩ := h
  cases hv; rfl
theorem Holds.grown (h : Holds k w v l) {row : Option Nat} (hg : w.grownBy w' row) (hne : ∀ g, v.ownBlock = some g → some g ≠ row) : Holds k w' v l := by
  obtain ⟨x, cap, rfl, hc, h⟩ := h
  refine ⟨x, cap, rfl, hc, ?_⟩
  rcases h with h | ⟨b, off, rfl, h⟩
  · exact Or.inl h
  · exact Or.inr ⟨b, off, rfl, fun j hj => hg.cell (h j hj) (hne b rfl)⟩
theorem nth_eq {l : List Int} {j : Nat} (hj : j < l.length) : nth l j = l[j] := by simp [nth, List.getD, List.getElem?_eq_getElem hj]
theorem getD_map {j : Nat} (hj : j < l.length) : (l.map (Value.int k))[j]? = some (.int k (nth l j)) := by
  simp [nth, List.getD, List.getElem?_eq_getElem hj]
end
theorem Holds.cells {k : IntKind} {w : World} {ad : Addr} {n cap : Nat} {l : List Int} (h : Holds k w (.slice (some ad) n cap) l) : ∀ j u, (l.map (Value.int k))[j]? = some u → w.cell? (ad.add j) = some u := by
  intro j u hu
  have hj : j < l.length := by have := (List.getElem?_eq_some_iff.1 hu).1; simpa using this
  obtain ⟨b, off, hx, hc⟩ := h.at hj
  cases hx
  rw [Go.WideShapes.add_plain, hc]
  rw [getD_map hj] at hu
  exact hu
def Elem (P : Program) (e : TypeId) (z : Value) (bytes : Nat) : Prop := (P.info? e).map (fun i => (i.zero, i.size, i.bytes)) = some (some z, 1, bytes)
section
variable {P : Program} {w : World} {ops : Array Oper} {rest : List Oper} {o : Oper} {a : Act} {Q : Exit → Act → World → Prop} {k : IntKind} {e t : TypeId} {bytes : Nat} {z : Value}
end
def Fits (e : TypeId) (k : IntKind) (B : Nat) (w : World) (v : Value) (l : List Int) : Prop := Own e k B w v l ∨ ∃ x, v = .slice x l.length l.length ∧ Holds k w v l
theorem Fits.on {k : IntKind} {e : TypeId} {B : Nat} {w w' : World} {v : Value} {l : List Int} (h : Fits e k B w v l) (hb : Below w.heap.size w w') : Fits e k B w' v l := by
  rcases h with h | ⟨x, hv, h⟩
  · exact Or.inl (h.on hb)
  · exact Or.inr ⟨x, hv, h.on hb⟩
theorem Fits.holds {k : IntKind} {e : TypeId} {B : Nat} {w : World} {v : Value} {l : List Int} (h : Fits e k B w v l) : Holds k w v l := by
  rcases h with h | ⟨x, hv, h⟩
  · exact h.holds
  · exact h
section
variable {P : Program} {w : World} {ops : Array Oper} {rest : List Oper} {o : Oper} {a : Act} {Q : Exit → Act → World → Prop} {k : IntKind} {e t : TypeId} {bytes : Nat} {z : Value}
end
end Go.Proofs.YtdaahcaafdleaabDoor.Sl
/- Contracts of the helpers by which the exact laws copy, compare, mark and look at slices of numbers: a copy lies in memory of the call's own and holds the same list; comparing tells whether the lists are equal; marking writes the numbers from k on; looking at the marks tells that they are there. No conditions but that lengths fit. -/
namespace Go.Proofs.YtdaahcaafdleaabDoor.Sl
open Go.ChangeShapes Go.WideShapes Go.ChangeAt Go.RowKit Go.Instr
set_option linter.unusedVariables false
set_option maxRecDepth 100000
def filled (l : List Int) (k : Nat) : List Int := l.take k ++ List.replicate (l.length - k) 0
theorem filled_length (l : List Int) {k : Nat} (h : k ≤ l.length) : (filled l k).length = l.length := by simp [filled]; omega
theorem filled_zero (l : List Int) : filled l 0 = List.replicate l.length 0 := by simp [filled]
theorem filled_all (l : List Int) : filled l l.length = l := by simp [filled]
theorem filled_step (l : List Int) {k : Nat} (h : k < l.length) : (filled l k).set k (nth l k) = filled l (k + 1) := by
  have hl : (l.take k).length = k := by simp; omega
  unfold filled
  rw [List.set_append_right _ _ (by omega), hl, Nat.sub_self, show l.length - k = (l.length - (k + 1)) + 1 by omega, List.replicate_succ, List.set_cons_zero, nth_eq h]
  have := List.take_succ_eq_append_getElem h
  rw [this, List.append_assoc]; rfl
def marks (kd : IntKind) (k : Int) : Nat → List Int
  | 0 => []
  | n + 1 => marks kd k n ++ [kd.wrap (k + n)]
theorem marks_length (kd : IntKind) (k : Int) : ∀ n, (marks kd k n).length = n
  | 0 => rfl
  | n + 1 => by simp [marks, marks_length kd k n]
def marked (kd : IntKind) (k : Int) (l : List Int) (j : Nat) : List Int := marks kd k j ++ l.drop j
def agree (a b : List Int) (k : Nat) : Prop := ∀ j, j < k → nth a j = nth b j
theorem agree_zero (a b : List Int) : agree a b 0 := fun j h => absurd h (by omega)
theorem agree_succ {a b : List Int} {k : Nat} (h : agree a b k) (hk : nth a k = nth b k) : agree a b (k + 1) := fun j hj => by
  by_cases e : j = k
  · subst e; exact hk
  · exact h j (by omega)
theorem agree_all {a b : List Int} (hl : a.length = b.length) (h : agree a b a.length) : a = b := by
  apply List.ext_getElem hl
  intro i h1 h2
  have := h i h1
  rwa [nth_eq h1, nth_eq h2] at this
theorem differ_at {a b : List Int} {k : Nat} (h : ¬ nth a k = nth b k) : a ≠ b := fun e => h (by rw [e])
def eqB (a b : List Int) : Bool := decide (a = b)
theorem eqB_true {a b : List Int} (h : a = b) : eqB a b = true := by simp [eqB, h]
theorem eqB_false {a b : List Int} (h : a ≠ b) : eqB a b = false := by simp [eqB, h]
theorem own_store {e : TypeId} {k : IntKind} {B : Nat} {w : World} {g n cap : Nat} {l : List Int} (h : Own e k B w (.slice (some ⟨g, 0, none⟩) n cap) l) (hn : n = l.length) (j : Nat) (x : Int) :
    Own e k B (w.setCell ⟨g, j, none⟩ (.int k x)) (.slice (some ⟨g, 0, none⟩) n cap) (l.set j x) ∧ w.grownBy (w.setCell ⟨g, j, none⟩ (.int k x)) (some g) := by
  subst hn
  have := World.ownsRow.stored h j (.int k x)
  refine ⟨?_, this.2⟩
  unfold Own
  rw [List.length_set, List.map_set]
  exact this.1
theorem own_cell {e : TypeId} {k : IntKind} {B : Nat} {w : World} {g n cap : Nat} {l : List Int} (h : Own e k B w (.slice (some ⟨g, 0, none⟩) n cap) l) (hn : n = l.length) {j : Nat} (hj : j < l.length) :
    w.cell? ⟨g, j, none⟩ = some (.int k (nth l j)) ∧ w.frozen? ⟨g, j, none⟩ = false := by
  subst hn
  refine ⟨?_, World.ownsRow.frozenAt h j⟩
  rw [World.ownsRow.cellAt h j (by simpa using hj), getD_map hj]
theorem below_drewN {B : Nat} {a w : World} (h : Below B a w) (n : Nat) : Below B a (w.drewN n) := ⟨h.os, h.tape, h.output, h.size, h.block⟩
theorem ret_bool {a b : Bool} (h : a = b) : Ending.returned (.bool a) = .returned (.bool b) := by rw [h]
theorem ret_int {k : IntKind} {a b : Int} (h : a = b) : Ending.returned (.int k a) = .returned (.int k b) := by rw [h]
def MarkedB (B : Nat) (w : World) (v : Value) (n : Nat) (k : Int) (e : Ending) (w' : World) : Prop :=
  e = .returned (.int .i64 (k + n)) ∧ Own 5 .u8 B w' v (marks .u8 k n) ∧ w.grownBy w' v.ownBlock
def MarkedI (B : Nat) (w : World) (v : Value) (n : Nat) (k : Int) (e : Ending) (w' : World) : Prop :=
  e = .returned (.int .i64 (k + n)) ∧ Own 3 .i64 B w' v (marks .i64 k n) ∧ w.grownBy w' v.ownBlock
def Apart (v u : Value) : Prop := ∀ g, v.ownBlock = some g → u.ownBlock ≠ some g
theorem Apart.symm {v u : Value} (h : Apart v u) : Apart u v := fun g h1 h2 => h g h2 h1
end Go.Proofs.YtdaahcaafdleaabDoor.Sl
/- Kinds of values with memory beneath in the words of the exact laws: slices of one-cell elements, slices of bytes, names; the laws' helpers for them; what keeps a region's loads. No conditions but that lengths fit. -/
namespace Go.Proofs.YtdaahcaafdleaabDoor.Row
open Go.ChangeShapes Go.WideShapes Go.ChangeAt Go.RowKit Go.Instr
set_option linter.unusedVariables false
set_option maxRecDepth 100000
def kS {α : Type} (e : TypeId) (enc : α → Value) (h1 : ∀ x, (enc x).oneCell' = true) : Kd (List α) (Rw α) := Kd.slice e (Kd.scalar enc h1)
section
variable {α : Type} [Inhabited α] {enc : α → Value} {h1 : ∀ x, (enc x).oneCell' = true} {e : TypeId} {w : World} {v : Value} {l : List α} {B E : Nat}
end
def kB : Kd (List Int) (Rw Int) := kS 5 (Value.int .u8) (fun _ => rfl)
section
variable {w : World} {v V : Value} {l : List Int} {B E : Nat}
end
def kN : Kd (List ByteArray) (Rw ByteArray) := (kNm 9).wrap
section
variable {w : World} {v V : Value} {l : List ByteArray} {B E : Nat}
theorem kNm_mk (h : Own 9 Value.string B w v l) (hE : ∀ g, v.ownBlock = some g → g < E) : (kNm 9).In B E w v l := by
  obtain ⟨x, n, cap, rfl, -, -, hh⟩ := h.shapeN
  refine ⟨⟨x, n, cap, l⟩, rfl, by simp [kNm, Kd.slice, kStr, Kd.scalar], ⟨ownK_single.2 hh, fun _ _ => trivial⟩, ?_, ?_⟩
  · rw [kNm_blocks]
    cases h2 : (Rw.v ⟨x, n, cap, l⟩).ownBlock <;> simp
  · rw [kNm_blocks]
    intro g hg
    exact hE g (by simpa [Rw.v] using hg)
theorem kN_at (h : kN.At w V l) : ∃ v, V = .agg #[v] ∧ Holds Value.string w v l := by
  obtain ⟨m, rfl, e, h⟩ := h
  exact ⟨m.v, rfl, kNm_at (e := 9) ⟨m, rfl, e, h⟩⟩
theorem kN_mk (h : Own 9 Value.string B w v l) (hE : ∀ g, v.ownBlock = some g → g < E) : kN.In B E w (.agg #[v]) l := by
  obtain ⟨m, rfl, e, h⟩ := kNm_mk h hE
  exact ⟨m, rfl, e, h⟩
theorem kN_own (h : Own 9 Value.string B w v l) : kN.In B w.heap.size w (.agg #[v]) l := kN_mk h (fun g hg => (h.lt g hg).2)
theorem kN_shapeA (h : kN.At w V l) : ∃ x n c, V = .agg #[.slice x n c] ∧ kN.At w (.agg #[.slice x n c]) l := by
  obtain ⟨v, rfl, ho⟩ := kN_at h
  obtain ⟨x, n, c, rfl, -⟩ := ho.shapeN
  exact ⟨x, n, c, rfl, h⟩
end
theorem kc {w w' : World} {a : Addr} {u : Value} (h : w.cell? a = some u) (hb : Below w.heap.size w w') : w'.cell? a = some u := (hb.cell (cell_lt h)).trans h
end Go.Proofs.YtdaahcaafdleaabDoor.Row
/- Slices of elements of several cells, for any program: parts of them; clear and copy on a row of the call's own. No conditions but that lengths fit. -/
namespace Go.Proofs.YtdaahcaafdleaabDoor.Row
open Go.ChangeShapes Go.WideShapes Go.ChangeAt Go.RowKit
set_option linter.unusedVariables false
set_option maxRecDepth 100000
section
variable {α : Type} {enc : α → List Value} {sz : Nat}
theorem flat_take (hs : Sz enc sz) (l : List α) (i : Nat) (hi : i ≤ l.length) : flat enc (l.take i) = (flat enc l).take (i * sz) := by
  have h1 : (flat enc (l.take i)).length = i * sz := by rw [flat_length hs, List.length_take]; congr 1; omega
  have h2 : flat enc l = flat enc (l.take i) ++ flat enc (l.drop i) := by rw [← flat_append, List.take_append_drop]
  rw [h2, ← h1, List.take_left]
theorem flat_drop (hs : Sz enc sz) (l : List α) (i : Nat) (hi : i ≤ l.length) : flat enc (l.drop i) = (flat enc l).drop (i * sz) := by
  have h1 : (flat enc (l.take i)).length = i * sz := by rw [flat_length hs, List.length_take]; congr 1; omega
  have h2 : flat enc l = flat enc (l.take i) ++ flat enc (l.drop i) := by rw [← flat_append, List.take_append_drop]
  rw [h2, ← h1, List.drop_left]
variable {e : TypeId} {B : Nat} {w w' : World} {v : Value} {l : List α} {x : Option Addr} {n cap : Nat}
theorem OwnK.take (hs : Sz enc sz) (h : OwnK e enc sz B w (.slice x n cap) l) {i : Nat} (hi : i ≤ l.length) : OwnK e enc sz B w (.slice x i cap) (l.take i) := by
  have hl : (l.take i).length = i := by rw [List.length_take]; omega
  refine ⟨by rw [flat_length hs], ?_⟩
  rcases h.2 with ⟨hv, hn⟩ | ⟨g, cap', cur, hv, hB, hc, h1, h2, h3, h4⟩
  · cases hv
    refine Or.inl ⟨?_, by omega⟩
    rw [show i = 0 by omega]
  · cases hv
    refine Or.inr ⟨g, cap, cur, by rw [hl], hB, hc, by omega, h2, h3, ?_⟩
    rw [flat_take hs l i hi, ← h4, List.take_take, hl]
    congr 1
    have : i * sz ≤ l.length * sz := Nat.mul_le_mul_right _ hi
    omega
theorem HoldsK.take (hs : Sz enc sz) (h : HoldsK enc sz w (.slice x n cap) l) {i : Nat} (hi : i ≤ l.length) : HoldsK enc sz w (.slice x i cap) (l.take i) := by
  obtain ⟨x', cap', hv, hc, hh⟩ := h
  cases hv
  have hl : (l.take i).length = i := by rw [List.length_take]; omega
  refine ⟨x, cap, by rw [hl], by omega, ?_⟩
  rcases hh with rfl | ⟨b, off, hx, hh⟩
  · exact Or.inl (by simp)
  · refine Or.inr ⟨b, off, hx, fun j hj => ?_⟩
    rw [hl] at hj
    have : i * sz ≤ l.length * sz := Nat.mul_le_mul_right _ hi
    obtain ⟨u, h1, h2⟩ := hh j (by omega)
    exact ⟨u, by rw [flat_take hs l i hi, List.getElem?_take, if_pos hj]; exact h1, h2⟩
theorem HoldsK.drop (hs : Sz enc sz) {b off : Nat} (h : HoldsK enc sz w (.slice (some ⟨b, off, none⟩) n cap) l) {i : Nat} (hi : i ≤ l.length) : HoldsK enc sz w (.slice (some ⟨b, off + i * sz, none⟩) (n - i) (cap - i)) (l.drop i) := by
  obtain ⟨x', cap', hv, hc, hh⟩ := h
  cases hv
  refine ⟨some ⟨b, off + i * sz, none⟩, cap - i, by rw [List.length_drop], by rw [List.length_drop]; omega, ?_⟩
  rcases hh with rfl | ⟨b', off', hx, hh⟩
  · exact Or.inl (by simp)
  · cases hx
    refine Or.inr ⟨b, off + i * sz, rfl, fun j hj => ?_⟩
    rw [List.length_drop, Nat.sub_mul] at hj
    obtain ⟨u, h1, h2⟩ := hh (i * sz + j) (by omega)
    exact ⟨u, by rw [flat_drop hs l i hi, List.getElem?_drop]; exact h1, by rw [Nat.add_assoc]; exact h2⟩
theorem OwnK.cur (h : OwnK e enc sz B w (.slice x n cap) l) (hn : 0 < l.length) : ∃ g cur, x = some ⟨g, 0, none⟩ ∧ n = l.length ∧ B ≤ g ∧ w.heap[g]? = some (.cells cur e (0, 0)) ∧ l.length ≤ cap ∧ cap ≤ maxLen ∧ cur.size = cap * sz ∧ cur.toList.take (l.length * sz) = flat enc l := by
  rcases h.2 with ⟨hv, h0⟩ | ⟨g, cap', cur, hv, hB, hc, h1, h2, h3, h4⟩
  · omega
  · cases hv
    exact ⟨g, cur, rfl, rfl, hB, hc, h1, h2, h3, h4⟩
end
section
variable {P : Program} {α : Type} {enc : α → List Value} {sz : Nat} {e t : TypeId} {bytes : Nat} {z : Value}
end
end Go.Proofs.YtdaahcaafdleaabDoor.Row
/- What the call's own memory beneath a value of a kind is (Kd.Own, by the value as it lies), what keeps it, two parts joined, a row of elements; sizes, marks. For any kind. No conditions. -/
namespace Go.Proofs.YtdaahcaafdleaabDoor.Row
open Go.ChangeShapes Go.WideShapes Go.ChangeAt Go.RowKit Go.Instr
set_option linter.unusedVariables false
set_option linter.unusedSectionVars false
set_option maxRecDepth 100000
section
variable {α M β N : Type} {k : Kd α M} {l : Kd β N} {B B' C E E' : Nat} {w w' : World} {v : Value} {a : α} {m : M} {n : N}
def Kd.Own (k : Kd α M) (B E : Nat) (w : World) (m : M) : Prop := k.own B w m ∧ (k.blocks m).Nodup ∧ ∀ g ∈ k.blocks m, g < E
theorem Kd.In.split (h : k.In B E w v a) : ∃ m, v = k.val m ∧ k.strip m = a ∧ k.Own B E w m := h
theorem Kd.Own.in (h : k.Own B E w m) : k.In B E w (k.val m) (k.strip m) := ⟨m, rfl, rfl, h⟩
theorem Kd.Own.holds (h : k.Own B E w m) : k.holds w m := k.own_holds h.1
theorem Kd.Own.lt (h : k.Own B E w m) : ∀ g ∈ k.blocks m, B ≤ g ∧ g < E ∧ g < w.heap.size := fun g hg => ⟨(k.own_lt h.1 g hg).1, h.2.2 g hg, (k.own_lt h.1 g hg).2⟩
theorem Kd.Own.on (h : k.Own B E w m) (hb : Below w.heap.size w w') : k.Own B E w' m := ⟨k.own_keep h.1 (fun g e => hb.block g (k.own_lt h.1 g e).2), h.2⟩
theorem Kd.Own.keep (h : k.Own B E w m) (hg : ∀ g ∈ k.blocks m, w'.heap[g]? = w.heap[g]?) : k.Own B E w' m := ⟨k.own_keep h.1 hg, h.2⟩
theorem Kd.Own.mono (h : k.Own B E w m) (hB : B' ≤ B) (hE : E ≤ E') : k.Own B' E' w m := ⟨k.own_mono h.1 hB, h.2.1, fun g hg => Nat.lt_of_lt_of_le (h.2.2 g hg) hE⟩
theorem Kd.Own.set {g i : Nat} {u : Value} (h : k.Own B E w m) (hg : g < B) : k.Own B E (w.setCell ⟨g, i, none⟩ u) m :=
  h.keep fun q hq => Go.RowKit.Below.heap_setCell w ⟨g, i, none⟩ u q (fun e => by have h1 := (h.lt q hq).1; have e1 : q = g := e; omega)
theorem Kd.Own.grown {row : Option Nat} (h : k.Own B E w m) (hg : w.grownBy w' row) (hr : ∀ g, row = some g → g ∉ k.blocks m) : k.Own B E w' m :=
  h.keep fun q hq => hg.block q (h.lt q hq).2.2 (fun e => hr q e.symm hq)
theorem Kd.Own.pair (h : k.Own B C w m) (g : l.Own C E w n) (h1 : B ≤ C) (h2 : C ≤ E) : (k.pair l).Own B E w (m, n) := by
  refine ⟨⟨h.1, l.own_mono g.1 h1⟩, ?_, fun q hq => ?_⟩
  · show (k.blocks m ++ l.blocks n).Nodup
    rw [List.nodup_append]
    exact ⟨h.2.1, g.2.1, fun x hx y hy e => by have h3 := (h.lt x hx).2.1; have h4 := (g.lt y hy).1; omega⟩
  · rcases List.mem_append.1 (show q ∈ k.blocks m ++ l.blocks n from hq) with hq | hq
    · exact Nat.lt_of_lt_of_le (h.2.2 q hq) h2
    · exact g.2.2 q hq
theorem Kd.own_scalar {enc : α → Value} {h1 : ∀ x, (enc x).oneCell' = true} (B E : Nat) (w : World) (x : α) : (Kd.scalar enc h1).Own B E w x := ⟨trivial, List.nodup_nil, fun g hg => by cases hg⟩
theorem Kd.at_of (h : k.holds w m) : k.At w (k.val m) (k.strip m) := ⟨m, rfl, rfl, h⟩
theorem Kd.Own.join (h : k.Own B E w m) (g : l.Own B E w n) (hd : ∀ q ∈ k.blocks m, q ∉ l.blocks n) : (k.pair l).Own B E w (m, n) := by
  refine ⟨⟨h.1, g.1⟩, ?_, fun q hq => ?_⟩
  · show (k.blocks m ++ l.blocks n).Nodup
    rw [List.nodup_append]
    exact ⟨h.2.1, g.2.1, fun x hx y hy e => hd x hx (by rw [e]; exact hy)⟩
  · rcases List.mem_append.1 (show q ∈ k.blocks m ++ l.blocks n from hq) with hq | hq
    · exact h.2.2 q hq
    · exact g.2.2 q hq
structure WroteBy (bs : List Nat) (w w' : World) : Prop where
  os : w'.os = w.os
  tape : w'.tape = w.tape
  output : w'.output = w.output
  size : w.heap.size ≤ w'.heap.size
  block : ∀ i, i < w.heap.size → i ∉ bs → w'.heap[i]? = w.heap[i]?
theorem WroteBy.refl (bs : List Nat) (w : World) : WroteBy bs w w := ⟨rfl, rfl, rfl, Nat.le_refl _, fun _ _ _ => rfl⟩
theorem WroteBy.trans {bs : List Nat} {w1 : World} (h : WroteBy bs w w1) (g : WroteBy bs w1 w') : WroteBy bs w w' := ⟨g.os.trans h.os, g.tape.trans h.tape, g.output.trans h.output, Nat.le_trans h.size g.size, fun i hi hn => (g.block i (Nat.lt_of_lt_of_le hi h.size) hn).trans (h.block i hi hn)⟩
theorem WroteBy.own {bs : List Nat} (h : WroteBy bs w w') (ho : k.Own B E w m) (hd : ∀ q ∈ k.blocks m, q ∉ bs) : k.Own B E w' m := ho.keep fun q hq => h.block q (ho.lt q hq).2.2 (hd q hq)
end
def okN (l : List ByteArray) : Prop := l.length ≤ 9223372036854775807 ∧ ∀ x ∈ l, x.size ≤ maxLen
def szW (n : Nat) (left : Int) : Int := if (n : Int) ≤ left then left - n else -1
theorem szW_fit {n : Nat} {left : Int} (h : (n : Int) ≤ left) : szW n left = left - n := if_pos h
theorem szW_not {n : Nat} {left : Int} (h : ¬ (n : Int) ≤ left) : szW n left = -1 := if_neg h
section
variable {α M : Type} [Inhabited α] [Inhabited M] {k : Kd α M} {B E : Nat} {w w' : World}
def bulkKTo (f : α → Nat) (l : List α) (j : Nat) : Nat := l.length + ((l.take j).map f).sum
def bulkK (f : α → Nat) (l : List α) : Nat := bulkKTo f l l.length
theorem bulkKTo_zero (f : α → Nat) (l : List α) : bulkKTo f l 0 = l.length := by simp [bulkKTo]
theorem bulkKTo_succ (f : α → Nat) (l : List α) {j : Nat} (h : j < l.length) : bulkKTo f l (j + 1) = bulkKTo f l j + f (nth l j) := by
  unfold bulkKTo
  rw [List.take_succ_eq_append_getElem h, nth_eq h, List.map_append, List.sum_append]
  simp only [List.map_cons, List.map_nil, List.sum_cons, List.sum_nil]
  omega
theorem bulkKTo_le (f : α → Nat) (l : List α) (j : Nat) : bulkKTo f l j ≤ bulkK f l := by
  unfold bulkK bulkKTo
  have := sum_take_le (l.map f) j
  rw [List.take_length, List.map_take]; omega
theorem bulkK_len (f : α → Nat) (l : List α) : l.length ≤ bulkK f l := by unfold bulkK bulkKTo; omega
theorem bulkK_mem {f : α → Nat} {l : List α} {x : α} (h : x ∈ l) : f x ≤ bulkK f l := by
  obtain ⟨j, hj, rfl⟩ := List.getElem_of_mem h
  have h1 := bulkKTo_succ f l hj
  have h2 := bulkKTo_le f l (j + 1)
  rw [nth_eq hj] at h1
  omega
theorem bulkK_mono {f g : α → Nat} (h : ∀ x, f x ≤ g x) (l : List α) : bulkK f l ≤ bulkK g l := by
  have h1 : ∀ l : List α, (l.map f).sum ≤ (l.map g).sum := fun l => by
    induction l with
    | nil => simp
    | cons a r ih => have := h a; simp only [List.map_cons, List.sum_cons]; omega
  have := h1 l
  unfold bulkK bulkKTo
  rw [List.take_length]
  omega
theorem nth_map {β : Type} [Inhabited β] (f : α → β) {l : List α} {j : Nat} (h : j < l.length) : nth (l.map f) j = f (nth l j) := by
  rw [nth_eq (by simpa using h), nth_eq h]; simp
theorem take_map_succ {β : Type} (f : α → β) {l : List α} {j : Nat} (h : j < l.length) : (l.map f).take (j + 1) = (l.map f).take j ++ [f (nth l j)] := by
  rw [List.take_succ_eq_append_getElem (by simpa using h), nth_eq h]; simp
def madeK' (L : List M) (n : Nat) : List M := L ++ List.replicate (n - L.length) default
theorem madeK'_length {L : List M} {n : Nat} (h : L.length ≤ n) : (madeK' L n).length = n := by simp [madeK']; omega
theorem madeK'_step {L : List M} {n : Nat} (h : L.length < n) (x : M) : (madeK' L n).set L.length x = madeK' (L ++ [x]) n := by
  unfold madeK'
  rw [List.set_append_right _ _ (Nat.le_refl _), Nat.sub_self, show n - L.length = (n - (L ++ [x]).length) + 1 by simp; omega, List.replicate_succ, List.set_cons_zero, List.append_assoc]
  rfl
theorem madeK'_all {L : List M} {n : Nat} (h : L.length = n) : madeK' L n = L := by simp [madeK', h]
def setCells (w : World) (g : Nat) : Nat → List Value → World
  | _, [] => w
  | o, u :: us => setCells (w.setCell ⟨g, o, none⟩ u) g (o + 1) us
theorem setCells_grown (g : Nat) : ∀ (us : List Value) (o : Nat) (w : World), w.grownBy (setCells w g o us) (some g)
  | [], _, w => ⟨rfl, rfl, rfl, Nat.le_refl _, fun _ _ _ => rfl⟩
  | u :: us, o, w => Go.World.grownBy.trans (Ret.grownBy_set w ⟨g, o, none⟩ u) (setCells_grown g us (o + 1) _)
abbrev Cs (sz : Nat) := { l : List Value // l.length = sz }
instance (sz : Nat) : Inhabited (Cs sz) := ⟨⟨List.replicate sz (.int .i64 0), by simp⟩⟩
theorem szCs (sz : Nat) : Sz (fun x : Cs sz => x.1) sz := fun x => x.2
theorem cs_store {sz : Nat} {e : TypeId} {g n cap : Nat} : ∀ (us : List Value) (i : Nat) (w : World) (l : List (Cs sz)) (j : Nat) (hi : i + us.length = sz) (hn : n = l.length) (hj : j < l.length) (y : Cs sz),
    y.1.drop i = us → (y.1.take i = (nth l j).1.take i) → OwnK e (fun x : Cs sz => x.1) sz B w (.slice (some ⟨g, 0, none⟩) n cap) l →
    OwnK e (fun x : Cs sz => x.1) sz B (setCells w g (j * sz + i) us) (.slice (some ⟨g, 0, none⟩) n cap) (l.set j y)
  | [], i, w, l, j, hi, hn, hj, y, hd, ht, h => by
    have e1 : y = nth l j := by
      apply Subtype.ext
      have h1 := List.take_append_drop i y.1
      have h2 := (nth l j).2
      have h3 : i = sz := by simpa using hi
      rw [ht, hd, List.append_nil, h3, List.take_of_length_le (by omega)] at h1
      exact h1.symm
    have e2 : l.set j y = l := by
      rw [e1, nth_eq hj]
      exact List.set_getElem_self hj
    rw [e2]
    exact h
  | u :: us, i, w, l, j, hi, hn, hj, y, hd, ht, h => by
    have hi2 : i < sz := by simp at hi; omega
    have hy2 : i < y.1.length := by rw [y.2]; exact hi2
    have hm2 : i < (nth l j).1.length := by rw [(nth l j).2]; exact hi2
    let z : Cs sz := ⟨(nth l j).1.set i u, by rw [List.length_set]; exact (nth l j).2⟩
    obtain ⟨a1, -⟩ := ownK_store (szCs sz) h hn hj hi2 (y := z) (u := u) rfl
    have hzn : nth (l.set j z) j = z := nth_set hj z
    have hu : y.1[i]? = some u := by
      have := List.getElem?_drop (xs := y.1) (i := i) (j := 0)
      rw [hd] at this
      simpa using this.symm
    have hd2 : y.1.drop (i + 1) = us := by
      have := List.drop_drop (l := y.1) (i := 1) (j := i)
      rw [hd] at this
      simpa using this.symm
    have ht2 : y.1.take (i + 1) = (nth (l.set j z) j).1.take (i + 1) := by
      rw [hzn]
      show y.1.take (i + 1) = ((nth l j).1.set i u).take (i + 1)
      rw [List.take_succ_eq_append_getElem hy2, List.take_succ_eq_append_getElem (by simpa using hm2), ht, List.take_set_of_le (Nat.le_refl i)]
      have h5 : y.1[i] = u := by rw [List.getElem?_eq_getElem hy2] at hu; exact Option.some.inj hu
      rw [h5]
      simp
    have h6 := cs_store us (i + 1) _ (l.set j z) j (by simp at hi; omega) (by simpa using hn) (by simpa using hj) y hd2 ht2 a1
    rw [List.set_set] at h6
    exact h6
theorem ownK_put {α : Type} [Inhabited α] {enc : α → List Value} {sz : Nat} (hs : Sz enc sz) {e : TypeId} {B : Nat} {w : World} {g n cap : Nat} {l : List α} (h : OwnK e enc sz B w (.slice (some ⟨g, 0, none⟩) n cap) l) (hn : n = l.length) {j : Nat} (hj : j < l.length) (y : α) :
    OwnK e enc sz B (setCells w g (j * sz) (enc y)) (.slice (some ⟨g, 0, none⟩) n cap) (l.set j y) := by
  let f : α → Cs sz := fun x => ⟨enc x, hs x⟩
  have hf : ∀ l : List α, flat (fun x : Cs sz => x.1) (l.map f) = flat enc l := fun l => by simp [flat, List.flatMap_map, f]
  have h' : OwnK e (fun x : Cs sz => x.1) sz B w (.slice (some ⟨g, 0, none⟩) n cap) (l.map f) := by
    unfold OwnK at h ⊢
    rw [hf, List.length_map]
    exact h
  have r := cs_store (B := B) (e := e) (cap := cap) (enc y) 0 w (l.map f) j (by simpa using hs y) (by simpa using hn) (by simpa using hj) (f y) (by simp [f]) (by simp) h'
  rw [← List.map_set] at r
  unfold OwnK at r ⊢
  rw [hf, List.length_map] at r
  exact r
end
def Kd.EOwn {α M : Type} (k : Kd α M) (B E : Nat) (w : World) (L : List M) : Prop := (∀ x ∈ L, k.own B w x) ∧ (L.flatMap k.blocks).Nodup ∧ ∀ g ∈ L.flatMap k.blocks, B ≤ g ∧ g < E
section
variable {α M : Type} {k : Kd α M} {B E C : Nat} {w w' : World} {L : List M} {x : M}
theorem Kd.EOwn.nil (k : Kd α M) (B E : Nat) (w : World) : k.EOwn B E w [] := ⟨fun x hx => (by cases hx), List.nodup_nil, fun g hg => (by cases hg)⟩
theorem Kd.EOwn.keep (h : k.EOwn B E w L) (hg : ∀ g, B ≤ g → g < E → w'.heap[g]? = w.heap[g]?) : k.EOwn B E w' L :=
  ⟨fun x hx => k.own_keep (h.1 x hx) (fun g e => by have h1 := h.2.2 g (List.mem_flatMap.2 ⟨x, hx, e⟩); exact hg g h1.1 h1.2), h.2⟩
theorem Kd.EOwn.on (h : k.EOwn B E w L) (hb : Below w.heap.size w w') (hE : E ≤ w.heap.size) : k.EOwn B E w' L := h.keep fun g _ h2 => hb.block g (by omega)
theorem Kd.EOwn.grown {g0 : Nat} (h : k.EOwn B E w L) (hg : w.grownBy w' (some g0)) (h0 : g0 < B) (hE : E ≤ w.heap.size) : k.EOwn B E w' L := h.keep fun g h1 h2 => hg.block g (by omega) (fun e => by have := Option.some.inj e; omega)
theorem Kd.EOwn.snoc (h : k.EOwn B C w L) (hx : k.Own C E w x) (h1 : B ≤ C) (h2 : C ≤ E) : k.EOwn B E w (L ++ [x]) := by
  refine ⟨fun y hy => ?_, ?_, fun g hg => ?_⟩
  · rcases List.mem_append.1 hy with hy | hy
    · exact h.1 y hy
    · rw [List.mem_singleton.1 hy]; exact k.own_mono hx.1 h1
  · rw [List.flatMap_append, List.nodup_append]
    refine ⟨h.2.1, by simpa using hx.2.1, fun a ha b hb e => ?_⟩
    have h3 := (h.2.2 a ha).2
    have h4 := (hx.lt b (by simpa using hb)).1
    omega
  · rw [List.flatMap_append] at hg
    rcases List.mem_append.1 hg with hg | hg
    · have h3 := h.2.2 g hg; omega
    · have h4 := hx.lt g (by simpa using hg); omega
theorem Kd.EOwn.slice {e : TypeId} {n cap : Nat} (h : k.EOwn (w.heap.size + 1) E w' L) (hr : OwnK e k.cells k.size w.heap.size w' (.slice (some ⟨w.heap.size, 0, none⟩) n cap) L) (hE : w.heap.size < E) : (k.slice e).Own w.heap.size E w' ⟨some ⟨w.heap.size, 0, none⟩, n, cap, L⟩ := by
  refine ⟨⟨hr, fun x hx => k.own_mono (h.1 x hx) (Nat.le_succ _)⟩, ?_, fun g hg => ?_⟩
  · show ([w.heap.size] ++ L.flatMap k.blocks).Nodup
    rw [List.nodup_append]
    exact ⟨by simp, h.2.1, fun a ha b hb e => by have h3 := (h.2.2 b hb).1; have h4 := List.mem_singleton.1 ha; omega⟩
  · rcases List.mem_append.1 (show g ∈ [w.heap.size] ++ L.flatMap k.blocks from hg) with hg | hg
    · have h4 := List.mem_singleton.1 hg; omega
    · exact (h.2.2 g hg).2
end
end Go.Proofs.YtdaahcaafdleaabDoor.Row
/- What comes in as an argument, in the words of kinds: which value of the kind it is, and that its parts fit. By structure: numbers, slices of texts, structs, slices of whatever. For any program. No conditions. -/
namespace Go.Proofs.YtdaahcaafdleaabDoor.Row
open Go.ChangeShapes Go.WideShapes Go.ChangeAt Go.RowKit Go.Instr
set_option linter.unusedVariables false
set_option maxRecDepth 100000
def OpensK {α M : Type} (P : Program) (k : Kd α M) (t : TypeId) (ok : α → Prop) : Prop :=
  ∀ {H : Type} {enc : TypeId × Value → H} {w : World} {b2 : Nat} {held : Bool} {n : Nat} {cs : List Value} {y : DataW H × List MemPlace},
    DataW.trod enc P w b2 (fun _ => true) held n t cs = some y → ∃ m, k.cells m = cs ∧ k.holds w m ∧ ok (k.strip m)
section
variable {α M β N : Type} {P : Program} {k : Kd α M} {l : Kd β N} {t e s : TypeId} {ok : α → Prop} {ok' : β → Prop}
theorem opens_int (h : P.underlying t = some (.int .i64)) : OpensK P kInt t (fun x => (Lit.int .i64 x).wf = true) := by
  intro H enc w b2 held n cs y hy
  obtain ⟨v, e1, -, w1⟩ := DataW.trod_int h hy
  exact ⟨v, e1.symm, trivial, w1⟩
theorem opens_strs (ht : P.underlying t = some (.slice s)) (hs : P.underlying s = some .string) (hc : P.cellsOf s = 1) : OpensK P (kNm e) t okN := by
  intro H enc w b2 held n cs y hy
  obtain ⟨ad, n, c, l, e1, hh, hz, hl⟩ := open_strs1 ht hs hc hy
  obtain ⟨m, hv, hst, hm⟩ := kNm_of (e := e) hh
  exact ⟨m, by rw [e1]; exact congrArg (fun z => [z]) hv.symm, hm, by rw [hst]; exact ⟨hl, hz⟩⟩
theorem opens_wrap {f0 : Field} (ht : P.underlying t = some (.struct #[f0])) (ho : f0.offset = 0) (hc : P.cellsOf f0.type = P.cellsOf t) (h : OpensK P k f0.type ok) : OpensK P k.wrap t ok := by
  intro H enc w b2 held n cs y hy
  obtain ⟨y0, n2, -, hl, q⟩ := trod_struct1 ht hy
  rw [ho, hc, ← hl, List.drop_zero, List.take_length] at q
  exact h q
def OpensF {α M : Type} (P : Program) (k : Kd α M) (fs : List Field) (o : Nat) (ok : α → Prop) : Prop :=
  ∀ {H : Type} {enc : TypeId × Value → H} {w : World} {b2 : Nat} {held : Bool} {n : Nat} {cs : List Value},
    (∀ f ∈ fs, ∃ y, DataW.trod enc P w b2 (fun _ => true) held n f.type ((cs.drop f.offset).take (P.cellsOf f.type)) = some y) → ∃ m, k.cells m = (cs.drop o).take k.size ∧ k.holds w m ∧ ok (k.strip m)
theorem opensF_last {f : Field} {o : Nat} (h : OpensK P k f.type ok) (ho : f.offset = o) (hc : P.cellsOf f.type = k.size) : OpensF P k [f] o ok := by
  intro H enc w b2 held n cs hf
  obtain ⟨y, hy⟩ := hf f (by simp)
  rw [ho, hc] at hy
  exact h hy
theorem opensF_cons {f : Field} {fs : List Field} {o : Nat} (h : OpensK P k f.type ok) (ho : f.offset = o) (hc : P.cellsOf f.type = k.size) (g : OpensF P l fs (o + k.size) ok') : OpensF P (k.pair l) (f :: fs) o (fun x => ok x.1 ∧ ok' x.2) := by
  intro H enc w b2 held n cs hf
  obtain ⟨y, hy⟩ := hf f (by simp)
  rw [ho, hc] at hy
  obtain ⟨m, e0, h0, p0⟩ := h hy
  obtain ⟨m2, e1, h1, p1⟩ := g (fun f2 hf2 => hf f2 (List.mem_cons_of_mem _ hf2))
  refine ⟨(m, m2), ?_, ⟨h0, h1⟩, p0, p1⟩
  show k.cells m ++ l.cells m2 = (cs.drop o).take (k.size + l.size)
  rw [e0, e1, List.take_add, List.drop_drop]
theorem opens_struct {fs : Array Field} (ht : P.underlying t = some (.struct fs)) (hc : P.cellsOf t = k.size) (h : OpensF P k fs.toList 0 ok) : OpensK P k t ok := by
  intro H enc w b2 held n cs y hy
  obtain ⟨xs, n2, -, -, hl, hlen, hf⟩ := DataW.trod_struct ht hy
  obtain ⟨m, e, hm, hok⟩ := h (cs := cs) (fun f hfm => by
    obtain ⟨i, hi, e⟩ := List.getElem_of_mem hfm
    have h1 := hf i f (by rw [← e]; simp [Array.getElem?_eq_getElem (show i < fs.size by simpa using hi)])
    rw [h1, List.getElem?_eq_getElem (by rw [hlen]; simpa using hi)]
    exact ⟨_, rfl⟩)
  exact ⟨m, by rw [e, List.drop_zero, ← hc, ← hl, List.take_length], hm, hok⟩
theorem opens_slice [Inhabited M] (ht : P.underlying t = some (.slice e)) (hc : P.cellsOf e = k.size) (hp : 0 < k.size) (h : OpensK P k e ok) {e' : TypeId} : OpensK P (k.slice e') t (fun x => x.length ≤ 9223372036854775807 ∧ ∀ z ∈ x, ok z) := by
  have hmx : maxLen = 9223372036854775807 := rfl
  intro H enc w b2 held n cs y hy
  rcases Deep.open_slice ht hy with ⟨hcs, -⟩ | ⟨a, len', cap', m, n, D, Pl, hcs', hb, hl, hm, hmm, -, hi⟩
  · exact ⟨⟨none, 0, 0, []⟩, hcs.symm, ⟨HoldsK.nil _ _ _, fun x hx => (by cases hx)⟩, by simp [Kd.slice], fun z hz => (by simp [Kd.slice] at hz)⟩
  · simp only [if_true] at hmm
    have key : ∀ i, i < m → ∃ x : M, (∀ j, j < k.size → w.cell? (a.add (i * k.size + j)) = (k.cells x)[j]?) ∧ k.holds w x ∧ ok (k.strip x) := by
      intro i him
      obtain ⟨cs, hcc, htr⟩ := hi i him
      rw [hc] at hcc
      obtain ⟨-, hcl, hat⟩ := World.cells?_some hcc
      obtain ⟨x, ex, hx, px⟩ := h htr
      refine ⟨x, fun j hj => ?_, hx, px⟩
      have := hat j hj
      rw [Deep.add_add] at this
      rw [this, ex]
    obtain ⟨Sx, hS⟩ := Deep.choose_lt key
    have hL : ((List.range len').map Sx).length = len' := by simp
    have hmem : ∀ x ∈ (List.range len').map Sx, ∃ i, i < len' ∧ x = Sx i := by
      intro x hx
      obtain ⟨i, hi2, rfl⟩ := List.mem_map.1 hx
      exact ⟨i, List.mem_range.1 hi2, rfl⟩
    have hsz : Sz k.cells k.size := k.len
    refine ⟨⟨some a, len', cap', (List.range len').map Sx⟩, hcs'.symm, ⟨?_, fun x hx => ?_⟩, ?_, fun z hz => ?_⟩
    · refine ⟨some a, cap', by rw [hL]; rfl, by rw [hL]; exact hl, ?_⟩
      by_cases h00 : len' = 0
      · left; subst h00; rfl
      · right
        obtain ⟨b, off, spot⟩ := a
        have q1 := (hS 0 (by omega)).1 0 hp
        have hu : ∃ u, (k.cells (Sx 0))[0]? = some u := ⟨_, List.getElem?_eq_getElem (by rw [k.len]; exact hp)⟩
        obtain ⟨u, hu⟩ := hu
        rw [hu] at q1
        have hs : spot = none := by simpa [Addr.add] using World.cell?_spot q1
        subst hs
        refine ⟨b, off, rfl, fun j hj => ?_⟩
        have hj : j < len' * k.size := by rwa [hL] at hj
        have hj2 : j / k.size < len' := Nat.div_lt_of_lt_mul (by rw [Nat.mul_comm]; exact hj)
        have hj3 : j % k.size < k.size := Nat.mod_lt _ hp
        have q2 := (hS (j / k.size) (by omega)).1 (j % k.size) hj3
        have hn : nth ((List.range len').map Sx) (j / k.size) = Sx (j / k.size) := by rw [nth_eq (by rw [hL]; exact hj2)]; simp
        have hfl := flat_at hsz ((List.range len').map Sx) (j / k.size) (j % k.size) (by rw [hL]; exact hj2) hj3
        rw [hn, Nat.div_add_mod'] at hfl
        rw [Nat.div_add_mod', Go.WideShapes.add_plain] at q2
        have hu2 : ∃ u, (k.cells (Sx (j / k.size)))[j % k.size]? = some u := ⟨_, List.getElem?_eq_getElem (by rw [k.len]; exact hj3)⟩
        obtain ⟨u2, hu2⟩ := hu2
        exact ⟨u2, by rw [hfl, hu2], by rw [q2, hu2]⟩
    · obtain ⟨i, hi2, rfl⟩ := hmem x hx
      exact (hS i (by omega)).2.1
    · show ((List.map Sx (List.range len')).map k.strip).length ≤ _
      rw [List.length_map, hL, ← hmx]
      exact Nat.le_trans hl hm
    · obtain ⟨x, hx, rfl⟩ := List.mem_map.1 (show z ∈ ((List.range len').map Sx).map k.strip from hz)
      obtain ⟨i, hi2, rfl⟩ := hmem x hx
      exact (hS i (by omega)).2.2
theorem OpensK.imp {ok2 : α → Prop} (h : OpensK P k t ok) (hi : ∀ x, ok x → ok2 x) : OpensK P k t ok2 := by
  intro H enc w b2 held n cs y hy
  obtain ⟨m, a, b, c⟩ := h hy
  exact ⟨m, a, b, hi _ c⟩
theorem open_sliceK {H : Type} {enc : TypeId × Value → H} {w : World} {base b2 : Nat} {held : Bool} {v : Value} {d : DataW H} {p : List MemPlace} {e' : TypeId} {okl : List α → Prop} (ho : OpensK P (k.slice e') t okl) (ht : P.underlying t = some (.slice e))
    (hv : Value.okWide P w .any base t v) (h : DataW.Trod enc P w b2 (fun _ => true) held t v d p) : ∃ x, (k.slice e').At w v x ∧ okl x := by
  obtain ⟨a0, len, cap, rfl⟩ := okWide_slice ht hv
  obtain ⟨fuel, hf⟩ := h
  obtain ⟨m, e1, hm, hok⟩ := ho hf
  refine ⟨(k.slice e').strip m, ⟨m, ?_, rfl, hm⟩, hok⟩
  have e3 : (Value.slice a0 len cap).cells.toList = [Value.slice a0 len cap] := by simp [Value.cells]
  have e2 : [(k.slice e').val m] = [Value.slice a0 len cap] := Eq.trans (show [(k.slice e').val m] = (Value.slice a0 len cap).cells.toList from e1) e3
  exact (List.head_eq_of_cons_eq e2).symm
end
end Go.Proofs.YtdaahcaafdleaabDoor.Row
/- Names in the words of kinds: sz, to, eq, mark, held. No conditions but that lengths fit. -/
namespace Go.Proofs.YtdaahcaafdleaabDoor.Row
open Go.ChangeShapes Go.WideShapes Go.ChangeAt Go.RowKit Go.Instr
set_option linter.unusedVariables false
set_option maxRecDepth 100000
theorem szNmK (V : Value) (l : List ByteArray) (w : World) (left : Int) (h : kN.At w V l) (hp : okN l) (h0 : 0 ≤ left) (h1 : left ≤ 1048576) :
    Calls Tryd.prog 17 #[V, .int .i64 left] w fun e w' => e = .returned (.int .i64 (szW (bulk l) left)) ∧ Below w.heap.size w w' := by
  obtain ⟨v, rfl, h9⟩ := kN_at h
  exact szName v l w left h9 hp.1 hp.2 h0 h1
theorem toNmK (V : Value) (l : List ByteArray) (w : World) (h : kN.At w V l) (hl : l.length ≤ 100000000) :
    Calls Tryd.prog 18 #[V] w fun e w' => ∃ U, e = .returned U ∧ kN.In w.heap.size w'.heap.size w' U l ∧ Below w.heap.size w w' := by
  obtain ⟨v, rfl, h9⟩ := kN_at h
  exact (toName v l w h9 hl).mono fun e w' ⟨v, a, b, c⟩ => ⟨_, a, kN_own b, c⟩
theorem eqNmK (V U : Value) (l m : List ByteArray) (w : World) (q : Bool) (hq : decide (l = m) = q) (h : kN.At w V l) (g : kN.At w U m) (hl : l.length ≤ 100000000) (hm : m.length ≤ 100000000) :
    Calls Tryd.prog 23 #[V, U] w fun e w' => e = .returned (.bool q) ∧ Below w.heap.size w w' := by
  obtain ⟨v, rfl, h9⟩ := kN_at h
  obtain ⟨u, rfl, g9⟩ := kN_at g
  subst hq
  exact eqName v u l m w h9 g9 (by omega) (by omega)
end Go.Proofs.YtdaahcaafdleaabDoor.Row
/- Routes in the words of kinds: the kind; sz, to, eq, mark, held. No conditions but that lengths fit. -/
namespace Go.Proofs.YtdaahcaafdleaabDoor.Row
open Go.ChangeShapes Go.WideShapes Go.ChangeAt Go.RowKit Go.Instr
set_option linter.unusedVariables false
set_option maxRecDepth 100000
abbrev Rtt := List ByteArray × Int × Int
abbrev Rtm := Rw ByteArray × Int × Int
def kRt : Kd Rtt Rtm := (kN.pair (kInt.pair kInt))
theorem aggRt : Ret.AggOf Tryd.prog 38 3 := ⟨by kernel_rfl, by kernel_rfl⟩
def wtRt (x : Rtt) : Nat := bulk x.1
def adRt (x : Rtt) : Nat := x.1.length
def okRt (x : Rtt) : Prop := okN x.1
def mkRt (k : Int) (x : Rtt) : Rtt := (marks markT (k) x.1.length, x.2.1, x.2.2)
section
variable {w : World} {V : Value} {x : Rtt} {B E : Nat}
theorem kRt_at (h : kRt.At w V x) : ∃ (x0_0 : Option Addr) (n0_0 c0_0 : Nat), V = .agg #[.slice x0_0 n0_0 c0_0, .int .i64 x.2.1, .int .i64 x.2.2] ∧ kN.At w (.agg #[.slice x0_0 n0_0 c0_0]) x.1 := by
  obtain ⟨⟨m0, m1, m2⟩, rfl, rfl, g0, g1, g2⟩ := h
  obtain ⟨x0_0, n0_0, c0_0, e0, a0⟩ := kN_shapeA (Kd.at_of (k := kN) g0)
  have d0 : kN.cells m0 = [.slice x0_0 n0_0 c0_0] := by injection e0 with e; exact congrArg Array.toList e
  refine ⟨x0_0, n0_0, c0_0, ?_, e0 ▸ Kd.at_of (k := kN) g0⟩
  show Value.agg ((kN.cells m0 ++ (kInt.cells m1 ++ (kInt.cells m2)))).toArray = _
  rw [d0]
  rfl
theorem kRt_shapeA (h : kRt.At w V x) : ∃ (x0_0 : Option Addr) (n0_0 c0_0 : Nat), V = .agg #[.slice x0_0 n0_0 c0_0, .int .i64 x.2.1, .int .i64 x.2.2] ∧ kRt.At w (.agg #[.slice x0_0 n0_0 c0_0, .int .i64 x.2.1, .int .i64 x.2.2]) x := by
  obtain ⟨x0_0, n0_0, c0_0, rfl, -⟩ := kRt_at h
  exact ⟨x0_0, n0_0, c0_0, rfl, h⟩
end
set_option maxHeartbeats 4000000 in
theorem szRouteK (V : Value) (x : Rtt) (w : World) (left : Int) (h : kRt.At w V x) (hp : okRt x) (h0 : 0 ≤ left) (hl : left ≤ 1048576) :
    Calls Tryd.prog 9 #[V, .int .i64 left] w fun e w' => e = .returned (.int .i64 (szW (wtRt x) left)) ∧ Below w.heap.size w w' := by
  obtain ⟨x0_0, n0_0, c0_0, rfl, g0⟩ := kRt_at h
  obtain ⟨l0, l1, l2⟩ := x
  have p0 := show okN l0 from hp
  have HB := Lib.hid ((Below.refl w.heap.size w).alloc (Nat.le_refl _) (.cells #[.slice x0_0 n0_0 c0_0, .int .i64 l1, .int .i64 l2] 34))
  have HX := Lib.hid (Ret.Blk.new w #[.slice x0_0 n0_0 c0_0, .int .i64 l1, .int .i64 l2] 34)
  have G0 := Lib.hid g0; have P0 := Lib.hid p0
  dsimp only at G0 P0 ⊢
  clear g0 p0 h
  go_enter Tryd.func9, Tryd.ntmps9
  go_wp2_with fail
  refine (szNmK _ l0 _ (left) (G0.out.on HB.out) P0.out (by omega) (by omega)).mono ?_
  rintro e w1 ⟨rfl, hb⟩
  replace HX := Lib.hid (HX.out.on hb)
  replace HB := Lib.hid (HB.out.trans (hb.mono HB.out.size)); clear hb
  have q0 : w1.cell? ⟨w.heap.size, 0, none⟩ = some (.slice x0_0 n0_0 c0_0) := HX.out.cell 0
  have q1 : w1.cell? ⟨w.heap.size, 1, none⟩ = some (.int .i64 l1) := HX.out.cell 1
  have q2 : w1.cell? ⟨w.heap.size, 2, none⟩ = some (.int .i64 l2) := HX.out.cell 2
  by_cases t0 : ((bulk l0) : Int) ≤ left
  · rw [szW_fit t0]
    have b0 : ¬ left - ((bulk l0) : Int) < 0 := by omega
    have HZ : Hid (szW (((bulk l0))) left = left - ((bulk l0) : Int)) := Lib.hid (by rw [szW_fit (by omega)]; (try omega))
    go_wp2
    go_ret
    exact ⟨ret_int HZ.out.symm, HB.out⟩
  · rw [szW_not t0]
    have HZ : Hid (szW (((bulk l0))) left = -1) := Lib.hid (szW_not (by omega))
    go_wp2
    go_ret
    exact ⟨ret_int HZ.out.symm, HB.out⟩
set_option maxHeartbeats 4000000 in
theorem toRouteK (V : Value) (x : Rtt) (w : World) (h : kRt.At w V x) (hp : adRt x ≤ 100000000) :
    Calls Tryd.prog 12 #[V] w fun e w' => ∃ U, e = .returned U ∧ kRt.In w.heap.size w'.heap.size w' U x ∧ Below w.heap.size w w' := by
  obtain ⟨x0_0, n0_0, c0_0, rfl, g0⟩ := kRt_at h
  obtain ⟨l0, l1, l2⟩ := x
  have hp9 : l0.length ≤ 100000000 := hp
  have hb0 := (Below.refl w.heap.size w).alloc (Nat.le_refl _) (.cells #[.slice x0_0 n0_0 c0_0, .int .i64 l1, .int .i64 l2] 34)
  have hb1 := hb0.alloc (by simp) (.cells #[.slice none 0 0, .int .i64 0, .int .i64 0] 38)
  have hb2 := hb1.alloc (by simp; omega) (.cells #[.slice none 0 0, .int .i64 0, .int .i64 0] 38)
  have HB := Lib.hid hb2
  have HX := Lib.hid (((Ret.Blk.new w #[.slice x0_0 n0_0 c0_0, .int .i64 l1, .int .i64 l2] 34).on ((Below.refl _ _).alloc (Nat.le_refl _) (.cells #[.slice none 0 0, .int .i64 0, .int .i64 0] 38))).on ((Below.refl _ _).alloc (Nat.le_refl _) (.cells #[.slice none 0 0, .int .i64 0, .int .i64 0] 38)))
  have HR := Lib.hid ((Ret.Blk.new' (w := (w.alloc (.cells #[.slice x0_0 n0_0 c0_0, .int .i64 l1, .int .i64 l2] 34))) (n := w.heap.size + 1) #[.slice none 0 0, .int .i64 0, .int .i64 0] 38 (by simp)).on ((Below.refl _ _).alloc (Nat.le_refl _) (.cells #[.slice none 0 0, .int .i64 0, .int .i64 0] 38)))
  have HL := Lib.hid (Ret.Blk.new' (w := (w.alloc (.cells #[.slice x0_0 n0_0 c0_0, .int .i64 l1, .int .i64 l2] 34)).alloc (.cells #[.slice none 0 0, .int .i64 0, .int .i64 0] 38)) (n := w.heap.size + 1 + 1) #[.slice none 0 0, .int .i64 0, .int .i64 0] 38 (by simp))
  have hz0 : (((w.alloc (.cells #[.slice x0_0 n0_0 c0_0, .int .i64 l1, .int .i64 l2] 34)).alloc (.cells #[.slice none 0 0, .int .i64 0, .int .i64 0] 38)).alloc (.cells #[.slice none 0 0, .int .i64 0, .int .i64 0] 38)).heap.size = w.heap.size + 3 := by simp
  have G0 := Lib.hid g0
  dsimp only at G0 ⊢
  clear h hp hb0 hb1 hb2 g0
  go_enter Tryd.func12, Tryd.ntmps12
  go_wp2_with fail
  refine (toNmK _ l0 _ (G0.out.on HB.out) (by omega)).mono ?_
  rintro e w1 ⟨U0, rfl, ho, hb⟩
  have hs0 := hb.size
  obtain ⟨m0, rfl, r0, ho⟩ := ho.split
  obtain ⟨xy0_0, ny0_0, cy0_0, e0, -⟩ := kN_shapeA (Kd.at_of (k := kN) ho.holds)
  have d0 : kN.cells m0 = [.slice xy0_0 ny0_0 cy0_0] := by injection e0 with e; exact congrArg Array.toList e
  rw [e0]
  rw [hz0] at ho hs0; clear hz0
  replace HX := Lib.hid (HX.out.on hb); replace HR := Lib.hid (HR.out.on hb); replace HL := Lib.hid (HL.out.on hb)
  replace HB := Lib.hid (HB.out.trans (hb.mono HB.out.size)); clear hb
  have O0 := Lib.hid ho; clear ho
  have E0 := Lib.hid e0; have D0 := Lib.hid d0; have R0 := Lib.hid r0; clear e0 d0 r0
  have q0 : w1.cell? ⟨w.heap.size, 0, none⟩ = some (.slice x0_0 n0_0 c0_0) := HX.out.cell 0
  have q1 : w1.cell? ⟨w.heap.size, 1, none⟩ = some (.int .i64 l1) := HX.out.cell 1
  have q2 : w1.cell? ⟨w.heap.size, 2, none⟩ = some (.int .i64 l2) := HX.out.cell 2
  have p0 : w1.cell? ⟨w.heap.size + 1 + 1, 0, none⟩ = some (.slice none 0 0) := HL.out.cell 0
  have p1 : w1.cell? ⟨w.heap.size + 1 + 1, 1, none⟩ = some (.int .i64 0) := HL.out.cell 1
  have p2 : w1.cell? ⟨w.heap.size + 1 + 1, 2, none⟩ = some (.int .i64 0) := HL.out.cell 2
  have t0 := HL.out.frozen 0; have t1 := HL.out.frozen 1; have t2 := HL.out.frozen 2
  have r0 : w1.cell? ⟨w.heap.size + 1, 0, none⟩ = some (.slice none 0 0) := HR.out.cell 0
  have r1 : w1.cell? ⟨w.heap.size + 1, 1, none⟩ = some (.int .i64 0) := HR.out.cell 1
  have r2 : w1.cell? ⟨w.heap.size + 1, 2, none⟩ = some (.int .i64 0) := HR.out.cell 2
  have u0 := HR.out.frozen 0; have u1 := HR.out.frozen 1; have u2 := HR.out.frozen 2
  have Z := Lib.hid ((((((HR.out.other (a := ⟨w.heap.size + 1 + 1, 0, none⟩) (by show w.heap.size + 1 + 1 ≠ w.heap.size + 1; omega) (.slice xy0_0 ny0_0 cy0_0)).other (a := ⟨w.heap.size + 1 + 1, 1, none⟩) (by show w.heap.size + 1 + 1 ≠ w.heap.size + 1; omega) (.int .i64 l1)).other (a := ⟨w.heap.size + 1 + 1, 2, none⟩) (by show w.heap.size + 1 + 1 ≠ w.heap.size + 1; omega) (.int .i64 l2)).set 0 (.slice xy0_0 ny0_0 cy0_0)).set 1 (.int .i64 l1)).set 2 (.int .i64 l2))
  have ZB := Lib.hid ((((((HB.out.setCell (p := ⟨w.heap.size + 1 + 1, 0, none⟩) (by show w.heap.size ≤ w.heap.size + 1 + 1; omega) (.slice xy0_0 ny0_0 cy0_0)).setCell (p := ⟨w.heap.size + 1 + 1, 1, none⟩) (by show w.heap.size ≤ w.heap.size + 1 + 1; omega) (.int .i64 l1)).setCell (p := ⟨w.heap.size + 1 + 1, 2, none⟩) (by show w.heap.size ≤ w.heap.size + 1 + 1; omega) (.int .i64 l2)).setCell (p := ⟨w.heap.size + 1, 0, none⟩) (by show w.heap.size ≤ w.heap.size + 1; omega) (.slice xy0_0 ny0_0 cy0_0)).setCell (p := ⟨w.heap.size + 1, 1, none⟩) (by show w.heap.size ≤ w.heap.size + 1; omega) (.int .i64 l1)).setCell (p := ⟨w.heap.size + 1, 2, none⟩) (by show w.heap.size ≤ w.heap.size + 1; omega) (.int .i64 l2))
  have Z0 := Lib.hid (Kd.Own.set (g := w.heap.size + 1) (i := 2) (u := .int .i64 l2) (Kd.Own.set (g := w.heap.size + 1) (i := 1) (u := .int .i64 l1) (Kd.Own.set (g := w.heap.size + 1) (i := 0) (u := .slice xy0_0 ny0_0 cy0_0) (Kd.Own.set (g := w.heap.size + 1 + 1) (i := 2) (u := .int .i64 l2) (Kd.Own.set (g := w.heap.size + 1 + 1) (i := 1) (u := .int .i64 l1) (Kd.Own.set (g := w.heap.size + 1 + 1) (i := 0) (u := .slice xy0_0 ny0_0 cy0_0) O0.out (by omega)) (by omega)) (by omega)) (by omega)) (by omega)) (by omega))
  go_wp2_with fail
  refine bodyPost_ret (Ret.results_c rfl _ _ (w.heap.size + 1) [.slice xy0_0 ny0_0 cy0_0, .int .i64 l1, .int .i64 l2] rfl aggRt Z.out.cells) rfl ?_
  have hval : kRt.val (m0, l1, l2) = .agg #[.slice xy0_0 ny0_0 cy0_0, .int .i64 l1, .int .i64 l2] := by
    show Value.agg ((kN.cells m0 ++ (kInt.cells l1 ++ (kInt.cells l2)))).toArray = _
    rw [D0.out]
    rfl
  have hstr : kRt.strip (m0, l1, l2) = (l0, l1, l2) := Prod.ext R0.out (Prod.ext rfl (rfl))
  refine ⟨_, rfl, ?_, ZB.out⟩
  rw [← hval, ← hstr]
  refine Kd.Own.in ?_
  exact (Kd.Own.pair (C := w1.heap.size) (Z0.out.mono (by omega) (by omega)) (Kd.Own.pair (C := w1.heap.size) (Kd.own_scalar _ _ _ _) (Kd.own_scalar _ _ _ _) (by omega) (by simp only [World.size_setCell]; omega)) (by omega) (by simp only [World.size_setCell]; omega))
set_option maxHeartbeats 4000000 in
theorem eqRouteK (V U : Value) (x y : Rtt) (w : World) (q : Bool) (hq : decide (x = y) = q) (h : kRt.At w V x) (g : kRt.At w U y) (hp : adRt x ≤ 100000000) (hy : adRt y ≤ 100000000) :
    Calls Tryd.prog 16 #[V, U] w fun e w' => e = .returned (.bool q) ∧ Below w.heap.size w w' := by
  obtain ⟨x0_0, n0_0, c0_0, rfl, g0⟩ := kRt_at h
  obtain ⟨l0, l1, l2⟩ := x
  obtain ⟨xy0_0, ny0_0, cy0_0, rfl, gy0⟩ := kRt_at g
  obtain ⟨ly0, ly1, ly2⟩ := y
  have hp9 : l0.length ≤ 100000000 := hp
  have hy9 : ly0.length ≤ 100000000 := hy
  have hb0 := (Below.refl w.heap.size w).alloc (Nat.le_refl _) (.cells #[.slice x0_0 n0_0 c0_0, .int .i64 l1, .int .i64 l2] 38)
  have HB := Lib.hid (hb0.alloc (by simp) (.cells #[.slice xy0_0 ny0_0 cy0_0, .int .i64 ly1, .int .i64 ly2] 38))
  have HX := Lib.hid ((Ret.Blk.new w #[.slice x0_0 n0_0 c0_0, .int .i64 l1, .int .i64 l2] 38).on ((Below.refl _ _).alloc (Nat.le_refl _) (.cells #[.slice xy0_0 ny0_0 cy0_0, .int .i64 ly1, .int .i64 ly2] 38)))
  have HY := Lib.hid (Ret.Blk.new' (w := w.alloc (.cells #[.slice x0_0 n0_0 c0_0, .int .i64 l1, .int .i64 l2] 38)) (n := w.heap.size + 1) #[.slice xy0_0 ny0_0 cy0_0, .int .i64 ly1, .int .i64 ly2] 38 (by simp))
  have HQ := Lib.hid hq
  have G0 := Lib.hid g0; have Gy0 := Lib.hid gy0
  dsimp only at G0 Gy0 ⊢
  clear h g hq hp hy hb0 g0 gy0
  go_enter Tryd.func16, Tryd.ntmps16
  go_wp2_with fail
  by_cases e0 : l0 = ly0
  · refine (eqNmK _ _ l0 ly0 _ true (decide_eq_true e0) (G0.out.on HB.out) (Gy0.out.on HB.out) (by omega) (by omega)).mono ?_
    rintro e w1 ⟨rfl, hb⟩
    replace HX := Lib.hid (HX.out.on hb); replace HY := Lib.hid (HY.out.on hb)
    replace HB := Lib.hid (HB.out.trans (hb.mono HB.out.size)); clear hb
    have q0 : w1.cell? ⟨w.heap.size, 0, none⟩ = some (.slice x0_0 n0_0 c0_0) := HX.out.cell 0
    have q1 : w1.cell? ⟨w.heap.size, 1, none⟩ = some (.int .i64 l1) := HX.out.cell 1
    have q2 : w1.cell? ⟨w.heap.size, 2, none⟩ = some (.int .i64 l2) := HX.out.cell 2
    have p0 : w1.cell? ⟨w.heap.size + 1, 0, none⟩ = some (.slice xy0_0 ny0_0 cy0_0) := HY.out.cell 0
    have p1 : w1.cell? ⟨w.heap.size + 1, 1, none⟩ = some (.int .i64 ly1) := HY.out.cell 1
    have p2 : w1.cell? ⟨w.heap.size + 1, 2, none⟩ = some (.int .i64 ly2) := HY.out.cell 2
    by_cases e1 : l1 = ly1
    · have t1 : (l1 != ly1) = false := by simp [e1]
      by_cases e2 : l2 = ly2
      · have t2 : (l2 != ly2) = false := by simp [e2]
        have HE : Hid (q = true) := Lib.hid (by rw [← HQ.out]; simp [e0, e1, e2])
        clear e0 e1 e2
        go_wp2
        go_ret
        exact ⟨ret_bool HE.out.symm, HB.out⟩
      · have t2 : (l2 != ly2) = true := by simpa using e2
        have HE : Hid (q = false) := Lib.hid (by rw [← HQ.out]; simp [e2])
        clear e2
        go_wp2
        go_ret
        exact ⟨ret_bool HE.out.symm, HB.out⟩
    · have t1 : (l1 != ly1) = true := by simpa using e1
      have HE : Hid (q = false) := Lib.hid (by rw [← HQ.out]; simp [e1])
      clear e1
      go_wp2
      go_ret
      exact ⟨ret_bool HE.out.symm, HB.out⟩
  · refine (eqNmK _ _ l0 ly0 _ false (decide_eq_false e0) (G0.out.on HB.out) (Gy0.out.on HB.out) (by omega) (by omega)).mono ?_
    rintro e w1 ⟨rfl, hb⟩
    replace HX := Lib.hid (HX.out.on hb); replace HY := Lib.hid (HY.out.on hb)
    replace HB := Lib.hid (HB.out.trans (hb.mono HB.out.size)); clear hb
    have q0 : w1.cell? ⟨w.heap.size, 0, none⟩ = some (.slice x0_0 n0_0 c0_0) := HX.out.cell 0
    have q1 : w1.cell? ⟨w.heap.size, 1, none⟩ = some (.int .i64 l1) := HX.out.cell 1
    have q2 : w1.cell? ⟨w.heap.size, 2, none⟩ = some (.int .i64 l2) := HX.out.cell 2
    have p0 : w1.cell? ⟨w.heap.size + 1, 0, none⟩ = some (.slice xy0_0 ny0_0 cy0_0) := HY.out.cell 0
    have p1 : w1.cell? ⟨w.heap.size + 1, 1, none⟩ = some (.int .i64 ly1) := HY.out.cell 1
    have p2 : w1.cell? ⟨w.heap.size + 1, 2, none⟩ = some (.int .i64 ly2) := HY.out.cell 2
    have HE : Hid (q = false) := Lib.hid (by rw [← HQ.out]; simp [e0])
    clear e0
    go_wp2
    go_ret
    exact ⟨ret_bool HE.out.symm, HB.out⟩
def inRt (x : Rtt) : Prop := okN x.1 ∧ (Lit.int .i64 x.2.1).wf = true ∧ (Lit.int .i64 x.2.2).wf = true
theorem inRt.ok {x : Rtt} (h : inRt x) : okRt x := h.1
theorem opens_Route : OpensK Tryd.prog kRt 34 inRt := opens_struct Tryd.underlying34 (by kernel_rfl) (opensF_cons (ok := fun (z : List ByteArray) => okN z) (ok' := fun (z : Int × Int) => (Lit.int .i64 z.1).wf = true ∧ (Lit.int .i64 z.2).wf = true) (opens_wrap Tryd.underlying32 rfl (by kernel_rfl) (opens_strs Tryd.underlying30 Tryd.underlying9 (by kernel_rfl))) rfl (by kernel_rfl) (opensF_cons (ok := fun (z : Int) => (Lit.int .i64 z).wf = true) (ok' := fun (z : Int) => (Lit.int .i64 z).wf = true) (opens_int Tryd.underlying3) rfl (by kernel_rfl) (opensF_last (ok := fun (z : Int) => (Lit.int .i64 z).wf = true) (opens_int Tryd.underlying3) rfl (by kernel_rfl))))
theorem adRt_le (x : Rtt) : adRt x ≤ wtRt x := by
  obtain ⟨l0, l1, l2⟩ := x
  have e0 := show l0.length ≤ bulk l0 from bulk_len l0
  unfold adRt wtRt
  dsimp only
  omega
end Go.Proofs.YtdaahcaafdleaabDoor.Row
/- Lists of routes in the words of kinds: sz, to, eq. No conditions but that lengths fit. -/
namespace Go.Proofs.YtdaahcaafdleaabDoor.Row
open Go.ChangeShapes Go.WideShapes Go.ChangeAt Go.RowKit Go.Instr
set_option linter.unusedVariables false
set_option maxRecDepth 100000
def kLRt : Kd (List Rtt) (Rw Rtm) := kRt.slice 38
theorem szRt_cells : Sz kRt.cells 3 := fun m => kRt.len m
theorem kindRt : Kind Tryd.prog 38 kRt.cells (.agg #[.slice none 0 0, .int .i64 0, .int .i64 0]) 3 40 where
  elem := by unfold ElemK; kernel_rfl
  zs := rfl
  pos := by decide
  size := szRt_cells
  one := fun m u hu => kRt.one m u hu
def okLRt (l : List Rtt) : Prop := l.length ≤ 9223372036854775807 ∧ ∀ x ∈ l, okRt x
section
variable {w : World} {V : Value} {l : List Rtt} {B E : Nat}
theorem kLRt_at (h : kLRt.At w V l) : ∃ ad n cap L, V = .slice ad n cap ∧ n = L.length ∧ L.map kRt.strip = l ∧ HoldsK kRt.cells 3 w (.slice ad n cap) L ∧ ∀ x ∈ L, kRt.holds w x := by
  obtain ⟨⟨ad, n, cap, L⟩, hV, hl, hh, hel⟩ := h
  exact ⟨ad, n, cap, L, hV, HoldsK.lenEq (show HoldsK kRt.cells 3 w (.slice ad n cap) L from hh), hl, hh, hel⟩
theorem kLRt_shapeA (h : kLRt.At w V l) : ∃ x n c, V = .slice x n c ∧ kLRt.At w (.slice x n c) l := by
  obtain ⟨ad, n, cap, L, rfl, -⟩ := kLRt_at h
  exact ⟨ad, n, cap, rfl, h⟩
theorem kLRt_shape (h : kLRt.In B E w V l) : ∃ x n c, V = .slice x n c ∧ kLRt.In B E w (.slice x n c) l := by
  obtain ⟨ad, n, cap, L, rfl, -⟩ := kLRt_at h.at
  exact ⟨ad, n, cap, rfl, h⟩
theorem kLRt_elem {x : Option Addr} {n cap : Nat} {L : List Rtm} (h : HoldsK kRt.cells 3 w (.slice x n cap) L) (hel : ∀ y ∈ L, kRt.holds w y) {j : Nat} (hj : j < L.length) :
    ∃ (b off : Nat) (x0 : Option Addr) (n0 c0 : Nat), x = some ⟨b, off, none⟩ ∧ kRt.cells (nth L j) = [.slice x0 n0 c0, .int .i64 (kRt.strip (nth L j)).2.1, .int .i64 (kRt.strip (nth L j)).2.2] ∧ w.cell? ⟨b, off + j * 3, none⟩ = some (.slice x0 n0 c0) ∧ w.cell? ⟨b, off + j * 3 + 1, none⟩ = some (.int .i64 (kRt.strip (nth L j)).2.1) ∧ w.cell? ⟨b, off + j * 3 + 2, none⟩ = some (.int .i64 (kRt.strip (nth L j)).2.2) ∧ kRt.At w (.agg #[.slice x0 n0 c0, .int .i64 (kRt.strip (nth L j)).2.1, .int .i64 (kRt.strip (nth L j)).2.2]) (kRt.strip (nth L j)) := by
  obtain ⟨b, off, hx, hc⟩ := h.at szRt_cells hj
  obtain ⟨x0, n0, c0, e, ha⟩ := kRt_shapeA (Kd.at_of (k := kRt) (hel _ (nth_mem hj)))
  have d : kRt.cells (nth L j) = [.slice x0 n0 c0, .int .i64 (kRt.strip (nth L j)).2.1, .int .i64 (kRt.strip (nth L j)).2.2] := by injection e with e; exact congrArg Array.toList e
  rw [d] at hc
  exact ⟨b, off, x0, n0, c0, hx, d, by have := hc 0 (by decide); simpa [Nat.add_assoc] using this, by have := hc 1 (by decide); simpa [Nat.add_assoc] using this, by have := hc 2 (by decide); simpa [Nat.add_assoc] using this, ha⟩
end
set_option maxHeartbeats 4000000 in
theorem szRouteSK (V : Value) (l : List Rtt) (w : World) (left : Int) (h : kLRt.At w V l) (hp : okLRt l) (h0 : 0 ≤ left) (h1 : left ≤ 1048576) :
    Calls Tryd.prog 4 #[V, .int .i64 left] w fun e w' => e = .returned (.int .i64 (szW (bulkK wtRt l) left)) ∧ Below w.heap.size w w' := by
  obtain ⟨ad, n, cap, L, rfl, hn, hl, hh, hel⟩ := kLRt_at h
  have hle := bulkKTo_le wtRt l
  have hb0 := bulkKTo_zero wtRt l
  have hlen : l.length = n := by rw [← hl, List.length_map]; exact hn.symm
  obtain ⟨p0, hs⟩ := hp
  rw [hlen] at p0 hb0
  by_cases hbig : left < (n : Int)
  · have hS : szW (bulkK wtRt l) left = -1 := szW_not (by have := bulkK_len wtRt l; omega)
    rw [hS]
    clear hh h hs hle hn hb0 hS hl hlen hel
    go_enter Tryd.func4, Tryd.ntmps4
    go_wp2
    go_ret
    exact ⟨rfl, Below.refl _ _⟩
  have HN := Lib.hid hn; have HT := Lib.hid hl; have HH := Lib.hid hh; have HEL := Lib.hid hel; have HS := Lib.hid hs; have HLE := Lib.hid hle; have HB0 := Lib.hid hb0; have HLEN := Lib.hid hlen
  clear hn h hh hs hle hb0 hl hlen hel
  go_enter Tryd.func4, Tryd.ntmps4
  go_wp2
  go_loopw [1, 5] (fun lv i wr => ∃ k : Nat, k ≤ n ∧ i = .int .i64 k ∧ ∃ u : Int, lv = .int .i64 u ∧ u = left - bulkKTo wtRt l k ∧ 0 ≤ u ∧ Hid (Below w.heap.size w wr)) (fun _ i _ => n - (intOf i).toNat)
  case atStart => exact ⟨0, Nat.zero_le _, rfl, _, rfl, by rw [HB0.out], by omega, Lib.hid (Below.refl _ _)⟩
  case round =>
    obtain ⟨k, hk, rfl, u, rfl, hu, h0u, hb⟩ := hrel
    have hub : u ≤ left := by omega
    have HU := Lib.hid hu
    clear hu
    by_cases hlt : k < n
    · have hlen := HN.out
      obtain ⟨b, off, x0, n0, c0, rfl, -, hc0, hc1, hc2, ha⟩ := kLRt_elem (HH.out.on hb.out) (fun y hy => kRt.holds_on (HEL.out y hy) hb.out) (j := k) (by omega)
      have hpt : nth l k = kRt.strip (nth L k) := by rw [← HT.out, nth_map _ (by omega)]
      have hsz := HS.out (nth l k) (nth_mem (by have := HLEN.out; omega))
      rw [hpt] at hsz
      have HA := Lib.hid ha
      have HSZ := Lib.hid hsz
      have hstep := Lib.hid (bulkKTo_succ wtRt l (j := k) (by have := HLEN.out; omega))
      rw [hpt] at hstep
      have HALL := Lib.hid (HLE.out (k + 1))
      clear hlen hsz hpt ha
      go_wp2_with fail
      refine (szRouteK _ _ wr u HA.out HSZ.out h0u (by omega)).mono ?_
      rintro e w1 ⟨rfl, hb1⟩
      have HB1 := Lib.hid (hb.out.trans (hb1.mono hb.out.size))
      clear hb1 hc0 hc1 hc2
      by_cases c1 : (wtRt (kRt.strip (nth L k)) : Int) ≤ u
      · rw [szW_fit c1]
        have h2 : ¬ u - (wtRt (kRt.strip (nth L k)) : Int) < 0 := by omega
        go_wp2
        go_roundw
        case rel => exact ⟨k + 1, by omega, by go_num, _, rfl, by rw [hstep.out, HU.out]; omega, by omega, HB1⟩
        case measure => simp [intOf]; omega
      · rw [szW_not c1]
        have HZ : Hid (szW (bulkK wtRt l) left = -1) := by
          have e1 := HALL.out; have e2 := HU.out; have e3 := hstep.out
          exact Lib.hid (szW_not (by omega))
        clear c1
        go_wp2
        go_ret
        exact ⟨ret_int HZ.out.symm, HB1.out⟩
    · obtain rfl : k = n := by omega
      clear hlt
      go_wp2
      go_ret
      refine ⟨ret_int ?_, hb.out⟩
      have := HU.out
      rw [← HLEN.out] at this
      rw [szW_fit (by unfold bulkK; omega)]
      exact this
set_option maxHeartbeats 4000000 in
theorem toRouteSK (V : Value) (l : List Rtt) (w : World) (h : kLRt.At w V l) (hl : l.length ≤ 100000000) (hs : ∀ x ∈ l, adRt x ≤ 100000000) :
    Calls Tryd.prog 6 #[V] w fun e w' => ∃ U, e = .returned U ∧ kLRt.In w.heap.size w'.heap.size w' U l ∧ Below w.heap.size w w' := by
  obtain ⟨ad, n, cap, L, rfl, hn, ht, hh, hel⟩ := kLRt_at h
  obtain ⟨i0, hi, hz0, hz1, hz2⟩ := info_parts kindRt.elem
  have hlen : l.length = n := by rw [← ht, List.length_map]; exact hn.symm
  rw [hlen] at hl
  have HN := Lib.hid hn; have HT := Lib.hid ht; have HH := Lib.hid hh; have HEL := Lib.hid hel; have HS := Lib.hid hs; have HLEN := Lib.hid hlen
  have HI := Lib.hid hi; have HZ0 := Lib.hid hz0; have HZ1 := Lib.hid hz1; have HZ2 := Lib.hid hz2
  clear hn h hh hi hz0 hz1 hz2 hs ht hel hlen
  go_enter Tryd.func6, Tryd.ntmps6
  go_wp2_with (at_make; refine wpList_make_full _ rfl _ _ 25 rfl w.heap.size 38 i0 (.agg #[.slice none 0 0, .int .i64 0, .int .i64 0]) 3 Tryd.underlying25 HI.out HZ0.out HZ1.out _ _ _ _ n rfl rfl rfl rfl (by rw [HZ2.out]; omega) (by unfold maxLen; omega) (Nat.le_refl _) ?_)
  intro w1 hown hgrow
  have ho : OwnK 38 kRt.cells 3 w.heap.size w1 (.slice (some ⟨w.heap.size, 0, none⟩) n n) (madeK' [] n) := by
    have e1 : madeK' ([] : List Rtm) n = List.replicate n default := by simp [madeK']
    rw [e1]
    unfold OwnK
    rw [List.length_replicate, ← madeK szRt_cells (by decide) (z := .agg #[.slice none 0 0, .int .i64 0, .int .i64 0]) rfl n]
    exact hown
  have HO := Lib.hid ho
  have HB := Lib.hid ((Below.refl w.heap.size w).grown hgrow (Nat.le_refl _) (fun g hg => by cases hg))
  have HG := Lib.hid (show w.heap.size < w1.heap.size from (OwnK.lt ho _ rfl).2)
  clear ho hown hgrow
  go_wp2
  go_loopw [4] (fun i wr => ∃ j : Nat, j ≤ n ∧ i = .int .i64 j ∧ ∃ M : List Rtm, Hid (M.length = j) ∧ Hid (M.map kRt.strip = l.take j) ∧ Hid (OwnK 38 kRt.cells 3 w.heap.size wr (.slice (some ⟨w.heap.size, 0, none⟩) n n) (madeK' M n)) ∧ Hid (kRt.EOwn (w.heap.size + 1) wr.heap.size wr M) ∧ Hid (Below w.heap.size w wr)) (fun i _ => n - (intOf i).toNat)
  case atStart => exact ⟨0, Nat.zero_le _, rfl, [], Lib.hid rfl, Lib.hid (by simp), HO, Lib.hid (Kd.EOwn.nil _ _ _ _), HB⟩
  case round =>
    obtain ⟨j, hj, rfl, M, hM, hst, ho, he, hb⟩ := hrel
    by_cases hlt : j < n
    · have hlen := HN.out
      obtain ⟨b, off, x0, n0, c0, rfl, -, hc0, hc1, hc2, ha⟩ := kLRt_elem (HH.out.on hb.out) (fun y hy => kRt.holds_on (HEL.out y hy) hb.out) (j := j) (by omega)
      have HA := Lib.hid ha
      have hpt : nth l j = kRt.strip (nth L j) := by rw [← HT.out, nth_map _ (by omega)]
      have hps := HS.out (nth l j) (nth_mem (by have := HLEN.out; omega))
      rw [hpt] at hps
      have HPS := Lib.hid hps
      have HST := Lib.hid (show l.take (j + 1) = l.take j ++ [kRt.strip (nth L j)] by rw [← HT.out]; exact take_map_succ _ (by omega))
      clear hlen ha hpt hps
      go_wp2_with fail
      refine (toRouteK _ _ wr HA.out HPS.out).mono ?_
      rintro e w1 ⟨U, rfl, hi1, hb1⟩
      obtain ⟨m1, rfl, hm1, hi1⟩ := hi1.split
      obtain ⟨xy0, ny0, cy0, ey, -⟩ := kRt_shapeA (Kd.at_of (k := kRt) hi1.holds)
      have dy : kRt.cells m1 = [.slice xy0 ny0 cy0, .int .i64 (kRt.strip m1).2.1, .int .i64 (kRt.strip m1).2.2] := by injection ey with e; exact congrArg Array.toList e
      rw [ey]
      have HO1 := Lib.hid (ho.out.on hb1)
      have HE1 := Lib.hid (he.out.on hb1 (Nat.le_refl _))
      have HX := Lib.hid hi1
      have HB1 := Lib.hid (hb.out.trans (hb1.mono hb.out.size))
      have HSZ := Lib.hid hb1.size
      have HDY := Lib.hid dy
      have HM1 := Lib.hid hm1
      have hml : n = (madeK' M n).length := (madeK'_length (by have := hM.out; omega)).symm
      have hmj : j < (madeK' M n).length := by omega
      have hgl := (OwnK.lt HO1.out _ rfl).2
      have hgr := (OwnK.lt ho.out _ rfl).2
      obtain ⟨k0, f0⟩ := ownK_cell szRt_cells HO1.out hml hmj (i := 0) (by decide)
      obtain ⟨z0, hz0⟩ : ∃ z, w1.cell? ⟨w.heap.size, j * 3, none⟩ = some z := ⟨_, by simpa [Nat.add_zero] using (k0.trans (List.getElem?_eq_getElem (by rw [kRt.len]; decide)))⟩
      have g0 : w1.frozen? ⟨w.heap.size, j * 3, none⟩ = false := by simpa using f0
      clear k0 f0
      obtain ⟨k1, f1⟩ := ownK_cell szRt_cells HO1.out hml hmj (i := 1) (by decide)
      obtain ⟨z1, hz1⟩ : ∃ z, w1.cell? ⟨w.heap.size, j * 3 + 1, none⟩ = some z := ⟨_, by simpa [] using (k1.trans (List.getElem?_eq_getElem (by rw [kRt.len]; decide)))⟩
      have g1 : w1.frozen? ⟨w.heap.size, j * 3 + 1, none⟩ = false := by simpa using f1
      clear k1 f1
      obtain ⟨k2, f2⟩ := ownK_cell szRt_cells HO1.out hml hmj (i := 2) (by decide)
      obtain ⟨z2, hz2⟩ : ∃ z, w1.cell? ⟨w.heap.size, j * 3 + 2, none⟩ = some z := ⟨_, by simpa [] using (k2.trans (List.getElem?_eq_getElem (by rw [kRt.len]; decide)))⟩
      have g2 : w1.frozen? ⟨w.heap.size, j * 3 + 2, none⟩ = false := by simpa using f2
      clear k2 f2
      have p1 := ownK_put szRt_cells HO1.out hml hmj m1
      have p2 := setCells_grown w.heap.size (kRt.cells m1) (j * 3) w1
      rw [dy] at p1 p2
      have HP1 := Lib.hid (show OwnK 38 kRt.cells 3 w.heap.size (((w1.setCell ⟨w.heap.size, j * 3, none⟩ (.slice xy0 ny0 cy0)).setCell ⟨w.heap.size, j * 3 + 1, none⟩ (.int .i64 (kRt.strip m1).2.1)).setCell ⟨w.heap.size, j * 3 + 2, none⟩ (.int .i64 (kRt.strip m1).2.2)) _ _ from p1)
      have HP2 := Lib.hid (show w1.grownBy (((w1.setCell ⟨w.heap.size, j * 3, none⟩ (.slice xy0 ny0 cy0)).setCell ⟨w.heap.size, j * 3 + 1, none⟩ (.int .i64 (kRt.strip m1).2.1)).setCell ⟨w.heap.size, j * 3 + 2, none⟩ (.int .i64 (kRt.strip m1).2.2)) (some w.heap.size) from p2)
      have HGL := Lib.hid hgl; have HGR := Lib.hid hgr
      clear hc0 hc1 hc2 hi1 hb1 hml hmj p1 p2 dy ey hm1 hgl hgr
      go_wp2
      go_roundw
      case rel =>
        refine ⟨j + 1, by omega, by go_num, M ++ [m1], Lib.hid (by simp [hM.out]), Lib.hid ?_, Lib.hid ?_, Lib.hid ?_, Lib.hid (HB1.out.grown HP2.out HB1.out.size (fun g hg => by cases hg; exact Nat.le_refl _))⟩
        · rw [List.map_append, hst.out, HST.out, List.map_cons, List.map_nil, HM1.out]
        · rw [← madeK'_step (by have := hM.out; omega), hM.out]; exact HP1.out
        · have h7 := HP2.out.size
          have h8 := HGR.out
          have h9 := HSZ.out
          exact ((HE1.out.snoc HX.out (by omega) (by omega)).grown HP2.out (by omega) (Nat.le_refl _)).keep (fun _ _ _ => rfl) |> fun h => ⟨h.1, h.2.1, fun g hg => ⟨(h.2.2 g hg).1, Nat.lt_of_lt_of_le (h.2.2 g hg).2 h7⟩⟩
      case measure => simp [intOf]; omega
    · obtain rfl : j = n := by omega
      clear hlt
      go_wp2
      go_ret
      refine ⟨_, rfl, ?_, hb.out⟩
      have h1 := ho.out
      rw [madeK'_all hM.out] at h1
      have h2 : M.map kRt.strip = l := by rw [hst.out, List.take_of_length_le (by rw [HLEN.out]; omega)]
      have h3 := (he.out.slice h1 (OwnK.lt h1 _ rfl).2).in
      rw [← h2]
      exact h3
theorem eqRouteSK_len (x y : Option Addr) (n m cx cy : Nat) (w : World) (h : (((n : Nat) : Int) != ((m : Nat) : Int)) = true) :
    Calls Tryd.prog 8 #[.slice x n cx, .slice y m cy] w fun e w' => e = .returned (.bool false) ∧ w = w' := by
  go_enter Tryd.func8, Tryd.ntmps8
  go_wp2
  go_ret
  exact ⟨rfl, rfl⟩
theorem differ_Rt {α : Type} [Inhabited α] {a b : List α} {k : Nat} (h : nth a k ≠ nth b k) : a ≠ b := fun e => h (by rw [e])
set_option maxHeartbeats 4000000 in
theorem eqRouteSK (V U : Value) (l m : List Rtt) (w : World) (q : Bool) (hq : decide (l = m) = q) (h : kLRt.At w V l) (g : kLRt.At w U m) (hl : l.length ≤ 100000000) (hm : m.length ≤ 100000000) (hsl : ∀ x ∈ l, adRt x ≤ 100000000) (hsm : ∀ x ∈ m, adRt x ≤ 100000000) :
    Calls Tryd.prog 8 #[V, U] w fun e w' => e = .returned (.bool q) ∧ Below w.heap.size w w' := by
  obtain ⟨x, n, cx, L, rfl, hn, hL, hh, hel⟩ := kLRt_at h
  obtain ⟨y, n2, cy, M, rfl, hn2, hM, hg, hem⟩ := kLRt_at g
  have hnl : l.length = n := by rw [← hL, List.length_map]; exact hn.symm
  have hnm : m.length = n2 := by rw [← hM, List.length_map]; exact hn2.symm
  by_cases he : n = n2
  · subst he
    rw [hnl] at hl
    have HN := Lib.hid hn; have HM := Lib.hid hn2; have HNL := Lib.hid hnl; have HNM9 := Lib.hid hnm
    have HH := Lib.hid hh; have HG := Lib.hid hg; have HEL := Lib.hid hel; have HEM := Lib.hid hem
    have HTL := Lib.hid hL; have HTM := Lib.hid hM; have HQ := Lib.hid hq; have HSL := Lib.hid hsl; have HSM := Lib.hid hsm
    have htest : (((n : Nat) : Int) != ((n : Nat) : Int)) = false := by simp
    clear hn h hh g hg hn2 hL hM hq hsl hsm hel hem hnl hnm hm
    go_enter Tryd.func8, Tryd.ntmps8
    go_wp2
    go_loopw [5] (fun i wr => ∃ k : Nat, k ≤ n ∧ i = .int .i64 k ∧ Hid (agree l m k) ∧ Hid (Below w.heap.size w wr)) (fun i _ => n - (intOf i).toNat)
    case atStart => exact ⟨0, Nat.zero_le _, rfl, Lib.hid (agree_zero _ _), Lib.hid (Below.refl _ _)⟩
    case round =>
      obtain ⟨k, hk, rfl, ha, hb⟩ := hrel
      by_cases hlt : k < n
      · have hlen := HN.out
        have hlen2 := HM.out
        obtain ⟨b, off, x0, n0, c0, rfl, -, hc0, hc1, hc2, hnm⟩ := kLRt_elem (HH.out.on hb.out) (fun y hy => kRt.holds_on (HEL.out y hy) hb.out) (j := k) (by omega)
        obtain ⟨b', off', xy0, ny0, cy0, rfl, -, hd0, hd1, hd2, hnm'⟩ := kLRt_elem (HG.out.on hb.out) (fun y hy => kRt.holds_on (HEM.out y hy) hb.out) (j := k) (by omega)
        have e1 : nth l k = kRt.strip (nth L k) := by rw [← HTL.out, nth_map _ (by omega)]
        have e2 : nth m k = kRt.strip (nth M k) := by rw [← HTM.out, nth_map _ (by omega)]
        have hl1 := HSL.out (nth l k) (nth_mem (by have := HNL.out; omega)); rw [e1] at hl1
        have hl2 := HSM.out (nth m k) (nth_mem (by have := HNM9.out; omega)); rw [e2] at hl2
        have HL := Lib.hid hl1; have HL' := Lib.hid hl2
        have HC0 := Lib.hid hc0; have HD0 := Lib.hid hd0; have HC1 := Lib.hid hc1; have HD1 := Lib.hid hd1; have HC2 := Lib.hid hc2; have HD2 := Lib.hid hd2
        have HNM := Lib.hid hnm; have HNM' := Lib.hid hnm'
        by_cases hq : kRt.strip (nth L k) = kRt.strip (nth M k)
        · have HE1 : Hid (decide (kRt.strip (nth L k) = kRt.strip (nth M k)) = true) := Lib.hid (decide_eq_true hq)
          have HA := Lib.hid (agree_succ ha.out (by rw [e1, e2, hq]))
          clear hq hlen hlen2 e1 e2 hc0 hc1 hc2 hd0 hd1 hd2 hnm hnm' hl1 hl2
          go_wp2_with fail
          go_region_held3 (fun w' => w'.cell? ⟨b, off + k * 3, none⟩ = some (.slice x0 n0 c0) ∧ w'.cell? ⟨b, off + k * 3 + 1, none⟩ = some (.int .i64 (kRt.strip (nth L k)).2.1) ∧ w'.cell? ⟨b, off + k * 3 + 2, none⟩ = some (.int .i64 (kRt.strip (nth L k)).2.2) ∧ w'.cell? ⟨b', off' + k * 3, none⟩ = some (.slice xy0 ny0 cy0) ∧ w'.cell? ⟨b', off' + k * 3 + 1, none⟩ = some (.int .i64 (kRt.strip (nth M k)).2.1) ∧ w'.cell? ⟨b', off' + k * 3 + 2, none⟩ = some (.int .i64 (kRt.strip (nth M k)).2.2) ∧ Below w.heap.size w w') (first | exact ⟨kc HC0.out ((Below.refl _ _).drew), kc HC1.out ((Below.refl _ _).drew), kc HC2.out ((Below.refl _ _).drew), kc HD0.out ((Below.refl _ _).drew), kc HD1.out ((Below.refl _ _).drew), kc HD2.out ((Below.refl _ _).drew), hb.out.trans (Below.mono ((Below.refl _ _).drew) hb.out.size)⟩ | exact ⟨kc HC0.out (hb1.mono (Nat.le_refl _)), kc HC1.out (hb1.mono (Nat.le_refl _)), kc HC2.out (hb1.mono (Nat.le_refl _)), kc HD0.out (hb1.mono (Nat.le_refl _)), kc HD1.out (hb1.mono (Nat.le_refl _)), kc HD2.out (hb1.mono (Nat.le_refl _)), hb.out.trans (Below.mono (hb1.mono (Nat.le_refl _)) hb.out.size)⟩ | exact ⟨kc HC0.out ((Below.refl _ _).drew.trans (hb1.mono (Nat.le_refl _))), kc HC1.out ((Below.refl _ _).drew.trans (hb1.mono (Nat.le_refl _))), kc HC2.out ((Below.refl _ _).drew.trans (hb1.mono (Nat.le_refl _))), kc HD0.out ((Below.refl _ _).drew.trans (hb1.mono (Nat.le_refl _))), kc HD1.out ((Below.refl _ _).drew.trans (hb1.mono (Nat.le_refl _))), kc HD2.out ((Below.refl _ _).drew.trans (hb1.mono (Nat.le_refl _))), hb.out.trans (Below.mono ((Below.refl _ _).drew.trans (hb1.mono (Nat.le_refl _))) hb.out.size)⟩) ((go_at_call 16; refine (eqRouteK _ _ _ _ _ _ HE1.out (HNM.out.on (Below.refl _ _).drew) (HNM'.out.on (Below.refl _ _).drew) HL.out HL'.out).mono ?_; rintro e w1 ⟨rfl, hb1⟩))
          all_goals
            have HB2 := Lib.hid (hb.out.drew.trans (hb1.mono hb.out.size))
            clear hb1
            go_wp2_with fail
            go_roundw
            case rel => exact ⟨k + 1, by omega, by go_num, HA, HB2⟩
            case measure => simp [intOf]; omega
        · have HE1 : Hid (decide (kRt.strip (nth L k) = kRt.strip (nth M k)) = false) := Lib.hid (decide_eq_false hq)
          have HA : Hid (q = false) := Lib.hid (by rw [← HQ.out]; exact decide_eq_false (differ_Rt (k := k) (by rw [e1, e2]; exact hq)))
          clear hq hlen hlen2 e1 e2 hc0 hc1 hc2 hd0 hd1 hd2 hnm hnm' hl1 hl2
          go_wp2_with fail
          go_region_held3 (fun w' => w'.cell? ⟨b, off + k * 3, none⟩ = some (.slice x0 n0 c0) ∧ w'.cell? ⟨b, off + k * 3 + 1, none⟩ = some (.int .i64 (kRt.strip (nth L k)).2.1) ∧ w'.cell? ⟨b, off + k * 3 + 2, none⟩ = some (.int .i64 (kRt.strip (nth L k)).2.2) ∧ w'.cell? ⟨b', off' + k * 3, none⟩ = some (.slice xy0 ny0 cy0) ∧ w'.cell? ⟨b', off' + k * 3 + 1, none⟩ = some (.int .i64 (kRt.strip (nth M k)).2.1) ∧ w'.cell? ⟨b', off' + k * 3 + 2, none⟩ = some (.int .i64 (kRt.strip (nth M k)).2.2) ∧ Below w.heap.size w w') (first | exact ⟨kc HC0.out ((Below.refl _ _).drew), kc HC1.out ((Below.refl _ _).drew), kc HC2.out ((Below.refl _ _).drew), kc HD0.out ((Below.refl _ _).drew), kc HD1.out ((Below.refl _ _).drew), kc HD2.out ((Below.refl _ _).drew), hb.out.trans (Below.mono ((Below.refl _ _).drew) hb.out.size)⟩ | exact ⟨kc HC0.out (hb1.mono (Nat.le_refl _)), kc HC1.out (hb1.mono (Nat.le_refl _)), kc HC2.out (hb1.mono (Nat.le_refl _)), kc HD0.out (hb1.mono (Nat.le_refl _)), kc HD1.out (hb1.mono (Nat.le_refl _)), kc HD2.out (hb1.mono (Nat.le_refl _)), hb.out.trans (Below.mono (hb1.mono (Nat.le_refl _)) hb.out.size)⟩ | exact ⟨kc HC0.out ((Below.refl _ _).drew.trans (hb1.mono (Nat.le_refl _))), kc HC1.out ((Below.refl _ _).drew.trans (hb1.mono (Nat.le_refl _))), kc HC2.out ((Below.refl _ _).drew.trans (hb1.mono (Nat.le_refl _))), kc HD0.out ((Below.refl _ _).drew.trans (hb1.mono (Nat.le_refl _))), kc HD1.out ((Below.refl _ _).drew.trans (hb1.mono (Nat.le_refl _))), kc HD2.out ((Below.refl _ _).drew.trans (hb1.mono (Nat.le_refl _))), hb.out.trans (Below.mono ((Below.refl _ _).drew.trans (hb1.mono (Nat.le_refl _))) hb.out.size)⟩) ((go_at_call 16; refine (eqRouteK _ _ _ _ _ _ HE1.out (HNM.out.on (Below.refl _ _).drew) (HNM'.out.on (Below.refl _ _).drew) HL.out HL'.out).mono ?_; rintro e w1 ⟨rfl, hb1⟩))
          all_goals
            have HB2 := Lib.hid (hb.out.drew.trans (hb1.mono hb.out.size))
            clear hb1
            go_wp2_with fail
            go_ret
            exact ⟨ret_bool HA.out.symm, HB2.out⟩
      · obtain rfl : k = n := by omega
        have HD : Hid (q = true) := Lib.hid (by rw [← HQ.out]; exact decide_eq_true (agree_all (by rw [HNL.out, HNM9.out]) (by rw [HNL.out]; exact ha.out)))
        clear hlt
        go_wp2
        go_ret
        exact ⟨ret_bool HD.out.symm, hb.out⟩
  · have htest : (((n : Nat) : Int) != ((n2 : Nat) : Int)) = true := by
      rw [bne_iff_ne]; omega
    have hf : q = false := by rw [← hq]; exact decide_eq_false (fun e => he (by rw [← hnl, ← hnm, e]))
    rw [hf]
    exact (eqRouteSK_len x y _ _ cx cy w htest).mono fun e w' ⟨h1, h2⟩ => ⟨h1, by subst h2; exact Below.refl _ _⟩
theorem sameLRtK (V U : Value) (l : List Rtt) (w : World) (h : kLRt.At w V l) (g : kLRt.At w U l) (hl : l.length ≤ 100000000) (hs : ∀ x ∈ l, adRt x ≤ 100000000) :
    Calls Tryd.prog 8 #[V, U] w fun e w' => e = .returned (.bool true) ∧ Below w.heap.size w w' := eqRouteSK V U l l w true (by simp) h g hl hl hs hs
def inLRt (l : List Rtt) : Prop := l.length ≤ 9223372036854775807 ∧ ∀ x ∈ l, inRt x
theorem inLRt.ok {l : List Rtt} (h : inLRt l) : okLRt l := ⟨h.1, fun x hx => (h.2 x hx).ok⟩
def adLRt (l : List Rtt) : Nat := bulkK adRt l
theorem adLRt_big {l : List Rtt} {n : Nat} (h : bulkK wtRt l ≤ n) : adLRt l ≤ n := Nat.le_trans (bulkK_mono adRt_le l) h
theorem szLRtK (V : Value) (l : List Rtt) (w : World) (left : Int) (h : kLRt.At w V l) (hl : inLRt l) (hs : inLRt l) (h0 : 0 ≤ left) (h1 : left ≤ 1048576) :
    Calls Tryd.prog 4 #[V, .int .i64 left] w fun e w' => e = .returned (.int .i64 (szW (bulkK wtRt l) left)) ∧ Below w.heap.size w w' := szRouteSK V l w left h hs.ok h0 h1
theorem toLRtK (V : Value) (l : List Rtt) (w : World) (h : kLRt.At w V l) (hl : adLRt l ≤ 100000000) :
    Calls Tryd.prog 6 #[V] w fun e w' => ∃ U, e = .returned U ∧ kLRt.In w.heap.size w'.heap.size w' U l ∧ Below w.heap.size w w' :=
  toRouteSK V l w h (Nat.le_trans (bulkK_len _ _) hl) (fun x hx => Nat.le_trans (bulkK_mem hx) hl)
theorem eqLRtK (V U : Value) (l : List Rtt) (w : World) (h : kLRt.At w V l) (g : kLRt.At w U l) (hl : adLRt l ≤ 100000000) :
    Calls Tryd.prog 8 #[V, U] w fun e w' => e = .returned (.bool true) ∧ Below w.heap.size w w' :=
  sameLRtK V U l w h g (Nat.le_trans (bulkK_len _ _) hl) (fun x hx => Nat.le_trans (bulkK_mem hx) hl)
theorem opens_RouteS : OpensK Tryd.prog kLRt 22 inLRt := opens_slice Tryd.underlying22 (by kernel_rfl) (by decide) opens_Route
end Go.Proofs.YtdaahcaafdleaabDoor.Row
/- Searching a list for the first element of which something holds; what is asked of a closure that is handed to the library. For any kind. No conditions. -/
namespace Go.Proofs.YtdaahcaafdleaabDoor.Row
open Go.ChangeShapes Go.WideShapes Go.ChangeAt Go.RowKit Go.Instr
set_option linter.unusedVariables false
set_option maxRecDepth 100000
section
variable {α : Type} [Inhabited α] {p : α → Bool} {l : List α} {k : Nat}
def ixL (p : α → Bool) (l : List α) : Int := if l.findIdx p < l.length then (l.findIdx p : Int) else -1
def noL (p : α → Bool) (l : List α) (k : Nat) : Prop := ∀ j, j < k → p (nth l j) = false
end
def ClosK {α M : Type} (P : Program) (k : Kd α M) (fid : FuncId) (cap : Array Value) (p : α → Bool) (ok : α → Prop) (w : World) : Prop :=
  ∀ (x : α) (V : Value) (W : World), Below w.heap.size w W → k.At W V x → ok x → Calls P fid (#[V] ++ cap) W fun e w' => e = .returned (.bool (p x)) ∧ Below W.heap.size W w'
theorem ClosK.on {α M : Type} {P : Program} {k : Kd α M} {fid : FuncId} {cap : Array Value} {p : α → Bool} {ok : α → Prop} {w w' : World} (h : ClosK P k fid cap p ok w) (hb : Below w.heap.size w w') : ClosK P k fid cap p ok w' := fun x V W hW => h x V W (hb.trans (hW.mono hb.size))
end Go.Proofs.YtdaahcaafdleaabDoor.Row
/- A list of elements of a kind, all of the call's own, grows by an append: the row apart from what is beneath its elements by its type. For any kind. No conditions. -/
namespace Go.Proofs.YtdaahcaafdleaabDoor.Row
open Go.ChangeShapes Go.WideShapes Go.ChangeAt Go.RowKit Go.Instr
set_option linter.unusedVariables false
set_option maxRecDepth 100000
section
variable {α M β N : Type} {k : Kd α M} {l : Kd β N} {e e' : TypeId} {B C E : Nat} {w w' : World} {r : Rw M} {x : M}
def Kd.NoRow (k : Kd α M) (e : TypeId) : Prop := ∀ (B : Nat) (w : World) (m : M), k.own B w m → ∀ g ∈ k.blocks m, ∀ cs, w.heap[g]? ≠ some (.cells cs e)
theorem Kd.NoRow.wrap (h : k.NoRow e) : k.wrap.NoRow e := fun B w m hm g hg => h B w m hm g hg
theorem Kd.NoRow.pair (h : k.NoRow e) (g : l.NoRow e) : (k.pair l).NoRow e := fun B w m hm q hq => by
  rcases List.mem_append.1 (show q ∈ k.blocks m.1 ++ l.blocks m.2 from hq) with hq | hq
  · exact h B w m.1 hm.1 q hq
  · exact g B w m.2 hm.2 q hq
theorem OwnK.row {enc : α → List Value} {sz : Nat} {v : Value} {L : List α} (h : OwnK e enc sz B w v L) {g : Nat} (hg : v.ownBlock = some g) : ∃ cs, w.heap[g]? = some (.cells cs e) := by
  rcases h.2 with ⟨rfl, -⟩ | ⟨g2, cap, cur, rfl, -, hh, -⟩
  · cases hg
  · have e2 : g2 = g := by simpa [Value.ownBlock] using hg
    exact ⟨cur, e2 ▸ hh⟩
theorem Kd.NoRow.slice (h : k.NoRow e) (hne : e' ≠ e) : (k.slice e').NoRow e := fun B w m hm q hq => by
  rcases List.mem_append.1 (show q ∈ m.v.ownBlock.toList ++ m.els.flatMap k.blocks from hq) with hq | hq
  · intro cs hc
    obtain ⟨cs2, h2⟩ := hm.1.row (g := q) (by simpa using hq)
    rw [h2] at hc
    injection hc with hc
    injection hc with h3 h4
    exact hne h4
  · obtain ⟨y, hy, hyq⟩ := List.mem_flatMap.1 hq
    exact h B w y (hm.2 y hy) q hyq
end
end Go.Proofs.YtdaahcaafdleaabDoor.Row
/- Contracts of the library's slices.Grow at the nil slice, slices.Concat, slices.Equal and slices.Clone at slices of strings. No conditions but that lengths fit. -/
namespace Go.Proofs.YtdaahcaafdleaabDoor.Row
open Go.ChangeShapes Go.WideShapes Go.ChangeAt Go.RowKit Go.Instr
set_option linter.unusedVariables false
set_option maxRecDepth 100000
def GivesS (w : World) (l : List ByteArray) (e : Ending) (w' : World) : Prop := ∃ v, e = .returned v ∧ Own 9 Value.string w.heap.size w' v l ∧ Below w.heap.size w w'
def cat (ls : Nat → List ByteArray) : Nat → List ByteArray
  | 0 => []
  | k + 1 => cat ls k ++ ls k
end Go.Proofs.YtdaahcaafdleaabDoor.Row
/- Contracts of CompareNames and EqualNames, the program's and the reference model's, and of the library's Compare and Equal on slices of strings: parts are compared one by one, byte by byte, then the lengths. No conditions but that lengths fit. -/
namespace Go.Proofs.YtdaahcaafdleaabDoor.Row
open Go.ChangeShapes Go.WideShapes Go.ChangeAt Go.RowKit Go.Instr
set_option linter.unusedVariables false
set_option maxRecDepth 100000
def cmpS (a b : ByteArray) : Int := if Op.bytesLess a.toList b.toList = true then -1 else if a.toList = b.toList then 0 else 1
def cmpL : List ByteArray → List ByteArray → Int
  | [], [] => 0
  | [], _ :: _ => -1
  | _ :: _, [] => 1
  | a :: x, b :: y => if cmpS a b = 0 then cmpL x y else cmpS a b
end Go.Proofs.YtdaahcaafdleaabDoor.Row
/- Contracts of the integer functions of chapter 1 (without the texts): each returns the plain integer that its definition below says. The functions that only compute leave the world alone; Min and Max make one new block. No conditions but that the arguments fit their kind where sums are formed. -/
namespace Go.Proofs.YtdaahcaafdleaabDoor.Num
open Go.ChangeShapes Go.WideShapes Go.ChangeAt Go.RowKit
set_option linter.unusedVariables false
set_option maxRecDepth 100000
def inB (n a b : Int) : Bool := decide (a ≤ n ∧ n ≤ b)
def minI (a b : Int) : Int := if b < a then b else a
def maxI (a b : Int) : Int := if a < b then b else a
def ceilI (a b : Int) : Int := if 0 ≤ a ∧ a ≤ 1000000000000 ∧ 1 ≤ b ∧ b ≤ 1000000000000 then (a + b - 1) / b else 0
def modI (n m : Int) : Int := if 1 ≤ m ∧ m ≤ 1000000000000 then n % m else 0
end Go.Proofs.YtdaahcaafdleaabDoor.Num
/- Contracts of Truncate, EqualNames and HasPrefix, the program's and the reference model's. No conditions but that lengths fit. -/
namespace Go.Proofs.YtdaahcaafdleaabDoor.Row
open Go.ChangeShapes Go.WideShapes Go.ChangeAt Go.RowKit Go.Instr
set_option linter.unusedVariables false
set_option maxRecDepth 100000
section
variable {α : Type} [Inhabited α] {enc : α → Value} {w : World} {x : Option Addr} {n cap : Nat} {l : List α}
theorem Holds.take (h : Holds enc w (.slice x n cap) l) {j : Nat} (hj : j ≤ l.length) : Holds enc w (.slice x j cap) (l.take j) := by
  obtain ⟨x', cap', hv, hc, hh⟩ := h
  cases hv
  have hl : (l.take j).length = j := by simp; omega
  refine ⟨x, cap, by rw [hl], by omega, ?_⟩
  rcases hh with rfl | ⟨b, off, hx, hh⟩
  · left; simp
  · refine Or.inr ⟨b, off, hx, fun i hi => ?_⟩
    rw [hl] at hi
    rw [hh i (by omega), nth_eq (by omega), nth_eq (by omega)]
    simp
theorem Holds.drop {b off : Nat} (h : Holds enc w (.slice (some ⟨b, off, none⟩) n cap) l) {j : Nat} (hj : j ≤ l.length) : Holds enc w (.slice (some ⟨b, off + j, none⟩) (n - j) (cap - j)) (l.drop j) := by
  obtain ⟨x', cap', hv, hc, hh⟩ := h
  cases hv
  have hl : (l.drop j).length = l.length - j := by simp
  refine ⟨_, cap - j, by rw [hl], by omega, ?_⟩
  rcases hh with rfl | ⟨b', off', hx, hh⟩
  · left; simp
  · cases hx
    refine Or.inr ⟨b, off + j, rfl, fun i hi => ?_⟩
    rw [hl] at hi
    rw [Nat.add_assoc, hh (j + i) (by omega), nth_eq (by omega), nth_eq (by omega)]
    simp
end
def GivesN (w : World) (l : List ByteArray) (e : Ending) (w' : World) : Prop := ∃ v, e = .returned (.agg #[v]) ∧ Own 9 Value.string w.heap.size w' v l ∧ Below w.heap.size w w'
def GivesNB (w : World) (l : List ByteArray) (b : Bool) (e : Ending) (w' : World) : Prop := ∃ v, e = .returned (.tuple #[.agg #[v], .bool b]) ∧ Own 9 Value.string w.heap.size w' v l ∧ Below w.heap.size w w'
def GivesHB (w : World) (l : List ByteArray) (b : Bool) (e : Ending) (w' : World) : Prop := ∃ v, e = .returned (.tuple #[.agg #[v], .bool b]) ∧ Holds Value.string w' v l ∧ Below w.heap.size w w'
def trI (l : List ByteArray) (k : Int) : Nat := (Num.maxI 0 (Num.minI k l.length)).toNat
def trN (l : List ByteArray) (k : Int) : List ByteArray := l.take (trI l k)
end Go.Proofs.YtdaahcaafdleaabDoor.Row
/- Contracts of EqualNames and HasPrefix, the program's and the reference model's. No conditions but that lengths fit. -/
namespace Go.Proofs.YtdaahcaafdleaabDoor.Row
open Go.ChangeShapes Go.WideShapes Go.ChangeAt Go.RowKit Go.Instr
set_option linter.unusedVariables false
set_option maxRecDepth 100000
def hpB (l m : List ByteArray) : Bool := decide (m.length ≤ l.length ∧ l.take m.length = m)
end Go.Proofs.YtdaahcaafdleaabDoor.Row
/- Contracts of ValidPart and ValidName, the program's and the reference model's: a part is right where its size is 1 to 8 and each byte is a small letter, a digit or a minus; a name where each part is and there are at most 6. No conditions but that lengths fit. -/
namespace Go.Proofs.YtdaahcaafdleaabDoor.Row
open Go.ChangeShapes Go.WideShapes Go.ChangeAt Go.RowKit Go.Instr
set_option linter.unusedVariables false
set_option maxRecDepth 100000
def okR (r : Int) : Prop := (97 ≤ r ∧ r ≤ 122) ∨ (48 ≤ r ∧ r ≤ 57) ∨ r = 45
instance (r : Int) : Decidable (okR r) := by unfold okR; infer_instance
def okTo (s : ByteArray) (k : Nat) : Prop := ∀ j (h : j < s.size), j < k → okR ((s[j]'h).toNat : Int)
instance (s : ByteArray) (k : Nat) : Decidable (okTo s k) := by unfold okTo; infer_instance
def validP (s : ByteArray) : Bool := decide (1 ≤ s.size ∧ s.size ≤ 8 ∧ okTo s s.size)
end Go.Proofs.YtdaahcaafdleaabDoor.Row
/- Contracts of ValidName, the program's and the reference model's: a name is right where each part is and there are at most 6. No conditions but that lengths fit. -/
namespace Go.Proofs.YtdaahcaafdleaabDoor.Row
open Go.ChangeShapes Go.WideShapes Go.ChangeAt Go.RowKit Go.Instr
set_option linter.unusedVariables false
set_option maxRecDepth 100000
def validN (l : List ByteArray) : Bool := decide (l.length ≤ 6 ∧ ∀ x ∈ l, validP x = true)
def allV (l : List ByteArray) (k : Nat) : Prop := ∀ j, j < k → validP (nth l j) = true
theorem size_nth {l : List ByteArray} {m : Nat} (h : bulk l ≤ m) {k : Nat} (hk : k < l.length) : (nth l k).size ≤ m := by
  have h1 := bulkTo_succ l hk
  have h2 := bulkTo_le l (k + 1)
  omega
end Go.Proofs.YtdaahcaafdleaabDoor.Row
/- Contracts of AppendPart, the program's and the reference model's. No conditions but that lengths fit. -/
namespace Go.Proofs.YtdaahcaafdleaabDoor.Row
open Go.ChangeShapes Go.WideShapes Go.ChangeAt Go.RowKit Go.Instr
set_option linter.unusedVariables false
set_option maxRecDepth 100000
def appN (l : List ByteArray) (s : ByteArray) : List ByteArray := if validN (l ++ [s]) = true then l ++ [s] else l
def vs2 (a b : Value) (j : Nat) : Value := if j = 0 then a else b
def ls2 (a b : List ByteArray) (j : Nat) : List ByteArray := if j = 0 then a else b
end Go.Proofs.YtdaahcaafdleaabDoor.Row
/- Contracts of the helpers by which the laws measure, copy, compare, mark and look at interests (a name and three numbers). No conditions but that lengths fit. -/
namespace Go.Proofs.YtdaahcaafdleaabDoor.Row
open Go.ChangeShapes Go.WideShapes Go.ChangeAt Go.RowKit Go.Instr
set_option linter.unusedVariables false
set_option maxRecDepth 100000
abbrev wc (v : Value) (a b c : Int) : Array Value := #[v, .int .i64 a, .int .i64 b, .int .i64 c]
end Go.Proofs.YtdaahcaafdleaabDoor.Row
/- What calls leave that give a slice of the call's own; lists of bytes. No conditions. -/
namespace Go.Proofs.YtdaahcaafdleaabDoor.Sl
open Go.ChangeShapes Go.WideShapes Go.ChangeAt Go.RowKit Go.Instr
set_option linter.unusedVariables false
set_option maxRecDepth 100000
def GivesB (w : World) (l : List Int) (e : Ending) (w' : World) : Prop := ∃ v, e = .returned v ∧ Own 5 .u8 w.heap.size w' v l ∧ Below w.heap.size w w'
def GivesI (w : World) (l : List Int) (e : Ending) (w' : World) : Prop := ∃ v, e = .returned v ∧ Own 3 .i64 w.heap.size w' v l ∧ Below w.heap.size w w'
def Byt (l : List Int) : Prop := ∀ x ∈ l, 0 ≤ x ∧ x ≤ 255
theorem Byt.at {l : List Int} (h : Byt l) {j : Nat} (hj : j < l.length) : 0 ≤ nth l j ∧ nth l j ≤ 255 := by rw [nth_eq hj]; exact h _ (List.getElem_mem hj)
end Go.Proofs.YtdaahcaafdleaabDoor.Sl
/- A string turned into a slice of bytes: where they lie, what they are. No conditions. -/
namespace Go.Proofs.YtdaahcaafdleaabDoor.Sl
open Go.ChangeShapes Go.WideShapes Go.ChangeAt Go.RowKit Go.Instr
set_option linter.unusedVariables false
set_option maxRecDepth 100000
def bytesOf (t : ByteArray) : List Int := t.data.toList.map fun c => (c.toNat : Int)
end Go.Proofs.YtdaahcaafdleaabDoor.Sl
/- Plain mathematics of the base-128 encoding, no program in sight: the encoding's bytes, how they are read back, how long they are. No conditions. -/
namespace Go.Proofs.YtdaahcaafdleaabDoor.Var
def enc (n : Nat) : List Int := if h : n < 128 then [(n : Int)] else (((n % 128 : Nat) : Int) + 128) :: enc (n / 128)
  termination_by n
  decreasing_by omega
def var (n : Int) : List Int := if 0 ≤ n ∧ n ≤ 1000000000000 then enc n.toNat else []
def dec : Nat → List Int → Nat → Int → Option (Int × Nat)
  | 0, _, _, _ => none
  | _ + 1, [], _, _ => none
  | f + 1, x :: r, k, n =>
    if x < 128 then (if (x = 0 ∧ 0 < k) ∨ 1000000000000 < n + x * 128 ^ k then none else some (n + x * 128 ^ k, k + 1))
    else dec f r (k + 1) (n + x % 128 * 128 ^ k)
def okAt (l : List Int) (i : Int) : Prop := 0 ≤ i ∧ i ≤ l.length
def res (i : Int) : Option (Int × Nat) → Int × Int × Bool
  | none => (0, 0, false)
  | some (n, c) => (n, i + c, true)
def readV (l : List Int) (i : Int) : Int × Int × Bool := if 0 ≤ i ∧ i ≤ l.length then res i (dec 6 (l.drop i.toNat) 0 0) else (0, 0, false)
end Go.Proofs.YtdaahcaafdleaabDoor.Var
/- Contracts of AppendVarint, the reference model's and the program's: the slice and behind it the number's groups, in memory of the call's own. No conditions but that lengths fit. -/
namespace Go.Proofs.YtdaahcaafdleaabDoor.Sl
open Go.ChangeShapes Go.WideShapes Go.ChangeAt Go.RowKit Go.Instr
set_option linter.unusedVariables false
set_option maxRecDepth 100000
def GrowsB (B : Nat) (w : World) (l : List Int) (e : Ending) (w' : World) : Prop := ∃ v, e = .returned v ∧ Own 5 .u8 B w' v l ∧ Below B w w'
end Go.Proofs.YtdaahcaafdleaabDoor.Sl
/- Contracts of ReadVarint, the reference model's and the program's: what the groups at the offset make, the offset behind them, true; or 0, 0 and false. Nothing in memory turns. No conditions but that the elements are bytes and the length fits. -/
namespace Go.Proofs.YtdaahcaafdleaabDoor.Sl
open Go.ChangeShapes Go.WideShapes Go.ChangeAt Go.RowKit Go.Instr
set_option linter.unusedVariables false
set_option maxRecDepth 100000
def rdV (r : Int × Int × Bool) : Value := .tuple #[.int .i64 r.1, .int .i64 r.2.1, .bool r.2.2]
end Go.Proofs.YtdaahcaafdleaabDoor.Sl
/- Contracts of the program's ReadVarint: what the groups at the offset make, the offset behind them, true; or 0, 0 and false. What was in memory stays as it was. No conditions but that the elements are bytes and the length fits. -/
namespace Go.Proofs.YtdaahcaafdleaabDoor.Sl
open Go.ChangeShapes Go.WideShapes Go.ChangeAt Go.RowKit Go.Instr
set_option linter.unusedVariables false
set_option maxRecDepth 100000
end Go.Proofs.YtdaahcaafdleaabDoor.Sl
/- Contracts of AppendBytes, EqualBytes and EncodeInts, the reference model's and the program's. Slices that are returned lie in memory of the call's own. No conditions but that lengths fit and that the elements are bytes. -/
namespace Go.Proofs.YtdaahcaafdleaabDoor.Sl
open Go.ChangeShapes Go.WideShapes Go.ChangeAt Go.RowKit Go.Instr
set_option linter.unusedVariables false
set_option maxRecDepth 100000
end Go.Proofs.YtdaahcaafdleaabDoor.Sl
/- Contracts of EncodeInts, the reference model's and the program's: the numbers' groups, one number after the other, in memory of the call's own. No conditions but that lengths fit. -/
namespace Go.Proofs.YtdaahcaafdleaabDoor.Sl
open Go.ChangeShapes Go.WideShapes Go.ChangeAt Go.RowKit Go.Instr
set_option linter.unusedVariables false
set_option maxRecDepth 100000
def encs (l : List Int) : List Int := l.flatMap Var.var
end Go.Proofs.YtdaahcaafdleaabDoor.Sl
/- Contracts of the model's functions on interests: AppendName. No conditions but that lengths fit. -/
namespace Go.Proofs.YtdaahcaafdleaabDoor.Row
open Go.ChangeShapes Go.WideShapes Go.ChangeAt Go.RowKit Go.Instr
set_option linter.unusedVariables false
set_option maxRecDepth 100000
def encPs (l : List ByteArray) : List Int := l.flatMap fun s => Var.var s.size ++ Sl.bytesOf s
def encN (l : List ByteArray) : List Int := Var.var l.length ++ encPs l
def appName (b : List Int) (l : List ByteArray) : List Int := if validN l = true then b ++ encN l else b
end Go.Proofs.YtdaahcaafdleaabDoor.Row
/- Contracts of the model's functions on interests: validity, copy, equality, the hop limit. No conditions but that lengths fit. -/
namespace Go.Proofs.YtdaahcaafdleaabDoor.Row
open Go.ChangeShapes Go.WideShapes Go.ChangeAt Go.RowKit Go.Instr
set_option linter.unusedVariables false
set_option maxRecDepth 100000
abbrev Wt := List ByteArray × Int × Int × Int
def validW (x : Wt) : Bool := validN x.1 && decide (0 < x.1.length) && decide (0 ≤ x.2.1 ∧ x.2.1 ≤ 1000000) && decide (0 ≤ x.2.2.1 ∧ x.2.2.1 ≤ 16) && decide (1 ≤ x.2.2.2 ∧ x.2.2.2 ≤ 20)
def GivesW (w : World) (x : Wt) (e : Ending) (w' : World) : Prop := ∃ v', e = .returned (.agg (wc v' x.2.1 x.2.2.1 x.2.2.2)) ∧ Own 9 Value.string w.heap.size w' v' x.1 ∧ Below w.heap.size w w'
def GivesWB (w : World) (x : Wt) (z : Bool) (e : Ending) (w' : World) : Prop := ∃ v', e = .returned (.tuple #[.agg (wc v' x.2.1 x.2.2.1 x.2.2.2), .bool z]) ∧ Own 9 Value.string w.heap.size w' v' x.1 ∧ Below w.heap.size w w'
def decW (x : Wt) : Wt := if x.2.2.1 < 1 then x else (x.1, x.2.1, x.2.2.1 - 1, x.2.2.2)
def decOk (x : Wt) : Bool := decide (1 ≤ x.2.2.1)
end Go.Proofs.YtdaahcaafdleaabDoor.Row
/- Contract of the program's copy of a name. No conditions but that lengths fit. -/
namespace Go.Proofs.YtdaahcaafdleaabDoor.Row
open Go.ChangeShapes Go.WideShapes Go.ChangeAt Go.RowKit Go.Instr
set_option linter.unusedVariables false
set_option maxRecDepth 100000
end Go.Proofs.YtdaahcaafdleaabDoor.Row
/- Names in the kinds of kstruct.py: ValidName, EqualNames, the copies, model and program. No conditions but that lengths fit. -/
namespace Go.Proofs.YtdaahcaafdleaabDoor.Row
open Go.ChangeShapes Go.WideShapes Go.ChangeAt Go.RowKit Go.Instr
set_option linter.unusedVariables false
set_option maxRecDepth 100000
section
variable {w : World} {V U : Value} {l m : List ByteArray} {B E : Nat}
end
end Go.Proofs.YtdaahcaafdleaabDoor.Row
/- A name's text as the program keeps it under, in a map's key: the mathematics, its contract. No conditions but that lengths fit. -/
namespace Go.Proofs.YtdaahcaafdleaabDoor.Row
open Go.ChangeShapes Go.WideShapes Go.ChangeAt Go.RowKit Go.Instr
set_option linter.unusedVariables false
set_option maxRecDepth 100000
def smN (l : List ByteArray) : Prop := ∀ x ∈ l, x.size ≤ 1000000000000
def txt (l : List ByteArray) : ByteArray := strOfNums (encPs l)
def kl (l : List ByteArray) : Lit := .string (txt l).data.toList
def heldV (v : Value) : Option (DataW Value × List MemPlace) := some (.held v, [])
end Go.Proofs.YtdaahcaafdleaabDoor.Row
/- Lists that lie as rows of the call's own: a part of a row, an element more, an append within the room, a clearing behind the end; closures while a row is written. For any kind and any program. No conditions but that lengths fit. -/
namespace Go.Proofs.YtdaahcaafdleaabDoor.Row
open Go.ChangeShapes Go.WideShapes Go.ChangeAt Go.RowKit Go.Instr
set_option linter.unusedVariables false
set_option linter.unusedSectionVars false
set_option maxRecDepth 100000
theorem take_nx {α : Type} [Inhabited α] {l : List α} {k : Nat} (h : k < l.length) : l.take (k + 1) = l.take k ++ [nth l k] := by rw [List.take_succ_eq_append_getElem h, nth_eq h]
theorem filter_nx {α : Type} [Inhabited α] {p : α → Bool} {l : List α} {k : Nat} (h : k < l.length) (hp : p (nth l k) = true) : (l.take (k + 1)).filter p = (l.take k).filter p ++ [nth l k] := by
  rw [take_nx h, List.filter_append]; simp [hp]
section
variable {α M : Type} {k : Kd α M} {B C E E' : Nat} {e : TypeId} {w w' : World} {m : M}
end
section
variable {P : Program} {α : Type} {enc : α → List Value} {sz : Nat} {e t : TypeId} {bytes : Nat} {z : Value}
end
def ClosR {α M : Type} (P : Program) (k : Kd α M) (fid : FuncId) (cap : Array Value) (p : α → Bool) (ok : α → Prop) (w : World) (row : Option Nat) : Prop :=
  ∀ (x : α) (V : Value) (W : World), w.grownBy W row → k.At W V x → ok x → Calls P fid (#[V] ++ cap) W fun e w' => e = .returned (.bool (p x)) ∧ Below W.heap.size W w'
theorem ClosR.plain {α M : Type} {P : Program} {k : Kd α M} {fid : FuncId} {cap : Array Value} {p : α → Bool} {ok : α → Prop} {w : World} {row : Option Nat} (h : ClosR P k fid cap p ok w row) : ClosK P k fid cap p ok w := fun x V W hW => h x V W (Sl.grown_of_below hW row)
structure MidK {M : Type} [Inhabited M] (q : M → Bool) (L L' : List M) (i j : Nat) : Prop where
  len : L'.length = L.length
  head : L'.take i = (L.take j).filter q
  rest : ∀ r, j ≤ r → r < L.length → nth L' r = nth L r
  lt : i < j
theorem MidK.keep {M : Type} [Inhabited M] {q : M → Bool} {L L' : List M} {i j : Nat} (h : MidK q L L' i j) (hj : j < L.length) (hq : q (nth L j) = true) : MidK q L (L'.set i (nth L j)) (i + 1) (j + 1) := by
  have h1 := h.len
  have h2 := h.lt
  refine ⟨by simp [h1], ?_, fun r hr hr2 => ?_, by omega⟩
  · rw [List.take_succ_eq_append_getElem (by simp; omega), List.getElem_set_self, List.take_set_of_le (Nat.le_refl _), h.head, filter_nx hj hq]
  · rw [← h.rest r (by omega) hr2]
    simp only [nth, List.getD]
    rw [List.getElem?_set_ne (by omega)]
end Go.Proofs.YtdaahcaafdleaabDoor.Row
/- Routes: what chapter 14's functions answer, as functions of lists. No conditions. -/
namespace Go.Proofs.YtdaahcaafdleaabDoor.Row
open Go.ChangeShapes Go.WideShapes Go.ChangeAt Go.RowKit Go.Instr
set_option linter.unusedVariables false
set_option linter.unusedSectionVars false
set_option maxRecDepth 100000
def isRt (m : List ByteArray) (f : Int) (x : Rtt) : Bool := decide (x.2.1 = f) && decide (x.1 = m)
def fcRt (f : Int) (x : Rtt) : Bool := decide (x.2.1 = f)
def vRt (x : Rtt) : Bool := validN x.1 && (Num.inB x.2.1 1 6 && Num.inB x.2.2 0 1000)
def newRt (l : List Rtt) (k : Nat) : Bool := !(l.take k).any (isRt (nth l k).1 (nth l k).2.1)
def vldRt (l : List Rtt) : Nat → Bool
  | 0 => true
  | k + 1 => vldRt l k && (vRt (nth l k) && newRt l k)
def validRts (l : List Rtt) : Bool := vldRt l l.length && decide (l.length ≤ 24)
def chgRt (l : List Rtt) (r : Rtt) : List Rtt :=
  if 0 ≤ ixL (isRt r.1 r.2.1) l then l.set (ixL (isRt r.1 r.2.1) l).toNat ((nth l (ixL (isRt r.1 r.2.1) l).toNat).1, (nth l (ixL (isRt r.1 r.2.1) l).toNat).2.1, r.2.2) else l ++ [r]
def addRt (l : List Rtt) (r : Rtt) : List Rtt := if validRts (chgRt l r) = true then chgRt l r else l
def rmRt (l : List Rtt) (f : Int) : List Rtt := l.filter (fun x => !fcRt f x)
def mpI (l : List Rtt) (n : List ByteArray) : Nat → Int
  | 0 => -1
  | k + 1 => if hpB n (nth l k).1 = true ∧ (mpI l n k < 0 ∨ (nth l (mpI l n k).toNat).1.length < (nth l k).1.length) then (k : Int) else mpI l n k
def mpN (l : List Rtt) (n : List ByteArray) : List ByteArray := if mpI l n l.length < 0 then [] else (nth l (mpI l n l.length).toNat).1
def mpB (l : List Rtt) (n : List ByteArray) : Bool := decide (0 ≤ mpI l n l.length)
def leRt (a b : Rtt) : Bool := decide (a.2.2 < b.2.2) || (decide (a.2.2 = b.2.2) && decide (a.2.1 ≤ b.2.1))
def putRt (r : Rtt) : List Rtt → List Rtt
  | [] => [r]
  | a :: l => if leRt a r = true then a :: putRt r l else r :: a :: l
def hopRs (l : List Rtt) (p : List ByteArray) : List Rtt := (l.filter (fun x => decide (x.1 = p))).foldl (fun s r => putRt r s) []
def hopsRt (l : List Rtt) (n : List ByteArray) : List Int := if mpB l n = true then (hopRs l (mpN l n)).map (fun x => x.2.1) else []
def eachRt (l : List Rtt) (k : Nat) : Bool := (l.take k).all vRt
def numRt (l : List Rtt) : Nat → Nat
  | 0 => 0
  | k + 1 => if newRt l k = true then numRt l k + 1 else numRt l k
def kR (m : List ByteArray) (f : Int) : Lit := .string (keyBytes [.string (txt m).data.toList, .int .i64 f])
def stRt (l : List Rtt) (D : DataW Value) (k : Nat) : DataW Value := if Maps.has D (kR (nth l k).1 (nth l k).2.1) then D else D.put (kR (nth l k).1 (nth l k).2.1) (.held (.int .i64 k))
def rtD (l : List Rtt) : Nat → DataW Value
  | 0 => .map []
  | k + 1 => stRt l (rtD l k) k
def InjR (ok : List ByteArray → Int → Prop) : Prop := ∀ m f m' f', ok m f → ok m' f' → kR m f = kR m' f' → m = m' ∧ f = f'
def facesTo (d : List Rtt) (p : List ByteArray) (k : Nat) : List Int := ((d.take k).filter (fun x => decide (x.1 = p))).map (fun x => x.2.1)
def hopTo (l : List Rtt) (p : List ByteArray) (k : Nat) : List Rtt := hopRs (l.take k) p
end Go.Proofs.YtdaahcaafdleaabDoor.Row
/- An element of a list of routes and its parts; contracts of the names in letters. No conditions but that lengths fit. -/
namespace Go.Proofs.YtdaahcaafdleaabDoor.Row
open Go.ChangeShapes Go.WideShapes Go.ChangeAt Go.RowKit Go.Instr
set_option linter.unusedVariables false
set_option maxRecDepth 100000
theorem kRt_parts {w : World} {x0 : Option Addr} {n0 c0 : Nat} {u v : Int} {x : Rtt} (h : kRt.At w (.agg #[.slice x0 n0 c0, .int .i64 u, .int .i64 v]) x) : kN.At w (.agg #[.slice x0 n0 c0]) x.1 := by
  obtain ⟨a0, b0, d0, e, h0⟩ := kRt_at h
  simp only [Value.agg.injEq, Array.mk.injEq, List.cons.injEq, Value.slice.injEq, Value.int.injEq, and_true, true_and] at e
  obtain ⟨⟨rfl, rfl, rfl⟩, rfl, rfl⟩ := e
  exact h0
def FitRt (l : List Rtt) : Prop := bulkK wtRt l ≤ 1100000
theorem FitRt.len {l : List Rtt} (h : FitRt l) : l.length ≤ 1100000 := Nat.le_trans (bulkK_len wtRt l) h
theorem FitRt.each {l : List Rtt} (h : FitRt l) : ∀ e ∈ l, bulk e.1 ≤ 1200000 := fun e he => Nat.le_trans (bulkK_mem (f := wtRt) he) (Nat.le_trans h (by decide))
end Go.Proofs.YtdaahcaafdleaabDoor.Row
/- Plain mathematics of names and their texts, no program in sight: a text is split at its slashes; joined again it is the text; a joined list of parts without slashes is split into the parts; runes and bytes. No conditions. -/
namespace Go.Proofs.YtdaahcaafdleaabDoor.Row
open Go.ChangeShapes Go.WideShapes Go.ChangeAt Go.RowKit Go.Instr
set_option linter.unusedVariables false
set_option maxRecDepth 100000
def bl (s : ByteArray) : List UInt8 := s.data.toList
def mk (l : List UInt8) : ByteArray := ⟨l.toArray⟩
theorem mk_bl (s : ByteArray) : mk (bl s) = s := by
  show ByteArray.mk (s.data.toList.toArray) = s
  rw [Array.toArray_toList]
theorem bl_mk (l : List UInt8) : bl (mk l) = l := by
  show (l.toArray).toList = l
  rfl
theorem bl_inj {a b : ByteArray} (h : bl a = bl b) : a = b := by rw [← mk_bl a, ← mk_bl b, h]
theorem bl_append (a b : ByteArray) : bl (a ++ b) = bl a ++ bl b := by
  unfold bl
  simp only [ByteArray.data_append, Array.toList_append]
theorem mk_append (a b : List UInt8) : mk a ++ mk b = mk (a ++ b) := by apply bl_inj; rw [bl_append, bl_mk, bl_mk, bl_mk]
theorem mk_size (l : List UInt8) : (mk l).size = l.length := by
  show l.toArray.size = l.length
  exact List.size_toArray
def goS (cur : List UInt8) : List UInt8 → List (List UInt8)
  | [] => [cur]
  | c :: t => if c = 47 then cur :: goS [] t else goS (cur ++ [c]) t
def fmtL (l : List ByteArray) : List UInt8 := 47 :: Lib.join (l.map bl) [47]
def fmtS (l : List ByteArray) : ByteArray := mk (fmtL l)
def splitB (s : ByteArray) : List ByteArray := (goS [] (bl s)).map mk
def fullB (s : ByteArray) : Bool := decide (s.size ≠ 0)
def partsB (s : ByteArray) : List ByteArray := (splitB s).filter fullB
def pOk (s : ByteArray) : Bool := validN (partsB s) && decide (fmtS (partsB s) = s)
def pN (s : ByteArray) : List ByteArray := if pOk s = true then partsB s else []
theorem fmtS_nil : fmtS [] = mk [47] := by simp [fmtS, fmtL, Lib.join_nil]
def seg (s : ByteArray) (f i : Nat) : List UInt8 := ((bl s).drop f).take (i - f)
def rest (s : ByteArray) (i : Nat) : List UInt8 := (bl s).drop i
end Go.Proofs.YtdaahcaafdleaabDoor.Row
/- The contracts of the library that are proved once over any program, laid at this seat in plain words. -/
namespace Go.Proofs
open Go.Shelf
def Tryd.lays169_ren : Go.Shelf.Ren := ⟨fun | 169 => 22 | n => n, fun | 70 => 46 | 9 => 9 | 0 => 0 | 72 => 48 | 37 => 44 | 127 => 58 | 3 => 3 | 5 => 5 | n => n, fun | n => n⟩
def Tryd.lays241_ren : Go.Shelf.Ren := ⟨fun | 241 => 28 | 277 => 32 | n => n, fun | 70 => 46 | 3 => 3 | 0 => 0 | 72 => 48 | 37 => 44 | 5 => 5 | n => n, fun | n => n⟩
def Tryd.lays165_ren : Go.Shelf.Ren := ⟨fun | 165 => 20 | 240 => 27 | 241 => 28 | 276 => 31 | 277 => 32 | n => n, fun | 70 => 46 | 3 => 3 | 0 => 0 | 4 => 4 | 9 => 9 | 20 => 20 | 72 => 48 | 37 => 44 | 164 => 61 | 5 => 5 | n => n, fun | n => n⟩
def Tryd.lays156_ren : Go.Shelf.Ren := ⟨fun | 156 => 15 | 165 => 20 | 166 => 21 | 169 => 22 | 240 => 27 | 241 => 28 | 276 => 31 | 277 => 32 | n => n, fun | 31 => 30 | 9 => 9 | 3 => 3 | 4 => 4 | 0 => 0 | 20 => 20 | 72 => 48 | 76 => 52 | 70 => 46 | 37 => 44 | 75 => 51 | 127 => 58 | 164 => 61 | 5 => 5 | 80 => 54 | n => n, fun | n => n⟩
theorem Tryd.lays156 : Go.Proofs.Lays.n156 Tryd.prog Tryd.lays156_ren := {
  mixed := by kernel_rfl
  f156 := Tryd.func15.trans (congrArg some (by kernel_rfl))
  f165 := Tryd.func20.trans (congrArg some (by kernel_rfl))
  f166 := Tryd.func21.trans (congrArg some (by kernel_rfl))
  f169 := Tryd.func22.trans (congrArg some (by kernel_rfl))
  f240 := Tryd.func27.trans (congrArg some (by kernel_rfl))
  f241 := Tryd.func28.trans (congrArg some (by kernel_rfl))
  f276 := Tryd.func31.trans (congrArg some (by kernel_rfl))
  f277 := Tryd.func32.trans (congrArg some (by kernel_rfl))
  t0 := Tryd.underlying0
  a0 := Tryd.isAgg0
  z0 := Tryd.sizeOf0
  v0 := Tryd.zeroValue0
  t3 := Tryd.underlying3
  a3 := Tryd.isAgg3
  z3 := Tryd.sizeOf3
  v3 := Tryd.zeroValue3
  t4 := Tryd.underlying4
  a4 := Tryd.isAgg4
  z4 := Tryd.sizeOf4
  v4 := Tryd.zeroValue4
  t9 := Tryd.underlying9
  a9 := Tryd.isAgg9
  z9 := Tryd.sizeOf9
  v9 := Tryd.zeroValue9
  t20 := Tryd.underlying20
  a20 := Tryd.isAgg20
  z20 := Tryd.sizeOf20
  v20 := Tryd.zeroValue20
  t31 := Tryd.underlying30
  a31 := Tryd.isAgg30
  z31 := Tryd.sizeOf30
  v31 := Tryd.zeroValue30
  t37 := Tryd.underlying44
  a37 := Tryd.isAgg44
  z37 := Tryd.sizeOf44
  v37 := Tryd.zeroValue44
  t70 := Tryd.underlying46
  a70 := Tryd.isAgg46
  z70 := Tryd.sizeOf46
  v70 := Tryd.zeroValue46
  t72 := Tryd.underlying48
  a72 := Tryd.isAgg48
  z72 := Tryd.sizeOf48
  v72 := Tryd.zeroValue48
  t75 := Tryd.underlying51
  a75 := Tryd.isAgg51
  z75 := Tryd.sizeOf51
  v75 := Tryd.zeroValue51
  t76 := Tryd.underlying52
  a76 := Tryd.isAgg52
  z76 := Tryd.sizeOf52
  v76 := Tryd.zeroValue52
  t127 := Tryd.underlying58
  a127 := Tryd.isAgg58
  z127 := Tryd.sizeOf58
  v127 := Tryd.zeroValue58
  t164 := Tryd.underlying61
  a164 := Tryd.isAgg61
  z164 := Tryd.sizeOf61
  v164 := Tryd.zeroValue61 }
theorem Tryd.Builder_Extra_156 : Builder.Extra Tryd.prog Tryd.lays156_ren := {
  sizeBuilder := by kernel_rfl
  liesBuilder := by kernel_rfl
  t5 := Tryd.underlying5
  a5 := Tryd.isAgg5
  z5 := Tryd.sizeOf5
  v5 := Tryd.zeroValue5
  infoByte := by kernel_rfl
  cellsByte := by kernel_rfl
  sizeByte := by kernel_rfl
  neB5 := by decide }
open Go.RowKit in
theorem Tryd.strings_Join_none (a : Option Addr) (c : Nat) (sep : ByteArray) (w : World) :
    Calls Tryd.prog 15 #[.slice a 0 c, .string sep] w fun e w' => e = .returned (.string ⟨#[]⟩) ∧ w' = w := Any.strings_Join_none Tryd.lays156 Tryd.Builder_Extra_156 a c sep w
open Go.RowKit in
theorem Tryd.strings_Join (bk o c : Nat) (xs : List ByteArray) (sep : ByteArray) (w : World) (hcells : ∀ (j : Nat) x, xs[j]? = some x → w.cell? ⟨bk, o + j, none⟩ = some (.string x)) (hbk : bk < w.heap.size) (hN : xs.length ≤ 140737488355328) (hcap : xs.length ≤ c) (hlen : (Lib.join (xs.map (·.data.toList)) sep.data.toList).length ≤ 140737488355328) :
    Calls Tryd.prog 15 #[.slice (some ⟨bk, o, none⟩) xs.length c, .string sep] w fun e w' => e = .returned (.string ⟨(Lib.join (xs.map (·.data.toList)) sep.data.toList).toArray⟩) ∧ Below w.heap.size w w' := Any.strings_Join Tryd.lays156 Tryd.Builder_Extra_156 bk o c xs sep w hcells hbk hN hcap hlen
def Tryd.lays129_ren : Go.Shelf.Ren := ⟨fun | 129 => 38 | n => n, fun | 53 => 65 | 3 => 3 | 4 => 4 | 46 => 76 | 5 => 5 | 9 => 9 | n => n, fun | n => n⟩
def Tryd.lays317_ren : Go.Shelf.Ren := ⟨fun | 317 => 37 | n => n, fun | 3 => 3 | 46 => 76 | n => n, fun | n => n⟩
def Tryd.lays318_ren : Go.Shelf.Ren := ⟨fun | 318 => 39 | n => n, fun | 3 => 3 | 4 => 4 | n => n, fun | n => n⟩
def Tryd.lays283_ren : Go.Shelf.Ren := ⟨fun | 283 => 33 | n => n, fun | 3 => 3 | 9 => 9 | 4 => 4 | n => n, fun | n => n⟩
def Tryd.laysM284_ren : Go.Shelf.Ren := ⟨fun | 284 => 34 | 129 => 38 | 317 => 37 | 318 => 39 | n => n, fun | 53 => 65 | 3 => 3 | 212 => 72 | 0 => 0 | 4 => 4 | 46 => 76 | 5 => 5 | 9 => 9 | n => n, fun | 17 => 1 | n => n⟩
def Tryd.lays285_ren : Go.Shelf.Ren := ⟨fun | 285 => 35 | n => n, fun | 37 => 44 | 53 => 65 | 3 => 3 | 4 => 4 | 51 => 73 | 9 => 9 | 5 => 5 | 0 => 0 | n => n, fun | n => n⟩
def Tryd.laysM246_ren : Go.Shelf.Ren := ⟨fun | 246 => 30 | 283 => 33 | 284 => 34 | 285 => 35 | 286 => 36 | 129 => 38 | 317 => 37 | 318 => 39 | 319 => 40 | 320 => 41 | 337 => 42 | 338 => 43 | n => n, fun | 2 => 2 | 3 => 3 | 9 => 9 | 4 => 4 | 171 => 64 | 0 => 0 | 53 => 65 | 37 => 44 | 5 => 5 | 173 => 68 | 212 => 72 | 51 => 73 | 20 => 20 | 213 => 74 | 46 => 76 | 232 => 79 | 233 => 80 | n => n, fun | 17 => 1 | 18 => 2 | 19 => 3 | n => n⟩
def Tryd.lays246_ren : Go.Shelf.Ren := ⟨fun | 246 => 30 | 283 => 33 | 284 => 34 | 285 => 35 | 286 => 36 | 129 => 38 | 317 => 37 | 318 => 39 | 319 => 40 | 320 => 41 | 337 => 42 | 338 => 43 | n => n, fun | 2 => 2 | 3 => 3 | 9 => 9 | 4 => 4 | 171 => 64 | 0 => 0 | 53 => 65 | 37 => 44 | 5 => 5 | 173 => 68 | 212 => 72 | 51 => 73 | 20 => 20 | 213 => 74 | 46 => 76 | 232 => 79 | 233 => 80 | n => n, fun | 17 => 1 | 18 => 2 | 19 => 3 | n => n⟩
def Tryd.laysM243_ren : Go.Shelf.Ren := ⟨fun | 243 => 26 | 246 => 30 | 283 => 33 | 284 => 34 | 285 => 35 | 286 => 36 | 129 => 38 | 317 => 37 | 318 => 39 | 319 => 40 | 320 => 41 | 337 => 42 | 338 => 43 | n => n, fun | 3 => 3 | 9 => 9 | 2 => 2 | 4 => 4 | 171 => 64 | 0 => 0 | 53 => 65 | 37 => 44 | 5 => 5 | 173 => 68 | 212 => 72 | 51 => 73 | 20 => 20 | 213 => 74 | 46 => 76 | 232 => 79 | 233 => 80 | n => n, fun | 17 => 1 | 18 => 2 | 19 => 3 | n => n⟩
def Tryd.lays243_ren : Go.Shelf.Ren := ⟨fun | 243 => 26 | 246 => 30 | 283 => 33 | 284 => 34 | 285 => 35 | 286 => 36 | 129 => 38 | 317 => 37 | 318 => 39 | 319 => 40 | 320 => 41 | 337 => 42 | 338 => 43 | n => n, fun | 3 => 3 | 9 => 9 | 2 => 2 | 4 => 4 | 171 => 64 | 0 => 0 | 53 => 65 | 37 => 44 | 5 => 5 | 173 => 68 | 212 => 72 | 51 => 73 | 20 => 20 | 213 => 74 | 46 => 76 | 232 => 79 | 233 => 80 | n => n, fun | 17 => 1 | 18 => 2 | 19 => 3 | n => n⟩
def Tryd.laysM171_ren : Go.Shelf.Ren := ⟨fun | 171 => 19 | 243 => 26 | 246 => 30 | 283 => 33 | 284 => 34 | 285 => 35 | 286 => 36 | 129 => 38 | 317 => 37 | 318 => 39 | 319 => 40 | 320 => 41 | 337 => 42 | 338 => 43 | n => n, fun | 3 => 3 | 9 => 9 | 2 => 2 | 4 => 4 | 171 => 64 | 0 => 0 | 53 => 65 | 37 => 44 | 5 => 5 | 173 => 68 | 212 => 72 | 51 => 73 | 20 => 20 | 213 => 74 | 46 => 76 | 232 => 79 | 233 => 80 | n => n, fun | 17 => 1 | 18 => 2 | 19 => 3 | n => n⟩
theorem Tryd.laysM171 : Go.Proofs.LaysM.n171 Tryd.prog Tryd.laysM171_ren := {
  mixed := by kernel_rfl
  f129 := Tryd.func38.trans (congrArg some (by kernel_rfl))
  f171 := Tryd.func19.trans (congrArg some (by kernel_rfl))
  f243 := Tryd.func26.trans (congrArg some (by kernel_rfl))
  f246 := Tryd.func30.trans (congrArg some (by kernel_rfl))
  f283 := Tryd.func33.trans (congrArg some (by kernel_rfl))
  f284 := Tryd.func34.trans (congrArg some (by kernel_rfl))
  f285 := Tryd.func35.trans (congrArg some (by kernel_rfl))
  f286 := Tryd.func36.trans (congrArg some (by kernel_rfl))
  f317 := Tryd.func37.trans (congrArg some (by kernel_rfl))
  f318 := Tryd.func39.trans (congrArg some (by kernel_rfl))
  f319 := Tryd.func40.trans (congrArg some (by kernel_rfl))
  f320 := Tryd.func41.trans (congrArg some (by kernel_rfl))
  f337 := Tryd.func42.trans (congrArg some (by kernel_rfl))
  f338 := Tryd.func43.trans (congrArg some (by kernel_rfl))
  t0 := Tryd.underlying0
  a0 := Tryd.isAgg0
  z0 := Tryd.sizeOf0
  v0 := Tryd.zeroValue0
  t2 := Tryd.underlying2
  a2 := Tryd.isAgg2
  z2 := Tryd.sizeOf2
  v2 := Tryd.zeroValue2
  t3 := Tryd.underlying3
  a3 := Tryd.isAgg3
  z3 := Tryd.sizeOf3
  v3 := Tryd.zeroValue3
  t4 := Tryd.underlying4
  a4 := Tryd.isAgg4
  z4 := Tryd.sizeOf4
  v4 := Tryd.zeroValue4
  t5 := Tryd.underlying5
  a5 := Tryd.isAgg5
  z5 := Tryd.sizeOf5
  v5 := Tryd.zeroValue5
  t9 := Tryd.underlying9
  a9 := Tryd.isAgg9
  z9 := Tryd.sizeOf9
  v9 := Tryd.zeroValue9
  t20 := Tryd.underlying20
  a20 := Tryd.isAgg20
  z20 := Tryd.sizeOf20
  v20 := Tryd.zeroValue20
  t37 := Tryd.underlying44
  a37 := Tryd.isAgg44
  z37 := Tryd.sizeOf44
  v37 := Tryd.zeroValue44
  t46 := Tryd.underlying76
  a46 := Tryd.isAgg76
  z46 := Tryd.sizeOf76
  v46 := Tryd.zeroValue76
  t51 := Tryd.underlying73
  a51 := Tryd.isAgg73
  z51 := Tryd.sizeOf73
  v51 := Tryd.zeroValue73
  t53 := Tryd.underlying65
  a53 := Tryd.isAgg65
  z53 := Tryd.sizeOf65
  v53 := Tryd.zeroValue65
  t171 := Tryd.underlying64
  a171 := Tryd.isAgg64
  z171 := Tryd.sizeOf64
  v171 := Tryd.zeroValue64
  t173 := Tryd.underlying68
  a173 := Tryd.isAgg68
  z173 := Tryd.sizeOf68
  v173 := Tryd.zeroValue68
  t212 := Tryd.underlying72
  a212 := Tryd.isAgg72
  z212 := Tryd.sizeOf72
  v212 := Tryd.zeroValue72
  t213 := Tryd.underlying74
  a213 := Tryd.isAgg74
  z213 := Tryd.sizeOf74
  t232 := Tryd.underlying79
  a232 := Tryd.isAgg79
  z232 := Tryd.sizeOf79
  v232 := Tryd.zeroValue79
  t233 := Tryd.underlying80
  a233 := Tryd.isAgg80
  z233 := Tryd.sizeOf80
  v233 := Tryd.zeroValue80
  g17 := by kernel_rfl
  g18 := by kernel_rfl
  g19 := by kernel_rfl
  i0 := by kernel_rfl
  i2 := by kernel_rfl
  i3 := by kernel_rfl
  i4 := by kernel_rfl
  i5 := by kernel_rfl
  i9 := by kernel_rfl
  i20 := by kernel_rfl
  i37 := by kernel_rfl
  i46 := by kernel_rfl
  i51 := by kernel_rfl
  i53 := by kernel_rfl
  i171 := by kernel_rfl
  i173 := by kernel_rfl
  i212 := by kernel_rfl
  i232 := by kernel_rfl
  i233 := by kernel_rfl
  m17 := by kernel_rfl
  m18 := by kernel_rfl
  m19 := by kernel_rfl }
open Go.RowKit Go.Sort Go.Lib in
theorem Tryd.strconv_Itoa (n : Int) (h0 : -9223372036854775808 ≤ n) (h1 : n ≤ 9223372036854775807) (w : World) (htab : Lib.TabIs Tryd.prog w "internal/strconv.uint64pow10" .u64 Lib.pow10Tab) :
    Calls Tryd.prog 19 #[.int .i64 n] w fun e w' => e = .returned (.string ⟨(Lib.itoa n).toArray⟩) ∧ ∃ k os, w' = grow (w.drewN k) os := Any.strconv_Itoa Tryd.laysM171 n h0 h1 w htab
def Tryd.lays171_ren : Go.Shelf.Ren := ⟨fun | 171 => 19 | 243 => 26 | 246 => 30 | 283 => 33 | 284 => 34 | 285 => 35 | 286 => 36 | 129 => 38 | 317 => 37 | 318 => 39 | 319 => 40 | 320 => 41 | 337 => 42 | 338 => 43 | n => n, fun | 3 => 3 | 9 => 9 | 2 => 2 | 4 => 4 | 171 => 64 | 0 => 0 | 53 => 65 | 37 => 44 | 5 => 5 | 173 => 68 | 212 => 72 | 51 => 73 | 20 => 20 | 213 => 74 | 46 => 76 | 232 => 79 | 233 => 80 | n => n, fun | 17 => 1 | 18 => 2 | 19 => 3 | n => n⟩
end Go.Proofs
/- Contracts of FormatName, the program's and the reference model's: each part behind a slash; a slash alone where there is none. No conditions but that lengths fit. -/
namespace Go.Proofs.YtdaahcaafdleaabDoor.Row
open Go.ChangeShapes Go.WideShapes Go.ChangeAt Go.RowKit Go.Instr
set_option linter.unusedVariables false
set_option maxRecDepth 100000
def fT (l : List ByteArray) (k : Nat) : ByteArray := mk (Lib.joinTail [47] ((l.map bl).take k))
theorem fT_zero (l : List ByteArray) : fT l 0 = mk [] := by simp [fT, Lib.joinTail]
theorem fT_succ (l : List ByteArray) {k : Nat} (h : k < l.length) : fT l (k + 1) = fT l k ++ mk [47] ++ nth l k := by
  unfold fT
  rw [Lib.joinTail_take_succ [47] _ k (bl (nth l k)) (by rw [List.getElem?_map, nth_eq h, List.getElem?_eq_getElem h]; rfl), ← mk_append, ← mk_append, mk_bl]
theorem fT_size (l : List ByteArray) : ∀ k, k ≤ l.length → (fT l k).size + l.length = bulkTo l k + k
  | 0, _ => by rw [fT_zero, mk_size, bulkTo_zero]; simp
  | k + 1, h => by
    have ih := fT_size l k (by omega)
    rw [fT_succ l (by omega), ByteArray.size_append, ByteArray.size_append, mk_size, bulkTo_succ l (by omega)]
    simp; omega
theorem fT_le (l : List ByteArray) {k : Nat} (h : k ≤ l.length) : (fT l k).size ≤ bulk l := by
  have h1 := fT_size l k h
  have h2 := bulkTo_le l k
  omega
theorem fT_all {l : List ByteArray} (h : l ≠ []) : fT l l.length = fmtS l := by
  unfold fT fmtS fmtL
  rw [List.take_of_length_le (by simp)]
  obtain ⟨x, r, rfl⟩ : ∃ x r, l = x :: r := by
    cases l with
    | nil => exact absurd rfl h
    | cons x r => exact ⟨x, r, rfl⟩
  rw [List.map_cons, Lib.join_cons]
  congr 1
theorem join_size (l : List ByteArray) : (Lib.join (l.map bl) [47]).length ≤ bulk l := by
  by_cases h : l = []
  · subst h; simp [Lib.join_nil]
  · have h1 := congrArg ByteArray.size (fT_all h)
    have h2 := fT_le l (Nat.le_refl l.length)
    rw [h1] at h2
    unfold fmtS fmtL at h2
    rw [mk_size] at h2
    simp at h2; omega
set_option maxHeartbeats 1000000 in
theorem implFormatName (v : Value) (l : List ByteArray) (w : World) (h : Holds Value.string w v l) (hl : bulk l ≤ 100000000) :
    Calls Tryd.prog 13 #[.agg #[v]] w fun e w' => e = .returned (.string (fmtS l)) ∧ Below w.heap.size w w' := by
  obtain ⟨x, n, cap, rfl, hn, hcap, hh⟩ := h.shapeN
  have hjs := join_size l
  have hll := bigLen hl
  have HB := Lib.hid ((Below.refl w.heap.size w).alloc (Nat.le_refl _) (.cells #[.slice x n cap] 36))
  have HJ : Hid (∀ W, Holds Value.string W (.slice x n cap) l → Calls Tryd.prog 15 #[.slice x n cap, .string (mk [47])] W fun e w' => e = .returned (.string (mk (Lib.join (l.map bl) [47]))) ∧ Below W.heap.size W w') := by
    refine Lib.hid fun W hW => ?_
    obtain ⟨x', cap', hv, hc', hh'⟩ := hW
    cases hv
    by_cases hne : l = []
    · subst hne
      refine (Tryd.strings_Join_none x cap (mk [47]) W).mono ?_
      rintro e w' ⟨rfl, rfl⟩
      exact ⟨rfl, Below.refl _ _⟩
    · rcases hh' with h0 | ⟨b, off, rfl, hc⟩
      · exact absurd h0 hne
      · have hlp : 0 < l.length := List.length_pos_iff.2 hne
        exact Tryd.strings_Join b off cap l (mk [47]) W (fun j y hy => by
          have hj : j < l.length := (List.getElem?_eq_some_iff.1 hy).1
          rw [hc j hj, nth_eq hj]
          rw [List.getElem?_eq_getElem hj] at hy
          cases hy; rfl) (by have := cell_lt (hc 0 hlp); exact this) (by omega) hc' (by show (Lib.join (l.map bl) [47]).length ≤ _; omega)
  obtain ⟨jn, hjn⟩ : ∃ jn, jn = mk (Lib.join (l.map bl) [47]) := ⟨_, rfl⟩
  have hjz : jn.size ≤ 100000000 := by rw [hjn, mk_size]; omega
  rw [← hjn] at HJ
  have HE := Lib.hid (show mk [47] ++ jn = fmtS l by rw [hjn, mk_append]; rfl)
  have HH := Lib.hid (hh.on HB.out)
  clear hh h hn hjn
  go_enter Tryd.func13, Tryd.ntmps13
  go_wp2_with fail
  refine (HJ.out _ HH.out).mono ?_
  rintro e w' ⟨rfl, hb⟩
  have HB2 := Lib.hid (HB.out.trans (hb.mono (by simp))); clear hb
  go_wp2
  go_ret
  exact ⟨ret_str HE.out, HB2.out⟩
set_option maxHeartbeats 1000000 in
theorem specFormatName (v : Value) (l : List ByteArray) (w : World) (h : Holds Value.string w v l) (hl : bulk l ≤ 100000000) :
    Calls Tryd.prog 10 #[.agg #[v]] w fun e w' => e = .returned (.string (fmtS l)) ∧ Below w.heap.size w w' := by
  obtain ⟨x, n, cap, rfl, hn, hcap, hh⟩ := h.shapeN
  have hll := bigLen hl
  have HSZ := Lib.hid (fun k (hk : k ≤ l.length) => Nat.le_trans (fT_le l hk) hl)
  have HNZ := Lib.hid (fun k (hk : k < l.length) => size_nth hl hk)
  have HB := Lib.hid ((Below.refl w.heap.size w).alloc (Nat.le_refl _) (.cells #[.slice x n cap] 36))
  have HH := Lib.hid (hh.on HB.out)
  have HN := Lib.hid hn
  rw [← hn] at hll
  clear hh h hn hl
  go_enter Tryd.func10, Tryd.ntmps10
  go_wp2_with fail
  go_loop [3, 4] (fun sv iv => ∃ (k : Nat) (s : ByteArray), k ≤ n ∧ iv = .int .i64 k ∧ sv = .string s ∧ s.size ≤ 100000000 ∧ Hid (s = fT l k)) (fun _ iv => n - (intOf iv).toNat)
  case atStart => exact ⟨0, mk [], Nat.zero_le _, rfl, rfl, by rw [mk_size]; simp, Lib.hid (fT_zero l).symm⟩
  case round =>
    obtain ⟨k, s, hk, rfl, rfl, hs, he⟩ := hrel
    by_cases hlt : k < n
    · have hlen := HN.out
      obtain ⟨b, off, rfl, hc⟩ := HH.out.at (j := k) (by omega)
      have hz := HNZ.out k (by omega)
      have HS2 := Lib.hid (fT_succ l (k := k) (by omega))
      have HZ2 := Lib.hid (HSZ.out (k + 1) (by omega))
      clear hlen
      go_wp2
      go_round
      case rel => exact ⟨k + 1, _, by omega, by go_num, rfl, by have := HZ2.out; rw [HS2.out, ← he.out] at this; exact this, Lib.hid (by rw [HS2.out, he.out]; rfl)⟩
      case measure => simp [intOf]; omega
    · obtain rfl : k = n := by omega
      clear hlt
      by_cases h0 : k = 0
      · subst h0
        have HE := Lib.hid (show fmtS l = mk [47] by
          have : l = [] := List.eq_nil_of_length_eq_zero HN.out.symm
          rw [this, fmtS_nil])
        go_wp2
        go_ret
        exact ⟨ret_str HE.out.symm, HB.out⟩
      · have hne : ((k : Int) == 0) = false := by simpa using h0
        have HE := Lib.hid (show s = fmtS l by
          have h1 : l ≠ [] := fun e => h0 (by rw [HN.out, e]; rfl)
          rw [he.out, HN.out, fT_all h1])
        clear h0
        go_wp2
        go_ret
        exact ⟨ret_str HE.out, HB.out⟩
end Go.Proofs.YtdaahcaafdleaabDoor.Row
/- Plain mathematics of decimal numerals, no program in sight: a number's numeral spells the number; a numeral of a number from 0 to 10^12 is read back by Atoi's rule; two numbers with one numeral are equal. No conditions. -/
namespace Go.Proofs.YtdaahcaafdleaabDoor.Dec
open Go.Lib
theorem decFrom_append : ∀ (l : List UInt8) (acc : Nat) (c : UInt8), decFrom acc (l ++ [c]) = (decFrom acc l).bind fun n => (digitVal c).map fun d => n * 10 + d
  | [], acc, c => by cases h : digitVal c <;> simp [decFrom, h]
  | a :: t, acc, c => by
    simp only [List.cons_append, decFrom]
    cases h : digitVal a with
    | none => simp
    | some e => simpa using decFrom_append t (acc * 10 + e) c
theorem digitVal_dig (d : Nat) (h : d < 10) : digitVal (UInt8.ofNat (48 + d)) = some d := by
  have e : (UInt8.ofNat (48 + d)).toNat = 48 + d := by simp; omega
  unfold digitVal
  rw [if_pos (by rw [e]; omega), e]
  simp
theorem decFrom_decDigits : ∀ (u : Nat), decFrom 0 (decDigits u) = some u := by
  intro u
  induction u using Nat.strongRecOn with
  | ind u ih =>
    rw [decDigits]
    by_cases h : u < 10
    · rw [dif_pos h]
      have e : ∀ c d, digitVal c = some d → decFrom 0 [c] = some d := fun c d hc => by simp [decFrom, hc]
      exact e _ _ (digitVal_dig u h)
    · rw [dif_neg h, decFrom_append, ih (u / 10) (by omega)]
      have e : ∀ c d, digitVal c = some d → ((some (u / 10)).bind fun n => (digitVal c).map fun d => n * 10 + d) = some (u / 10 * 10 + d) := fun c d hc => by simp [hc]
      rw [e _ _ (digitVal_dig (u % 10) (by omega))]
      congr 1; omega
theorem itoa_pos {v : Int} (h : 0 ≤ v) : itoa v = decDigits v.toNat := by
  unfold itoa; rw [if_neg (by omega)]
theorem nDigits_le : ∀ (k u : Nat), u < 10 ^ (k + 1) → nDigits u ≤ k + 1
  | 0, u, h => by rw [nDigits_small (by simpa using h)]; omega
  | k + 1, u, h => by
    by_cases hu : u < 10
    · rw [nDigits_small hu]; omega
    · rw [nDigits_big hu]
      have := nDigits_le k (u / 10) (by rw [Nat.pow_succ] at h; omega)
      omega
theorem nDigits_le13 {u : Nat} (h : u ≤ 1000000000000) : nDigits u ≤ 13 :=
  nDigits_le 12 u (by have e : (10 : Nat) ^ (12 + 1) = 10000000000000 := by decide
                      omega)
theorem nDigits_le20 {u : Nat} (h : u ≤ 9223372036854775808) : nDigits u ≤ 20 :=
  nDigits_le 19 u (by have e : (10 : Nat) ^ (19 + 1) = 100000000000000000000 := by decide
                      omega)
def IsNum (v : Int) (l : List UInt8) : Prop := 0 ≤ v ∧ v ≤ 1000000000000 ∧ itoa v = l
theorem IsNum.len {v : Int} {l : List UInt8} (h : IsNum v l) : 1 ≤ l.length ∧ l.length ≤ 13 := by
  obtain ⟨h0, h1, rfl⟩ := h
  rw [itoa_pos h0, decDigits_length]
  exact ⟨nDigits_pos _, nDigits_le13 (by omega)⟩
theorem IsNum.dec {v : Int} {l : List UInt8} (h : IsNum v l) : decFrom 0 l = some v.toNat := by
  obtain ⟨h0, h1, rfl⟩ := h
  rw [itoa_pos h0, decFrom_decDigits]
def rest (u : Nat) : List UInt8 := if u = 0 then [] else decDigits u
theorem rest_step {u : Nat} (h : u ≠ 0) : rest u = rest (u / 10) ++ [UInt8.ofNat (48 + u % 10)] := by
  unfold rest
  rw [if_neg h]
  by_cases h1 : u < 10
  · rw [if_pos (by omega), decDigits, dif_pos h1, Nat.mod_eq_of_lt h1]; simp
  · rw [if_neg (by omega), decDigits, dif_neg h1]
theorem rest_length {u : Nat} (h : u ≤ 9223372036854775808) : (rest u).length ≤ 20 := by
  unfold rest
  split
  · simp
  · rw [decDigits_length]; exact nDigits_le20 h
theorem rest_pos {u : Nat} (h : u ≠ 0) : rest u = decDigits u := by unfold rest; rw [if_neg h]
end Go.Proofs.YtdaahcaafdleaabDoor.Dec
/- Contract of the reference model's FormatInt: the decimal numeral. No conditions. -/
namespace Go.Proofs.YtdaahcaafdleaabDoor.Text
open Go.ChangeShapes Go.WideShapes Go.ChangeAt Go.RowKit Go.Instr
set_option linter.unusedVariables false
set_option maxRecDepth 100000
def str (l : List UInt8) : ByteArray := ⟨l.toArray⟩
theorem tm10 (x : Int) : -9 ≤ x.tmod 10 ∧ x.tmod 10 ≤ 9 := by
  have h1 := Int.tmod_lt_of_pos x (b := 10) (by omega)
  have h2 := Int.lt_tmod_of_pos x (b := 10) (by omega)
  omega
theorem conv1 (wx : World) (v : Int) (h0 : 0 ≤ v) (h1 : v < 256) :
    (convert 44 9 (.slice (some ⟨wx.heap.size, 0, none⟩) 1 1)).run Tryd.prog (wx.alloc (.cells #[.int .u8 v] 5)) = .ok (.string (str [UInt8.ofNat v.toNat])) (wx.alloc (.cells #[.int .u8 v] 5)) := by
  have := run_convert_bytes_back (P := Tryd.prog) (wx.alloc (.cells #[.int .u8 v] 5)) 44 9 5 ⟨wx.heap.size, 0, none⟩ 1 [UInt8.ofNat v.toNat] Tryd.underlying44 Tryd.underlying5 Tryd.underlying9 ?_
  · exact this
  · intro j hj
    have : j = 0 := by simpa using hj
    subst this
    have e : ((UInt8.ofNat v.toNat).toNat : Int) = v := by simp; omega
    simp only [List.getElem_cons_zero, e]
    simp [Addr.add, World.cell?_alloc_mark]
theorem str_cons (c : UInt8) (l : List UInt8) : str [c] ++ str l = str (c :: l) := by
  simp [str, ByteArray.ext_iff]
theorem str_size (l : List UInt8) : (str l).size = l.length := by simp [str, ByteArray.size]
theorem step_neg {x : Int} (h : x ≠ 0) (hneg : x.tmod 10 < 0) (l : List UInt8) : Dec.rest x.natAbs ++ l = Dec.rest (x.tdiv 10).natAbs ++ (UInt8.ofNat (48 + -x.tmod 10).toNat :: l) := by
  rw [Dec.rest_step (by omega)]
  have e1 : (x.tdiv 10).natAbs = x.natAbs / 10 := by rw [Int.natAbs_tdiv]; rfl
  have e2 : (x.tmod 10).natAbs = x.natAbs % 10 := by rw [Int.natAbs_tmod]; rfl
  have e3 : (48 + -x.tmod 10).toNat = 48 + x.natAbs % 10 := by omega
  rw [e1, e3]; simp
theorem step_pos {x : Int} (h : x ≠ 0) (hneg : ¬ x.tmod 10 < 0) (l : List UInt8) : Dec.rest x.natAbs ++ l = Dec.rest (x.tdiv 10).natAbs ++ (UInt8.ofNat (48 + x.tmod 10).toNat :: l) := by
  rw [Dec.rest_step (by omega)]
  have e1 : (x.tdiv 10).natAbs = x.natAbs / 10 := by rw [Int.natAbs_tdiv]; rfl
  have e2 : (x.tmod 10).natAbs = x.natAbs % 10 := by rw [Int.natAbs_tmod]; rfl
  have e3 : (48 + x.tmod 10).toNat = 48 + x.natAbs % 10 := by omega
  rw [e1, e3]; simp
theorem wf64 {n : Int} (w0 : (Lit.int .i64 n).wf = true) : -9223372036854775808 ≤ n ∧ n ≤ 9223372036854775807 := by
  have e1 : IntKind.i64.min = -9223372036854775808 := rfl
  have e2 : IntKind.i64.max = 9223372036854775807 := rfl
  simpa [Lit.wf, e1, e2] using w0
theorem size1 (c : UInt8) : (str [c]).size ≤ 1 := by rw [str_size]; simp
theorem tdiv_wf {x : Int} (h : (Lit.int .i64 x).wf = true) : (Lit.int .i64 (x.tdiv 10)).wf = true := by
  have hh := wf64 h
  have e1 : IntKind.i64.min = -9223372036854775808 := rfl
  have e2 : IntKind.i64.max = 9223372036854775807 := rfl
  have e3 : (x.tdiv 10).natAbs = x.natAbs / 10 := by rw [Int.natAbs_tdiv]; rfl
  simp only [Lit.wf, e1, e2]
  simp
  omega
theorem tdiv_in {x : Int} (h : (Lit.int .i64 x).wf = true) : wrap64 (x.tdiv 10) = x.tdiv 10 := by
  have hh := wf64 (tdiv_wf h)
  unfold wrap64
  omega
theorem tdiv_less {x : Int} (h : x ≠ 0) : (x.tdiv 10).natAbs < x.natAbs := by
  have e3 : (x.tdiv 10).natAbs = x.natAbs / 10 := by rw [Int.natAbs_tdiv]; rfl
  omega
theorem small_of {n : Int} (w0 : (Lit.int .i64 n).wf = true) {r l : List UInt8} (h : r ++ l = Dec.rest n.natAbs) : (str l).size ≤ 20 := by
  have hh := wf64 w0
  have h1 := Dec.rest_length (u := n.natAbs) (by omega)
  rw [← h] at h1
  rw [str_size]
  simp at h1; omega
theorem itoa_rest {n : Int} (h : n ≠ 0) (hneg : ¬ n < 0) : Lib.itoa n = Dec.rest n.natAbs := by
  rw [Dec.rest_pos (by omega), Dec.itoa_pos (by omega)]
  congr 1; omega
theorem itoa_rest_neg {n : Int} (hneg : n < 0) : Lib.itoa n = 45 :: Dec.rest n.natAbs := by
  rw [Dec.rest_pos (by omega)]
  unfold Lib.itoa; rw [if_pos hneg]
theorem ret_str {a b : ByteArray} (h : a = b) : Ending.returned (.string a) = .returned (.string b) := by rw [h]
set_option maxHeartbeats 400000 in
theorem specFormat (n : Int) (w : World) (w0 : (Lit.int .i64 n).wf = true) :
    Calls Tryd.prog 11 #[.int .i64 n] w fun e w' => e = .returned (.string (str (Lib.itoa n))) ∧ Below w.heap.size w w' := by
  by_cases h0 : n = 0
  · subst h0
    go_enter Tryd.func11, Tryd.ntmps11
    go_wp2
    go_ret
    exact ⟨ret_str (by decide +kernel), Below.refl _ _⟩
  · have hn : (n == 0) = false := by simpa using h0
    have W0 := Lib.hid w0; clear w0
    go_enter Tryd.func11, Tryd.ntmps11
    go_wp2
    go_loopw [3, 4] (fun sv xv wr => ∃ (x : Int) (l : List UInt8), xv = .int .i64 x ∧ sv = .string (str l) ∧ (Lit.int .i64 x).wf = true ∧ Dec.rest x.natAbs ++ l = Dec.rest n.natAbs ∧ Below w.heap.size w wr) (fun _ xv _ => (intOf xv).natAbs)
    case atStart => exact ⟨n, [], rfl, rfl, W0.out, by simp, Below.refl _ _⟩
    case round =>
      obtain ⟨x, l, rfl, rfl, wx, hl, hb⟩ := hrel
      have WX := Lib.hid wx; clear wx
      have hs := small_of W0.out hl
      have HL := Lib.hid hl; clear hl
      obtain ⟨t1, t2⟩ := tm10 x
      by_cases hx0 : x = 0
      · subst hx0
        by_cases hneg : n < 0
        · go_wp2
          go_ret
          exact ⟨ret_str (by rw [itoa_rest_neg hneg, ← HL.out]; exact str_cons 45 l), hb⟩
        · go_wp2
          go_ret
          exact ⟨ret_str (by rw [itoa_rest h0 (by omega), ← HL.out]; rfl), hb⟩
      · have hxb : (x != 0) = true := by simpa using hx0
        by_cases hneg : x.tmod 10 < 0
        · have hc := conv1 wr (48 + -x.tmod 10) (by omega) (by omega)
          have hz := size1 (UInt8.ofNat (48 + -x.tmod 10).toNat)
          go_wp2
          go_roundw
          case rel => exact ⟨x.tdiv 10, _, by rw [tdiv_in WX.out], by rw [str_cons], tdiv_wf WX.out, by rw [← HL.out, step_neg hx0 hneg], hb.alloc hb.size _⟩
          case measure => simp only [intOf]; rw [tdiv_in WX.out]; exact tdiv_less hx0
        · have hc := conv1 wr (48 + x.tmod 10) (by omega) (by omega)
          have hz := size1 (UInt8.ofNat (48 + x.tmod 10).toNat)
          go_wp2
          go_roundw
          case rel => exact ⟨x.tdiv 10, _, by rw [tdiv_in WX.out], by rw [str_cons], tdiv_wf WX.out, by rw [← HL.out, step_pos hx0 hneg], hb.alloc hb.size _⟩
          case measure => simp only [intOf]; rw [tdiv_in WX.out]; exact tdiv_less hx0
theorem itoa_size (n : Int) (w0 : (Lit.int .i64 n).wf = true) : (str (Lib.itoa n)).size ≤ 21 := by
  have hh := wf64 w0
  rw [str_size]
  exact Lib.itoa_length_le n hh.1 hh.2
end Go.Proofs.YtdaahcaafdleaabDoor.Text
/- Contracts of FormatInt and ParseInt, the program's and the reference model's: FormatInt returns the decimal numeral; ParseInt returns the number from 0 to 10^12 whose numeral the text is, or false. What was in memory stays as it was. The program's road asks the library's tables as their initialisers lay them. -/
namespace Go.Proofs.YtdaahcaafdleaabDoor.Text
open Go.ChangeShapes Go.WideShapes Go.ChangeAt Go.RowKit Go.Instr
set_option linter.unusedVariables false
set_option maxRecDepth 100000
theorem var_kept {P : Program} {n : String} {cs : Array Value} {W W' : World} (h : W.var? P n = some cs) (hb : Below W.heap.size W W') : W'.var? P n = some cs := by
  unfold World.var? at *
  cases hg : P.globalNamed n with
  | none => simp [hg] at h
  | some g =>
    simp only [hg, Option.bind_some] at h ⊢
    have hlt : g < W.heap.size := by
      cases hh : W.heap[g]? with
      | none => rw [hh] at h; cases h
      | some o => exact (Array.getElem?_eq_some_iff.1 hh).1
    rw [hb.block g hlt]; exact h
def Tab (w : World) : Prop := Lib.TabIs Tryd.prog w "internal/strconv.uint64pow10" .u64 Lib.pow10Tab
theorem Tab.on {w w' : World} (h : Tab w) (hb : Below w.heap.size w w') : Tab w' := var_kept h hb
def Errs (w : World) : Prop := (∃ tp p, w.var? Tryd.prog "strconv.ErrSyntax" = some #[.iface tp p]) ∧ ∃ tp p, w.var? Tryd.prog "strconv.ErrRange" = some #[.iface tp p]
theorem Errs.on {w w' : World} (h : Errs w) (hb : Below w.heap.size w w') : Errs w' := by
  obtain ⟨⟨a, b, h1⟩, ⟨c, d, h2⟩⟩ := h
  exact ⟨⟨a, b, var_kept h1 hb⟩, ⟨c, d, var_kept h2 hb⟩⟩
theorem below_grow (w : World) (k : Nat) (os : Array Obj) : Below w.heap.size w (Sort.grow (w.drewN k) os) := by
  refine ⟨rfl, rfl, rfl, ?_, fun i hi => ?_⟩
  · show w.heap.size ≤ (w.heap ++ os).size
    simp
  · show (w.heap ++ os)[i]? = w.heap[i]?
    rw [Array.getElem?_append_left hi]
theorem implFormat (n : Int) (w : World) (w0 : (Lit.int .i64 n).wf = true) (ht : Tab w) :
    Calls Tryd.prog 14 #[.int .i64 n] w fun e w' => e = .returned (.string (str (Lib.itoa n))) ∧ Below w.heap.size w w' := by
  obtain ⟨b1, b2⟩ := wf64 w0
  have hc := Tryd.strconv_Itoa n b1 b2 w ht
  have HC := Lib.hid hc; clear hc b1 b2 w0
  go_enter Tryd.func14, Tryd.ntmps14
  go_wp2_with fail
  refine HC.out.mono ?_
  rintro e w' ⟨rfl, k, os, rfl⟩
  go_wp2
  go_ret
  exact ⟨rfl, below_grow _ _ _⟩
end Go.Proofs.YtdaahcaafdleaabDoor.Text
