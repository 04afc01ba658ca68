/- Contracts and mathematics, joined: Slice, Exact, KLaw, KInt, Want, Gives, Conv, Num, VarMath, Var, ReadV, ReadVI. No conditions but those that each states. -/
import Derived.WalkKit
import Derived.ProofKit
import Derived.WalkLawsBesides
import Derived.Lib.Hide
import Derived.Below
import Derived.OwnWalk
import Derived.Laws.OwnMore
import Derived.Laws.AppendOwnNone
import Derived.ArgAppend
import Derived.Maps.AppendAt
import Derived.Test.YtbooamnlocobfaaRows
import Derived.LoopTactic
import Derived.Deep.QuietTactic
import Derived.BigQuiet
import Derived.Test.YtbooamnlocobfaaB1
import Derived.Lib.ConvBytes
import Derived.Lib.SmallJoins
import Derived.Laws.BitsLemmas
import Derived.Laws.Bits128
import Derived.Laws.ShiftsVarLaws
/- Slices of numbers in memory, for any program: a slice value that holds a list; a slice in blocks of the call's own that holds a list; what keeps both; one list appended to another. No conditions but that lengths fit. -/
namespace Go.Proofs.Ytbooamnlocobfaa.Sl
open Go.ChangeShapes Go.WideShapes Go.ChangeAt Go.RowKit
set_option linter.unusedVariables false
set_option maxRecDepth 100000

/-- The number at place j. (A plain definition: the walk leaves it alone.) -/
def nth (l : List Int) (j : Nat) : Int := l.getD j 0

/-- The slice value v holds the numbers l, of kind k, in the world w. -/
def Holds (k : IntKind) (w : World) (v : Value) (l : List Int) : Prop :=
  ∃ x cap, v = .slice x l.length cap ∧ l.length ≤ cap ∧ (l = [] ∨ ∃ b off, x = some ⟨b, off, none⟩ ∧ ∀ j, j < l.length → w.cell? ⟨b, off + j, none⟩ = some (.int k (nth l j)))

/-- The slice value v lies at the head of a row of its own, in a block from B on, and holds l. -/
def Own (e : TypeId) (k : IntKind) (B : Nat) (w : World) (v : Value) (l : List Int) : Prop := w.ownsRow B e 1 v l.length (l.map (Value.int k))

section
variable {k : IntKind} {e : TypeId} {B : Nat} {w w' : World} {v : Value} {l : List Int}

theorem Own.form (h : Own e k B w v l) : (v = .slice none 0 0 ∧ l = []) ∨ ∃ g cap, v = .slice (some ⟨g, 0, none⟩) l.length cap ∧ B ≤ g ∧ g < w.heap.size ∧ l.length ≤ cap ∧ cap ≤ maxLen := by
  rcases h.2 with ⟨hv, hn⟩ | ⟨g, cap, cur, hv, hg, hh, h1, h2, h3, h4⟩
  · exact Or.inl ⟨hv, List.eq_nil_of_length_eq_zero hn⟩
  · exact Or.inr ⟨g, cap, hv, hg, (Array.getElem?_eq_some_iff.1 hh).1, h1, h2⟩

theorem Own.holds (h : Own e k B w v l) : Holds k w v l := by
  rcases h.form with ⟨rfl, rfl⟩ | ⟨g, cap, rfl, h1, h2, h3, h4⟩
  · exact ⟨none, 0, rfl, by simp, Or.inl rfl⟩
  · refine ⟨_, cap, rfl, h3, ?_⟩
    by_cases hl : l = []
    · exact Or.inl hl
    · refine Or.inr ⟨g, 0, rfl, fun j hj => ?_⟩
      have h5 := World.ownsRow.cellAt h j (by simpa using hj)
      rw [Nat.zero_add, h5, List.getElem?_map]
      simp [nth, List.getD, List.getElem?_eq_getElem hj]

theorem Own.lt (h : Own e k B w v l) : ∀ g, v.ownBlock = some g → B ≤ g ∧ g < w.heap.size := World.ownsRow.lt h
theorem Own.grown (h : Own e k B w v l) {row : Option Nat} (hg : w.grownBy w' row) (hne : v.ownBlock = none ∨ v.ownBlock ≠ row) : Own e k B w' v l := World.ownsRow.kept h hg hne
theorem grown_of_below (hb : Below w.heap.size w w') (row : Option Nat) : w.grownBy w' row := ⟨hb.os, hb.tape, hb.output, hb.size, fun i hi _ => hb.block i hi⟩
theorem Own.on (h : Own e k B w v l) (hb : Below w.heap.size w w') : Own e k B w' v l := by
  refine World.ownsRow.kept h (grown_of_below hb none) ?_
  cases hv : v.ownBlock <;> simp
theorem Own.mono (h : Own e k B w v l) {B' : Nat} (hB : B' ≤ B) : Own e k B' w v l := by
  refine ⟨h.1, ?_⟩
  rcases h.2 with h2 | ⟨g, cap, cur, hv, hg, r⟩
  · exact Or.inl h2
  · exact Or.inr ⟨g, cap, cur, hv, Nat.le_trans hB hg, r⟩
theorem Own.nil (e : TypeId) (k : IntKind) (B : Nat) (w : World) : Own e k B w (.slice none 0 0) [] := World.ownsRow_nil w B e 1
theorem Own.len (h : Own e k B w v l) : l.length ≤ maxLen := by
  rcases h.form with ⟨rfl, rfl⟩ | ⟨g, cap, rfl, h1, h2, h3, h4⟩
  · simp
  · omega
/-- A slice of the call's own that is not nil: its block. -/
theorem Own.block (h : Own e k B w v l) (hn : v ≠ .slice none 0 0) : ∃ g cap, v = .slice (some ⟨g, 0, none⟩) l.length cap ∧ B ≤ g ∧ g < w.heap.size ∧ l.length ≤ cap := by
  rcases h.form with ⟨hv, _⟩ | ⟨g, cap, hv, h1, h2, h3, h4⟩
  · exact absurd hv hn
  · exact ⟨g, cap, hv, h1, h2, h3⟩

theorem cell_lt {a : Addr} {u : Value} (h : w.cell? a = some u) : a.block < w.heap.size := by
  unfold World.cell? at h
  cases hh : w.heap[a.block]? with
  | none => simp [hh] at h
  | some o => exact (Array.getElem?_eq_some_iff.1 hh).1

theorem Holds.on (h : Holds k w v l) (hb : Below w.heap.size w w') : Holds k w' v l := by
  obtain ⟨x, cap, hv, hc, h⟩ := h
  refine ⟨x, cap, hv, hc, ?_⟩
  rcases h with h | ⟨b, off, hx, h⟩
  · exact Or.inl h
  · exact Or.inr ⟨b, off, hx, fun j hj => by rw [hb.cell (cell_lt (h j hj))]; exact h j hj⟩
theorem Holds.nil (k : IntKind) (w : World) : Holds k w (.slice none 0 0) [] := ⟨none, 0, rfl, by simp, Or.inl rfl⟩
theorem Holds.shape (h : Holds k w v l) : ∃ x cap, v = .slice x l.length cap ∧ l.length ≤ cap ∧ Holds k w (.slice x l.length cap) l := by
  obtain ⟨x, cap, hv, hc, h⟩ := h
  exact ⟨x, cap, hv, hc, x, cap, rfl, hc, h⟩
theorem Holds.at {x : Option Addr} {n cap : Nat} (h : Holds k w (.slice x n cap) l) {j : Nat} (hj : j < l.length) :
    ∃ b off, x = some ⟨b, off, none⟩ ∧ w.cell? ⟨b, off + j, none⟩ = some (.int k (nth l j)) := by
  obtain ⟨x', cap', hv, hc, h⟩ := h
  cases hv
  rcases h with rfl | ⟨b, off, hx, h⟩
  · simp at hj
  · exact ⟨b, off, hx, h j hj⟩
theorem Holds.lenEq {x : Option Addr} {n cap : Nat} (h : Holds k w (.slice x n cap) l) : n = l.length := by
  obtain ⟨x', cap', hv, hc, h⟩ := h
  cases hv; rfl

/-- Two slices of the call's own in blocks that differ: writing one leaves the other. -/
theorem Own.apart {B' : Nat} {v' : Value} {l' : List Int} {e' : TypeId} {k' : IntKind} (h : Own e k B w v l) (h' : Own e' k' B' w' v' l') (hB : w'.heap.size ≤ B) : v.ownBlock = none ∨ v.ownBlock ≠ v'.ownBlock := by
  cases hv : v.ownBlock with
  | none => exact Or.inl rfl
  | some g =>
    refine Or.inr fun he => ?_
    have h1 := h.lt g hv
    have h2 := h'.lt g he.symm
    omega
theorem Own.apart' {B' : Nat} {v' : Value} {l' : List Int} {e' : TypeId} {k' : IntKind} (h : Own e k B w v l) (h' : Own e' k' B' w' v' l') (hB : w.heap.size ≤ B') : v.ownBlock = none ∨ v.ownBlock ≠ v'.ownBlock := by
  cases hv : v.ownBlock with
  | none => exact Or.inl rfl
  | some g =>
    refine Or.inr fun he => ?_
    have h1 := h.lt g hv
    have h2 := h'.lt g he.symm
    omega
theorem Holds.grown (h : Holds k w v l) {row : Option Nat} (hg : w.grownBy w' row) (hne : ∀ g, v.ownBlock = some g → some g ≠ row) : Holds k w' v l := by
  obtain ⟨x, cap, rfl, hc, h⟩ := h
  refine ⟨x, cap, rfl, hc, ?_⟩
  rcases h with h | ⟨b, off, rfl, h⟩
  · exact Or.inl h
  · exact Or.inr ⟨b, off, rfl, fun j hj => hg.cell (h j hj) (hne b rfl)⟩

theorem below_grown {w0 : World} {row : Option Nat} {B0 : Nat} (h : Below B0 w0 w) (hg : w.grownBy w' row) (hB : B0 ≤ w.heap.size) (hr : ∀ g, row = some g → B0 ≤ g) : Below B0 w0 w' := h.grown hg hB hr

theorem nth_eq {l : List Int} {j : Nat} (hj : j < l.length) : nth l j = l[j] := by simp [nth, List.getD, List.getElem?_eq_getElem hj]
theorem getD_map {j : Nat} (hj : j < l.length) : (l.map (Value.int k))[j]? = some (.int k (nth l j)) := by
  simp [nth, List.getD, List.getElem?_eq_getElem hj]
end

/-! ### append -/
theorem oneCell (k : IntKind) (l : List Int) : ∀ u ∈ l.map (Value.int k), u.oneCell' = true := by
  intro u hu
  obtain ⟨_, _, rfl⟩ := List.mem_map.1 hu
  rfl

/-- What holds l is read as l's cells, or l is empty. -/
theorem Holds.cells {k : IntKind} {w : World} {ad : Addr} {n cap : Nat} {l : List Int} (h : Holds k w (.slice (some ad) n cap) l) : ∀ j u, (l.map (Value.int k))[j]? = some u → w.cell? (ad.add j) = some u := by
  intro j u hu
  have hj : j < l.length := by have := (List.getElem?_eq_some_iff.1 hu).1; simpa using this
  obtain ⟨b, off, hx, hc⟩ := h.at hj
  cases hx
  rw [Go.WideShapes.add_plain, hc]
  rw [getD_map hj] at hu
  exact hu

/-- The element type's row of the program's table: its zero, one cell, so many bytes. -/
def Elem (P : Program) (e : TypeId) (z : Value) (bytes : Nat) : Prop := (P.info? e).map (fun i => (i.zero, i.size, i.bytes)) = some (some z, 1, bytes)

section
variable {P : Program} {w : World} {ops : Array Oper} {rest : List Oper} {o : Oper} {a : Act} {Q : Exit → Act → World → Prop} {k : IntKind} {e t : TypeId} {bytes : Nat} {z : Value}

/-- append to a slice of the call's own, whatever is appended. -/
theorem wpList_app_nn (hgd : o.guard = none) (s x : Operand) (ho : o.op = .call { callee := .builtin .append, args := #[s, x], argTypes := #[t, t] }) (ht : P.underlying t = some (.slice e)) (hi : Elem P e z bytes) (hz : z.cells.size = 1)
    {B : Nat} {v vx : Value} {l m : List Int} (hs : a.eval s = v) (hx : a.eval x = vx) (hown : Own e k B w v l) (hsrc : Holds k w vx m) (hlen : (l.length + m.length) * 8 ≤ 140737488355328) (hby : bytes ≤ 8) (hB : B ≤ w.heap.size)
    (h : ∀ v' w', Own e k B w' v' (l ++ m) → w.grownBy w' v.ownBlock → (v ≠ .slice none 0 0 → v' ≠ .slice none 0 0) → wpList P ops Q rest (a.put o.dst v') w') : wpList P ops Q (o :: rest) a w := by
  obtain ⟨i, h1, h2, h3, h4⟩ := info_parts hi
  have hbytes : (l.length + m.length) * bytes ≤ 140737488355328 := Nat.le_trans (Nat.mul_le_mul_left _ hby) hlen
  have h63 : l.length + m.length ≤ maxLen := by unfold maxLen; omega
  obtain ⟨ao, cap, rfl, hcap, hc⟩ := hsrc
  have hsrc : Holds k w (.slice ao m.length cap) m := ⟨ao, cap, rfl, hcap, hc⟩
  have fin : ∀ v' w', w'.ownsRow B e 1 v' (l.length + m.length) (l.map (Value.int k) ++ m.map (Value.int k)) → Own e k B w' v' (l ++ m) := by
    intro v' w' hh
    unfold Own
    rw [List.length_append, List.map_append]; exact hh
  cases ao with
  | some ad =>
    exact wpList_append_own w hgd s x t ho B e i z 1 bytes ht h1 h2 h3 h4 hz (by decide) v l.length _ hs hown ad m.length cap (m.map (Value.int k)) hx (by simp) hsrc.cells (oneCell k m) h63 hbytes hB
      fun v' w' r1 r2 r3 => h v' w' (fin v' w' r1) r2 (fun hn he => hn (r3.1 he).1)
  | none =>
    rcases hc with rfl | ⟨b, off, hc, _⟩
    · refine wpList_plain hgd fun K hK => ?_
      have hrun : (Builtin.append_ #[t, t] o.type #[v, .slice none 0 cap]).run P w = .ok v w := by
        rcases hown.2 with ⟨rfl, hn⟩ | ⟨g, cap', cur, rfl, _, _, hnc, _⟩
        · simp [Builtin.append_, run_underlying ht, sizeOf, typeInfo, h1, Builtin.lenOf, Builtin.firstCells]
        · simp [Builtin.append_, run_underlying ht, sizeOf, typeInfo, h1, Builtin.lenOf, Builtin.firstCells, hnc, storeCells]
      have hx' : a.eval x = .slice none 0 cap := by simpa using hx
      unfold Oper.wp
      simp [execOp, ho, resolve, invoke, builtin, hs, hx', hrun, Result.andThen]
      exact hK _ _ (h v w (by simpa using hown) (World.grownBy.refl _ _) (fun hn => hn))
    · cases hc

theorem wpList_app (hgd : o.guard = none) (s x : Operand) (ho : o.op = .call { callee := .builtin .append, args := #[s, x], argTypes := #[t, t] }) (ht : P.underlying t = some (.slice e)) (hi : Elem P e z bytes) (hz : z.cells.size = 1)
    {B : Nat} {v vx : Value} {l m : List Int} (hs : a.eval s = v) (hx : a.eval x = vx) (hown : Own e k B w v l) (hsrc : Holds k w vx m) (hlen : (l.length + m.length) * 8 ≤ 140737488355328) (hby : bytes ≤ 8) (hB : B ≤ w.heap.size)
    (h : ∀ v' w', Own e k B w' v' (l ++ m) → w.grownBy w' v.ownBlock → wpList P ops Q rest (a.put o.dst v') w') : wpList P ops Q (o :: rest) a w :=
  wpList_app_nn hgd s x ho ht hi hz hs hx hown hsrc hlen hby hB fun v' w' h1 h2 _ => h v' w' h1 h2

/-- append to a slice without spare capacity: the new row is the call's own. -/
theorem wpList_app_full (hgd : o.guard = none) (s x : Operand) (ho : o.op = .call { callee := .builtin .append, args := #[s, x], argTypes := #[t, t] }) (ht : P.underlying t = some (.slice e)) (hi : Elem P e z bytes) (hz : z.cells.size = 1)
    {ao : Option Addr} {n : Nat} {ad : Addr} {c mm : Nat} {l m : List Int} (hs : a.eval s = .slice ao n n) (hx : a.eval x = .slice (some ad) mm c) (hold : Holds k w (.slice ao n n) l) (hsrc : Holds k w (.slice (some ad) mm c) m) (hm : m ≠ []) (hlen : (l.length + m.length) * 8 ≤ 140737488355328) (hby : bytes ≤ 8)
    (h : ∀ v' w', Own e k w.heap.size w' v' (l ++ m) → w.grownBy w' none → wpList P ops Q rest (a.put o.dst v') w') : wpList P ops Q (o :: rest) a w := by
  obtain ⟨i, h1, h2, h3, h4⟩ := info_parts hi
  have hbytes : (l.length + m.length) * bytes ≤ 140737488355328 := Nat.le_trans (Nat.mul_le_mul_left _ hby) hlen
  have h63 : l.length + m.length ≤ maxLen := by unfold maxLen; omega
  have e1 := hold.lenEq; subst e1
  have e2 := hsrc.lenEq; subst e2
  have hm0 : 0 < m.length := by cases m <;> simp_all
  refine wpList_append_grows w hgd s x t ho e i z 1 bytes ht h1 h2 h3 h4 hz (by decide) ao l.length l.length (l.map (Value.int k)) hs ?_ (by simp) ?_ ad m.length c (m.map (Value.int k)) hx (by simp) hsrc.cells (oneCell k m) (by omega) h63 hbytes ?_
  · rintro rfl
    obtain ⟨x', cap', hv, hc, hh⟩ := hold
    rcases hh with rfl | ⟨b, off, hx', _⟩
    · simp
    · cases hv; cases hx'
  · rintro b rfl
    exact hold.cells
  · intro v' w' r1 r2
    refine h v' w' ?_ r2
    unfold Own
    rw [List.length_append, List.map_append]; exact r1
end

/-- A slice of the call's own, or one without spare capacity: an append leaves what is below B. -/
def Fits (e : TypeId) (k : IntKind) (B : Nat) (w : World) (v : Value) (l : List Int) : Prop := Own e k B w v l ∨ ∃ x, v = .slice x l.length l.length ∧ Holds k w v l
theorem Fits.on {k : IntKind} {e : TypeId} {B : Nat} {w w' : World} {v : Value} {l : List Int} (h : Fits e k B w v l) (hb : Below w.heap.size w w') : Fits e k B w' v l := by
  rcases h with h | ⟨x, hv, h⟩
  · exact Or.inl (h.on hb)
  · exact Or.inr ⟨x, hv, h.on hb⟩
theorem Fits.holds {k : IntKind} {e : TypeId} {B : Nat} {w : World} {v : Value} {l : List Int} (h : Fits e k B w v l) : Holds k w v l := by
  rcases h with h | ⟨x, hv, h⟩
  · exact h.holds
  · exact h

section
variable {P : Program} {w : World} {ops : Array Oper} {rest : List Oper} {o : Oper} {a : Act} {Q : Exit → Act → World → Prop} {k : IntKind} {e t : TypeId} {bytes : Nat} {z : Value}
theorem wpList_app_fit (hgd : o.guard = none) (s x : Operand) (ho : o.op = .call { callee := .builtin .append, args := #[s, x], argTypes := #[t, t] }) (ht : P.underlying t = some (.slice e)) (hi : Elem P e z bytes) (hz : z.cells.size = 1)
    {B : Nat} {v vx : Value} {l m : List Int} (hs : a.eval s = v) (hx : a.eval x = vx) (hown : Fits e k B w v l) (hsrc : Holds k w vx m) (hm : m ≠ []) (hlen : (l.length + m.length) * 8 ≤ 140737488355328) (hby : bytes ≤ 8) (hB : B ≤ w.heap.size)
    (h : ∀ v' w', Own e k B w' v' (l ++ m) → Below B w w' → wpList P ops Q rest (a.put o.dst v') w') : wpList P ops Q (o :: rest) a w := by
  rcases hown with hown | ⟨ao, rfl, hold⟩
  · exact wpList_app hgd s x ho ht hi hz hs hx hown hsrc hlen hby hB fun v' w' h1 h2 => h v' w' h1 ((Below.refl _ _).grown h2 hB (fun g hg => (hown.lt g hg).1))
  · obtain ⟨xo, c, rfl, hc, hh⟩ := hsrc
    have hsrc : Holds k w (.slice xo m.length c) m := ⟨xo, c, rfl, hc, hh⟩
    rcases hh with hh | ⟨b, off, rfl, _⟩
    · exact absurd hh hm
    · exact wpList_app_full hgd s x ho ht hi hz hs hx hold hsrc hm hlen hby fun v' w' h1 h2 => h v' w' (h1.mono hB) ((Below.refl _ _).grown h2 hB (fun g hg => by cases hg))
end

/-- A new block of one number; a new empty block. -/
theorem holds_one (k : IntKind) (e : TypeId) (w : World) (x : Int) : Holds k (w.alloc (.cells #[.int k x] e)) (.slice (some ⟨w.heap.size, 0, none⟩) 1 1) [x] := by
  refine ⟨_, 1, rfl, by simp, Or.inr ⟨_, _, rfl, fun j hj => ?_⟩⟩
  have : j = 0 := by simpa using hj
  subst this
  simp [World.cell?_alloc_mark, nth]
theorem own_empty (k : IntKind) (e : TypeId) (w : World) : Own e k w.heap.size (w.alloc (.cells #[] e)) (.slice (some ⟨w.heap.size, 0, none⟩) 0 0) [] := World.ownsRow_lit w #[] 0 (Nat.le_refl _) (by unfold maxLen; omega) rfl
end Go.Proofs.Ytbooamnlocobfaa.Sl
/- Contracts of the helpers by which the exact laws copy, compare, mark and look at slices of numbers: a copy lies in memory of the call's own and holds the same list; comparing tells whether the lists are equal; marking writes the numbers from k on; looking at the marks tells that they are there. No conditions but that lengths fit. -/
namespace Go.Proofs.Ytbooamnlocobfaa.Sl
open Go.ChangeShapes Go.WideShapes Go.ChangeAt Go.RowKit Go.Instr
set_option linter.unusedVariables false
set_option maxRecDepth 100000

/-- The list behind the first k stores of a copy. -/
def filled (l : List Int) (k : Nat) : List Int := l.take k ++ List.replicate (l.length - k) 0
theorem filled_length (l : List Int) {k : Nat} (h : k ≤ l.length) : (filled l k).length = l.length := by simp [filled]; omega
theorem filled_zero (l : List Int) : filled l 0 = List.replicate l.length 0 := by simp [filled]
theorem filled_all (l : List Int) : filled l l.length = l := by simp [filled]
theorem filled_step (l : List Int) {k : Nat} (h : k < l.length) : (filled l k).set k (nth l k) = filled l (k + 1) := by
  have hl : (l.take k).length = k := by simp; omega
  unfold filled
  rw [List.set_append_right _ _ (by omega), hl, Nat.sub_self, show l.length - k = (l.length - (k + 1)) + 1 by omega, List.replicate_succ, List.set_cons_zero, nth_eq h]
  have := List.take_succ_eq_append_getElem h
  rw [this, List.append_assoc]; rfl

/-- The numbers that a marking writes: from k on, as the element's kind holds them. -/
def marks (kd : IntKind) (k : Int) : Nat → List Int
  | 0 => []
  | n + 1 => marks kd k n ++ [kd.wrap (k + n)]
theorem marks_length (kd : IntKind) (k : Int) : ∀ n, (marks kd k n).length = n
  | 0 => rfl
  | n + 1 => by simp [marks, marks_length kd k n]
theorem marks_at (kd : IntKind) (k : Int) : ∀ n j, j < n → nth (marks kd k n) j = kd.wrap (k + j)
  | n + 1, j, h => by
    simp only [marks]
    by_cases hj : j < n
    · have := marks_at kd k n j hj
      simp only [nth, List.getD, List.getElem?_append, marks_length] at *
      rw [if_pos hj]; exact this
    · obtain rfl : j = n := by omega
      simp [nth, List.getD, marks_length]
/-- The list behind the first j marks. -/
def marked (kd : IntKind) (k : Int) (l : List Int) (j : Nat) : List Int := marks kd k j ++ l.drop j
theorem marked_length (kd : IntKind) (k : Int) (l : List Int) {j : Nat} (h : j ≤ l.length) : (marked kd k l j).length = l.length := by simp [marked, marks_length]; omega
theorem marked_zero (kd : IntKind) (k : Int) (l : List Int) : marked kd k l 0 = l := by simp [marked, marks]
theorem marked_all (kd : IntKind) (k : Int) (l : List Int) : marked kd k l l.length = marks kd k l.length := by simp [marked]
theorem marked_step (kd : IntKind) (k : Int) (l : List Int) {j : Nat} (h : j < l.length) (x : Int) (hx : x = kd.wrap (k + j)) : (marked kd k l j).set j x = marked kd k l (j + 1) := by
  subst hx
  simp only [marked, marks]
  rw [List.set_append_right _ _ (by rw [marks_length]; omega), marks_length, Nat.sub_self, List.append_assoc]
  congr 1
  cases hd : l.drop j with
  | nil => have := congrArg List.length hd; simp at this; omega
  | cons x r =>
    have : l.drop (j + 1) = r := by rw [← List.drop_drop, hd]; rfl
    simp [this]


/-- Two lists agree up to k. -/
def agree (a b : List Int) (k : Nat) : Prop := ∀ j, j < k → nth a j = nth b j
theorem agree_zero (a b : List Int) : agree a b 0 := fun j h => absurd h (by omega)
theorem agree_succ {a b : List Int} {k : Nat} (h : agree a b k) (hk : nth a k = nth b k) : agree a b (k + 1) := fun j hj => by
  by_cases e : j = k
  · subst e; exact hk
  · exact h j (by omega)
theorem agree_all {a b : List Int} (hl : a.length = b.length) (h : agree a b a.length) : a = b := by
  apply List.ext_getElem hl
  intro i h1 h2
  have := h i h1
  rwa [nth_eq h1, nth_eq h2] at this
theorem differ_at {a b : List Int} {k : Nat} (h : ¬ nth a k = nth b k) : a ≠ b := fun e => h (by rw [e])
def eqB (a b : List Int) : Bool := decide (a = b)
theorem eqB_true {a b : List Int} (h : a = b) : eqB a b = true := by simp [eqB, h]
theorem eqB_false {a b : List Int} (h : a ≠ b) : eqB a b = false := by simp [eqB, h]
theorem eqB_self (a : List Int) : eqB a a = true := by simp [eqB]

theorem own_store {e : TypeId} {k : IntKind} {B : Nat} {w : World} {g n cap : Nat} {l : List Int} (h : Own e k B w (.slice (some ⟨g, 0, none⟩) n cap) l) (hn : n = l.length) (j : Nat) (x : Int) :
    Own e k B (w.setCell ⟨g, j, none⟩ (.int k x)) (.slice (some ⟨g, 0, none⟩) n cap) (l.set j x) ∧ w.grownBy (w.setCell ⟨g, j, none⟩ (.int k x)) (some g) := by
  subst hn
  have := World.ownsRow.stored h j (.int k x)
  refine ⟨?_, this.2⟩
  unfold Own
  rw [List.length_set, List.map_set]
  exact this.1
theorem own_cell {e : TypeId} {k : IntKind} {B : Nat} {w : World} {g n cap : Nat} {l : List Int} (h : Own e k B w (.slice (some ⟨g, 0, none⟩) n cap) l) (hn : n = l.length) {j : Nat} (hj : j < l.length) :
    w.cell? ⟨g, j, none⟩ = some (.int k (nth l j)) ∧ w.frozen? ⟨g, j, none⟩ = false := by
  subst hn
  refine ⟨?_, World.ownsRow.frozenAt h j⟩
  rw [World.ownsRow.cellAt h j (by simpa using hj), getD_map hj]

theorem below_drewN {B : Nat} {a w : World} (h : Below B a w) (n : Nat) : Below B a (w.drewN n) := ⟨h.os, h.tape, h.output, h.size, h.block⟩
theorem ret_bool {a b : Bool} (h : a = b) : Ending.returned (.bool a) = .returned (.bool b) := by rw [h]
theorem ret_int {k : IntKind} {a b : Int} (h : a = b) : Ending.returned (.int k a) = .returned (.int k b) := by rw [h]

/-! ### BYTES -/
theorem elemBYTE : Elem Try.prog 5 (.int .u8 0) 1 := by unfold Elem; kernel_rfl

set_option maxHeartbeats 1000000 in
theorem toByteS (v : Value) (l : List Int) (w : World) (h : Holds .u8 w v l) (hl : l.length ≤ 100000000) :
    Calls Try.prog 33 #[v] w fun e w' => ∃ v', e = .returned v' ∧ Own 5 .u8 w.heap.size w' v' l ∧ Below w.heap.size w w' := by
  obtain ⟨x, cap, rfl, hcap, hh⟩ := h.shape
  obtain ⟨i0, hi, hz0, hz1, hz2⟩ := info_parts elemBYTE
  obtain ⟨n, hn⟩ : ∃ n, n = l.length := ⟨_, rfl⟩
  rw [← hn] at hcap hh hl ⊢
  have HN := Lib.hid hn
  have HH := Lib.hid hh
  have HI := Lib.hid hi; have HZ0 := Lib.hid hz0; have HZ1 := Lib.hid hz1; have HZ2 := Lib.hid hz2
  clear hn h hh hi hz0 hz1 hz2
  go_enter Try.func33, Try.ntmps33
  go_wp2_with (at_make; refine wpList_make_full _ rfl _ _ 25 rfl w.heap.size 5 i0 (.int .u8 0) 1 Try.underlying25 HI.out HZ0.out HZ1.out _ _ _ _ n rfl rfl rfl rfl (by rw [HZ2.out]; omega) (by unfold maxLen; omega) (Nat.le_refl _) ?_)
  intro w1 hown hgrow
  have ho : Own 5 .u8 w.heap.size w1 (.slice (some ⟨w.heap.size, 0, none⟩) n n) (filled l 0) := by
    unfold Own
    rw [filled_zero, List.length_replicate, ← HN.out, List.map_replicate]
    rw [toList_madeCells_one] at hown
    exact hown
  have hb : Below w.heap.size w w1 := (Below.refl _ _).grown hgrow (Nat.le_refl _) (fun k hk => by cases hk)
  have HO := Lib.hid ho; have HB := Lib.hid hb
  clear hown hgrow ho hb
  go_wp2_with fail
  go_loopw [4] (fun i wr => ∃ k : Nat, k ≤ n ∧ i = .int .i64 k ∧ Hid (Own 5 .u8 w.heap.size wr (.slice (some ⟨w.heap.size, 0, none⟩) n n) (filled l k)) ∧ Hid (Below w.heap.size w wr)) (fun i _ => n - (intOf i).toNat)
  case atStart => exact ⟨0, Nat.zero_le _, rfl, HO, HB⟩
  case round =>
    obtain ⟨k, hk, rfl, ho, hb⟩ := hrel
    by_cases hlt : k < n
    · have hlen := HN.out
      obtain ⟨b, off, rfl, hc⟩ := ((HH.out).on hb.out).at (j := k) (by omega)
      obtain ⟨hc2, hf2⟩ := own_cell ho.out (by rw [filled_length l (by omega)]; exact hlen) (j := k) (by rw [filled_length l (by omega)]; omega)
      obtain ⟨hs1, hs2⟩ := own_store ho.out (by rw [filled_length l (by omega)]; exact hlen) k (nth l k)
      rw [filled_step l (by omega)] at hs1
      have HS1 := Lib.hid hs1; have HS2 := Lib.hid hs2
      clear hs1 hs2 hlen
      go_wp2
      go_roundw
      case rel => exact ⟨k + 1, by omega, by go_num, HS1, Lib.hid (hb.out.grown HS2.out (by have := hb.out.size; exact this) (fun g hg => by cases hg; exact Nat.le_refl _))⟩
      case measure => simp [intOf]; omega
    · obtain rfl : k = n := by omega
      clear hlt
      go_wp2
      go_ret
      refine ⟨_, rfl, ?_, hb.out⟩
      have := ho.out
      rw [HN.out, filled_all] at this
      rw [HN.out]
      exact this

theorem eqByteS_len (x y : Option Addr) (n m cx cy : Nat) (w : World) (h : (((n : Nat) : Int) != ((m : Nat) : Int)) = true) :
    Calls Try.prog 29 #[.slice x n cx, .slice y m cy] w fun e w' => e = .returned (.bool false) ∧ w = w' := by
  go_enter Try.func29, Try.ntmps29
  go_wp2
  go_ret
  exact ⟨rfl, rfl⟩

set_option maxHeartbeats 1000000 in
theorem eqByteS (v u : Value) (l m : List Int) (w : World) (h : Holds .u8 w v l) (g : Holds .u8 w u m) (hl : l.length ≤ 100000000) (hm : m.length ≤ 100000000) :
    Calls Try.prog 29 #[v, u] w fun e w' => e = .returned (.bool (eqB l m)) ∧ Below w.heap.size w w' := by
  obtain ⟨x, cx, rfl, hcx, hh⟩ := h.shape
  obtain ⟨y, cy, rfl, hcy, hg⟩ := g.shape
  by_cases he : l.length = m.length
  · obtain ⟨n, hn⟩ : ∃ n, n = l.length := ⟨_, rfl⟩
    rw [← he] at hg hm hcy ⊢
    rw [← hn] at hcx hh hl hg hm hcy ⊢
    have HE := Lib.hid he
    have HN := Lib.hid hn
    have HH := Lib.hid hh
    have HG := Lib.hid hg
    have htest : (((n : Nat) : Int) != ((n : Nat) : Int)) = false := by simp
    clear hn h hh g hg he
    go_enter Try.func29, Try.ntmps29
    go_wp2
    go_loopw [5] (fun i wr => ∃ k nq : Nat, k ≤ n ∧ i = .int .i64 k ∧ Hid (agree l m k) ∧ wr = w.drewN nq) (fun i _ => n - (intOf i).toNat)
    case atStart => exact ⟨0, 0, Nat.zero_le _, rfl, Lib.hid (agree_zero _ _), rfl⟩
    case round =>
      obtain ⟨k, nq, hk, rfl, ha, rfl⟩ := hrel
      by_cases hlt : k < n
      · have hlen := HN.out
        have hlen2 := HE.out
        obtain ⟨b, off, rfl, hc⟩ := HH.out.at (j := k) (by omega)
        obtain ⟨b', off', rfl, hc'⟩ := HG.out.at (j := k) (by omega)
        clear hlen hlen2
        by_cases hd : nth l k = nth m k
        · have hd2 : (nth l k != nth m k) = false := by simpa using hd
          have HD := Lib.hid hd; clear hd
          go_wp2_with fail
          go_quiet (fail)
          go_wp2_with fail
          go_roundw
          case rel => exact ⟨k + 1, _, by omega, by go_num, Lib.hid (agree_succ ha.out HD.out), rfl⟩
          case measure => simp [intOf]; omega
        · have hd2 : (nth l k != nth m k) = true := by simpa using hd
          have HD := Lib.hid (eqB_false (differ_at hd)); clear hd
          go_wp2_with fail
          go_quiet (fail)
          go_wp2_with fail
          go_ret
          exact ⟨ret_bool HD.out.symm, below_drewN (below_drewN (Below.refl _ _) _) _⟩
      · obtain rfl : k = n := by omega
        have HD := Lib.hid (eqB_true (agree_all HE.out (HN.out ▸ ha.out)))
        clear hlt
        go_wp2
        go_ret
        exact ⟨ret_bool HD.out.symm, below_drewN (Below.refl _ _) _⟩
  · have htest : (((l.length : Nat) : Int) != ((m.length : Nat) : Int)) = true := by
      rw [bne_iff_ne]; omega
    rw [eqB_false (fun e => he (by rw [e]))]
    exact (eqByteS_len x y _ _ cx cy w htest).mono fun e w' ⟨h1, h2⟩ => ⟨h1, by subst h2; exact Below.refl _ _⟩

/-- Marking: every element of a slice of the call's own is written. -/
def MarkedB (B : Nat) (w : World) (v : Value) (n : Nat) (k : Int) (e : Ending) (w' : World) : Prop :=
  e = .returned (.int .i64 (k + n)) ∧ Own 5 .u8 B w' v (marks .u8 k n) ∧ w.grownBy w' v.ownBlock

set_option maxHeartbeats 1000000 in
theorem markByteS (B : Nat) (v : Value) (l : List Int) (w : World) (k : Int) (h : Own 5 .u8 B w v l) (hl : l.length ≤ 100000000) (h0 : 0 ≤ k) (h1 : k ≤ 1000000000000) :
    Calls Try.prog 30 #[v, .int .i64 k] w (MarkedB B w v l.length k) := by
  rcases h.form with ⟨rfl, rfl⟩ | ⟨g, cap, rfl, g1, g2, g3, g4⟩
  · have H := Lib.hid h; clear h
    go_enter Try.func30, Try.ntmps30
    go_wp2
    refine wp_loop_rounds 1 ?_
    rw [rounds_succ]
    go_wp2
    go_ret
    exact ⟨ret_int (by simp), H.out, World.grownBy.refl _ _⟩
  · obtain ⟨n, hn⟩ : ∃ n, n = l.length := ⟨_, rfl⟩
    rw [← hn] at h hl g3 ⊢
    have HN := Lib.hid hn
    have H := Lib.hid h
    clear hn h
    have HB : Hid (Own 5 .u8 B w (.slice (some ⟨g, 0, none⟩) n cap) (marked .u8 k l 0)) := by rw [marked_zero]; exact H.out
    go_enter Try.func30, Try.ntmps30
    go_wp2
    go_loopw [1, 5] (fun kv i wr => ∃ j : Nat, j ≤ n ∧ i = .int .i64 j ∧ kv = .int .i64 (k + j) ∧ Hid (Own 5 .u8 B wr (.slice (some ⟨g, 0, none⟩) n cap) (marked .u8 k l j)) ∧ Hid (w.grownBy wr (some g))) (fun _ i _ => n - (intOf i).toNat)
    case atStart => exact ⟨0, Nat.zero_le _, rfl, by simp, HB, Lib.hid (World.grownBy.refl _ _)⟩
    case round =>
      obtain ⟨j, hj, rfl, rfl, ho, hg⟩ := hrel
      by_cases hlt : j < n
      · have hlen := HN.out
        obtain ⟨hc2, hf2⟩ := own_cell ho.out (by rw [marked_length _ _ l (by omega)]; exact hlen) (j := j) (by rw [marked_length _ _ l (by omega)]; omega)
        obtain ⟨hs1, hs2⟩ := own_store ho.out (by rw [marked_length _ _ l (by omega)]; exact hlen) j (IntKind.u8.wrap (k + j))
        rw [marked_step _ _ l (by omega) _ (rfl)] at hs1
        have HS1 := Lib.hid hs1; have HS2 := Lib.hid (Go.World.grownBy.trans hg.out hs2)
        clear hs1 hs2 hlen
        go_wp2
        go_roundw
        case rel => exact ⟨j + 1, by omega, by go_num, by go_num, HS1, HS2⟩
        case measure => simp [intOf]; omega
      · obtain rfl : j = n := by omega
        clear hlt
        go_wp2
        go_ret
        refine ⟨rfl, ?_, hg.out⟩
        have := ho.out
        rw [HN.out, marked_all] at this
        rw [HN.out]
        exact this

set_option maxHeartbeats 1000000 in
theorem heldByteS (v : Value) (w : World) (k : Int) (n : Nat) (h : Holds .u8 w v (marks .u8 k n)) (hl : n ≤ 100000000) (h0 : 0 ≤ k) (h1 : k ≤ 1000000000000) :
    Calls Try.prog 31 #[v, .int .i64 k] w fun e w' => e = .returned (.int .i64 (k + n)) ∧ w = w' := by
  obtain ⟨x, cap, rfl, hcap, hh⟩ := h.shape
  rw [marks_length] at hcap hh ⊢
  have HH := Lib.hid hh; clear hh h
  go_enter Try.func31, Try.ntmps31
  go_wp2
  go_loop [1, 5] (fun kv i => ∃ j : Nat, j ≤ n ∧ i = .int .i64 j ∧ kv = .int .i64 (k + j)) (fun _ i => n - (intOf i).toNat)
  case atStart => exact ⟨0, Nat.zero_le _, rfl, by simp⟩
  case round =>
    obtain ⟨j, hj, rfl, rfl⟩ := hrel
    by_cases hlt : j < n
    · obtain ⟨b, off, rfl, hc⟩ := HH.out.at (j := j) (by rw [marks_length]; exact hlt)
      rw [marks_at _ _ n j hlt] at hc
      go_wp2
      go_round
      case rel => exact ⟨j + 1, by omega, by go_num, by go_num⟩
      case measure => simp [intOf]; omega
    · obtain rfl : j = n := by omega
      clear hlt
      go_wp2
      go_ret
      exact ⟨rfl, rfl⟩

/-! ### INTS -/
theorem elemINT : Elem Try.prog 3 (.int .i64 0) 8 := by unfold Elem; kernel_rfl

theorem eqIntS_len (x y : Option Addr) (n m cx cy : Nat) (w : World) (h : (((n : Nat) : Int) != ((m : Nat) : Int)) = true) :
    Calls Try.prog 18 #[.slice x n cx, .slice y m cy] w fun e w' => e = .returned (.bool false) ∧ w = w' := by
  go_enter Try.func18, Try.ntmps18
  go_wp2
  go_ret
  exact ⟨rfl, rfl⟩

set_option maxHeartbeats 1000000 in
theorem eqIntS (v u : Value) (l m : List Int) (w : World) (h : Holds .i64 w v l) (g : Holds .i64 w u m) (hl : l.length ≤ 100000000) (hm : m.length ≤ 100000000) :
    Calls Try.prog 18 #[v, u] w fun e w' => e = .returned (.bool (eqB l m)) ∧ Below w.heap.size w w' := by
  obtain ⟨x, cx, rfl, hcx, hh⟩ := h.shape
  obtain ⟨y, cy, rfl, hcy, hg⟩ := g.shape
  by_cases he : l.length = m.length
  · obtain ⟨n, hn⟩ : ∃ n, n = l.length := ⟨_, rfl⟩
    rw [← he] at hg hm hcy ⊢
    rw [← hn] at hcx hh hl hg hm hcy ⊢
    have HE := Lib.hid he
    have HN := Lib.hid hn
    have HH := Lib.hid hh
    have HG := Lib.hid hg
    have htest : (((n : Nat) : Int) != ((n : Nat) : Int)) = false := by simp
    clear hn h hh g hg he
    go_enter Try.func18, Try.ntmps18
    go_wp2
    go_loopw [5] (fun i wr => ∃ k nq : Nat, k ≤ n ∧ i = .int .i64 k ∧ Hid (agree l m k) ∧ wr = w.drewN nq) (fun i _ => n - (intOf i).toNat)
    case atStart => exact ⟨0, 0, Nat.zero_le _, rfl, Lib.hid (agree_zero _ _), rfl⟩
    case round =>
      obtain ⟨k, nq, hk, rfl, ha, rfl⟩ := hrel
      by_cases hlt : k < n
      · have hlen := HN.out
        have hlen2 := HE.out
        obtain ⟨b, off, rfl, hc⟩ := HH.out.at (j := k) (by omega)
        obtain ⟨b', off', rfl, hc'⟩ := HG.out.at (j := k) (by omega)
        clear hlen hlen2
        by_cases hd : nth l k = nth m k
        · have hd2 : (nth l k != nth m k) = false := by simpa using hd
          have HD := Lib.hid hd; clear hd
          go_wp2_with fail
          go_quiet (fail)
          go_wp2_with fail
          go_roundw
          case rel => exact ⟨k + 1, _, by omega, by go_num, Lib.hid (agree_succ ha.out HD.out), rfl⟩
          case measure => simp [intOf]; omega
        · have hd2 : (nth l k != nth m k) = true := by simpa using hd
          have HD := Lib.hid (eqB_false (differ_at hd)); clear hd
          go_wp2_with fail
          go_quiet (fail)
          go_wp2_with fail
          go_ret
          exact ⟨ret_bool HD.out.symm, below_drewN (below_drewN (Below.refl _ _) _) _⟩
      · obtain rfl : k = n := by omega
        have HD := Lib.hid (eqB_true (agree_all HE.out (HN.out ▸ ha.out)))
        clear hlt
        go_wp2
        go_ret
        exact ⟨ret_bool HD.out.symm, below_drewN (Below.refl _ _) _⟩
  · have htest : (((l.length : Nat) : Int) != ((m.length : Nat) : Int)) = true := by
      rw [bne_iff_ne]; omega
    rw [eqB_false (fun e => he (by rw [e]))]
    exact (eqIntS_len x y _ _ cx cy w htest).mono fun e w' ⟨h1, h2⟩ => ⟨h1, by subst h2; exact Below.refl _ _⟩

/-- Marking: every element of a slice of the call's own is written. -/
def MarkedI (B : Nat) (w : World) (v : Value) (n : Nat) (k : Int) (e : Ending) (w' : World) : Prop :=
  e = .returned (.int .i64 (k + n)) ∧ Own 3 .i64 B w' v (marks .i64 k n) ∧ w.grownBy w' v.ownBlock

set_option maxHeartbeats 1000000 in
theorem markIntS (B : Nat) (v : Value) (l : List Int) (w : World) (k : Int) (h : Own 3 .i64 B w v l) (hl : l.length ≤ 100000000) (h0 : 0 ≤ k) (h1 : k ≤ 1000000000000) :
    Calls Try.prog 20 #[v, .int .i64 k] w (MarkedI B w v l.length k) := by
  rcases h.form with ⟨rfl, rfl⟩ | ⟨g, cap, rfl, g1, g2, g3, g4⟩
  · have H := Lib.hid h; clear h
    go_enter Try.func20, Try.ntmps20
    go_wp2
    refine wp_loop_rounds 1 ?_
    rw [rounds_succ]
    go_wp2
    go_ret
    exact ⟨ret_int (by simp), H.out, World.grownBy.refl _ _⟩
  · obtain ⟨n, hn⟩ : ∃ n, n = l.length := ⟨_, rfl⟩
    rw [← hn] at h hl g3 ⊢
    have HN := Lib.hid hn
    have H := Lib.hid h
    clear hn h
    have HB : Hid (Own 3 .i64 B w (.slice (some ⟨g, 0, none⟩) n cap) (marked .i64 k l 0)) := by rw [marked_zero]; exact H.out
    go_enter Try.func20, Try.ntmps20
    go_wp2
    go_loopw [1, 5] (fun kv i wr => ∃ j : Nat, j ≤ n ∧ i = .int .i64 j ∧ kv = .int .i64 (k + j) ∧ Hid (Own 3 .i64 B wr (.slice (some ⟨g, 0, none⟩) n cap) (marked .i64 k l j)) ∧ Hid (w.grownBy wr (some g))) (fun _ i _ => n - (intOf i).toNat)
    case atStart => exact ⟨0, Nat.zero_le _, rfl, by simp, HB, Lib.hid (World.grownBy.refl _ _)⟩
    case round =>
      obtain ⟨j, hj, rfl, rfl, ho, hg⟩ := hrel
      by_cases hlt : j < n
      · have hlen := HN.out
        obtain ⟨hc2, hf2⟩ := own_cell ho.out (by rw [marked_length _ _ l (by omega)]; exact hlen) (j := j) (by rw [marked_length _ _ l (by omega)]; omega)
        obtain ⟨hs1, hs2⟩ := own_store ho.out (by rw [marked_length _ _ l (by omega)]; exact hlen) j (k + j)
        rw [marked_step _ _ l (by omega) _ ((IntWalk.i64_in _ (by omega)).symm)] at hs1
        have HS1 := Lib.hid hs1; have HS2 := Lib.hid (Go.World.grownBy.trans hg.out hs2)
        clear hs1 hs2 hlen
        go_wp2
        go_roundw
        case rel => exact ⟨j + 1, by omega, by go_num, by go_num, HS1, HS2⟩
        case measure => simp [intOf]; omega
      · obtain rfl : j = n := by omega
        clear hlt
        go_wp2
        go_ret
        refine ⟨rfl, ?_, hg.out⟩
        have := ho.out
        rw [HN.out, marked_all] at this
        rw [HN.out]
        exact this

set_option maxHeartbeats 1000000 in
theorem heldIntS (v : Value) (w : World) (k : Int) (n : Nat) (h : Holds .i64 w v (marks .i64 k n)) (hl : n ≤ 100000000) (h0 : 0 ≤ k) (h1 : k ≤ 1000000000000) :
    Calls Try.prog 21 #[v, .int .i64 k] w fun e w' => e = .returned (.int .i64 (k + n)) ∧ w = w' := by
  obtain ⟨x, cap, rfl, hcap, hh⟩ := h.shape
  rw [marks_length] at hcap hh ⊢
  have HH := Lib.hid hh; clear hh h
  go_enter Try.func21, Try.ntmps21
  go_wp2
  go_loop [1, 5] (fun kv i => ∃ j : Nat, j ≤ n ∧ i = .int .i64 j ∧ kv = .int .i64 (k + j)) (fun _ i => n - (intOf i).toNat)
  case atStart => exact ⟨0, Nat.zero_le _, rfl, by simp⟩
  case round =>
    obtain ⟨j, hj, rfl, rfl⟩ := hrel
    by_cases hlt : j < n
    · obtain ⟨b, off, rfl, hc⟩ := HH.out.at (j := j) (by rw [marks_length]; exact hlt)
      rw [marks_at _ _ n j hlt, IntWalk.i64_in _ (by omega)] at hc
      go_wp2
      go_round
      case rel => exact ⟨j + 1, by omega, by go_num, by go_num⟩
      case measure => simp [intOf]; omega
    · obtain rfl : j = n := by omega
      clear hlt
      go_wp2
      go_ret
      exact ⟨rfl, rfl⟩

/-- Two slices never lie in one block. -/
def Apart (v u : Value) : Prop := ∀ g, v.ownBlock = some g → u.ownBlock ≠ some g
theorem Apart.symm {v u : Value} (h : Apart v u) : Apart u v := fun g h1 h2 => h g h2 h1
theorem apart_or {v u : Value} (h : Apart v u) : v.ownBlock = none ∨ v.ownBlock ≠ u.ownBlock := by
  cases hv : v.ownBlock with
  | none => exact Or.inl rfl
  | some g => exact Or.inr fun he => h g hv he.symm
theorem apart_new {e e' : TypeId} {k k' : IntKind} {B : Nat} {w w' : World} {v u : Value} {l m : List Int} (h : Own e k w.heap.size w' v l) (h' : Own e' k' B w u m) : Apart v u := fun g h1 h2 => by
  have a := h.lt g h1
  have b := h'.lt g h2
  omega

theorem sameByteS (v u : Value) (l : List Int) (w : World) (h : Holds .u8 w v l) (g : Holds .u8 w u l) (hl : l.length ≤ 100000000) :
    Calls Try.prog 29 #[v, u] w fun e w' => e = .returned (.bool true) ∧ Below w.heap.size w w' := by
  have := eqByteS v u l l w h g hl hl
  rwa [eqB_self] at this
theorem sameIntS (v u : Value) (l : List Int) (w : World) (h : Holds .i64 w v l) (g : Holds .i64 w u l) (hl : l.length ≤ 100000000) :
    Calls Try.prog 18 #[v, u] w fun e w' => e = .returned (.bool true) ∧ Below w.heap.size w w' := by
  have := eqIntS v u l l w h g hl hl
  rwa [eqB_self] at this

end Go.Proofs.Ytbooamnlocobfaa.Sl
/- Kinds of values with memory beneath in the words of the exact laws: slices of one-cell elements, slices of bytes, names; the laws' helpers for them; what keeps a region's loads. No conditions but that lengths fit. -/
namespace Go.Proofs.Ytbooamnlocobfaa.Row
open Go.ChangeShapes Go.WideShapes Go.ChangeAt Go.RowKit Go.Instr
set_option linter.unusedVariables false
set_option maxRecDepth 100000

/-- A slice of scalars. -/
def kS {α : Type} (e : TypeId) (enc : α → Value) (h1 : ∀ x, (enc x).oneCell' = true) : Kd (List α) (Rw α) := Kd.slice e (Kd.scalar enc h1)
theorem kS_strip {α : Type} {enc : α → Value} {h1 : ∀ x, (enc x).oneCell' = true} {e : TypeId} (m : Rw α) : (kS e enc h1).strip m = m.els := by simp [kS, Kd.slice, Kd.scalar]
theorem kS_blocks {α : Type} {enc : α → Value} {h1 : ∀ x, (enc x).oneCell' = true} {e : TypeId} (r : Rw α) : (kS e enc h1).blocks r = r.v.ownBlock.toList := by simp [kS, Kd.slice, Kd.scalar]
section
variable {α : Type} [Inhabited α] {enc : α → Value} {h1 : ∀ x, (enc x).oneCell' = true} {e : TypeId} {w : World} {v : Value} {l : List α} {B E : Nat}
theorem kS_at (h : (kS e enc h1).At w v l) : Holds enc w v l := by
  obtain ⟨m, rfl, rfl, h, -⟩ := h
  rw [kS_strip]
  exact holdsK_single.1 h
theorem kS_of (h : Holds enc w v l) : (kS e enc h1).At w v l := by
  obtain ⟨x, n, cap, rfl, -, -, hh⟩ := h.shapeN
  exact ⟨⟨x, n, cap, l⟩, rfl, kS_strip _, holdsK_single.2 hh, fun _ _ => trivial⟩
theorem kS_mk (h : Own e enc B w v l) (hE : ∀ g, v.ownBlock = some g → g < E) : (kS e enc h1).In B E w v l := by
  obtain ⟨x, n, cap, rfl, -, -, hh⟩ := h.shapeN
  refine ⟨⟨x, n, cap, l⟩, rfl, kS_strip _, ⟨ownK_single.2 hh, fun _ _ => trivial⟩, ?_, ?_⟩
  · rw [kS_blocks]
    cases h2 : (Rw.v ⟨x, n, cap, l⟩).ownBlock <;> simp
  · rw [kS_blocks]
    intro g hg
    exact hE g (by simpa [Rw.v] using hg)
theorem kS_own (h : Own e enc B w v l) : (kS e enc h1).In B w.heap.size w v l := kS_mk h (fun g hg => (h.lt g hg).2)
theorem kS_in (h : (kS e enc h1).In B E w v l) : Own e enc B w v l ∧ ∀ g, v.ownBlock = some g → g < E := by
  obtain ⟨m, rfl, rfl, h, -, h2⟩ := h
  rw [kS_strip]
  rw [kS_blocks] at h2
  exact ⟨ownK_single.1 h.1, fun g hg => h2 g (by rw [show m.v.ownBlock = some g from hg]; simp)⟩
end

/-! ### bytes -/
def kB : Kd (List Int) (Rw Int) := kS 5 (Value.int .u8) (fun _ => rfl)
section
variable {w : World} {v V : Value} {l : List Int} {B E : Nat}
theorem kB_at (h : kB.At w V l) : ∃ v, V = v ∧ Sl.Holds .u8 w v l := ⟨V, rfl, kS_at h⟩
theorem kB_of (h : Sl.Holds .u8 w v l) : kB.At w v l := kS_of h
theorem kB_own (h : Sl.Own 5 .u8 B w v l) : kB.In B w.heap.size w v l := kS_own h
theorem kB_mk (h : Sl.Own 5 .u8 B w v l) (hE : ∀ g, v.ownBlock = some g → g < E) : kB.In B E w v l := kS_mk h hE
theorem kB_in (h : kB.In B E w V l) : ∃ v, V = v ∧ Sl.Own 5 .u8 B w v l ∧ ∀ g, v.ownBlock = some g → g < E := ⟨V, rfl, kS_in h⟩
theorem kB_shape (h : kB.In B E w V l) : ∃ x n c, V = .slice x n c ∧ kB.In B E w (.slice x n c) l := by
  obtain ⟨x, n, c, rfl, -⟩ := (kS_in h).1.shapeN
  exact ⟨x, n, c, rfl, h⟩
theorem kB_shapeA (h : kB.At w V l) : ∃ x n c, V = .slice x n c ∧ kB.At w (.slice x n c) l := by
  obtain ⟨x, n, c, rfl, -⟩ := (kS_at h).shapeN
  exact ⟨x, n, c, rfl, h⟩
end
theorem toB (V : Value) (l : List Int) (w : World) (h : kB.At w V l) (hl : l.length ≤ 100000000) :
    Calls Try.prog 33 #[V] w fun e w' => ∃ U, e = .returned U ∧ kB.In w.heap.size w'.heap.size w' U l ∧ Below w.heap.size w w' :=
  (Sl.toByteS V l w (kS_at h) hl).mono fun e w' ⟨v, a, b, c⟩ => ⟨v, a, kB_own b, c⟩
theorem sameB' (V U : Value) (l : List Int) (w : World) (h : kB.At w V l) (g : kB.At w U l) (hl : l.length ≤ 100000000) :
    Calls Try.prog 29 #[V, U] w fun e w' => e = .returned (.bool true) ∧ Below w.heap.size w w' := Sl.sameByteS V U l w (kS_at h) (kS_at g) hl
theorem markB (B E : Nat) (V : Value) (l : List Int) (w : World) (k : Int) (h : kB.In B E w V l) (hl : l.length ≤ 100000000) (h0 : 0 ≤ k) (h1 : k ≤ 1000000000) :
    Calls Try.prog 30 #[V, .int .i64 k] w fun e w' => e = .returned (.int .i64 (k + (l.length : Int))) ∧ kB.In B E w' V (Sl.marks .u8 k l.length) ∧ Wrote B E w w' :=
  (Sl.markByteS B V l w k (kS_in h).1 hl h0 (by omega)).mono fun e w' ⟨a, b, c⟩ => ⟨a, kB_mk b (kS_in h).2, Wrote.of c (fun g hg => ⟨((kS_in h).1.lt g hg).1, (kS_in h).2 g hg⟩)⟩
theorem heldB (V : Value) (w : World) (k : Int) (l : List Int) (h : kB.At w V (Sl.marks .u8 k l.length)) (hl : l.length ≤ 100000000) (h0 : 0 ≤ k) (h1 : k ≤ 1000000000) :
    Calls Try.prog 31 #[V, .int .i64 k] w fun e w' => e = .returned (.int .i64 (k + (l.length : Int))) ∧ Below w.heap.size w w' :=
  (Sl.heldByteS V w k l.length (kS_at h) hl h0 (by omega)).mono fun e w' ⟨a, b⟩ => ⟨a, b ▸ Below.refl _ _⟩

/-! ### names -/
def kN : Kd (List ByteArray) (Rw ByteArray) := (kNm 9).wrap
section
variable {w : World} {v V : Value} {l : List ByteArray} {B E : Nat}
theorem kNm_mk (h : Own 9 Value.string B w v l) (hE : ∀ g, v.ownBlock = some g → g < E) : (kNm 9).In B E w v l := by
  obtain ⟨x, n, cap, rfl, -, -, hh⟩ := h.shapeN
  refine ⟨⟨x, n, cap, l⟩, rfl, by simp [kNm, Kd.slice, kStr, Kd.scalar], ⟨ownK_single.2 hh, fun _ _ => trivial⟩, ?_, ?_⟩
  · rw [kNm_blocks]
    cases h2 : (Rw.v ⟨x, n, cap, l⟩).ownBlock <;> simp
  · rw [kNm_blocks]
    intro g hg
    exact hE g (by simpa [Rw.v] using hg)
theorem kN_at (h : kN.At w V l) : ∃ v, V = .agg #[v] ∧ Holds Value.string w v l := by
  obtain ⟨m, rfl, e, h⟩ := h
  exact ⟨m.v, rfl, kNm_at (e := 9) ⟨m, rfl, e, h⟩⟩
theorem kN_of (h : Holds Value.string w v l) : kN.At w (.agg #[v]) l := by
  obtain ⟨m, rfl, e, h⟩ := kNm_of (e := 9) h
  exact ⟨m, rfl, e, h⟩
theorem kN_mk (h : Own 9 Value.string B w v l) (hE : ∀ g, v.ownBlock = some g → g < E) : kN.In B E w (.agg #[v]) l := by
  obtain ⟨m, rfl, e, h⟩ := kNm_mk h hE
  exact ⟨m, rfl, e, h⟩
theorem kN_own (h : Own 9 Value.string B w v l) : kN.In B w.heap.size w (.agg #[v]) l := kN_mk h (fun g hg => (h.lt g hg).2)
theorem kN_in (h : kN.In B E w V l) : ∃ v, V = .agg #[v] ∧ Own 9 Value.string B w v l ∧ ∀ g, v.ownBlock = some g → g < E := by
  obtain ⟨m, rfl, e, h⟩ := h
  exact ⟨m.v, rfl, kNm_in (e := 9) ⟨m, rfl, e, h⟩⟩
theorem kN_shape (h : kN.In B E w V l) : ∃ x n c, V = .agg #[.slice x n c] ∧ kN.In B E w (.agg #[.slice x n c]) l := by
  obtain ⟨v, rfl, ho, -⟩ := kN_in h
  obtain ⟨x, n, c, rfl, -⟩ := ho.shapeN
  exact ⟨x, n, c, rfl, h⟩
theorem kN_shapeA (h : kN.At w V l) : ∃ x n c, V = .agg #[.slice x n c] ∧ kN.At w (.agg #[.slice x n c]) l := by
  obtain ⟨v, rfl, ho⟩ := kN_at h
  obtain ⟨x, n, c, rfl, -⟩ := ho.shapeN
  exact ⟨x, n, c, rfl, h⟩
end
theorem szNK (V : Value) (l : List ByteArray) (w : World) (left : Int) (h : kN.At w V l) (hl : l.length ≤ 9223372036854775807) (hs : ∀ x ∈ l, x.size ≤ maxLen) (h0 : 0 ≤ left) (h1 : left ≤ 1048576) :
    Calls Try.prog 39 #[V, .int .i64 left] w fun e w' => e = .returned (.int .i64 (szL l left)) ∧ Below w.heap.size w w' := by
  obtain ⟨v, rfl, h9⟩ := kN_at h
  exact szName v l w left h9 hl hs h0 h1
theorem toNK (V : Value) (l : List ByteArray) (w : World) (h : kN.At w V l) (hl : l.length ≤ 100000000) :
    Calls Try.prog 43 #[V] w fun e w' => ∃ U, e = .returned U ∧ kN.In w.heap.size w'.heap.size w' U l ∧ Below w.heap.size w w' := by
  obtain ⟨v, rfl, h9⟩ := kN_at h
  exact (toName v l w h9 hl).mono fun e w' ⟨v, a, b, c⟩ => ⟨_, a, kN_own b, c⟩
theorem sameNK (V U : Value) (l : List ByteArray) (w : World) (h : kN.At w V l) (g : kN.At w U l) (hl : l.length ≤ 100000000) :
    Calls Try.prog 46 #[V, U] w fun e w' => e = .returned (.bool true) ∧ Below w.heap.size w w' := by
  obtain ⟨v, rfl, h9⟩ := kN_at h
  obtain ⟨u, rfl, g9⟩ := kN_at g
  exact sameN v u l w h9 g9 (by omega)
theorem markNK (B E : Nat) (V : Value) (l : List ByteArray) (w : World) (k : Int) (h : kN.In B E w V l) (hl : l.length ≤ 100000000) (h0 : 0 ≤ k) (h1 : k ≤ 1000000000) :
    Calls Try.prog 50 #[V, .int .i64 k] w fun e w' => e = .returned (.int .i64 (k + (l.length : Int))) ∧ kN.In B E w' V (marks markT k l.length) ∧ Wrote B E w w' := by
  obtain ⟨v, rfl, h9, hE⟩ := kN_in h
  exact (markName B v l w k h9 hl h0 (by omega)).mono fun e w' ⟨a, b, c⟩ => ⟨a, kN_mk b hE, Wrote.of c (fun g hg => ⟨(h9.lt g hg).1, hE g hg⟩)⟩
theorem heldNK (V : Value) (w : World) (k : Int) (l : List ByteArray) (h : kN.At w V (marks markT k l.length)) (hl : l.length ≤ 100000000) (h0 : 0 ≤ k) (h1 : k ≤ 1000000000) :
    Calls Try.prog 55 #[V, .int .i64 k] w fun e w' => e = .returned (.int .i64 (k + (l.length : Int))) ∧ Below w.heap.size w w' := by
  obtain ⟨v, rfl, h9⟩ := kN_at h
  exact heldName v w k l.length h9 hl h0 (by omega)

/-! ### what keeps a region's loads, a variable's block -/
theorem kc {w w' : World} {a : Addr} {u : Value} (h : w.cell? a = some u) (hb : Below w.heap.size w w') : w'.cell? a = some u := (hb.cell (cell_lt h)).trans h
theorem Wrote.blk {B E : Nat} {w w' : World} (h : Wrote B E w w') {g : Nat} {cs : Array Value} {t : TypeId} (hb : Ret.Blk w g cs t) (hn : g < B ∨ E ≤ g) : Ret.Blk w' g cs t := (h.grown hb.lt hn).trans hb
end Go.Proofs.Ytbooamnlocobfaa.Row
/- Slices of ints in the words of the exact laws. No conditions but that lengths fit. -/
namespace Go.Proofs.Ytbooamnlocobfaa.Row
open Go.ChangeShapes Go.WideShapes Go.ChangeAt Go.RowKit Go.Instr
set_option linter.unusedVariables false
set_option maxRecDepth 100000

def kI : Kd (List Int) (Rw Int) := kS 3 (Value.int .i64) (fun _ => rfl)
section
variable {w : World} {v V : Value} {l : List Int} {B E : Nat}
theorem kI_of (h : Sl.Holds .i64 w v l) : kI.At w v l := kS_of h
theorem kI_own (h : Sl.Own 3 .i64 B w v l) : kI.In B w.heap.size w v l := kS_own h
theorem kI_mk (h : Sl.Own 3 .i64 B w v l) (hE : ∀ g, v.ownBlock = some g → g < E) : kI.In B E w v l := kS_mk h hE
theorem kI_shape (h : kI.In B E w V l) : ∃ x n c, V = .slice x n c ∧ kI.In B E w (.slice x n c) l := by
  obtain ⟨x, n, c, rfl, -⟩ := (kS_in h).1.shapeN
  exact ⟨x, n, c, rfl, h⟩
theorem kI_shapeA (h : kI.At w V l) : ∃ x n c, V = .slice x n c ∧ kI.At w (.slice x n c) l := by
  obtain ⟨x, n, c, rfl, -⟩ := (kS_at h).shapeN
  exact ⟨x, n, c, rfl, h⟩
end
theorem sameI' (V U : Value) (l : List Int) (w : World) (h : kI.At w V l) (g : kI.At w U l) (hl : l.length ≤ 100000000) :
    Calls Try.prog 18 #[V, U] w fun e w' => e = .returned (.bool true) ∧ Below w.heap.size w w' := Sl.sameIntS V U l w (kS_at h) (kS_at g) hl
theorem markI (B E : Nat) (V : Value) (l : List Int) (w : World) (k : Int) (h : kI.In B E w V l) (hl : l.length ≤ 100000000) (h0 : 0 ≤ k) (h1 : k ≤ 1000000000) :
    Calls Try.prog 20 #[V, .int .i64 k] w fun e w' => e = .returned (.int .i64 (k + (l.length : Int))) ∧ kI.In B E w' V (Sl.marks .i64 k l.length) ∧ Wrote B E w w' :=
  (Sl.markIntS B V l w k (kS_in h).1 hl h0 (by omega)).mono fun e w' ⟨a, b, c⟩ => ⟨a, kI_mk b (kS_in h).2, Wrote.of c (fun g hg => ⟨((kS_in h).1.lt g hg).1, (kS_in h).2 g hg⟩)⟩
theorem heldI (V : Value) (w : World) (k : Int) (l : List Int) (h : kI.At w V (Sl.marks .i64 k l.length)) (hl : l.length ≤ 100000000) (h0 : 0 ≤ k) (h1 : k ≤ 1000000000) :
    Calls Try.prog 21 #[V, .int .i64 k] w fun e w' => e = .returned (.int .i64 (k + (l.length : Int))) ∧ Below w.heap.size w w' :=
  (Sl.heldIntS V w k l.length (kS_at h) hl h0 (by omega)).mono fun e w' ⟨a, b⟩ => ⟨a, b ▸ Below.refl _ _⟩
end Go.Proofs.Ytbooamnlocobfaa.Row
/- Contracts of the helpers by which the laws measure, copy, compare, mark and look at interests (a name and three numbers). No conditions but that lengths fit. -/
namespace Go.Proofs.Ytbooamnlocobfaa.Row
open Go.ChangeShapes Go.WideShapes Go.ChangeAt Go.RowKit Go.Instr
set_option linter.unusedVariables false
set_option maxRecDepth 100000

/-- An interest's cells. -/
abbrev wc (v : Value) (a b c : Int) : Array Value := #[v, .int .i64 a, .int .i64 b, .int .i64 c]
theorem own_set {α : Type} [Inhabited α] {enc : α → Value} {e : TypeId} {B g i : Nat} {w : World} {v u : Value} {l : List α} (h : Own e enc B w v l) (hg : g < B) : Own e enc B (w.setCell ⟨g, i, none⟩ u) v l := h.grown (Ret.grownBy_set w ⟨g, i, none⟩ u) (nb h hg)
theorem wc_set (v u : Value) (a b c d : Int) : (wc v a b c).setIfInBounds 0 u = wc u a b c ∧ (wc v a b c).setIfInBounds 1 (.int .i64 d) = wc v d b c ∧ (wc v a b c).setIfInBounds 2 (.int .i64 d) = wc v a d c ∧ (wc v a b c).setIfInBounds 3 (.int .i64 d) = wc v a b d := ⟨rfl, rfl, rfl, rfl⟩

end Go.Proofs.Ytbooamnlocobfaa.Row
/- What calls leave that give a slice of the call's own; lists of bytes. No conditions. -/
namespace Go.Proofs.Ytbooamnlocobfaa.Sl
open Go.ChangeShapes Go.WideShapes Go.ChangeAt Go.RowKit Go.Instr
set_option linter.unusedVariables false
set_option maxRecDepth 100000

/-- What a call of a function that returns a slice of the call's own leaves. -/
def GivesB (w : World) (l : List Int) (e : Ending) (w' : World) : Prop := ∃ v, e = .returned v ∧ Own 5 .u8 w.heap.size w' v l ∧ Below w.heap.size w w'
def GivesI (w : World) (l : List Int) (e : Ending) (w' : World) : Prop := ∃ v, e = .returned v ∧ Own 3 .i64 w.heap.size w' v l ∧ Below w.heap.size w w'

theorem GivesB.to {w w' : World} {l m : List Int} {e : Ending} (h : GivesB w l e w') (hl : l = m) : GivesB w m e w' := hl ▸ h

/-- Every element is a byte. -/
def Byt (l : List Int) : Prop := ∀ x ∈ l, 0 ≤ x ∧ x ≤ 255
theorem Byt.at {l : List Int} (h : Byt l) {j : Nat} (hj : j < l.length) : 0 ≤ nth l j ∧ nth l j ≤ 255 := by rw [nth_eq hj]; exact h _ (List.getElem_mem hj)
theorem byt_of_wf {l : List Int} (h : ∀ x ∈ l, (Lit.int .u8 x).wf = true) : Byt l := fun x hx => by
  have e1 : IntKind.u8.min = 0 := rfl
  have e2 : IntKind.u8.max = 255 := rfl
  simpa [Lit.wf, e1, e2] using h x hx
end Go.Proofs.Ytbooamnlocobfaa.Sl
/- A string turned into a slice of bytes: where they lie, what they are. No conditions. -/
namespace Go.Proofs.Ytbooamnlocobfaa.Sl
open Go.ChangeShapes Go.WideShapes Go.ChangeAt Go.RowKit Go.Instr
set_option linter.unusedVariables false
set_option maxRecDepth 100000

/-- A string's bytes, as numbers. -/
def bytesOf (t : ByteArray) : List Int := t.data.toList.map fun c => (c.toNat : Int)
theorem bytesOf_length (t : ByteArray) : (bytesOf t).length = t.size := by unfold bytesOf; rw [List.length_map, Array.length_toList]; rfl
theorem bytesOf_byt (t : ByteArray) : Byt (bytesOf t) := fun x hx => by
  unfold bytesOf at hx
  obtain ⟨c, _, rfl⟩ := List.mem_map.1 hx
  have := c.toNat_lt
  omega
theorem bytesOf_nth (t : ByteArray) {j : Nat} (hj : j < t.size) : nth (bytesOf t) j = (t.data.toList.getD j 0).toNat := by
  have h : j < t.data.toList.length := by rw [Array.length_toList]; exact hj
  rw [nth_eq (by rw [bytesOf_length]; exact hj)]
  simp only [bytesOf, List.getElem_map, List.getD, List.getElem?_eq_getElem h, Option.getD_some]

theorem conv_bytes (w : World) (t : ByteArray) :
    ∃ cap w', (convert 9 25 (.string t)).run Try.prog w = .ok (.slice (some ⟨w.heap.size, 0, none⟩) t.size cap) w' ∧ Holds .u8 w' (.slice (some ⟨w.heap.size, 0, none⟩) t.size cap) (bytesOf t) ∧ Below w.heap.size w w' := by
  refine ⟨_, _, Lib.run_convert_string_bytes w 9 25 5 t Try.underlying9 Try.underlying25 Try.underlying5, ?_, ?_⟩
  · refine ⟨_, _, by rw [bytesOf_length], by rw [bytesOf_length]; exact grownCap_ge w _ _ _, Or.inr ⟨_, _, rfl, fun j hj => ?_⟩⟩
    rw [bytesOf_length] at hj
    rw [Nat.zero_add, Lib.bytesWorld_cell w _ t j hj, bytesOf_nth t hj]
  · exact ⟨rfl, rfl, rfl, by rw [Lib.bytesWorld_size]; omega, fun k hk => Lib.bytesWorld_at_old w _ t k hk⟩
end Go.Proofs.Ytbooamnlocobfaa.Sl
/- Contracts of the integer functions of chapter 1 (without the texts): each returns the plain integer that its definition below says. The functions that only compute leave the world alone; Min and Max make one new block. No conditions but that the arguments fit their kind where sums are formed. -/
namespace Go.Proofs.Ytbooamnlocobfaa.Num
open Go.ChangeShapes Go.WideShapes Go.ChangeAt Go.RowKit
set_option linter.unusedVariables false
set_option maxRecDepth 100000

def inB (n a b : Int) : Bool := decide (a ≤ n ∧ n ≤ b)

theorem inB_true {n a b : Int} (h1 : a ≤ n) (h2 : n ≤ b) : inB n a b = true := by simp [inB, h1, h2]
theorem inB_false1 {n a b : Int} (h1 : ¬ a ≤ n) : inB n a b = false := by simp [inB, h1]
theorem inB_false2 {n a b : Int} (h2 : ¬ n ≤ b) : inB n a b = false := by simp [inB, h2]

theorem implInRange (n a b : Int) (w : World) :
    Calls Try.prog 45 #[.int .i64 n, .int .i64 a, .int .i64 b] w fun e w' => e = .returned (.bool (inB n a b)) ∧ w = w' := by
  by_cases h1 : a ≤ n
  · by_cases h2 : n ≤ b
    · rw [inB_true h1 h2]
      go_enter Try.func45, Try.ntmps45
      go_wp2
      go_ret
      exact ⟨rfl, rfl⟩
    · rw [inB_false2 h2]
      go_enter Try.func45, Try.ntmps45
      go_wp2
      go_ret
      exact ⟨rfl, rfl⟩
  · rw [inB_false1 h1]
    go_enter Try.func45, Try.ntmps45
    go_wp2
    go_ret
    exact ⟨rfl, rfl⟩

theorem specIn (n a b : Int) (w : World) :
    Calls Try.prog 42 #[.int .i64 n, .int .i64 a, .int .i64 b] w fun e w' => e = .returned (.bool (inB n a b)) ∧ w = w' := by
  by_cases h1 : a ≤ n
  · by_cases h2 : n ≤ b
    · rw [inB_true h1 h2]
      go_enter Try.func42, Try.ntmps42
      go_wp2
      go_ret
      exact ⟨rfl, rfl⟩
    · rw [inB_false2 h2]
      go_enter Try.func42, Try.ntmps42
      go_wp2
      go_ret
      exact ⟨rfl, rfl⟩
  · rw [inB_false1 h1]
    go_enter Try.func42, Try.ntmps42
    go_wp2
    go_ret
    exact ⟨rfl, rfl⟩

theorem specIn_true {n a b : Int} (h1 : a ≤ n) (h2 : n ≤ b) (w : World) :
    Calls Try.prog 42 #[.int .i64 n, .int .i64 a, .int .i64 b] w fun e w' => e = .returned (.bool true) ∧ w = w' := by
  have := specIn n a b w
  rwa [inB_true h1 h2] at this
theorem specIn_false {n a b : Int} (h : ¬ (a ≤ n ∧ n ≤ b)) (w : World) :
    Calls Try.prog 42 #[.int .i64 n, .int .i64 a, .int .i64 b] w fun e w' => e = .returned (.bool false) ∧ w = w' := by
  have := specIn n a b w
  have e : inB n a b = false := by simpa [inB] using h
  rwa [e] at this
theorem implIn_true {n a b : Int} (h1 : a ≤ n) (h2 : n ≤ b) (w : World) :
    Calls Try.prog 45 #[.int .i64 n, .int .i64 a, .int .i64 b] w fun e w' => e = .returned (.bool true) ∧ w = w' := by
  have := implInRange n a b w
  rwa [inB_true h1 h2] at this
theorem implIn_false {n a b : Int} (h : ¬ (a ≤ n ∧ n ≤ b)) (w : World) :
    Calls Try.prog 45 #[.int .i64 n, .int .i64 a, .int .i64 b] w fun e w' => e = .returned (.bool false) ∧ w = w' := by
  have := implInRange n a b w
  have e : inB n a b = false := by simpa [inB] using h
  rwa [e] at this

def minI (a b : Int) : Int := if b < a then b else a
def maxI (a b : Int) : Int := if a < b then b else a

theorem minI_yes {a b : Int} (h : b < a) : minI a b = b := by simp [minI, h]
theorem minI_no {a b : Int} (h : ¬ b < a) : minI a b = a := by simp [minI, h]
theorem maxI_yes {a b : Int} (h : a < b) : maxI a b = b := by simp [maxI, h]
theorem maxI_no {a b : Int} (h : ¬ a < b) : maxI a b = a := by simp [maxI, h]

theorem minI_le (a b : Int) : minI a b ≤ a := by unfold minI; split <;> omega
theorem le_maxI (a b : Int) : a ≤ maxI a b := by unfold maxI; split <;> omega

theorem least1 (a b : Int) (p : Nat) (w : World) (hc : w.cell? ⟨p, 0, none⟩ = some (.int .i64 b)) :
    Calls Try.prog 109 #[.int .i64 a, .slice (some ⟨p, 0, none⟩) 1 1] w fun e w' => e = .returned (.int .i64 (minI a b)) ∧ w = w' := by
  go_enter Try.func109, Try.ntmps109
  go_wp2
  go_loop [0, 9] (fun f i => (f = .int .i64 a ∧ i = .int .i64 0) ∨ (f = .int .i64 (minI a b) ∧ i = .int .i64 1)) (fun _ i => 1 - (intOf i).toNat)
  case atStart => exact Or.inl ⟨rfl, rfl⟩
  case round =>
    rcases hrel with ⟨rfl, rfl⟩ | ⟨rfl, rfl⟩
    · by_cases h : b < a
      · have E := Lib.hid (minI_yes h)
        go_wp2
        go_round
        case rel => exact Or.inr ⟨by rw [E.out], rfl⟩
        case measure => simp [intOf]
      · have E := Lib.hid (minI_no h)
        go_wp2
        go_round
        case rel => exact Or.inr ⟨by rw [E.out], rfl⟩
        case measure => simp [intOf]
    · go_wp2
      go_ret
      exact ⟨rfl, rfl⟩

theorem new1 (w : World) (v : Value) (t : TypeId) : (w.alloc (.cells #[v] t)).cell? ⟨w.heap.size, 0, none⟩ = some v := by
  go_simp

theorem implMin (a b : Int) (w : World) :
    Calls Try.prog 108 #[.int .i64 a, .int .i64 b] w fun e w' => e = .returned (.int .i64 (minI a b)) ∧ Below w.heap.size w w' := by
  go_enter Try.func108, Try.ntmps108
  go_wp2_with fail
  refine (least1 a b w.heap.size (w.alloc (.cells #[.int .i64 b] 3)) (new1 w _ _)).mono ?_
  rintro e w' ⟨rfl, rfl⟩
  go_wp2
  go_ret
  exact ⟨rfl, Joins.below_alloc1 _ _⟩

def ceilI (a b : Int) : Int := if 0 ≤ a ∧ a ≤ 1000000000000 ∧ 1 ≤ b ∧ b ≤ 1000000000000 then (a + b - 1) / b else 0
theorem ceilI_in {a b : Int} (h1 : 0 ≤ a) (h2 : a ≤ 1000000000000) (h3 : 1 ≤ b) (h4 : b ≤ 1000000000000) : ceilI a b = (a + b - 1) / b := by
  unfold ceilI; rw [if_pos ⟨h1, h2, h3, h4⟩]
theorem ceilI_out {a b : Int} (h : ¬ (0 ≤ a ∧ a ≤ 1000000000000 ∧ 1 ≤ b ∧ b ≤ 1000000000000)) : ceilI a b = 0 := by
  unfold ceilI; rw [if_neg h]

def modI (n m : Int) : Int := if 1 ≤ m ∧ m ≤ 1000000000000 then n % m else 0
theorem modI_out {n m : Int} (h : ¬ (1 ≤ m ∧ m ≤ 1000000000000)) : modI n m = 0 := by
  unfold modI; rw [if_neg h]
theorem tmod_hi (n m : Int) (h : 1 ≤ m) : n.tmod m < m := Int.tmod_lt_of_pos n (by omega)
theorem tmod_lo (n m : Int) (h : 1 ≤ m) : -m < n.tmod m := by
  have := Int.lt_tmod_of_pos n (b := m) (by omega)
  omega
theorem modI_pos {n m : Int} (h1 : 1 ≤ m) (h2 : m ≤ 1000000000000) (h : ¬ n.tmod m < 0) : modI n m = n.tmod m := by
  unfold modI; rw [if_pos ⟨h1, h2⟩]
  have e := Int.tmod_add_mul_tdiv n m
  have hh := tmod_hi n m h1
  have : n.tmod m = n % m := by
    rw [← Int.emod_eq_of_lt (a := n.tmod m) (b := m) (by omega) hh]
    have e2 : n = n.tmod m + m * n.tdiv m := e.symm
    conv => rhs; rw [e2]
    rw [Int.add_mul_emod_self_left]
  omega
theorem modI_neg {n m : Int} (h1 : 1 ≤ m) (h2 : m ≤ 1000000000000) (h : n.tmod m < 0) : modI n m = n.tmod m + m := by
  unfold modI; rw [if_pos ⟨h1, h2⟩]
  have e := Int.tmod_add_mul_tdiv n m
  have hl := tmod_lo n m h1
  have : n.tmod m + m = n % m := by
    rw [← Int.emod_eq_of_lt (a := n.tmod m + m) (b := m) (by omega) (by omega)]
    have e2 : n = n.tmod m + m * n.tdiv m := e.symm
    conv => rhs; rw [e2]
    rw [Int.add_mul_emod_self_left, Int.add_emod_right]
  omega
theorem modI_spec {n m : Int} (h1 : 1 ≤ m) (h2 : m ≤ 1000000000000) : modI n m = (n.tmod m + m) % m := by
  rw [Int.add_emod_right]
  unfold modI; rw [if_pos ⟨h1, h2⟩]
  have e := Int.tmod_add_mul_tdiv n m
  have e2 : n = n.tmod m + m * n.tdiv m := e.symm
  conv => lhs; rw [e2]
  rw [Int.add_mul_emod_self_left]

theorem modI_nonneg (p : Int) {q : Int} (h : 1 ≤ q) : 0 ≤ modI p q := by
  unfold modI; split
  · exact Int.emod_nonneg _ (by omega)
  · omega
theorem modI_lt (p : Int) {q : Int} (h : 1 ≤ q) : modI p q < q := by
  unfold modI; split
  · exact Int.emod_lt_of_pos _ (by omega)
  · omega

theorem implMod (n m : Int) (w : World) :
    Calls Try.prog 107 #[.int .i64 n, .int .i64 m] w fun e w' => e = .returned (.int .i64 (modI n m)) ∧ w = w' := by
  by_cases h1 : 1 ≤ m
  · by_cases h2 : m ≤ 1000000000000
    · have hl := tmod_lo n m h1
      have hh := tmod_hi n m h1
      by_cases h3 : n.tmod m < 0
      · rw [modI_neg h1 h2 h3]
        go_enter Try.func107, Try.ntmps107
        go_wp2
        go_ret
        exact ⟨rfl, rfl⟩
      · rw [modI_pos h1 h2 h3]
        go_enter Try.func107, Try.ntmps107
        go_wp2
        go_ret
        exact ⟨rfl, rfl⟩
    · rw [modI_out (fun h => h2 h.2)]
      go_enter Try.func107, Try.ntmps107
      go_wp2
      go_ret
      exact ⟨rfl, rfl⟩
  · rw [modI_out (fun h => h1 h.1)]
    go_enter Try.func107, Try.ntmps107
    go_wp2
    go_ret
    exact ⟨rfl, rfl⟩

theorem specMod (n m : Int) (w : World) :
    Calls Try.prog 102 #[.int .i64 n, .int .i64 m] w fun e w' => e = .returned (.int .i64 (modI n m)) ∧ w = w' := by
  by_cases h1 : 1 ≤ m
  · by_cases h2 : m ≤ 1000000000000
    · have hl := tmod_lo n m h1
      have hh := tmod_hi n m h1
      rw [modI_spec h1 h2]
      go_enter Try.func102, Try.ntmps102
      go_wp2
      go_ret
      exact ⟨rfl, rfl⟩
    · rw [modI_out (fun h => h2 h.2)]
      go_enter Try.func102, Try.ntmps102
      go_wp2
      go_ret
      exact ⟨rfl, rfl⟩
  · rw [modI_out (fun h => h1 h.1)]
    go_enter Try.func102, Try.ntmps102
    go_wp2
    go_ret
    exact ⟨rfl, rfl⟩

end Go.Proofs.Ytbooamnlocobfaa.Num
/- Plain mathematics of the base-128 encoding, no program in sight: the encoding's bytes, how they are read back, how long they are. No conditions. -/
namespace Go.Proofs.Ytbooamnlocobfaa.Var

/-- The bytes of a number: groups of seven bits, the least one first, 128 added to all but the last. -/
def enc (n : Nat) : List Int := if h : n < 128 then [(n : Int)] else (((n % 128 : Nat) : Int) + 128) :: enc (n / 128)
  termination_by n
  decreasing_by omega

theorem enc_small {n : Nat} (h : n < 128) : enc n = [(n : Int)] := by rw [enc, dif_pos h]
theorem enc_big {n : Nat} (h : ¬ n < 128) : enc n = (((n % 128 : Nat) : Int) + 128) :: enc (n / 128) := by rw [enc, dif_neg h]
theorem enc_len : ∀ (k n : Nat), n < 128 ^ (k + 1) → (enc n).length ≤ k + 1
  | 0, n, h => by rw [enc_small (by simpa using h)]; simp
  | k + 1, n, h => by
    by_cases hn : n < 128
    · rw [enc_small hn]; simp
    · rw [enc_big hn]
      have := enc_len k (n / 128) (by rw [Nat.pow_succ] at h; omega)
      simp; omega
theorem enc_len6 {n : Nat} (h : n ≤ 1000000000000) : (enc n).length ≤ 6 :=
  enc_len 5 n (by have e : (128 : Nat) ^ (5 + 1) = 4398046511104 := by decide
                  omega)
theorem enc_ne (n : Nat) : enc n ≠ [] := by
  rw [enc]; split <;> simp
theorem enc_pos (n : Nat) : 1 ≤ (enc n).length := by
  have := enc_ne n
  cases h : enc n with
  | nil => exact absurd h this
  | cons _ _ => simp
theorem enc_byte : ∀ (n : Nat), ∀ x ∈ enc n, 0 ≤ x ∧ x ≤ 255 := by
  intro n
  induction n using Nat.strongRecOn with
  | ind n ih =>
    intro x hx
    by_cases h : n < 128
    · rw [enc_small h] at hx
      simp only [List.mem_singleton] at hx
      omega
    · rw [enc_big h] at hx
      rcases List.mem_cons.1 hx with h1 | h1
      · omega
      · exact ih (n / 128) (by omega) x h1

/-- What AppendVarint appends. -/
def var (n : Int) : List Int := if 0 ≤ n ∧ n ≤ 1000000000000 then enc n.toNat else []
theorem var_in {n : Int} (h0 : 0 ≤ n) (h1 : n ≤ 1000000000000) : var n = enc n.toNat := by simp [var, h0, h1]
theorem var_out {n : Int} (h : ¬ (0 ≤ n ∧ n ≤ 1000000000000)) : var n = [] := by simp [var, h]
theorem var_len (n : Int) : (var n).length ≤ 6 := by
  unfold var
  split
  · exact enc_len6 (by omega)
  · simp

/-- One step of the encoding, in the integers of the walk. -/
theorem enc_step {n : Int} (h : 128 ≤ n) : enc n.toNat = (n % 128 + 128) :: enc (n / 128).toNat := by
  rw [enc_big (by omega)]
  congr 1
  · omega
  · congr 1; omega
theorem enc_last {n : Int} (h0 : 0 ≤ n) (h : n < 128) : enc n.toNat = [n] := by
  rw [enc_small (by omega)]
  congr 1; omega

/-- Reading: the groups that are left, how many have been read, what they make. -/
def dec : Nat → List Int → Nat → Int → Option (Int × Nat)
  | 0, _, _, _ => none
  | _ + 1, [], _, _ => none
  | f + 1, x :: r, k, n =>
    if x < 128 then (if (x = 0 ∧ 0 < k) ∨ 1000000000000 < n + x * 128 ^ k then none else some (n + x * 128 ^ k, k + 1))
    else dec f r (k + 1) (n + x % 128 * 128 ^ k)

def okAt (l : List Int) (i : Int) : Prop := 0 ≤ i ∧ i ≤ l.length
def res (i : Int) : Option (Int × Nat) → Int × Int × Bool
  | none => (0, 0, false)
  | some (n, c) => (n, i + c, true)
/-- What ReadVarint returns. -/
def readV (l : List Int) (i : Int) : Int × Int × Bool := if 0 ≤ i ∧ i ≤ l.length then res i (dec 6 (l.drop i.toNat) 0 0) else (0, 0, false)

theorem drop_at {l : List Int} {i : Nat} (h : i < l.length) : l.drop i = l.getD i 0 :: l.drop (i + 1) := by
  rw [List.drop_eq_getElem_cons h]
  simp [List.getD, List.getElem?_eq_getElem h]
theorem dec_end {l : List Int} {a k : Nat} {n : Int} (h : ¬ a + k < l.length) : dec (6 - k) (l.drop (a + k)) k n = none := by
  rw [List.drop_eq_nil_of_le (by omega)]
  cases h : 6 - k <;> rfl
theorem dec_full {l : List Int} {a : Nat} {n : Int} : dec (6 - 6) (l.drop (a + 6)) 6 n = none := rfl
theorem dec_more {l : List Int} {a : Nat} {n x : Int} (k : Nat) (C : Int) (hC : C = 128 ^ k) (h : a + k < l.length) (hk : k < 6) (hx : x = l.getD (a + k) 0) (h1 : ¬ x < 128) :
    dec (6 - k) (l.drop (a + k)) k n = dec (6 - (k + 1)) (l.drop (a + (k + 1))) (k + 1) (n + x % 128 * C) := by
  subst hC
  rw [drop_at h, ← hx, show 6 - k = (6 - (k + 1)) + 1 by omega]
  simp only [dec, if_neg h1]
  rfl
theorem dec_bad {l : List Int} {a : Nat} {n x : Int} (k : Nat) (C : Int) (hC : C = 128 ^ k) (h : a + k < l.length) (hk : k < 6) (hx : x = l.getD (a + k) 0) (h1 : x < 128) (h2 : (x = 0 ∧ 0 < k) ∨ 1000000000000 < n + x * C) :
    dec (6 - k) (l.drop (a + k)) k n = none := by
  subst hC
  rw [drop_at h, ← hx, show 6 - k = (6 - (k + 1)) + 1 by omega]
  simp only [dec, if_pos h1, if_pos h2]
theorem dec_ok {l : List Int} {a : Nat} {n x : Int} (k : Nat) (C : Int) (hC : C = 128 ^ k) (h : a + k < l.length) (hk : k < 6) (hx : x = l.getD (a + k) 0) (h1 : x < 128) (h2 : ¬ ((x = 0 ∧ 0 < k) ∨ 1000000000000 < n + x * C)) :
    dec (6 - k) (l.drop (a + k)) k n = some (n + x * C, k + 1) := by
  subst hC
  rw [drop_at h, ← hx, show 6 - k = (6 - (k + 1)) + 1 by omega]
  simp only [dec, if_pos h1, if_neg h2]
theorem readV_none {l : List Int} {i : Int} (h : 0 ≤ i → i ≤ l.length → dec 6 (l.drop i.toNat) 0 0 = none) : readV l i = (0, 0, false) := by
  unfold readV
  split
  · rename_i hh
    rw [h hh.1 hh.2]; rfl
  · rfl
theorem readV_some {l : List Int} {i n : Int} {c : Nat} (h0 : 0 ≤ i) (h1 : i ≤ l.length) (h : dec 6 (l.drop i.toNat) 0 0 = some (n, c)) : readV l i = (n, i + c, true) := by
  unfold readV
  rw [if_pos ⟨h0, h1⟩, h]; rfl
end Go.Proofs.Ytbooamnlocobfaa.Var
/- Contracts of AppendVarint, the reference model's and the program's: the slice and behind it the number's groups, in memory of the call's own. No conditions but that lengths fit. -/
namespace Go.Proofs.Ytbooamnlocobfaa.Sl
open Go.ChangeShapes Go.WideShapes Go.ChangeAt Go.RowKit Go.Instr
set_option linter.unusedVariables false
set_option maxRecDepth 100000

theorem or128 {n : Int} (h0 : 0 ≤ n) (h1 : n < 128) : bits .or .i64 n 128 = n + 128 := by
  have e : bits .or .i64 n 128 = bits .or .i64 128 n := by
    have hx : ∀ a b : Int, bits .or .i64 a b = IntKind.i64.wrap ((BitVec.ofInt 64 a ||| BitVec.ofInt 64 b).toNat : Int) := fun _ _ => rfl
    rw [hx, hx, BitVec.or_comm]
  rw [e, bits_join .i64 63 (by decide) (fun n a b => IntWalk.i64_in n (by omega)) 7 128 n (by decide) (by decide) (by decide) h0 (by omega) (by omega)]
  omega

set_option maxHeartbeats 1000000 in
theorem specAppendVarint (v : Value) (l : List Int) (n : Int) (w : World) (h : Holds .u8 w v l) (hl : l.length ≤ 100000000) :
    Calls Try.prog 79 #[v, .int .i64 n] w (GivesB w (l ++ Var.var n)) := by
  obtain ⟨x, cap, rfl, hcap, hh⟩ := h.shape
  obtain ⟨m, hm⟩ : ∃ m, m = l.length := ⟨_, rfl⟩
  rw [← hm] at hcap hh hl ⊢
  have HM := Lib.hid hm; clear hm h
  rename Holds .u8 w (.slice x m cap) l => h
  by_cases hn : 0 ≤ n ∧ n ≤ 1000000000000
  · have e1 := Var.var_in hn.1 hn.2
    have HE := Lib.hid e1
    have H := Lib.hid h
    have hin := fun wx => Num.specIn_true hn.1 hn.2 wx
    have HI := Lib.hid hin
    obtain ⟨hn1, hn2⟩ := hn
    clear e1 h hin
    go_enter Try.func79, Try.ntmps79
    go_wp2_with (at_builtin; refine wpList_app (k := .u8) (B := w.heap.size) (l := []) (m := l) rfl _ _ rfl Try.underlying25 elemBYTE rfl rfl rfl (own_empty .u8 _ w) (H.out.on ((Below.refl _ _).alloc (Nat.le_refl _) _)) ?_ (by decide) ?_ ?_)
    · have := HM.out; simp; omega
    · simp
    intro v1 w1 ho hg
    have hb : Below w.heap.size w w1 := ((Below.refl _ _).alloc (Nat.le_refl _) _).grown hg (by simp) (fun k hk => by cases hk; exact Nat.le_refl _)
    have HO := Lib.hid ho; have HB := Lib.hid hb
    clear ho hb hg
    go_wp2_with fail
    refine (HI.out _).mono ?_
    rintro e w' ⟨rfl, rfl⟩
    go_wp2_with fail
    go_loopw [1, 5] (fun nv bv wr => ∃ (y : Int) (p : List Int), nv = .int .i64 y ∧ 0 ≤ y ∧ y ≤ 1000000000000 ∧ Hid (p ++ Var.enc y.toNat = Var.enc n.toNat) ∧ Hid (Own 5 .u8 w.heap.size wr bv (l ++ p)) ∧ Hid (Below w.heap.size w wr)) (fun nv _ _ => (intOf nv).toNat)
    case atStart => exact ⟨n, [], rfl, hn1, hn2, Lib.hid rfl, by rw [List.append_nil]; exact HO, HB⟩
    case round =>
      obtain ⟨y, p, rfl, y0, y1, he, ho, hb⟩ := hrel
      have hpl : p.length ≤ 6 := by
        have e1 := congrArg List.length he.out
        have e2 := Var.enc_len6 (n := n.toNat) (by omega)
        have e3 := Var.enc_pos y.toNat
        simp at e1; omega
      by_cases hlt : 127 < y
      · have a1 := i64_and127 y
        have a2 := or128 (n := y % 128) (by omega) (by omega)
        have HS := Lib.hid (Var.enc_step (n := y) (by omega))
        go_wp2_with (at_builtin; refine wpList_app (k := .u8) (B := w.heap.size) (l := l ++ p) (m := [y % 128 + 128]) rfl _ _ rfl Try.underlying25 elemBYTE rfl rfl rfl (ho.out.on ((Below.refl _ _).alloc (Nat.le_refl _) _)) (holds_one .u8 _ _ _) ?_ (by decide) ?_ ?_)
        · have := HM.out; simp; omega
        · have := hb.out.size; simp; omega
        intro v2 w2 ho2 hg
        have hb2 : Below w.heap.size w w2 := ((hb.out).alloc hb.out.size _).grown hg (by have := hb.out.size; simp; omega) (fun g hk => (ho.out.lt g hk).1)
        have HO2 := Lib.hid ho2; have HB2 := Lib.hid hb2
        clear ho2 hb2 hg a1 a2
        go_wp2_with fail
        go_roundw
        case rel => exact ⟨y / 128, p ++ [y % 128 + 128], rfl, by omega, by omega, Lib.hid (by rw [List.append_assoc, ← he.out, HS.out]; rfl), HO2, HB2⟩
        case measure => simp [intOf]; omega
      · have HS := Lib.hid (Var.enc_last (n := y) (by omega) (by omega))
        go_wp2_with (at_builtin; refine wpList_app (k := .u8) (B := w.heap.size) (l := l ++ p) (m := [y]) rfl _ _ rfl Try.underlying25 elemBYTE rfl rfl rfl (ho.out.on ((Below.refl _ _).alloc (Nat.le_refl _) _)) (holds_one .u8 _ _ _) ?_ (by decide) ?_ ?_)
        · have := HM.out; simp; omega
        · have := hb.out.size; simp; omega
        intro v2 w2 ho2 hg
        have hb2 : Below w.heap.size w w2 := ((hb.out).alloc hb.out.size _).grown hg (by have := hb.out.size; simp; omega) (fun g hk => (ho.out.lt g hk).1)
        have HO2 := Lib.hid ho2; have HB2 := Lib.hid hb2
        clear ho2 hb2 hg
        go_wp2_with fail
        go_ret
        exact ⟨_, rfl, by rw [HE.out, ← he.out, HS.out]; exact HO2.out, HB2.out⟩
  · have e1 := Var.var_out hn
    have HE := Lib.hid e1
    have H := Lib.hid h
    have hin := fun wx => Num.specIn_false hn wx
    have HI := Lib.hid hin
    clear e1 h hin hn
    go_enter Try.func79, Try.ntmps79
    go_wp2_with (at_builtin; refine wpList_app (k := .u8) (B := w.heap.size) (l := []) (m := l) rfl _ _ rfl Try.underlying25 elemBYTE rfl rfl rfl (own_empty .u8 _ w) (H.out.on ((Below.refl _ _).alloc (Nat.le_refl _) _)) ?_ (by decide) ?_ ?_)
    · have := HM.out; simp; omega
    · simp
    intro v1 w1 ho hg
    have hb : Below w.heap.size w w1 := ((Below.refl _ _).alloc (Nat.le_refl _) _).grown hg (by simp) (fun k hk => by cases hk; exact Nat.le_refl _)
    have HO := Lib.hid ho; have HB := Lib.hid hb
    clear ho hb hg
    go_wp2_with fail
    refine (HI.out _).mono ?_
    rintro e w' ⟨rfl, rfl⟩
    go_wp2_with fail
    go_ret
    exact ⟨_, rfl, by rw [HE.out, List.append_nil]; exact HO.out, HB.out⟩

/-- What a call leaves that lengthens a slice: a slice of the call's own, from block B on. -/
def GrowsB (B : Nat) (w : World) (l : List Int) (e : Ending) (w' : World) : Prop := ∃ v, e = .returned v ∧ Own 5 .u8 B w' v l ∧ Below B w w'

set_option maxHeartbeats 1000000 in
theorem addVarint (B : Nat) (v : Value) (l : List Int) (n : Int) (w : World) (h : Fits 5 .u8 B w v l) (hB : B ≤ w.heap.size) (hl : l.length ≤ 100000000) (hn1 : 0 ≤ n) (hn2 : n ≤ 1000000000000) :
    Calls Try.prog 90 #[v, .int .i64 n] w (GrowsB B w (l ++ Var.var n)) := by
  have e1 := Var.var_in hn1 hn2
  have HE := Lib.hid e1
  have H := Lib.hid h
  have hin := fun wx => Num.implIn_true hn1 hn2 wx
  have HI := Lib.hid hin
  clear e1 h hin
  go_enter Try.func90, Try.ntmps90
  go_wp2_with fail
  refine (HI.out _).mono ?_
  rintro e w' ⟨rfl, rfl⟩
  go_wp2_with fail
  go_loopw [0, 1] (fun bv nv wr => ∃ (y : Int) (p : List Int), nv = .int .i64 y ∧ 0 ≤ y ∧ y ≤ 1000000000000 ∧ Hid (p ++ Var.enc y.toNat = Var.enc n.toNat) ∧ Hid (Fits 5 .u8 B wr bv (l ++ p)) ∧ Hid (Below B w wr)) (fun _ nv _ => (intOf nv).toNat)
  case atStart => exact ⟨n, [], rfl, hn1, hn2, Lib.hid rfl, by rw [List.append_nil]; exact H, Lib.hid (Below.refl _ _)⟩
  case round =>
    obtain ⟨y, p, rfl, y0, y1, he, ho, hb⟩ := hrel
    have hpl : p.length ≤ 6 := by
      have e1 := congrArg List.length he.out
      have e2 := Var.enc_len6 (n := n.toNat) (by omega)
      have e3 := Var.enc_pos y.toNat
      simp at e1; omega
    by_cases hlt : 128 ≤ y
    · have HS := Lib.hid (Var.enc_step (n := y) (by omega))
      go_wp2_with (at_builtin; refine wpList_app_fit (k := .u8) (B := B) (l := l ++ p) (m := [y % 128 + 128]) rfl _ _ rfl Try.underlying25 elemBYTE rfl rfl rfl (ho.out.on ((Below.refl _ _).alloc (Nat.le_refl _) _)) ?_ (by simp) ?_ (by decide) ?_ ?_)
      · rw [show y % 128 + 128 = 128 + y % 128 by omega]; exact holds_one .u8 _ _ _
      · first | omega | (simp; omega)
      · have := hb.out.size; first | omega | (simp; omega)
      intro v2 w2 ho2 hg
      have hb2 : Below B w w2 := ((hb.out).alloc (by have := hb.out.size; omega) _).trans hg
      have HO2 := Lib.hid (Or.inl ho2 : Fits 5 .u8 B w2 v2 _); have HB2 := Lib.hid hb2
      clear ho2 hb2 hg
      go_wp2_with fail
      go_roundw
      case rel => exact ⟨y / 128, p ++ [y % 128 + 128], rfl, by omega, by omega, Lib.hid (by rw [List.append_assoc, ← he.out, HS.out]; rfl), HO2, HB2⟩
      case measure => simp [intOf]; omega
    · have HS := Lib.hid (Var.enc_last (n := y) (by omega) (by omega))
      go_wp2_with (at_builtin; refine wpList_app_fit (k := .u8) (B := B) (l := l ++ p) (m := [y]) rfl _ _ rfl Try.underlying25 elemBYTE rfl rfl rfl (ho.out.on ((Below.refl _ _).alloc (Nat.le_refl _) _)) (holds_one .u8 _ _ _) (by simp) ?_ (by decide) ?_ ?_)
      · first | omega | (simp; omega)
      · have := hb.out.size; first | omega | (simp; omega)
      intro v2 w2 ho2 hg
      have hb2 : Below B w w2 := ((hb.out).alloc (by have := hb.out.size; omega) _).trans hg
      have HO2 := Lib.hid ho2; have HB2 := Lib.hid hb2
      clear ho2 hb2 hg
      go_wp2_with fail
      go_ret
      exact ⟨_, rfl, by rw [HE.out, ← he.out, HS.out]; exact HO2.out, HB2.out⟩

theorem addVarint_out (v : Value) (n : Int) (w : World) (hn : ¬ (0 ≤ n ∧ n ≤ 1000000000000)) :
    Calls Try.prog 90 #[v, .int .i64 n] w fun e w' => e = .returned v ∧ w = w' := by
  have hin := fun wx => Num.implIn_false hn wx
  have HI := Lib.hid hin
  clear hin hn
  go_enter Try.func90, Try.ntmps90
  go_wp2_with fail
  refine (HI.out _).mono ?_
  rintro e w' ⟨rfl, rfl⟩
  go_wp2_with fail
  go_ret
  exact ⟨rfl, rfl⟩

set_option maxHeartbeats 1000000 in
theorem implAppendVarint (v : Value) (l : List Int) (n : Int) (w : World) (h : Holds .u8 w v l) (hl : l.length ≤ 100000000) :
    Calls Try.prog 89 #[v, .int .i64 n] w (GivesB w (l ++ Var.var n)) := by
  obtain ⟨x, cap, rfl, hcap, hh⟩ := h.shape
  by_cases hn : 0 ≤ n ∧ n ≤ 1000000000000
  · have hin := fun wx => Num.implIn_true hn.1 hn.2 wx
    have HI := Lib.hid hin
    have ha := fun x' hx' => addVarint w.heap.size (.slice x' l.length l.length) l n w (Or.inr ⟨x', rfl, hx'⟩) (Nat.le_refl _) hl hn.1 hn.2
    have HA := Lib.hid ha
    have hf : Holds .u8 w (.slice x l.length l.length) l := by
      obtain ⟨x', cap', hv, hc, hh⟩ := hh
      cases hv
      exact ⟨x, l.length, rfl, Nat.le_refl _, hh⟩
    have HF := Lib.hid hf
    obtain ⟨hn1, hn2⟩ := hn
    clear hin ha hf hh h
    go_enter Try.func89, Try.ntmps89
    go_wp2_with fail
    refine (HI.out _).mono ?_
    rintro e w' ⟨rfl, rfl⟩
    go_wp2_with fail
    refine (HA.out _ HF.out).mono ?_
    rintro e w' ⟨v', rfl, ho, hb⟩
    have HO := Lib.hid ho; have HB := Lib.hid hb
    clear ho hb
    go_wp2_with fail
    go_ret
    exact ⟨_, rfl, HO.out, HB.out⟩
  · have e1 := Var.var_out hn
    have HE := Lib.hid e1
    have hin := fun wx => Num.implIn_false hn wx
    have HI := Lib.hid hin
    obtain ⟨m, hm⟩ : ∃ m, m = l.length := ⟨_, rfl⟩
    rw [← hm] at hcap hh hl ⊢
    have HM := Lib.hid hm
    have HF := Lib.hid hh
    clear e1 hin hn hh hm h
    go_enter Try.func89, Try.ntmps89
    go_wp2_with fail
    refine (HI.out _).mono ?_
    rintro e w' ⟨rfl, rfl⟩
    go_wp2_with (at_builtin; refine wpList_app (k := .u8) (B := w.heap.size) (l := []) (m := l) rfl _ _ rfl Try.underlying25 elemBYTE rfl rfl rfl (own_empty .u8 _ w) (HF.out.on ((Below.refl _ _).alloc (Nat.le_refl _) _)) ?_ (by decide) ?_ ?_)
    · have := HM.out; simp; omega
    · simp
    intro v1 w1 ho hg
    have hb : Below w.heap.size w w1 := ((Below.refl _ _).alloc (Nat.le_refl _) _).grown hg (by simp) (fun k hk => by cases hk; exact Nat.le_refl _)
    have HO := Lib.hid ho; have HB := Lib.hid hb
    clear ho hb hg
    go_wp2_with fail
    go_ret
    exact ⟨_, rfl, by rw [HE.out, List.append_nil]; exact HO.out, HB.out⟩
end Go.Proofs.Ytbooamnlocobfaa.Sl
/- Contracts of ReadVarint, the reference model's and the program's: what the groups at the offset make, the offset behind them, true; or 0, 0 and false. Nothing in memory turns. No conditions but that the elements are bytes and the length fits. -/
namespace Go.Proofs.Ytbooamnlocobfaa.Sl
open Go.ChangeShapes Go.WideShapes Go.ChangeAt Go.RowKit Go.Instr
set_option linter.unusedVariables false
set_option maxRecDepth 100000

/-- The three results of ReadVarint. -/
def rdV (r : Int × Int × Bool) : Value := .tuple #[.int .i64 r.1, .int .i64 r.2.1, .bool r.2.2]
theorem ret_rdV {r : Int × Int × Bool} {a b : Int} {c : Bool} (h : r = (a, b, c)) : Ending.returned (.tuple #[.int .i64 a, .int .i64 b, .bool c]) = .returned (rdV r) := by rw [h]; rfl

theorem orJoin (k : Nat) (C : Int) (hC : C = 128 ^ k) (hk : 7 * k ≤ 42) {n m : Int} (h0 : 0 ≤ n) (h1 : n < 128 ^ k) (m0 : 0 ≤ m) (m1 : m < 128) : bits .or .i64 n (m * C) = n + m * C := by
  subst hC
  have e : bits .or .i64 n (m * 128 ^ k) = bits .or .i64 (m * 128 ^ k) n := by
    have hx : ∀ a b : Int, bits .or .i64 a b = IntKind.i64.wrap ((BitVec.ofInt 64 a ||| BitVec.ofInt 64 b).toNat : Int) := fun _ _ => rfl
    rw [hx, hx, BitVec.or_comm]
  have e2 : (128 : Int) ^ k = 2 ^ (7 * k) := by rw [Int.pow_mul]; rfl
  have hb : (2 : Int) ^ (7 * k) ≤ 2 ^ 42 := by
    have := Nat.pow_le_pow_right (n := 2) (by decide) hk
    exact_mod_cast this
  have hp : (0 : Int) < 2 ^ (7 * k) := by
    have := Nat.two_pow_pos (7 * k)
    exact_mod_cast this
  have hm : m * 2 ^ (7 * k) ≤ 127 * 2 ^ 42 := Int.mul_le_mul (by omega) hb (by omega) (by omega)
  have hm0 : 0 ≤ m * 2 ^ (7 * k) := Int.mul_nonneg m0 (by omega)
  rw [e, e2, bits_join .i64 63 (by decide) (fun n a b => IntWalk.i64_in n (by omega)) (7 * k) (m * 2 ^ (7 * k)) n hm0 (Int.mul_emod_left _ _) (by omega) h0 (by rw [← e2]; exact h1) (by rw [e2] at h1; omega)]
  omega

set_option maxHeartbeats 1000000 in
theorem specReadV_in (x : Option Addr) (cap m : Nat) (l : List Int) (a : Nat) (w : World) (hm : m = l.length) (h : Holds .u8 w (.slice x m cap) l) (hB : Byt l) (hl : m ≤ 100000000) (ha : a ≤ m) :
    Calls Try.prog 91 #[.slice x m cap, .int .i64 a] w fun e w' => e = .returned (rdV (Var.readV l a)) ∧ w = w' := by
  have H := Lib.hid h; have HM := Lib.hid hm; have HB := Lib.hid hB
  clear h hm hB
  go_enter Try.func91, Try.ntmps91
  go_wp2_with fail
  go_loop [7, 8] (fun nv iv => ∃ (k : Nat) (n : Int), k ≤ 6 ∧ iv = .int .i64 k ∧ nv = .int .i64 n ∧ 0 ≤ n ∧ Hid (n < 128 ^ k) ∧ Hid (Var.dec (6 - k) (l.drop (a + k)) k n = Var.dec 6 (l.drop a) 0 0)) (fun _ iv => 6 - (intOf iv).toNat)
  case atStart => exact ⟨0, 0, by omega, rfl, rfl, by omega, Lib.hid (by decide), Lib.hid rfl⟩
  case round =>
    obtain ⟨k, n, hk, rfl, rfl, hn0, hn1, hd⟩ := hrel
    by_cases hk6 : k < 6
    · by_cases hlt : a + k < m
      · have hlen := HM.out
        obtain ⟨b, off, rfl, hc⟩ := H.out.at (j := a + k) (by omega)
        have hby := HB.out.at (j := a + k) (by omega)
        have hx : Hid (nth l (a + k) = l.getD (a + k) 0) := rfl
        obtain ⟨y, hy⟩ : ∃ y, y = nth l (a + k) := ⟨_, rfl⟩
        rw [← hy] at hc hby hx
        clear hy hlen
        have hltL : Hid (a + k < l.length) := by have := HM.out; exact (show a + k < l.length by omega)
        have hz : k = 0 ∨ k = 1 ∨ k = 2 ∨ k = 3 ∨ k = 4 ∨ k = 5 := by omega
        by_cases hy1 : y < 128
        · have o1 : bits .and .i64 y 127 = y := by rw [i64_and127]; omega
          rcases hz with rfl | rfl | rfl | rfl | rfl | rfl
          · rw [Nat.add_zero] at hc hlt
            have o2 : bits .or .i64 n y = n + y := by
              have := orJoin 0 1 (by decide) (by decide) hn0 hn1.out (m := y) (by omega) (by omega)
              rwa [Int.mul_one] at this
            by_cases hbad : (y = 0 ∧ 0 < 0) ∨ 1000000000000 < n + y * 1
            · have HD := Lib.hid (hd.out.symm.trans (Var.dec_bad 0 1 (by decide) hltL.out (by decide) hx.out hy1 hbad))
              have HR := Lib.hid (Var.readV_none (l := l) (i := (a : Int)) (fun _ _ => by simpa using HD.out))
              by_cases h0 : y = 0
              · subst h0
                have h3 : 1000000000000 < n := by omega
                clear hbad
                go_wp2_with fail
                go_ret3
                exact ⟨ret_rdV HR.out, rfl⟩
              · have h1 : (y == 0) = false := by simpa using h0
                have h3 : 1000000000000 < n + y := by omega
                clear hbad h0
                go_wp2_with fail
                go_ret3
                exact ⟨ret_rdV HR.out, rfl⟩
            · have HD := Lib.hid (hd.out.symm.trans (Var.dec_ok 0 1 (by decide) hltL.out (by decide) hx.out hy1 hbad))
              have HR := Lib.hid (Var.readV_some (l := l) (i := (a : Int)) (by omega) (by have := HM.out; omega) (by simpa using HD.out))
              have h3 : n + y ≤ 1000000000000 := by omega
              clear hbad
              by_cases h0 : y = 0
              · subst h0
                go_wp2_with fail
                go_ret3
                exact ⟨ret_rdV (HR.out.trans (by simp)), rfl⟩
              · have h1 : (y == 0) = false := by simpa using h0
                clear h0
                go_wp2_with fail
                go_ret3
                exact ⟨ret_rdV (HR.out.trans (by simp)), rfl⟩
          · have o2 : bits .or .i64 n (y * 128) = n + y * 128 := orJoin 1 128 (by decide) (by decide) hn0 hn1.out (by omega) (by omega)
            by_cases hbad : (y = 0 ∧ 0 < 1) ∨ 1000000000000 < n + y * 128
            · have HD := Lib.hid (hd.out.symm.trans (Var.dec_bad 1 128 (by decide) hltL.out (by decide) hx.out hy1 hbad))
              have HR := Lib.hid (Var.readV_none (l := l) (i := (a : Int)) (fun _ _ => by simpa using HD.out))
              by_cases h0 : y = 0
              · subst h0
                clear hbad
                go_wp2_with fail
                go_ret3
                exact ⟨ret_rdV HR.out, rfl⟩
              · have h1 : (y == 0) = false := by simpa using h0
                have h3 : 1000000000000 < n + y * 128 := by omega
                clear hbad h0
                go_wp2_with fail
                go_ret3
                exact ⟨ret_rdV HR.out, rfl⟩
            · have HD := Lib.hid (hd.out.symm.trans (Var.dec_ok 1 128 (by decide) hltL.out (by decide) hx.out hy1 hbad))
              have HR := Lib.hid (Var.readV_some (l := l) (i := (a : Int)) (by omega) (by have := HM.out; omega) (by simpa using HD.out))
              have h3 : n + y * 128 ≤ 1000000000000 := by omega
              have h0 : ¬ y = 0 := by omega
              have h1 : (y == 0) = false := by simpa using h0
              clear hbad h0
              go_wp2_with fail
              go_ret3
              exact ⟨ret_rdV (HR.out.trans (by simp; omega)), rfl⟩
          · have o2 : bits .or .i64 n (y * 16384) = n + y * 16384 := orJoin 2 16384 (by decide) (by decide) hn0 hn1.out (by omega) (by omega)
            by_cases hbad : (y = 0 ∧ 0 < 2) ∨ 1000000000000 < n + y * 16384
            · have HD := Lib.hid (hd.out.symm.trans (Var.dec_bad 2 16384 (by decide) hltL.out (by decide) hx.out hy1 hbad))
              have HR := Lib.hid (Var.readV_none (l := l) (i := (a : Int)) (fun _ _ => by simpa using HD.out))
              by_cases h0 : y = 0
              · subst h0
                clear hbad
                go_wp2_with fail
                go_ret3
                exact ⟨ret_rdV HR.out, rfl⟩
              · have h1 : (y == 0) = false := by simpa using h0
                have h3 : 1000000000000 < n + y * 16384 := by omega
                clear hbad h0
                go_wp2_with fail
                go_ret3
                exact ⟨ret_rdV HR.out, rfl⟩
            · have HD := Lib.hid (hd.out.symm.trans (Var.dec_ok 2 16384 (by decide) hltL.out (by decide) hx.out hy1 hbad))
              have HR := Lib.hid (Var.readV_some (l := l) (i := (a : Int)) (by omega) (by have := HM.out; omega) (by simpa using HD.out))
              have h3 : n + y * 16384 ≤ 1000000000000 := by omega
              have h0 : ¬ y = 0 := by omega
              have h1 : (y == 0) = false := by simpa using h0
              clear hbad h0
              go_wp2_with fail
              go_ret3
              exact ⟨ret_rdV (HR.out.trans (by simp; omega)), rfl⟩
          · have o2 : bits .or .i64 n (y * 2097152) = n + y * 2097152 := orJoin 3 2097152 (by decide) (by decide) hn0 hn1.out (by omega) (by omega)
            by_cases hbad : (y = 0 ∧ 0 < 3) ∨ 1000000000000 < n + y * 2097152
            · have HD := Lib.hid (hd.out.symm.trans (Var.dec_bad 3 2097152 (by decide) hltL.out (by decide) hx.out hy1 hbad))
              have HR := Lib.hid (Var.readV_none (l := l) (i := (a : Int)) (fun _ _ => by simpa using HD.out))
              by_cases h0 : y = 0
              · subst h0
                clear hbad
                go_wp2_with fail
                go_ret3
                exact ⟨ret_rdV HR.out, rfl⟩
              · have h1 : (y == 0) = false := by simpa using h0
                have h3 : 1000000000000 < n + y * 2097152 := by omega
                clear hbad h0
                go_wp2_with fail
                go_ret3
                exact ⟨ret_rdV HR.out, rfl⟩
            · have HD := Lib.hid (hd.out.symm.trans (Var.dec_ok 3 2097152 (by decide) hltL.out (by decide) hx.out hy1 hbad))
              have HR := Lib.hid (Var.readV_some (l := l) (i := (a : Int)) (by omega) (by have := HM.out; omega) (by simpa using HD.out))
              have h3 : n + y * 2097152 ≤ 1000000000000 := by omega
              have h0 : ¬ y = 0 := by omega
              have h1 : (y == 0) = false := by simpa using h0
              clear hbad h0
              go_wp2_with fail
              go_ret3
              exact ⟨ret_rdV (HR.out.trans (by simp; omega)), rfl⟩
          · have o2 : bits .or .i64 n (y * 268435456) = n + y * 268435456 := orJoin 4 268435456 (by decide) (by decide) hn0 hn1.out (by omega) (by omega)
            by_cases hbad : (y = 0 ∧ 0 < 4) ∨ 1000000000000 < n + y * 268435456
            · have HD := Lib.hid (hd.out.symm.trans (Var.dec_bad 4 268435456 (by decide) hltL.out (by decide) hx.out hy1 hbad))
              have HR := Lib.hid (Var.readV_none (l := l) (i := (a : Int)) (fun _ _ => by simpa using HD.out))
              by_cases h0 : y = 0
              · subst h0
                clear hbad
                go_wp2_with fail
                go_ret3
                exact ⟨ret_rdV HR.out, rfl⟩
              · have h1 : (y == 0) = false := by simpa using h0
                have h3 : 1000000000000 < n + y * 268435456 := by omega
                clear hbad h0
                go_wp2_with fail
                go_ret3
                exact ⟨ret_rdV HR.out, rfl⟩
            · have HD := Lib.hid (hd.out.symm.trans (Var.dec_ok 4 268435456 (by decide) hltL.out (by decide) hx.out hy1 hbad))
              have HR := Lib.hid (Var.readV_some (l := l) (i := (a : Int)) (by omega) (by have := HM.out; omega) (by simpa using HD.out))
              have h3 : n + y * 268435456 ≤ 1000000000000 := by omega
              have h0 : ¬ y = 0 := by omega
              have h1 : (y == 0) = false := by simpa using h0
              clear hbad h0
              go_wp2_with fail
              go_ret3
              exact ⟨ret_rdV (HR.out.trans (by simp; omega)), rfl⟩
          · have o2 : bits .or .i64 n (y * 34359738368) = n + y * 34359738368 := orJoin 5 34359738368 (by decide) (by decide) hn0 hn1.out (by omega) (by omega)
            by_cases hbad : (y = 0 ∧ 0 < 5) ∨ 1000000000000 < n + y * 34359738368
            · have HD := Lib.hid (hd.out.symm.trans (Var.dec_bad 5 34359738368 (by decide) hltL.out (by decide) hx.out hy1 hbad))
              have HR := Lib.hid (Var.readV_none (l := l) (i := (a : Int)) (fun _ _ => by simpa using HD.out))
              by_cases h0 : y = 0
              · subst h0
                clear hbad
                go_wp2_with fail
                go_ret3
                exact ⟨ret_rdV HR.out, rfl⟩
              · have h1 : (y == 0) = false := by simpa using h0
                have h3 : 1000000000000 < n + y * 34359738368 := by omega
                clear hbad h0
                go_wp2_with fail
                go_ret3
                exact ⟨ret_rdV HR.out, rfl⟩
            · have HD := Lib.hid (hd.out.symm.trans (Var.dec_ok 5 34359738368 (by decide) hltL.out (by decide) hx.out hy1 hbad))
              have HR := Lib.hid (Var.readV_some (l := l) (i := (a : Int)) (by omega) (by have := HM.out; omega) (by simpa using HD.out))
              have h3 : n + y * 34359738368 ≤ 1000000000000 := by omega
              have h0 : ¬ y = 0 := by omega
              have h1 : (y == 0) = false := by simpa using h0
              clear hbad h0
              go_wp2_with fail
              go_ret3
              exact ⟨ret_rdV (HR.out.trans (by simp; omega)), rfl⟩
        · have o1 := i64_and127 y
          rcases hz with rfl | rfl | rfl | rfl | rfl | rfl
          · rw [Nat.add_zero] at hc hlt
            have o2 : bits .or .i64 n (y % 128) = n + y % 128 := by
              have := orJoin 0 1 (by decide) (by decide) hn0 hn1.out (m := y % 128) (by omega) (by omega)
              rwa [Int.mul_one] at this
            have h2 := hn1.out
            have hn2 : Hid (n + y % 128 < 128 ^ 1) := (show n + y % 128 < 128 ^ 1 by omega)
            clear h2
            have HD := Lib.hid ((Var.dec_more 0 1 (by decide) hltL.out (by decide) hx.out (by omega)).symm.trans hd.out)
            rw [Int.mul_one] at HD
            go_wp2_with fail
            go_round
            case rel => exact ⟨1, _, by decide, rfl, rfl, by omega, hn2, HD⟩
            case measure => simp [intOf]
          · have o2 : bits .or .i64 n (y % 128 * 128) = n + y % 128 * 128 := orJoin 1 128 (by decide) (by decide) hn0 hn1.out (by omega) (by omega)
            have h2 := hn1.out
            have hn2 : Hid (n + y % 128 * 128 < 128 ^ 2) := (show n + y % 128 * 128 < 128 ^ 2 by omega)
            clear h2
            have HD := Lib.hid ((Var.dec_more 1 128 (by decide) hltL.out (by decide) hx.out (by omega)).symm.trans hd.out)
            go_wp2_with fail
            go_round
            case rel => exact ⟨2, _, by decide, rfl, rfl, by omega, hn2, HD⟩
            case measure => simp [intOf]
          · have o2 : bits .or .i64 n (y % 128 * 16384) = n + y % 128 * 16384 := orJoin 2 16384 (by decide) (by decide) hn0 hn1.out (by omega) (by omega)
            have h2 := hn1.out
            have hn2 : Hid (n + y % 128 * 16384 < 128 ^ 3) := (show n + y % 128 * 16384 < 128 ^ 3 by omega)
            clear h2
            have HD := Lib.hid ((Var.dec_more 2 16384 (by decide) hltL.out (by decide) hx.out (by omega)).symm.trans hd.out)
            go_wp2_with fail
            go_round
            case rel => exact ⟨3, _, by decide, rfl, rfl, by omega, hn2, HD⟩
            case measure => simp [intOf]
          · have o2 : bits .or .i64 n (y % 128 * 2097152) = n + y % 128 * 2097152 := orJoin 3 2097152 (by decide) (by decide) hn0 hn1.out (by omega) (by omega)
            have h2 := hn1.out
            have hn2 : Hid (n + y % 128 * 2097152 < 128 ^ 4) := (show n + y % 128 * 2097152 < 128 ^ 4 by omega)
            clear h2
            have HD := Lib.hid ((Var.dec_more 3 2097152 (by decide) hltL.out (by decide) hx.out (by omega)).symm.trans hd.out)
            go_wp2_with fail
            go_round
            case rel => exact ⟨4, _, by decide, rfl, rfl, by omega, hn2, HD⟩
            case measure => simp [intOf]
          · have o2 : bits .or .i64 n (y % 128 * 268435456) = n + y % 128 * 268435456 := orJoin 4 268435456 (by decide) (by decide) hn0 hn1.out (by omega) (by omega)
            have h2 := hn1.out
            have hn2 : Hid (n + y % 128 * 268435456 < 128 ^ 5) := (show n + y % 128 * 268435456 < 128 ^ 5 by omega)
            clear h2
            have HD := Lib.hid ((Var.dec_more 4 268435456 (by decide) hltL.out (by decide) hx.out (by omega)).symm.trans hd.out)
            go_wp2_with fail
            go_round
            case rel => exact ⟨5, _, by decide, rfl, rfl, by omega, hn2, HD⟩
            case measure => simp [intOf]
          · have o2 : bits .or .i64 n (y % 128 * 34359738368) = n + y % 128 * 34359738368 := orJoin 5 34359738368 (by decide) (by decide) hn0 hn1.out (by omega) (by omega)
            have h2 := hn1.out
            have hn2 : Hid (n + y % 128 * 34359738368 < 128 ^ 6) := (show n + y % 128 * 34359738368 < 128 ^ 6 by omega)
            clear h2
            have HD := Lib.hid ((Var.dec_more 5 34359738368 (by decide) hltL.out (by decide) hx.out (by omega)).symm.trans hd.out)
            go_wp2_with fail
            go_round
            case rel => exact ⟨6, _, by decide, rfl, rfl, by omega, hn2, HD⟩
            case measure => simp [intOf]
      · have HR := Lib.hid (Var.readV_none (l := l) (i := (a : Int)) (fun _ _ => by
          have := Var.dec_end (l := l) (a := a) (k := k) (n := n) (by have := HM.out; omega)
          rw [hd.out] at this; simpa using this))
        go_wp2_with fail
        go_ret3
        exact ⟨ret_rdV HR.out, rfl⟩
    · obtain rfl : k = 6 := by omega
      have HR := Lib.hid (Var.readV_none (l := l) (i := (a : Int)) (fun _ _ => by
          have := Var.dec_full (l := l) (a := a) (n := n)
          rw [hd.out] at this; simpa using this))
      go_wp2_with fail
      go_ret3
      exact ⟨ret_rdV HR.out, rfl⟩
set_option maxHeartbeats 1000000 in
theorem specReadV (v : Value) (l : List Int) (i : Int) (w : World) (h : Holds .u8 w v l) (hB : Byt l) (hl : l.length ≤ 100000000) :
    Calls Try.prog 91 #[v, .int .i64 i] w fun e w' => e = .returned (rdV (Var.readV l i)) ∧ w = w' := by
  obtain ⟨x, cap, rfl, hcap, hh⟩ := h.shape
  by_cases h0 : 0 ≤ i
  · by_cases h1 : i ≤ l.length
    · obtain ⟨a, rfl⟩ := Int.eq_ofNat_of_zero_le h0
      exact specReadV_in x cap _ l a w rfl hh hB hl (by omega)
    · have HR := Lib.hid (Var.readV_none (l := l) (i := i) (fun _ h2 => absurd h2 h1))
      have h1 : (l.length : Int) < i := by omega
      clear h hh
      go_enter Try.func91, Try.ntmps91
      go_wp2_with fail
      refine wp_loop_rounds 1 ?_
      rw [rounds_succ]
      go_wp2_with fail
      go_ret3
      exact ⟨ret_rdV HR.out, rfl⟩
  · have HR := Lib.hid (Var.readV_none (l := l) (i := i) (fun h2 _ => absurd h2 h0))
    have h1 : i < 0 := by omega
    clear h hh h0
    go_enter Try.func91, Try.ntmps91
    go_wp2_with fail
    refine wp_loop_rounds 1 ?_
    rw [rounds_succ]
    go_wp2_with fail
    go_ret3
    exact ⟨ret_rdV HR.out, rfl⟩
end Go.Proofs.Ytbooamnlocobfaa.Sl
/- Contracts of the program's ReadVarint: what the groups at the offset make, the offset behind them, true; or 0, 0 and false. What was in memory stays as it was. No conditions but that the elements are bytes and the length fits. -/
namespace Go.Proofs.Ytbooamnlocobfaa.Sl
open Go.ChangeShapes Go.WideShapes Go.ChangeAt Go.RowKit Go.Instr
set_option linter.unusedVariables false
set_option maxRecDepth 100000

set_option maxHeartbeats 1000000 in
theorem implReadV_in (b off : Nat) (cap m : Nat) (l : List Int) (a : Nat) (w : World) (hm : m = l.length) (hcap : m ≤ cap) (h : Holds .u8 w (.slice (some ⟨b, off, none⟩) m cap) l) (hB : Byt l) (hl : m ≤ 100000000) (ha : a < m) :
    Calls Try.prog 105 #[.slice (some ⟨b, off, none⟩) m cap, .int .i64 a] w fun e w' => e = .returned (rdV (Var.readV l a)) ∧ Below w.heap.size w w' := by
  have H := Lib.hid h; have HM := Lib.hid hm; have HB := Lib.hid hB
  clear h hm hB
  go_enter Try.func105, Try.ntmps105
  go_wp2_with fail
  refine (Num.implIn_true (by omega) (by omega) _).mono ?_
  rintro e w' ⟨rfl, rfl⟩
  go_wp2_with fail
  refine (Num.implMin _ _ _).mono ?_
  rintro e w1 ⟨rfl, hb⟩
  replace H := Lib.hid (H.out.on hb); have BB := Lib.hid hb; clear hb
  obtain ⟨c, hc0, hc1, hc2, hc3⟩ : ∃ c : Nat, Hid (Num.minI (m : Int) ((a : Int) + 6) = ((a + c : Nat) : Int)) ∧ a + c ≤ m ∧ c ≤ 6 ∧ (a + c = m ∨ c = 6) := by
    by_cases hx : a + 6 ≤ m
    · exact ⟨6, by show _ = _; rw [Num.minI]; split <;> omega, by omega, by omega, by omega⟩
    · exact ⟨m - a, by show _ = _; rw [Num.minI]; split <;> omega, by omega, by omega, by omega⟩
  rw [hc0.out]
  go_wp2_with fail
  go_loop [7, 24] (fun nv iv => ∃ (k : Nat) (n : Int), k ≤ c ∧ iv = .int .i64 k ∧ nv = .int .i64 n ∧ 0 ≤ n ∧ Hid (n < 128 ^ k) ∧ Hid (Var.dec (6 - k) (l.drop (a + k)) k n = Var.dec 6 (l.drop a) 0 0)) (fun _ iv => 6 - (intOf iv).toNat)
  case atStart => exact ⟨0, 0, by omega, rfl, rfl, by omega, Lib.hid (by decide), Lib.hid rfl⟩
  case round =>
    obtain ⟨k, n, hk, rfl, rfl, hn0, hn1, hd⟩ := hrel
    by_cases hk6 : k < c
    · have hlen := HM.out
      obtain ⟨b', off', hbo, hc⟩ := H.out.at (j := a + k) (by omega)
      cases hbo
      rw [← Nat.add_assoc] at hc
      have hby := HB.out.at (j := a + k) (by omega)
      have hx : Hid (nth l (a + k) = l.getD (a + k) 0) := rfl
      obtain ⟨y, hy⟩ : ∃ y, y = nth l (a + k) := ⟨_, rfl⟩
      rw [← hy] at hc hby hx
      clear hy hlen
      have hltL : Hid (a + k < l.length) := by have := HM.out; exact (show a + k < l.length by omega)
      have hz : k = 0 ∨ k = 1 ∨ k = 2 ∨ k = 3 ∨ k = 4 ∨ k = 5 := by omega
      · by_cases hy1 : y < 128
        · rcases hz with rfl | rfl | rfl | rfl | rfl | rfl
          · rw [Nat.add_zero] at hc
            have h2 := hn1.out
            have hm : y % 128 = y := by omega
            have HMY := Lib.hid hm; clear hm
            have h3 : n < 1 := by omega
            clear h2
            by_cases hbad : (y = 0 ∧ 0 < 0) ∨ 1000000000000 < n + y * 1
            · have HD := Lib.hid (hd.out.symm.trans (Var.dec_bad 0 1 (by decide) hltL.out (by decide) hx.out hy1 hbad))
              have HR := Lib.hid (Var.readV_none (l := l) (i := (a : Int)) (fun _ _ => by simpa using HD.out))
              by_cases h0 : y = 0
              · subst h0
                have h5 : 1000000000000 < n := by omega
                clear hbad
                go_wp2_with fail
                go_ret3
                exact ⟨ret_rdV HR.out, BB.out⟩
              · exact absurd (show 1000000000000 < n + y % 128 by omega) (by omega)
            · have HD := Lib.hid (hd.out.symm.trans (Var.dec_ok 0 1 (by decide) hltL.out (by decide) hx.out hy1 hbad))
              have HR := Lib.hid (Var.readV_some (l := l) (i := (a : Int)) (by omega) (by have := HM.out; omega) (by simpa using HD.out))
              have h5 : n + y % 128 ≤ 1000000000000 := by omega
              clear hbad
              by_cases h0 : y = 0
              · subst h0
                go_wp2_with fail
                go_ret3
                exact ⟨ret_rdV (HR.out.trans (by simp)), BB.out⟩
              · have h1 : (y == 0) = false := by simpa using h0
                clear h0
                go_wp2_with fail
                go_ret3
                exact ⟨ret_rdV (HR.out.trans (by have := HMY.out; simp; omega)), BB.out⟩
          · have h2 := hn1.out
            have hm : y % 128 = y := by omega
            have HMY := Lib.hid hm; clear hm
            have h3 : n < 128 := by omega
            clear h2
            by_cases hbad : (y = 0 ∧ 0 < 1) ∨ 1000000000000 < n + y * 128
            · have HD := Lib.hid (hd.out.symm.trans (Var.dec_bad 1 128 (by decide) hltL.out (by decide) hx.out hy1 hbad))
              have HR := Lib.hid (Var.readV_none (l := l) (i := (a : Int)) (fun _ _ => by simpa using HD.out))
              by_cases h0 : y = 0
              · subst h0
                clear hbad
                go_wp2_with fail
                go_ret3
                exact ⟨ret_rdV HR.out, BB.out⟩
              · exact absurd (show 1000000000000 < n + y % 128 * 128 by omega) (by omega)
            · have HD := Lib.hid (hd.out.symm.trans (Var.dec_ok 1 128 (by decide) hltL.out (by decide) hx.out hy1 hbad))
              have HR := Lib.hid (Var.readV_some (l := l) (i := (a : Int)) (by omega) (by have := HM.out; omega) (by simpa using HD.out))
              have h5 : n + y % 128 * 128 ≤ 1000000000000 := by omega
              have h0 : ¬ y = 0 := by omega
              have h1 : (y == 0) = false := by simpa using h0
              clear hbad h0
              go_wp2_with fail
              go_ret3
              exact ⟨ret_rdV (HR.out.trans (by have := HMY.out; simp; omega)), BB.out⟩
          · have h2 := hn1.out
            have hm : y % 128 = y := by omega
            have HMY := Lib.hid hm; clear hm
            have h3 : n < 16384 := by omega
            clear h2
            by_cases hbad : (y = 0 ∧ 0 < 2) ∨ 1000000000000 < n + y * 16384
            · have HD := Lib.hid (hd.out.symm.trans (Var.dec_bad 2 16384 (by decide) hltL.out (by decide) hx.out hy1 hbad))
              have HR := Lib.hid (Var.readV_none (l := l) (i := (a : Int)) (fun _ _ => by simpa using HD.out))
              by_cases h0 : y = 0
              · subst h0
                clear hbad
                go_wp2_with fail
                go_ret3
                exact ⟨ret_rdV HR.out, BB.out⟩
              · exact absurd (show 1000000000000 < n + y % 128 * 16384 by omega) (by omega)
            · have HD := Lib.hid (hd.out.symm.trans (Var.dec_ok 2 16384 (by decide) hltL.out (by decide) hx.out hy1 hbad))
              have HR := Lib.hid (Var.readV_some (l := l) (i := (a : Int)) (by omega) (by have := HM.out; omega) (by simpa using HD.out))
              have h5 : n + y % 128 * 16384 ≤ 1000000000000 := by omega
              have h0 : ¬ y = 0 := by omega
              have h1 : (y == 0) = false := by simpa using h0
              clear hbad h0
              go_wp2_with fail
              go_ret3
              exact ⟨ret_rdV (HR.out.trans (by have := HMY.out; simp; omega)), BB.out⟩
          · have h2 := hn1.out
            have hm : y % 128 = y := by omega
            have HMY := Lib.hid hm; clear hm
            have h3 : n < 2097152 := by omega
            clear h2
            by_cases hbad : (y = 0 ∧ 0 < 3) ∨ 1000000000000 < n + y * 2097152
            · have HD := Lib.hid (hd.out.symm.trans (Var.dec_bad 3 2097152 (by decide) hltL.out (by decide) hx.out hy1 hbad))
              have HR := Lib.hid (Var.readV_none (l := l) (i := (a : Int)) (fun _ _ => by simpa using HD.out))
              by_cases h0 : y = 0
              · subst h0
                clear hbad
                go_wp2_with fail
                go_ret3
                exact ⟨ret_rdV HR.out, BB.out⟩
              · exact absurd (show 1000000000000 < n + y % 128 * 2097152 by omega) (by omega)
            · have HD := Lib.hid (hd.out.symm.trans (Var.dec_ok 3 2097152 (by decide) hltL.out (by decide) hx.out hy1 hbad))
              have HR := Lib.hid (Var.readV_some (l := l) (i := (a : Int)) (by omega) (by have := HM.out; omega) (by simpa using HD.out))
              have h5 : n + y % 128 * 2097152 ≤ 1000000000000 := by omega
              have h0 : ¬ y = 0 := by omega
              have h1 : (y == 0) = false := by simpa using h0
              clear hbad h0
              go_wp2_with fail
              go_ret3
              exact ⟨ret_rdV (HR.out.trans (by have := HMY.out; simp; omega)), BB.out⟩
          · have h2 := hn1.out
            have hm : y % 128 = y := by omega
            have HMY := Lib.hid hm; clear hm
            have h3 : n < 268435456 := by omega
            clear h2
            by_cases hbad : (y = 0 ∧ 0 < 4) ∨ 1000000000000 < n + y * 268435456
            · have HD := Lib.hid (hd.out.symm.trans (Var.dec_bad 4 268435456 (by decide) hltL.out (by decide) hx.out hy1 hbad))
              have HR := Lib.hid (Var.readV_none (l := l) (i := (a : Int)) (fun _ _ => by simpa using HD.out))
              by_cases h0 : y = 0
              · subst h0
                clear hbad
                go_wp2_with fail
                go_ret3
                exact ⟨ret_rdV HR.out, BB.out⟩
              · exact absurd (show 1000000000000 < n + y % 128 * 268435456 by omega) (by omega)
            · have HD := Lib.hid (hd.out.symm.trans (Var.dec_ok 4 268435456 (by decide) hltL.out (by decide) hx.out hy1 hbad))
              have HR := Lib.hid (Var.readV_some (l := l) (i := (a : Int)) (by omega) (by have := HM.out; omega) (by simpa using HD.out))
              have h5 : n + y % 128 * 268435456 ≤ 1000000000000 := by omega
              have h0 : ¬ y = 0 := by omega
              have h1 : (y == 0) = false := by simpa using h0
              clear hbad h0
              go_wp2_with fail
              go_ret3
              exact ⟨ret_rdV (HR.out.trans (by have := HMY.out; simp; omega)), BB.out⟩
          · have h2 := hn1.out
            have hm : y % 128 = y := by omega
            have HMY := Lib.hid hm; clear hm
            have h3 : n < 34359738368 := by omega
            clear h2
            by_cases hbad : (y = 0 ∧ 0 < 5) ∨ 1000000000000 < n + y * 34359738368
            · have HD := Lib.hid (hd.out.symm.trans (Var.dec_bad 5 34359738368 (by decide) hltL.out (by decide) hx.out hy1 hbad))
              have HR := Lib.hid (Var.readV_none (l := l) (i := (a : Int)) (fun _ _ => by simpa using HD.out))
              by_cases h0 : y = 0
              · subst h0
                clear hbad
                go_wp2_with fail
                go_ret3
                exact ⟨ret_rdV HR.out, BB.out⟩
              · have h1 : (y == 0) = false := by simpa using h0
                have h5 : 1000000000000 < n + y % 128 * 34359738368 := by omega
                clear hbad h0
                go_wp2_with fail
                go_ret3
                exact ⟨ret_rdV HR.out, BB.out⟩
            · have HD := Lib.hid (hd.out.symm.trans (Var.dec_ok 5 34359738368 (by decide) hltL.out (by decide) hx.out hy1 hbad))
              have HR := Lib.hid (Var.readV_some (l := l) (i := (a : Int)) (by omega) (by have := HM.out; omega) (by simpa using HD.out))
              have h5 : n + y % 128 * 34359738368 ≤ 1000000000000 := by omega
              have h0 : ¬ y = 0 := by omega
              have h1 : (y == 0) = false := by simpa using h0
              clear hbad h0
              go_wp2_with fail
              go_ret3
              exact ⟨ret_rdV (HR.out.trans (by have := HMY.out; simp; omega)), BB.out⟩
        · rcases hz with rfl | rfl | rfl | rfl | rfl | rfl
          · rw [Nat.add_zero] at hc
            have h2 := hn1.out
            have hn2 : Hid (n + y % 128 < 128 ^ 1) := (show n + y % 128 < 128 ^ 1 by omega)
            have h3 : n < 1 := by omega
            clear h2
            have HD := Lib.hid ((Var.dec_more 0 1 (by decide) hltL.out (by decide) hx.out (by omega)).symm.trans hd.out)
            rw [Int.mul_one] at HD
            go_wp2_with fail
            go_round
            case rel => exact ⟨1, _, by omega, rfl, rfl, by omega, hn2, HD⟩
            case measure => simp [intOf]
          · have h2 := hn1.out
            have hn2 : Hid (n + y % 128 * 128 < 128 ^ 2) := (show n + y % 128 * 128 < 128 ^ 2 by omega)
            have h3 : n < 128 := by omega
            clear h2
            have HD := Lib.hid ((Var.dec_more 1 128 (by decide) hltL.out (by decide) hx.out (by omega)).symm.trans hd.out)
            go_wp2_with fail
            go_round
            case rel => exact ⟨2, _, by omega, rfl, rfl, by omega, hn2, HD⟩
            case measure => simp [intOf]
          · have h2 := hn1.out
            have hn2 : Hid (n + y % 128 * 16384 < 128 ^ 3) := (show n + y % 128 * 16384 < 128 ^ 3 by omega)
            have h3 : n < 16384 := by omega
            clear h2
            have HD := Lib.hid ((Var.dec_more 2 16384 (by decide) hltL.out (by decide) hx.out (by omega)).symm.trans hd.out)
            go_wp2_with fail
            go_round
            case rel => exact ⟨3, _, by omega, rfl, rfl, by omega, hn2, HD⟩
            case measure => simp [intOf]
          · have h2 := hn1.out
            have hn2 : Hid (n + y % 128 * 2097152 < 128 ^ 4) := (show n + y % 128 * 2097152 < 128 ^ 4 by omega)
            have h3 : n < 2097152 := by omega
            clear h2
            have HD := Lib.hid ((Var.dec_more 3 2097152 (by decide) hltL.out (by decide) hx.out (by omega)).symm.trans hd.out)
            go_wp2_with fail
            go_round
            case rel => exact ⟨4, _, by omega, rfl, rfl, by omega, hn2, HD⟩
            case measure => simp [intOf]
          · have h2 := hn1.out
            have hn2 : Hid (n + y % 128 * 268435456 < 128 ^ 5) := (show n + y % 128 * 268435456 < 128 ^ 5 by omega)
            have h3 : n < 268435456 := by omega
            clear h2
            have HD := Lib.hid ((Var.dec_more 4 268435456 (by decide) hltL.out (by decide) hx.out (by omega)).symm.trans hd.out)
            go_wp2_with fail
            go_round
            case rel => exact ⟨5, _, by omega, rfl, rfl, by omega, hn2, HD⟩
            case measure => simp [intOf]
          · have h2 := hn1.out
            have hn2 : Hid (n + y % 128 * 34359738368 < 128 ^ 6) := (show n + y % 128 * 34359738368 < 128 ^ 6 by omega)
            have h3 : n < 34359738368 := by omega
            clear h2
            have HD := Lib.hid ((Var.dec_more 5 34359738368 (by decide) hltL.out (by decide) hx.out (by omega)).symm.trans hd.out)
            go_wp2_with fail
            go_round
            case rel => exact ⟨6, _, by omega, rfl, rfl, by omega, hn2, HD⟩
            case measure => simp [intOf]
    · obtain rfl : k = c := by omega
      have HR := Lib.hid (Var.readV_none (l := l) (i := (a : Int)) (fun _ _ => by
          rcases hc3 with h | rfl
          · have := Var.dec_end (l := l) (a := a) (k := k) (n := n) (by have := HM.out; omega)
            rw [hd.out] at this; simpa using this
          · have := Var.dec_full (l := l) (a := a) (n := n)
            rw [hd.out] at this; simpa using this))
      clear hk6
      go_wp2_with fail
      go_ret3
      exact ⟨ret_rdV HR.out, BB.out⟩

set_option maxHeartbeats 1000000 in
theorem implReadV_end (x : Option Addr) (cap m : Nat) (l : List Int) (w : World) (hm : m = l.length) (hcap : m ≤ cap) (hl : m ≤ 100000000) :
    Calls Try.prog 105 #[.slice x m cap, .int .i64 m] w fun e w' => e = .returned (rdV (Var.readV l m)) ∧ Below w.heap.size w w' := by
  have HR := Lib.hid (Var.readV_none (l := l) (i := (m : Int)) (fun _ _ => by rw [List.drop_eq_nil_of_le (by simp; omega)]; rfl))
  have hmin : Num.minI (m : Int) ((m : Int) + 6) = m := by rw [Num.minI]; split <;> omega
  have HMIN := Lib.hid hmin
  clear hm hmin
  go_enter Try.func105, Try.ntmps105
  go_wp2_with fail
  refine (Num.implIn_true (by omega) (by omega) _).mono ?_
  rintro e w' ⟨rfl, rfl⟩
  go_wp2_with fail
  refine (Num.implMin _ _ _).mono ?_
  rintro e w1 ⟨rfl, hb⟩
  have BB := Lib.hid hb; clear hb
  rw [HMIN.out]
  go_wp2_with fail
  all_goals
    refine wp_loop_rounds 1 ?_
    rw [rounds_succ]
    go_wp2_with fail
    go_ret3
    exact ⟨ret_rdV HR.out, BB.out⟩

set_option maxHeartbeats 1000000 in
theorem implReadV (v : Value) (l : List Int) (i : Int) (w : World) (h : Holds .u8 w v l) (hB : Byt l) (hl : l.length ≤ 100000000) :
    Calls Try.prog 105 #[v, .int .i64 i] w fun e w' => e = .returned (rdV (Var.readV l i)) ∧ Below w.heap.size w w' := by
  obtain ⟨x, cap, rfl, hcap, hh⟩ := h.shape
  by_cases h0 : 0 ≤ i ∧ i ≤ l.length
  · obtain ⟨h0, h1⟩ := h0
    obtain ⟨a, rfl⟩ := Int.eq_ofNat_of_zero_le h0
    by_cases h2 : a = l.length
    · subst h2
      exact implReadV_end x cap _ l w rfl hcap hl
    · obtain ⟨b, off, rfl, _⟩ := hh.at (j := a) (by omega)
      exact implReadV_in b off cap _ l a w rfl hcap hh hB hl (by omega)
  · have HR := Lib.hid (Var.readV_none (l := l) (i := i) (fun h1 h2 => absurd ⟨h1, h2⟩ h0))
    have hin := fun wx => Num.implIn_false h0 wx
    have HI := Lib.hid hin
    clear h hh hin h0
    go_enter Try.func105, Try.ntmps105
    go_wp2_with fail
    refine (HI.out _).mono ?_
    rintro e w' ⟨rfl, rfl⟩
    go_wp2_with fail
    go_ret3
    exact ⟨ret_rdV HR.out, Below.refl _ _⟩
theorem specReadVarint (v : Value) (l : List Int) (i : Int) (w : World) (h : Holds .u8 w v l) (hB : Byt l) (hl : l.length ≤ 100000000) :
    Calls Try.prog 91 #[v, .int .i64 i] w fun e w' => e = .returned (.tuple #[.int .i64 (Var.readV l i).1, .int .i64 (Var.readV l i).2.1, .bool (Var.readV l i).2.2]) ∧ w = w' := specReadV v l i w h hB hl
theorem implReadVarint (v : Value) (l : List Int) (i : Int) (w : World) (h : Holds .u8 w v l) (hB : Byt l) (hl : l.length ≤ 100000000) :
    Calls Try.prog 105 #[v, .int .i64 i] w fun e w' => e = .returned (.tuple #[.int .i64 (Var.readV l i).1, .int .i64 (Var.readV l i).2.1, .bool (Var.readV l i).2.2]) ∧ Below w.heap.size w w' := implReadV v l i w h hB hl
end Go.Proofs.Ytbooamnlocobfaa.Sl
