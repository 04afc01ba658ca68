/- Slices of one-cell elements in memory (strings, numbers, slices), for any program: a slice value that holds a list; a slice in blocks of the call's own that holds a list; what keeps both; one list appended to another. No conditions but that lengths fit. -/
import Derived.WalkKit
import Derived.ProofKit
import Derived.WalkLawsBesides
import Derived.Lib.Hide
import Derived.Below
import Derived.OwnWalk
import Derived.Laws.OwnMore
import Derived.Laws.AppendOwnNone
import Derived.ArgAppend
import Derived.Maps.AppendAt
namespace Go.Proofs.Ytkojeajjappchaa.Row
open Go.ChangeShapes Go.WideShapes Go.ChangeAt Go.RowKit
set_option linter.unusedVariables false
set_option maxRecDepth 100000

/-- The element at place j. (A plain definition: the walk leaves it alone.) -/
def nth {α : Type} [Inhabited α] (l : List α) (j : Nat) : α := l.getD j default

/-- The slice value v holds the elements l, written by enc, in the world w. -/
def Holds {α : Type} [Inhabited α] (enc : α → Value) (w : World) (v : Value) (l : List α) : Prop :=
  ∃ x cap, v = .slice x l.length cap ∧ l.length ≤ cap ∧ (l = [] ∨ ∃ b off, x = some ⟨b, off, none⟩ ∧ ∀ j, j < l.length → w.cell? ⟨b, off + j, none⟩ = some (enc (nth l j)))

/-- The slice value v lies at the head of a row of its own, in a block from B on, and holds l. -/
def Own {α : Type} [Inhabited α] (e : TypeId) (enc : α → Value) (B : Nat) (w : World) (v : Value) (l : List α) : Prop := w.ownsRow B e 1 v l.length (l.map enc)

section
variable {α : Type} [Inhabited α] {enc : α → Value} {e : TypeId} {B : Nat} {w w' : World} {v : Value} {l : List α}

theorem Own.form (h : Own e enc B w v l) : (v = .slice none 0 0 ∧ l = []) ∨ ∃ g cap, v = .slice (some ⟨g, 0, none⟩) l.length cap ∧ B ≤ g ∧ g < w.heap.size ∧ l.length ≤ cap ∧ cap ≤ maxLen := by
  rcases h.2 with ⟨hv, hn⟩ | ⟨g, cap, cur, hv, hg, hh, h1, h2, h3, h4⟩
  · exact Or.inl ⟨hv, List.eq_nil_of_length_eq_zero hn⟩
  · exact Or.inr ⟨g, cap, hv, hg, (Array.getElem?_eq_some_iff.1 hh).1, h1, h2⟩

theorem Own.holds (h : Own e enc B w v l) : Holds enc w v l := by
  rcases h.form with ⟨rfl, rfl⟩ | ⟨g, cap, rfl, h1, h2, h3, h4⟩
  · exact ⟨none, 0, rfl, by simp, Or.inl rfl⟩
  · refine ⟨_, cap, rfl, h3, ?_⟩
    by_cases hl : l = []
    · exact Or.inl hl
    · refine Or.inr ⟨g, 0, rfl, fun j hj => ?_⟩
      have h5 := World.ownsRow.cellAt h j (by simpa using hj)
      rw [Nat.zero_add, h5, List.getElem?_map]
      simp [nth, List.getD, List.getElem?_eq_getElem hj]

theorem Own.lt (h : Own e enc B w v l) : ∀ g, v.ownBlock = some g → B ≤ g ∧ g < w.heap.size := World.ownsRow.lt h
theorem Own.grown (h : Own e enc B w v l) {row : Option Nat} (hg : w.grownBy w' row) (hne : v.ownBlock = none ∨ v.ownBlock ≠ row) : Own e enc B w' v l := World.ownsRow.kept h hg hne
theorem grown_of_below (hb : Below w.heap.size w w') (row : Option Nat) : w.grownBy w' row := ⟨hb.os, hb.tape, hb.output, hb.size, fun i hi _ => hb.block i hi⟩
theorem Own.on (h : Own e enc B w v l) (hb : Below w.heap.size w w') : Own e enc B w' v l := by
  refine World.ownsRow.kept h (grown_of_below hb none) ?_
  cases hv : v.ownBlock <;> simp
theorem Own.mono (h : Own e enc B w v l) {B' : Nat} (hB : B' ≤ B) : Own e enc B' w v l := by
  refine ⟨h.1, ?_⟩
  rcases h.2 with h2 | ⟨g, cap, cur, hv, hg, r⟩
  · exact Or.inl h2
  · exact Or.inr ⟨g, cap, cur, hv, Nat.le_trans hB hg, r⟩
theorem Own.nil (e : TypeId) (enc : α → Value) (B : Nat) (w : World) : Own e enc B w (.slice none 0 0) [] := World.ownsRow_nil w B e 1
theorem Own.len (h : Own e enc B w v l) : l.length ≤ maxLen := by
  rcases h.form with ⟨rfl, rfl⟩ | ⟨g, cap, rfl, h1, h2, h3, h4⟩
  · simp
  · omega
/-- A slice of the call's own that is not nil: its block. -/
theorem Own.block (h : Own e enc B w v l) (hn : v ≠ .slice none 0 0) : ∃ g cap, v = .slice (some ⟨g, 0, none⟩) l.length cap ∧ B ≤ g ∧ g < w.heap.size ∧ l.length ≤ cap := by
  rcases h.form with ⟨hv, _⟩ | ⟨g, cap, hv, h1, h2, h3, h4⟩
  · exact absurd hv hn
  · exact ⟨g, cap, hv, h1, h2, h3⟩

theorem cell_lt {a : Addr} {u : Value} (h : w.cell? a = some u) : a.block < w.heap.size := by
  unfold World.cell? at h
  cases hh : w.heap[a.block]? with
  | none => simp [hh] at h
  | some o => exact (Array.getElem?_eq_some_iff.1 hh).1

theorem Holds.on (h : Holds enc w v l) (hb : Below w.heap.size w w') : Holds enc w' v l := by
  obtain ⟨x, cap, hv, hc, h⟩ := h
  refine ⟨x, cap, hv, hc, ?_⟩
  rcases h with h | ⟨b, off, hx, h⟩
  · exact Or.inl h
  · exact Or.inr ⟨b, off, hx, fun j hj => by rw [hb.cell (cell_lt (h j hj))]; exact h j hj⟩
theorem Holds.nil (enc : α → Value) (w : World) : Holds enc w (.slice none 0 0) [] := ⟨none, 0, rfl, by simp, Or.inl rfl⟩
theorem Holds.shape (h : Holds enc w v l) : ∃ x cap, v = .slice x l.length cap ∧ l.length ≤ cap ∧ Holds enc w (.slice x l.length cap) l := by
  obtain ⟨x, cap, hv, hc, h⟩ := h
  exact ⟨x, cap, hv, hc, x, cap, rfl, hc, h⟩
theorem Holds.at {x : Option Addr} {n cap : Nat} (h : Holds enc w (.slice x n cap) l) {j : Nat} (hj : j < l.length) :
    ∃ b off, x = some ⟨b, off, none⟩ ∧ w.cell? ⟨b, off + j, none⟩ = some (enc (nth l j)) := by
  obtain ⟨x', cap', hv, hc, h⟩ := h
  cases hv
  rcases h with rfl | ⟨b, off, hx, h⟩
  · simp at hj
  · exact ⟨b, off, hx, h j hj⟩
theorem Holds.lenEq {x : Option Addr} {n cap : Nat} (h : Holds enc w (.slice x n cap) l) : n = l.length := by
  obtain ⟨x', cap', hv, hc, h⟩ := h
  cases hv; rfl

/-- Two slices of the call's own in blocks that differ: writing one leaves the other. -/
theorem Own.apart {β : Type} [Inhabited β] {enc' : β → Value} {B' : Nat} {v' : Value} {l' : List β} {e' : TypeId} (h : Own e enc B w v l) (h' : Own e' enc' B' w' v' l') (hB : w'.heap.size ≤ B) : v.ownBlock = none ∨ v.ownBlock ≠ v'.ownBlock := by
  cases hv : v.ownBlock with
  | none => exact Or.inl rfl
  | some g =>
    refine Or.inr fun he => ?_
    have h1 := h.lt g hv
    have h2 := h'.lt g he.symm
    omega
theorem Own.apart' {β : Type} [Inhabited β] {enc' : β → Value} {B' : Nat} {v' : Value} {l' : List β} {e' : TypeId} (h : Own e enc B w v l) (h' : Own e' enc' B' w' v' l') (hB : w.heap.size ≤ B') : v.ownBlock = none ∨ v.ownBlock ≠ v'.ownBlock := by
  cases hv : v.ownBlock with
  | none => exact Or.inl rfl
  | some g =>
    refine Or.inr fun he => ?_
    have h1 := h.lt g hv
    have h2 := h'.lt g he.symm
    omega
theorem Holds.grown (h : Holds enc w v l) {row : Option Nat} (hg : w.grownBy w' row) (hne : ∀ g, v.ownBlock = some g → some g ≠ row) : Holds enc w' v l := by
  obtain ⟨x, cap, rfl, hc, h⟩ := h
  refine ⟨x, cap, rfl, hc, ?_⟩
  rcases h with h | ⟨b, off, rfl, h⟩
  · exact Or.inl h
  · exact Or.inr ⟨b, off, rfl, fun j hj => hg.cell (h j hj) (hne b rfl)⟩

theorem below_grown {w0 : World} {row : Option Nat} {B0 : Nat} (h : Below B0 w0 w) (hg : w.grownBy w' row) (hB : B0 ≤ w.heap.size) (hr : ∀ g, row = some g → B0 ≤ g) : Below B0 w0 w' := h.grown hg hB hr

theorem nth_eq {l : List α} {j : Nat} (hj : j < l.length) : nth l j = l[j] := by simp [nth, List.getD, List.getElem?_eq_getElem hj]
theorem getD_map {j : Nat} (hj : j < l.length) : (l.map enc)[j]? = some (enc (nth l j)) := by
  simp [nth, List.getD, List.getElem?_eq_getElem hj]
end

/-! ### append -/
theorem oneCell {α : Type} {enc : α → Value} (h1c : ∀ x, (enc x).oneCell' = true) (l : List α) : ∀ u ∈ l.map enc, u.oneCell' = true := by
  intro u hu
  obtain ⟨x, _, rfl⟩ := List.mem_map.1 hu
  exact h1c x

/-- What holds l is read as l's cells, or l is empty. -/
theorem Holds.cells {α : Type} [Inhabited α] {enc : α → Value} {w : World} {ad : Addr} {n cap : Nat} {l : List α} (h : Holds enc w (.slice (some ad) n cap) l) : ∀ j u, (l.map enc)[j]? = some u → w.cell? (ad.add j) = some u := by
  intro j u hu
  have hj : j < l.length := by have := (List.getElem?_eq_some_iff.1 hu).1; simpa using this
  obtain ⟨b, off, hx, hc⟩ := h.at hj
  cases hx
  rw [Go.WideShapes.add_plain, hc]
  rw [getD_map hj] at hu
  exact hu

/-- The element type's row of the program's table: its zero, one cell, so many bytes. -/
def Elem (P : Program) (e : TypeId) (z : Value) (bytes : Nat) : Prop := (P.info? e).map (fun i => (i.zero, i.size, i.bytes)) = some (some z, 1, bytes)

section
variable {P : Program} {w : World} {ops : Array Oper} {rest : List Oper} {o : Oper} {a : Act} {Q : Exit → Act → World → Prop} {α : Type} [Inhabited α] {enc : α → Value} {e t : TypeId} {bytes : Nat} {z : Value}

/-- append to a slice of the call's own, whatever is appended. -/
theorem wpList_app_nn (hgd : o.guard = none) (s x : Operand) (ho : o.op = .call { callee := .builtin .append, args := #[s, x], argTypes := #[t, t] }) (ht : P.underlying t = some (.slice e)) (hi : Elem P e z bytes) (hz : z.cells.size = 1)
    {B : Nat} {v vx : Value} {l m : List α} (hs : a.eval s = v) (hx : a.eval x = vx) (hown : Own e enc B w v l) (hsrc : Holds enc w vx m) (h1c : ∀ x, (enc x).oneCell' = true) (hlen : (l.length + m.length) * bytes ≤ 140737488355328) (hmx : l.length + m.length ≤ maxLen) (hB : B ≤ w.heap.size)
    (h : ∀ v' w', Own e enc B w' v' (l ++ m) → w.grownBy w' v.ownBlock → (v ≠ .slice none 0 0 → v' ≠ .slice none 0 0) → wpList P ops Q rest (a.put o.dst v') w') : wpList P ops Q (o :: rest) a w := by
  obtain ⟨i, h1, h2, h3, h4⟩ := info_parts hi
  have hbytes := hlen
  have h63 := hmx
  obtain ⟨ao, cap, rfl, hcap, hc⟩ := hsrc
  have hsrc : Holds enc w (.slice ao m.length cap) m := ⟨ao, cap, rfl, hcap, hc⟩
  have fin : ∀ v' w', w'.ownsRow B e 1 v' (l.length + m.length) (l.map enc ++ m.map enc) → Own e enc B w' v' (l ++ m) := by
    intro v' w' hh
    unfold Own
    rw [List.length_append, List.map_append]; exact hh
  cases ao with
  | some ad =>
    exact wpList_append_own w hgd s x t ho B e i z 1 bytes ht h1 h2 h3 h4 hz (by decide) v l.length _ hs hown ad m.length cap (m.map enc) hx (by simp) hsrc.cells (oneCell h1c m) h63 hbytes hB
      fun v' w' r1 r2 r3 => h v' w' (fin v' w' r1) r2 (fun hn he => hn (r3.1 he).1)
  | none =>
    rcases hc with rfl | ⟨b, off, hc, _⟩
    · refine wpList_plain hgd fun K hK => ?_
      have hrun : (Builtin.append_ #[t, t] o.type #[v, .slice none 0 cap]).run P w = .ok v w := by
        rcases hown.2 with ⟨rfl, hn⟩ | ⟨g, cap', cur, rfl, _, _, hnc, _⟩
        · simp [Builtin.append_, run_underlying ht, sizeOf, typeInfo, h1, Builtin.lenOf, Builtin.firstCells]
        · simp [Builtin.append_, run_underlying ht, sizeOf, typeInfo, h1, Builtin.lenOf, Builtin.firstCells, hnc, storeCells]
      have hx' : a.eval x = .slice none 0 cap := by simpa using hx
      unfold Oper.wp
      simp [execOp, ho, resolve, invoke, builtin, hs, hx', hrun, Result.andThen]
      exact hK _ _ (h v w (by simpa using hown) (World.grownBy.refl _ _) (fun hn => hn))
    · cases hc

theorem wpList_app (hgd : o.guard = none) (s x : Operand) (ho : o.op = .call { callee := .builtin .append, args := #[s, x], argTypes := #[t, t] }) (ht : P.underlying t = some (.slice e)) (hi : Elem P e z bytes) (hz : z.cells.size = 1)
    {B : Nat} {v vx : Value} {l m : List α} (hs : a.eval s = v) (hx : a.eval x = vx) (hown : Own e enc B w v l) (hsrc : Holds enc w vx m) (h1c : ∀ x, (enc x).oneCell' = true) (hlen : (l.length + m.length) * bytes ≤ 140737488355328) (hmx : l.length + m.length ≤ maxLen) (hB : B ≤ w.heap.size)
    (h : ∀ v' w', Own e enc B w' v' (l ++ m) → w.grownBy w' v.ownBlock → wpList P ops Q rest (a.put o.dst v') w') : wpList P ops Q (o :: rest) a w :=
  wpList_app_nn hgd s x ho ht hi hz hs hx hown hsrc h1c hlen hmx hB fun v' w' h1 h2 _ => h v' w' h1 h2

/-- append to a slice without spare capacity: the new row is the call's own. -/
theorem wpList_app_full (hgd : o.guard = none) (s x : Operand) (ho : o.op = .call { callee := .builtin .append, args := #[s, x], argTypes := #[t, t] }) (ht : P.underlying t = some (.slice e)) (hi : Elem P e z bytes) (hz : z.cells.size = 1)
    {ao : Option Addr} {n : Nat} {ad : Addr} {c mm : Nat} {l m : List α} (hs : a.eval s = .slice ao n n) (hx : a.eval x = .slice (some ad) mm c) (hold : Holds enc w (.slice ao n n) l) (hsrc : Holds enc w (.slice (some ad) mm c) m) (hm : m ≠ []) (h1c : ∀ x, (enc x).oneCell' = true) (hlen : (l.length + m.length) * bytes ≤ 140737488355328) (hmx : l.length + m.length ≤ maxLen)
    (h : ∀ v' w', Own e enc w.heap.size w' v' (l ++ m) → w.grownBy w' none → wpList P ops Q rest (a.put o.dst v') w') : wpList P ops Q (o :: rest) a w := by
  obtain ⟨i, h1, h2, h3, h4⟩ := info_parts hi
  have hbytes := hlen
  have h63 := hmx
  have e1 := hold.lenEq; subst e1
  have e2 := hsrc.lenEq; subst e2
  have hm0 : 0 < m.length := by cases m <;> simp_all
  refine wpList_append_grows w hgd s x t ho e i z 1 bytes ht h1 h2 h3 h4 hz (by decide) ao l.length l.length (l.map enc) hs ?_ (by simp) ?_ ad m.length c (m.map enc) hx (by simp) hsrc.cells (oneCell h1c m) (by omega) h63 hbytes ?_
  · rintro rfl
    obtain ⟨x', cap', hv, hc, hh⟩ := hold
    rcases hh with rfl | ⟨b, off, hx', _⟩
    · simp
    · cases hv; cases hx'
  · rintro b rfl
    exact hold.cells
  · intro v' w' r1 r2
    refine h v' w' ?_ r2
    unfold Own
    rw [List.length_append, List.map_append]; exact r1
end

/-- A slice of the call's own, or one without spare capacity: an append leaves what is below B. -/
def Fits {α : Type} [Inhabited α] (e : TypeId) (enc : α → Value) (B : Nat) (w : World) (v : Value) (l : List α) : Prop := Own e enc B w v l ∨ ∃ x, v = .slice x l.length l.length ∧ Holds enc w v l
theorem Fits.on {α : Type} [Inhabited α] {enc : α → Value} {e : TypeId} {B : Nat} {w w' : World} {v : Value} {l : List α} (h : Fits e enc B w v l) (hb : Below w.heap.size w w') : Fits e enc B w' v l := by
  rcases h with h | ⟨x, hv, h⟩
  · exact Or.inl (h.on hb)
  · exact Or.inr ⟨x, hv, h.on hb⟩
theorem Fits.holds {α : Type} [Inhabited α] {enc : α → Value} {e : TypeId} {B : Nat} {w : World} {v : Value} {l : List α} (h : Fits e enc B w v l) : Holds enc w v l := by
  rcases h with h | ⟨x, hv, h⟩
  · exact h.holds
  · exact h

section
variable {P : Program} {w : World} {ops : Array Oper} {rest : List Oper} {o : Oper} {a : Act} {Q : Exit → Act → World → Prop} {α : Type} [Inhabited α] {enc : α → Value} {e t : TypeId} {bytes : Nat} {z : Value}
theorem wpList_app_fit (hgd : o.guard = none) (s x : Operand) (ho : o.op = .call { callee := .builtin .append, args := #[s, x], argTypes := #[t, t] }) (ht : P.underlying t = some (.slice e)) (hi : Elem P e z bytes) (hz : z.cells.size = 1)
    {B : Nat} {v vx : Value} {l m : List α} (hs : a.eval s = v) (hx : a.eval x = vx) (hown : Fits e enc B w v l) (hsrc : Holds enc w vx m) (hm : m ≠ []) (h1c : ∀ x, (enc x).oneCell' = true) (hlen : (l.length + m.length) * bytes ≤ 140737488355328) (hmx : l.length + m.length ≤ maxLen) (hB : B ≤ w.heap.size)
    (h : ∀ v' w', Own e enc B w' v' (l ++ m) → Below B w w' → wpList P ops Q rest (a.put o.dst v') w') : wpList P ops Q (o :: rest) a w := by
  rcases hown with hown | ⟨ao, rfl, hold⟩
  · exact wpList_app hgd s x ho ht hi hz hs hx hown hsrc h1c hlen hmx hB fun v' w' h1 h2 => h v' w' h1 ((Below.refl _ _).grown h2 hB (fun g hg => (hown.lt g hg).1))
  · obtain ⟨xo, c, rfl, hc, hh⟩ := hsrc
    have hsrc : Holds enc w (.slice xo m.length c) m := ⟨xo, c, rfl, hc, hh⟩
    rcases hh with hh | ⟨b, off, rfl, _⟩
    · exact absurd hh hm
    · exact wpList_app_full hgd s x ho ht hi hz hs hx hold hsrc hm h1c hlen hmx fun v' w' h1 h2 => h v' w' (h1.mono hB) ((Below.refl _ _).grown h2 hB (fun g hg => by cases hg))
end

/-- A new block of one number; a new empty block. -/
theorem holds_one {α : Type} [Inhabited α] (enc : α → Value) (e : TypeId) (w : World) (x : α) : Holds enc (w.alloc (.cells #[enc x] e)) (.slice (some ⟨w.heap.size, 0, none⟩) 1 1) [x] := by
  refine ⟨_, 1, rfl, by simp, Or.inr ⟨_, _, rfl, fun j hj => ?_⟩⟩
  have : j = 0 := by simpa using hj
  subst this
  simp [World.cell?_alloc_mark, nth]
theorem own_empty {α : Type} [Inhabited α] (enc : α → Value) (e : TypeId) (w : World) : Own e enc w.heap.size (w.alloc (.cells #[] e)) (.slice (some ⟨w.heap.size, 0, none⟩) 0 0) [] := World.ownsRow_lit w #[] 0 (Nat.le_refl _) (by unfold maxLen; omega) rfl
end Go.Proofs.Ytkojeajjappchaa.Row
