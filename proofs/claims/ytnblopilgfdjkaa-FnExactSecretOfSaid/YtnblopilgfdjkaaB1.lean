/- Contracts and mathematics, joined: Frame, Row, Str, Ret, Name, NameLaw, Many, Keep, Tab, Ring, RingLaw, Cmp, RingMark, RingOpen, LibS, Num, Trunc, Pref, Part, Valid, AppP, RingV, Clone, RingCopy, RingFind, Kd, Blk, Want, Slice. No conditions but those that each states. -/
import Derived.ProofKit
import Derived.Carry
import Derived.SizedLaws
import Derived.ChangeSlices
import Derived.Lib.SmallJoins
import Derived.RowKit
import Derived.WalkKit
import Derived.WalkLawsBesides
import Derived.Lib.Hide
import Derived.Below
import Derived.OwnWalk
import Derived.Laws.OwnMore
import Derived.Laws.AppendOwnNone
import Derived.ArgAppend
import Derived.Maps.AppendAt
import Derived.Test.YtnblopilgfdjkaaRows
import Derived.LoopTactic
import Derived.Deep.QuietTactic
import Derived.Deep.RegionHeld3
import Derived.BigQuiet
import Derived.Laws.Rows
import Derived.Laws.ResultCell
import Derived.Deep.Strs
import Derived.ChangeSame
import Derived.Deep.Slices
import Derived.ChangeArms
import Derived.Lib.AppendZerosOnto
import Derived.Lib.SliceRun
import Derived.Laws.RangeAny
import Derived.Deep.RegionLaw
/- The frame of a law, once for every law: a call that returns true and leaves all that was in memory as it was meets the law's statement, whatever the types of its arguments. -/
namespace Go.Proofs.Ytnblopilgfdjkaa.Frame
open Go.ChangeShapes Go.WideShapes Go.ChangeAt Go.RowKit

theorem stays {H : Type} {enc : TypeId × Value → H} {P : Program} (hl : laidOutB P = true) {W W' : World} (hb : Below W.heap.size W W') :
    ∀ {ts : List TypeId} {vs : List Value} {ds : List (DataW H)} {ps : List MemPlace}, (∀ t ∈ ts, P.readableRec t = true ∧ t < P.types.size) → DataW.TrodAll enc P W 0 (fun _ => true) true ts vs ds ps → (∀ x ∈ ps, x.block < W.heap.size) →
      DataW.TrodAll enc P W' 0 (fun b => decide (b < W.heap.size)) true ts vs ds ps
  | [], [], [], _, _, h, _ => h
  | [], [], _ :: _, _, _, h, _ => h.elim
  | [], _ :: _, [], _, _, h, _ => h.elim
  | [], _ :: _, _ :: _, _, _, h, _ => h.elim
  | _ :: _, [], [], _, _, h, _ => h.elim
  | _ :: _, [], _ :: _, _, _, h, _ => h.elim
  | _ :: _, _ :: _, [], _, _, h, _ => h.elim
  | t :: ts, v :: vs, d :: ds, ps, ht, h, hlt => by
    obtain ⟨p, q, h1, h2, e⟩ := h
    have h3 := ht t (by simp)
    exact ⟨p, q, Below.trod hl h3.1 h3.2 h1 hb (fun x hx => hlt x (by rw [e]; simp [hx])), stays hl hb (fun t' ht' => ht t' (by simp [ht'])) h2 (fun x hx => hlt x (by rw [e]; simp [hx])), e⟩

def rowed (P : Program) (ts : List TypeId) : Bool := ts.all fun t => P.readableRec t && decide (t < P.types.size)

theorem law_post {H : Type} {enc : TypeId × Value → H} {P : Program} {f : Func} {s : ChangeSpec} {tb : TypeId} {W W' : World} {args : Array Value} {ds : List (DataW H)} {before : List MemPlace}
    (hl : laidOutB P = true) (hp : rowed P f.params.toList = true) (hres : f.resultTypes = #[tb]) (hub : P.underlying tb = some .bool) (hvars : s.vars = [])
    (hfn : s.fn H (ds ++ []) = { results := [.lit (.bool true)], args := ds }) (hW : DataW.Whole enc P f.params.toList s.vars false W args.toList ds [] before) (hb : Below W.heap.size W W') :
    s.post enc P f false true false false W args (.bool true) W' := by
  have hlt := hW.lt
  have hW' := hW
  obtain ⟨p, q, hA, hV, rfl, _, _⟩ := hW
  refine ⟨ds, [], p ++ q, [], p, [], hW', ?_, ?_, ?_, hb.frame _, fun h => by cases h⟩
  · rw [hfn, hres]
    exact trodAll_mk1 (shut_bool hub true)
  · rw [hfn]
    refine stays hl hb (fun t ht => ?_) hA (fun x hx => hlt x (by simp [hx]))
    have := List.all_eq_true.1 hp t ht
    simpa using this
  · rw [hfn, hvars]
    exact rfl
/-- A slice of bytes, nil or not: v holds the bytes l in the world w. -/
def Bytes (w : World) (v : Value) (l : List UInt8) : Prop :=
  (v = .slice none 0 0 ∧ l = []) ∨ ∃ a cap, v = .slice (some a) l.length cap ∧ l.length ≤ cap ∧ cap ≤ 140737488351232 ∧ ∀ i (h : i < l.length), w.cell? (a.add i) = some (.int .u8 l[i].toNat)

theorem cell_lt {w : World} {a : Addr} {v : Value} (h : w.cell? a = some v) : a.block < w.heap.size := by
  unfold World.cell? at h
  cases hh : w.heap[a.block]? with
  | none => simp [hh] at h
  | some o => exact (Array.getElem?_eq_some_iff.1 hh).1

theorem Bytes.on {w w' : World} {v : Value} {l : List UInt8} (h : Bytes w v l) (hb : Below w.heap.size w w') : Bytes w' v l := by
  rcases h with h | ⟨a, cap, h1, h2, h3, h4⟩
  · exact Or.inl h
  · exact Or.inr ⟨a, cap, h1, h2, h3, fun i hi => by rw [hb.cell (cell_lt (h4 i hi))]; exact h4 i hi⟩

end Go.Proofs.Ytnblopilgfdjkaa.Frame
/- Slices of one-cell elements in memory (strings, numbers, slices), for any program: a slice value that holds a list; a slice in blocks of the call's own that holds a list; what keeps both; one list appended to another. No conditions but that lengths fit. -/
namespace Go.Proofs.Ytnblopilgfdjkaa.Row
open Go.ChangeShapes Go.WideShapes Go.ChangeAt Go.RowKit
set_option linter.unusedVariables false
set_option maxRecDepth 100000

/-- The element at place j. (A plain definition: the walk leaves it alone.) -/
def nth {α : Type} [Inhabited α] (l : List α) (j : Nat) : α := l.getD j default

/-- The slice value v holds the elements l, written by enc, in the world w. -/
def Holds {α : Type} [Inhabited α] (enc : α → Value) (w : World) (v : Value) (l : List α) : Prop :=
  ∃ x cap, v = .slice x l.length cap ∧ l.length ≤ cap ∧ (l = [] ∨ ∃ b off, x = some ⟨b, off, none⟩ ∧ ∀ j, j < l.length → w.cell? ⟨b, off + j, none⟩ = some (enc (nth l j)))

/-- The slice value v lies at the head of a row of its own, in a block from B on, and holds l. -/
def Own {α : Type} [Inhabited α] (e : TypeId) (enc : α → Value) (B : Nat) (w : World) (v : Value) (l : List α) : Prop := w.ownsRow B e 1 v l.length (l.map enc)

section
variable {α : Type} [Inhabited α] {enc : α → Value} {e : TypeId} {B : Nat} {w w' : World} {v : Value} {l : List α}

theorem Own.form (h : Own e enc B w v l) : (v = .slice none 0 0 ∧ l = []) ∨ ∃ g cap, v = .slice (some ⟨g, 0, none⟩) l.length cap ∧ B ≤ g ∧ g < w.heap.size ∧ l.length ≤ cap ∧ cap ≤ maxLen := by
  rcases h.2 with ⟨hv, hn⟩ | ⟨g, cap, cur, hv, hg, hh, h1, h2, h3, h4⟩
  · exact Or.inl ⟨hv, List.eq_nil_of_length_eq_zero hn⟩
  · exact Or.inr ⟨g, cap, hv, hg, (Array.getElem?_eq_some_iff.1 hh).1, h1, h2⟩

theorem Own.holds (h : Own e enc B w v l) : Holds enc w v l := by
  rcases h.form with ⟨rfl, rfl⟩ | ⟨g, cap, rfl, h1, h2, h3, h4⟩
  · exact ⟨none, 0, rfl, by simp, Or.inl rfl⟩
  · refine ⟨_, cap, rfl, h3, ?_⟩
    by_cases hl : l = []
    · exact Or.inl hl
    · refine Or.inr ⟨g, 0, rfl, fun j hj => ?_⟩
      have h5 := World.ownsRow.cellAt h j (by simpa using hj)
      rw [Nat.zero_add, h5, List.getElem?_map]
      simp [nth, List.getD, List.getElem?_eq_getElem hj]

theorem Own.lt (h : Own e enc B w v l) : ∀ g, v.ownBlock = some g → B ≤ g ∧ g < w.heap.size := World.ownsRow.lt h
theorem Own.grown (h : Own e enc B w v l) {row : Option Nat} (hg : w.grownBy w' row) (hne : v.ownBlock = none ∨ v.ownBlock ≠ row) : Own e enc B w' v l := World.ownsRow.kept h hg hne
theorem grown_of_below (hb : Below w.heap.size w w') (row : Option Nat) : w.grownBy w' row := ⟨hb.os, hb.tape, hb.output, hb.size, fun i hi _ => hb.block i hi⟩
theorem Own.on (h : Own e enc B w v l) (hb : Below w.heap.size w w') : Own e enc B w' v l := by
  refine World.ownsRow.kept h (grown_of_below hb none) ?_
  cases hv : v.ownBlock <;> simp
theorem Own.mono (h : Own e enc B w v l) {B' : Nat} (hB : B' ≤ B) : Own e enc B' w v l := by
  refine ⟨h.1, ?_⟩
  rcases h.2 with h2 | ⟨g, cap, cur, hv, hg, r⟩
  · exact Or.inl h2
  · exact Or.inr ⟨g, cap, cur, hv, Nat.le_trans hB hg, r⟩
theorem Own.nil (e : TypeId) (enc : α → Value) (B : Nat) (w : World) : Own e enc B w (.slice none 0 0) [] := World.ownsRow_nil w B e 1
theorem Own.len (h : Own e enc B w v l) : l.length ≤ maxLen := by
  rcases h.form with ⟨rfl, rfl⟩ | ⟨g, cap, rfl, h1, h2, h3, h4⟩
  · simp
  · omega
/-- A slice of the call's own that is not nil: its block. -/
theorem Own.block (h : Own e enc B w v l) (hn : v ≠ .slice none 0 0) : ∃ g cap, v = .slice (some ⟨g, 0, none⟩) l.length cap ∧ B ≤ g ∧ g < w.heap.size ∧ l.length ≤ cap := by
  rcases h.form with ⟨hv, _⟩ | ⟨g, cap, hv, h1, h2, h3, h4⟩
  · exact absurd hv hn
  · exact ⟨g, cap, hv, h1, h2, h3⟩

theorem cell_lt {a : Addr} {u : Value} (h : w.cell? a = some u) : a.block < w.heap.size := by
  unfold World.cell? at h
  cases hh : w.heap[a.block]? with
  | none => simp [hh] at h
  | some o => exact (Array.getElem?_eq_some_iff.1 hh).1

theorem Holds.on (h : Holds enc w v l) (hb : Below w.heap.size w w') : Holds enc w' v l := by
  obtain ⟨x, cap, hv, hc, h⟩ := h
  refine ⟨x, cap, hv, hc, ?_⟩
  rcases h with h | ⟨b, off, hx, h⟩
  · exact Or.inl h
  · exact Or.inr ⟨b, off, hx, fun j hj => by rw [hb.cell (cell_lt (h j hj))]; exact h j hj⟩
theorem Holds.nil (enc : α → Value) (w : World) : Holds enc w (.slice none 0 0) [] := ⟨none, 0, rfl, by simp, Or.inl rfl⟩
theorem Holds.shape (h : Holds enc w v l) : ∃ x cap, v = .slice x l.length cap ∧ l.length ≤ cap ∧ Holds enc w (.slice x l.length cap) l := by
  obtain ⟨x, cap, hv, hc, h⟩ := h
  exact ⟨x, cap, hv, hc, x, cap, rfl, hc, h⟩
theorem Holds.at {x : Option Addr} {n cap : Nat} (h : Holds enc w (.slice x n cap) l) {j : Nat} (hj : j < l.length) :
    ∃ b off, x = some ⟨b, off, none⟩ ∧ w.cell? ⟨b, off + j, none⟩ = some (enc (nth l j)) := by
  obtain ⟨x', cap', hv, hc, h⟩ := h
  cases hv
  rcases h with rfl | ⟨b, off, hx, h⟩
  · simp at hj
  · exact ⟨b, off, hx, h j hj⟩
theorem Holds.lenEq {x : Option Addr} {n cap : Nat} (h : Holds enc w (.slice x n cap) l) : n = l.length := by
  obtain ⟨x', cap', hv, hc, h⟩ := h
  cases hv; rfl

theorem Holds.grown (h : Holds enc w v l) {row : Option Nat} (hg : w.grownBy w' row) (hne : ∀ g, v.ownBlock = some g → some g ≠ row) : Holds enc w' v l := by
  obtain ⟨x, cap, rfl, hc, h⟩ := h
  refine ⟨x, cap, rfl, hc, ?_⟩
  rcases h with h | ⟨b, off, rfl, h⟩
  · exact Or.inl h
  · exact Or.inr ⟨b, off, rfl, fun j hj => hg.cell (h j hj) (hne b rfl)⟩

theorem nth_eq {l : List α} {j : Nat} (hj : j < l.length) : nth l j = l[j] := by simp [nth, List.getD, List.getElem?_eq_getElem hj]
theorem getD_map {j : Nat} (hj : j < l.length) : (l.map enc)[j]? = some (enc (nth l j)) := by
  simp [nth, List.getD, List.getElem?_eq_getElem hj]
end

/-! ### append -/
theorem oneCell {α : Type} {enc : α → Value} (h1c : ∀ x, (enc x).oneCell' = true) (l : List α) : ∀ u ∈ l.map enc, u.oneCell' = true := by
  intro u hu
  obtain ⟨x, _, rfl⟩ := List.mem_map.1 hu
  exact h1c x

/-- What holds l is read as l's cells, or l is empty. -/
theorem Holds.cells {α : Type} [Inhabited α] {enc : α → Value} {w : World} {ad : Addr} {n cap : Nat} {l : List α} (h : Holds enc w (.slice (some ad) n cap) l) : ∀ j u, (l.map enc)[j]? = some u → w.cell? (ad.add j) = some u := by
  intro j u hu
  have hj : j < l.length := by have := (List.getElem?_eq_some_iff.1 hu).1; simpa using this
  obtain ⟨b, off, hx, hc⟩ := h.at hj
  cases hx
  rw [Go.WideShapes.add_plain, hc]
  rw [getD_map hj] at hu
  exact hu

/-- The element type's row of the program's table: its zero, one cell, so many bytes. -/
def Elem (P : Program) (e : TypeId) (z : Value) (bytes : Nat) : Prop := (P.info? e).map (fun i => (i.zero, i.size, i.bytes)) = some (some z, 1, bytes)

section
variable {P : Program} {w : World} {ops : Array Oper} {rest : List Oper} {o : Oper} {a : Act} {Q : Exit → Act → World → Prop} {α : Type} [Inhabited α] {enc : α → Value} {e t : TypeId} {bytes : Nat} {z : Value}

/-- append to a slice of the call's own, whatever is appended. -/
theorem wpList_app_nn (hgd : o.guard = none) (s x : Operand) (ho : o.op = .call { callee := .builtin .append, args := #[s, x], argTypes := #[t, t] }) (ht : P.underlying t = some (.slice e)) (hi : Elem P e z bytes) (hz : z.cells.size = 1)
    {B : Nat} {v vx : Value} {l m : List α} (hs : a.eval s = v) (hx : a.eval x = vx) (hown : Own e enc B w v l) (hsrc : Holds enc w vx m) (h1c : ∀ x, (enc x).oneCell' = true) (hlen : (l.length + m.length) * bytes ≤ 140737488355328) (hmx : l.length + m.length ≤ maxLen) (hB : B ≤ w.heap.size)
    (h : ∀ v' w', Own e enc B w' v' (l ++ m) → w.grownBy w' v.ownBlock → (v ≠ .slice none 0 0 → v' ≠ .slice none 0 0) → wpList P ops Q rest (a.put o.dst v') w') : wpList P ops Q (o :: rest) a w := by
  obtain ⟨i, h1, h2, h3, h4⟩ := info_parts hi
  have hbytes := hlen
  have h63 := hmx
  obtain ⟨ao, cap, rfl, hcap, hc⟩ := hsrc
  have hsrc : Holds enc w (.slice ao m.length cap) m := ⟨ao, cap, rfl, hcap, hc⟩
  have fin : ∀ v' w', w'.ownsRow B e 1 v' (l.length + m.length) (l.map enc ++ m.map enc) → Own e enc B w' v' (l ++ m) := by
    intro v' w' hh
    unfold Own
    rw [List.length_append, List.map_append]; exact hh
  cases ao with
  | some ad =>
    exact wpList_append_own w hgd s x t ho B e i z 1 bytes ht h1 h2 h3 h4 hz (by decide) v l.length _ hs hown ad m.length cap (m.map enc) hx (by simp) hsrc.cells (oneCell h1c m) h63 hbytes hB
      fun v' w' r1 r2 r3 => h v' w' (fin v' w' r1) r2 (fun hn he => hn (r3.1 he).1)
  | none =>
    rcases hc with rfl | ⟨b, off, hc, _⟩
    · refine wpList_plain hgd fun K hK => ?_
      have hrun : (Builtin.append_ #[t, t] o.type #[v, .slice none 0 cap]).run P w = .ok v w := by
        rcases hown.2 with ⟨rfl, hn⟩ | ⟨g, cap', cur, rfl, _, _, hnc, _⟩
        · simp [Builtin.append_, run_underlying ht, sizeOf, typeInfo, h1, Builtin.lenOf, Builtin.firstCells]
        · simp [Builtin.append_, run_underlying ht, sizeOf, typeInfo, h1, Builtin.lenOf, Builtin.firstCells, hnc, storeCells]
      have hx' : a.eval x = .slice none 0 cap := by simpa using hx
      unfold Oper.wp
      simp [execOp, ho, resolve, invoke, builtin, hs, hx', hrun, Result.andThen]
      exact hK _ _ (h v w (by simpa using hown) (World.grownBy.refl _ _) (fun hn => hn))
    · cases hc

theorem wpList_app (hgd : o.guard = none) (s x : Operand) (ho : o.op = .call { callee := .builtin .append, args := #[s, x], argTypes := #[t, t] }) (ht : P.underlying t = some (.slice e)) (hi : Elem P e z bytes) (hz : z.cells.size = 1)
    {B : Nat} {v vx : Value} {l m : List α} (hs : a.eval s = v) (hx : a.eval x = vx) (hown : Own e enc B w v l) (hsrc : Holds enc w vx m) (h1c : ∀ x, (enc x).oneCell' = true) (hlen : (l.length + m.length) * bytes ≤ 140737488355328) (hmx : l.length + m.length ≤ maxLen) (hB : B ≤ w.heap.size)
    (h : ∀ v' w', Own e enc B w' v' (l ++ m) → w.grownBy w' v.ownBlock → wpList P ops Q rest (a.put o.dst v') w') : wpList P ops Q (o :: rest) a w :=
  wpList_app_nn hgd s x ho ht hi hz hs hx hown hsrc h1c hlen hmx hB fun v' w' h1 h2 _ => h v' w' h1 h2

/-- append to a slice without spare capacity: the new row is the call's own. -/
theorem wpList_app_full (hgd : o.guard = none) (s x : Operand) (ho : o.op = .call { callee := .builtin .append, args := #[s, x], argTypes := #[t, t] }) (ht : P.underlying t = some (.slice e)) (hi : Elem P e z bytes) (hz : z.cells.size = 1)
    {ao : Option Addr} {n : Nat} {ad : Addr} {c mm : Nat} {l m : List α} (hs : a.eval s = .slice ao n n) (hx : a.eval x = .slice (some ad) mm c) (hold : Holds enc w (.slice ao n n) l) (hsrc : Holds enc w (.slice (some ad) mm c) m) (hm : m ≠ []) (h1c : ∀ x, (enc x).oneCell' = true) (hlen : (l.length + m.length) * bytes ≤ 140737488355328) (hmx : l.length + m.length ≤ maxLen)
    (h : ∀ v' w', Own e enc w.heap.size w' v' (l ++ m) → w.grownBy w' none → wpList P ops Q rest (a.put o.dst v') w') : wpList P ops Q (o :: rest) a w := by
  obtain ⟨i, h1, h2, h3, h4⟩ := info_parts hi
  have hbytes := hlen
  have h63 := hmx
  have e1 := hold.lenEq; subst e1
  have e2 := hsrc.lenEq; subst e2
  have hm0 : 0 < m.length := by cases m <;> simp_all
  refine wpList_append_grows w hgd s x t ho e i z 1 bytes ht h1 h2 h3 h4 hz (by decide) ao l.length l.length (l.map enc) hs ?_ (by simp) ?_ ad m.length c (m.map enc) hx (by simp) hsrc.cells (oneCell h1c m) (by omega) h63 hbytes ?_
  · rintro rfl
    obtain ⟨x', cap', hv, hc, hh⟩ := hold
    rcases hh with rfl | ⟨b, off, hx', _⟩
    · simp
    · cases hv; cases hx'
  · rintro b rfl
    exact hold.cells
  · intro v' w' r1 r2
    refine h v' w' ?_ r2
    unfold Own
    rw [List.length_append, List.map_append]; exact r1
end

/-- A slice of the call's own, or one without spare capacity: an append leaves what is below B. -/
def Fits {α : Type} [Inhabited α] (e : TypeId) (enc : α → Value) (B : Nat) (w : World) (v : Value) (l : List α) : Prop := Own e enc B w v l ∨ ∃ x, v = .slice x l.length l.length ∧ Holds enc w v l
theorem Fits.on {α : Type} [Inhabited α] {enc : α → Value} {e : TypeId} {B : Nat} {w w' : World} {v : Value} {l : List α} (h : Fits e enc B w v l) (hb : Below w.heap.size w w') : Fits e enc B w' v l := by
  rcases h with h | ⟨x, hv, h⟩
  · exact Or.inl (h.on hb)
  · exact Or.inr ⟨x, hv, h.on hb⟩
theorem Fits.holds {α : Type} [Inhabited α] {enc : α → Value} {e : TypeId} {B : Nat} {w : World} {v : Value} {l : List α} (h : Fits e enc B w v l) : Holds enc w v l := by
  rcases h with h | ⟨x, hv, h⟩
  · exact h.holds
  · exact h

section
variable {P : Program} {w : World} {ops : Array Oper} {rest : List Oper} {o : Oper} {a : Act} {Q : Exit → Act → World → Prop} {α : Type} [Inhabited α] {enc : α → Value} {e t : TypeId} {bytes : Nat} {z : Value}
theorem wpList_app_fit (hgd : o.guard = none) (s x : Operand) (ho : o.op = .call { callee := .builtin .append, args := #[s, x], argTypes := #[t, t] }) (ht : P.underlying t = some (.slice e)) (hi : Elem P e z bytes) (hz : z.cells.size = 1)
    {B : Nat} {v vx : Value} {l m : List α} (hs : a.eval s = v) (hx : a.eval x = vx) (hown : Fits e enc B w v l) (hsrc : Holds enc w vx m) (hm : m ≠ []) (h1c : ∀ x, (enc x).oneCell' = true) (hlen : (l.length + m.length) * bytes ≤ 140737488355328) (hmx : l.length + m.length ≤ maxLen) (hB : B ≤ w.heap.size)
    (h : ∀ v' w', Own e enc B w' v' (l ++ m) → Below B w w' → wpList P ops Q rest (a.put o.dst v') w') : wpList P ops Q (o :: rest) a w := by
  rcases hown with hown | ⟨ao, rfl, hold⟩
  · exact wpList_app hgd s x ho ht hi hz hs hx hown hsrc h1c hlen hmx hB fun v' w' h1 h2 => h v' w' h1 ((Below.refl _ _).grown h2 hB (fun g hg => (hown.lt g hg).1))
  · obtain ⟨xo, c, rfl, hc, hh⟩ := hsrc
    have hsrc : Holds enc w (.slice xo m.length c) m := ⟨xo, c, rfl, hc, hh⟩
    rcases hh with hh | ⟨b, off, rfl, _⟩
    · exact absurd hh hm
    · exact wpList_app_full hgd s x ho ht hi hz hs hx hold hsrc hm h1c hlen hmx fun v' w' h1 h2 => h v' w' (h1.mono hB) ((Below.refl _ _).grown h2 hB (fun g hg => by cases hg))
end

/-- A new block of one number; a new empty block. -/
theorem holds_one {α : Type} [Inhabited α] (enc : α → Value) (e : TypeId) (w : World) (x : α) : Holds enc (w.alloc (.cells #[enc x] e)) (.slice (some ⟨w.heap.size, 0, none⟩) 1 1) [x] := by
  refine ⟨_, 1, rfl, by simp, Or.inr ⟨_, _, rfl, fun j hj => ?_⟩⟩
  have : j = 0 := by simpa using hj
  subst this
  simp [World.cell?_alloc_mark, nth]
theorem own_empty {α : Type} [Inhabited α] (enc : α → Value) (e : TypeId) (w : World) : Own e enc w.heap.size (w.alloc (.cells #[] e)) (.slice (some ⟨w.heap.size, 0, none⟩) 0 0) [] := World.ownsRow_lit w #[] 0 (Nat.le_refl _) (by unfold maxLen; omega) rfl
end Go.Proofs.Ytnblopilgfdjkaa.Row
/- Contracts of the helpers by which the laws measure, copy, compare, mark and look at slices of strings: a copy lies in memory of the call's own and holds the same list; comparing tells whether the lists are equal; marking writes the texts of the numbers from k on; looking at the marks tells that they are there. No conditions but that lengths fit. -/
namespace Go.Proofs.Ytnblopilgfdjkaa.Row
open Go.ChangeShapes Go.WideShapes Go.ChangeAt Go.RowKit Go.Instr
set_option linter.unusedVariables false
set_option maxRecDepth 100000

/-! ### lists -/
/-- Length and sizes of a list of strings together, up to place k. -/
def bulkTo (l : List ByteArray) (k : Nat) : Nat := l.length + ((l.take k).map (·.size)).sum
def bulk (l : List ByteArray) : Nat := bulkTo l l.length
theorem bulkTo_zero (l : List ByteArray) : bulkTo l 0 = l.length := by simp [bulkTo]
theorem bulkTo_succ (l : List ByteArray) {k : Nat} (h : k < l.length) : bulkTo l (k + 1) = bulkTo l k + (nth l k).size := by
  unfold bulkTo
  rw [List.take_succ_eq_append_getElem h, nth_eq h, List.map_append, List.sum_append]
  simp only [List.map_cons, List.map_nil, List.sum_cons, List.sum_nil]
  omega
theorem sum_take_le (l : List Nat) : ∀ k, (l.take k).sum ≤ l.sum := by
  induction l with
  | nil => simp
  | cons a r ih => intro k; cases k with
    | zero => simp
    | succ k => have := ih k; simp only [List.take_succ_cons, List.sum_cons]; omega
theorem bulkTo_le (l : List ByteArray) (k : Nat) : bulkTo l k ≤ bulk l := by
  unfold bulk bulkTo
  have := sum_take_le (l.map (·.size)) k
  rw [List.take_length, List.map_take]; omega
theorem bulk_len (l : List ByteArray) : l.length ≤ bulk l := by unfold bulk bulkTo; omega
/-- What is left behind measuring a list, or -1. -/
def szL (l : List ByteArray) (left : Int) : Int := if (bulk l : Int) ≤ left then left - bulk l else -1
theorem szL_fit {l : List ByteArray} {left : Int} (h : (bulk l : Int) ≤ left) : szL l left = left - bulk l := if_pos h
theorem szL_not {l : List ByteArray} {left : Int} (h : left < (bulk l : Int)) : szL l left = -1 := if_neg (by omega)

/-- The list behind the first k stores of a copy. -/
def filled (l : List ByteArray) (k : Nat) : List ByteArray := l.take k ++ List.replicate (l.length - k) ByteArray.empty
theorem filled_length (l : List ByteArray) {k : Nat} (h : k ≤ l.length) : (filled l k).length = l.length := by simp [filled]; omega
theorem filled_zero (l : List ByteArray) : filled l 0 = List.replicate l.length ByteArray.empty := by simp [filled]
theorem filled_all (l : List ByteArray) : filled l l.length = l := by simp [filled]
theorem filled_step (l : List ByteArray) {k : Nat} (h : k < l.length) : (filled l k).set k (nth l k) = filled l (k + 1) := by
  have hl : (l.take k).length = k := by simp; omega
  unfold filled
  rw [List.set_append_right _ _ (by omega), hl, Nat.sub_self, show l.length - k = (l.length - (k + 1)) + 1 by omega, List.replicate_succ, List.set_cons_zero, nth_eq h]
  have := List.take_succ_eq_append_getElem h
  rw [this, List.append_assoc]; rfl

/-- Two lists agree up to k. -/
def agree {α : Type} [Inhabited α] (a b : List α) (k : Nat) : Prop := ∀ j, j < k → nth a j = nth b j
section
variable {α : Type} [Inhabited α]
theorem agree_zero (a b : List α) : agree a b 0 := fun j h => absurd h (by omega)
theorem agree_succ {a b : List α} {k : Nat} (h : agree a b k) (hk : nth a k = nth b k) : agree a b (k + 1) := fun j hj => by
  by_cases e : j = k
  · subst e; exact hk
  · exact h j (by omega)
theorem agree_all {a b : List α} (hl : a.length = b.length) (h : agree a b a.length) : a = b := by
  apply List.ext_getElem hl
  intro i h1 h2
  have := h i h1
  rwa [nth_eq h1, nth_eq h2] at this
theorem differ_at {a b : List α} {k : Nat} (h : ¬ nth a k = nth b k) : a ≠ b := fun e => h (by rw [e])
end
def eqB (a b : List ByteArray) : Bool := decide (a = b)
theorem eqB_true {a b : List ByteArray} (h : a = b) : eqB a b = true := by simp [eqB, h]
theorem eqB_false {a b : List ByteArray} (h : a ≠ b) : eqB a b = false := by simp [eqB, h]
theorem eqB_self (a : List ByteArray) : eqB a a = true := by simp [eqB]

/-- The elements that a marking writes: from k on. -/
def marks {α : Type} (f : Int → α) (k : Int) : Nat → List α
  | 0 => []
  | n + 1 => marks f k n ++ [f (k + n)]
section
variable {α : Type} (f : Int → α)
theorem marks_length (k : Int) : ∀ n, (marks f k n).length = n
  | 0 => rfl
  | n + 1 => by simp [marks, marks_length k n]
theorem marks_at [Inhabited α] (k : Int) : ∀ n j, j < n → nth (marks f k n) j = f (k + j)
  | n + 1, j, h => by
    simp only [marks]
    by_cases hj : j < n
    · have := marks_at k n j hj
      simp only [nth, List.getD, List.getElem?_append, marks_length] at *
      rw [if_pos hj]; exact this
    · obtain rfl : j = n := by omega
      simp [nth, List.getD, marks_length]
/-- The list behind the first j marks. -/
def marked {α : Type} (f : Int → α) (k : Int) (l : List α) (j : Nat) : List α := marks f k j ++ l.drop j
theorem marked_length (k : Int) (l : List α) {j : Nat} (h : j ≤ l.length) : (marked f k l j).length = l.length := by simp [marked, marks_length]; omega
theorem marked_zero (k : Int) (l : List α) : marked f k l 0 = l := by simp [marked, marks]
theorem marked_all (k : Int) (l : List α) : marked f k l l.length = marks f k l.length := by simp [marked]
theorem marked_step (k : Int) (l : List α) {j : Nat} (h : j < l.length) : (marked f k l j).set j (f (k + j)) = marked f k l (j + 1) := by
  simp only [marked, marks]
  rw [List.set_append_right _ _ (by rw [marks_length]; omega), marks_length, Nat.sub_self, List.append_assoc]
  congr 1
  cases hd : l.drop j with
  | nil => have := congrArg List.length hd; simp at this; omega
  | cons x r =>
    have : l.drop (j + 1) = r := by rw [← List.drop_drop, hd]; rfl
    simp [this]
end

section
variable {α : Type} [Inhabited α] {enc : α → Value}
theorem own_store {e : TypeId} {B : Nat} {w : World} {g n cap : Nat} {l : List α} (h : Own e enc B w (.slice (some ⟨g, 0, none⟩) n cap) l) (hn : n = l.length) (j : Nat) (x : α) :
    Own e enc B (w.setCell ⟨g, j, none⟩ (enc x)) (.slice (some ⟨g, 0, none⟩) n cap) (l.set j x) ∧ w.grownBy (w.setCell ⟨g, j, none⟩ (enc x)) (some g) := by
  subst hn
  have := World.ownsRow.stored h j (enc x)
  refine ⟨?_, this.2⟩
  unfold Own
  rw [List.length_set, List.map_set]
  exact this.1
theorem own_cell {e : TypeId} {B : Nat} {w : World} {g n cap : Nat} {l : List α} (h : Own e enc B w (.slice (some ⟨g, 0, none⟩) n cap) l) (hn : n = l.length) {j : Nat} (hj : j < l.length) :
    w.cell? ⟨g, j, none⟩ = some (enc (nth l j)) ∧ w.frozen? ⟨g, j, none⟩ = false := by
  subst hn
  refine ⟨?_, World.ownsRow.frozenAt h j⟩
  rw [World.ownsRow.cellAt h j (by simpa using hj), getD_map hj]
end

theorem below_drewN {B : Nat} {a w : World} (h : Below B a w) (n : Nat) : Below B a (w.drewN n) := ⟨h.os, h.tape, h.output, h.size, h.block⟩
theorem ret_bool {a b : Bool} (h : a = b) : Ending.returned (.bool a) = .returned (.bool b) := by rw [h]
theorem ret_int {k : IntKind} {a b : Int} (h : a = b) : Ending.returned (.int k a) = .returned (.int k b) := by rw [h]

/-! ### strings -/
theorem toList_inj {a b : ByteArray} (h : a.toList = b.toList) : a = b := by
  rw [ByteArray.toList_eq, ByteArray.toList_eq] at h
  exact ByteArray.ext (Array.toList_inj.1 h)
theorem tl_eq {a b : ByteArray} (h : a = b) : (!(a.toList == b.toList)) = false := by subst h; simp
theorem tl_ne {a b : ByteArray} (h : ¬ a = b) : (!(a.toList == b.toList)) = true := by
  have : a.toList ≠ b.toList := fun e => h (toList_inj e)
  simpa using this
theorem oneStr (x : ByteArray) : (Value.string x).oneCell' = true := rfl
theorem elemSTR : Elem Try.prog 9 (.string ByteArray.empty) 16 := by unfold Elem; kernel_rfl

set_option maxHeartbeats 1000000 in
theorem szStringS (v : Value) (l : List ByteArray) (w : World) (left : Int) (h : Holds Value.string w v l) (hl : l.length ≤ 9223372036854775807) (hs : ∀ x ∈ l, x.size ≤ maxLen) (h0 : 0 ≤ left) (h1 : left ≤ 1048576) :
    Calls Try.prog 53 #[v, .int .i64 left] w fun e w' => e = .returned (.int .i64 (szL l left)) ∧ w = w' := by
  obtain ⟨x, cap, rfl, hcap, hh⟩ := h.shape
  have hle := bulkTo_le l
  obtain ⟨n, hn⟩ : ∃ n, n = l.length := ⟨_, rfl⟩
  have hb0 := bulkTo_zero l
  rw [← hn] at hcap hh hl hb0 ⊢
  by_cases hbig : left < (n : Int)
  · have hS : szL l left = -1 := szL_not (by have := bulk_len l; omega)
    rw [hS]
    clear hh h hs hle hn hb0 hS
    go_enter Try.func53, Try.ntmps53
    go_wp2
    go_ret
    exact ⟨rfl, rfl⟩
  have HN := Lib.hid hn
  have HH := Lib.hid hh
  have HS := Lib.hid hs
  have HLE := Lib.hid hle
  have HB0 := Lib.hid hb0
  clear hn h hh hs hle hb0
  go_enter Try.func53, Try.ntmps53
  go_wp2
  go_loop [1, 5] (fun lv i => ∃ k : Nat, k ≤ n ∧ i = .int .i64 k ∧ ∃ u : Int, lv = .int .i64 u ∧ u = left - bulkTo l k ∧ 0 ≤ u) (fun _ i => n - (intOf i).toNat)
  case atStart => exact ⟨0, Nat.zero_le _, rfl, _, rfl, by rw [HB0.out], by omega⟩
  case round =>
    obtain ⟨k, hk, rfl, u, rfl, hu, h0u⟩ := hrel
    have hub : u ≤ left := by omega
    have HU := Lib.hid hu
    clear hu
    by_cases hlt : k < n
    · have hlen := HN.out
      obtain ⟨b, off, rfl, hc⟩ := HH.out.at (j := k) (by omega)
      have hsz := HS.out (nth l k) (by rw [nth_eq (by omega)]; exact List.getElem_mem _)
      have hstep := Lib.hid (bulkTo_succ l (k := k) (by omega))
      have hm : maxLen = 9223372036854775807 := rfl
      rw [hm] at hsz
      have hall := HLE.out (k + 1)
      rw [bulkTo_succ l (k := k) (by omega)] at hall
      have HALL := Lib.hid hall
      clear hlen hm hall
      by_cases hneg : u - ((nth l k).size : Int) < 0
      · go_wp2
        go_ret
        refine ⟨ret_int ?_, rfl⟩
        have e1 := HALL.out
        have e2 := HU.out
        rw [szL_not (by omega)]
      · go_wp2
        go_round
        case rel => exact ⟨k + 1, by omega, by go_num, _, rfl, by rw [hstep.out, HU.out]; omega, by omega⟩
        case measure => simp [intOf]; omega
    · obtain rfl : k = n := by omega
      clear hlt
      go_wp2
      go_ret
      refine ⟨ret_int ?_, rfl⟩
      have := HU.out
      rw [HN.out] at this
      rw [szL_fit (by unfold bulk; omega)]
      exact this

set_option maxHeartbeats 1000000 in
theorem toStringS (v : Value) (l : List ByteArray) (w : World) (h : Holds Value.string w v l) (hl : l.length ≤ 100000000) :
    Calls Try.prog 54 #[v] w fun e w' => ∃ v', e = .returned v' ∧ Own 9 Value.string w.heap.size w' v' l ∧ Below w.heap.size w w' := by
  obtain ⟨x, cap, rfl, hcap, hh⟩ := h.shape
  obtain ⟨i0, hi, hz0, hz1, hz2⟩ := info_parts elemSTR
  obtain ⟨n, hn⟩ : ∃ n, n = l.length := ⟨_, rfl⟩
  rw [← hn] at hcap hh hl ⊢
  have HN := Lib.hid hn
  have HH := Lib.hid hh
  have HI := Lib.hid hi; have HZ0 := Lib.hid hz0; have HZ1 := Lib.hid hz1; have HZ2 := Lib.hid hz2
  clear hn h hh hi hz0 hz1 hz2
  go_enter Try.func54, Try.ntmps54
  go_wp2_with (at_make; refine wpList_make_full _ rfl _ _ 29 rfl w.heap.size 9 i0 (.string ByteArray.empty) 1 Try.underlying29 HI.out HZ0.out HZ1.out _ _ _ _ n rfl rfl rfl rfl (by rw [HZ2.out]; omega) (by unfold maxLen; omega) (Nat.le_refl _) ?_)
  intro w1 hown hgrow
  have ho : Own 9 Value.string w.heap.size w1 (.slice (some ⟨w.heap.size, 0, none⟩) n n) (filled l 0) := by
    unfold Own
    rw [filled_zero, List.length_replicate, ← HN.out, List.map_replicate]
    rw [toList_madeCells_one] at hown
    exact hown
  have hb : Below w.heap.size w w1 := (Below.refl _ _).grown hgrow (Nat.le_refl _) (fun k hk => by cases hk)
  have HO := Lib.hid ho; have HB := Lib.hid hb
  clear hown hgrow ho hb
  go_wp2_with fail
  go_loopw [4] (fun i wr => ∃ k : Nat, k ≤ n ∧ i = .int .i64 k ∧ Hid (Own 9 Value.string w.heap.size wr (.slice (some ⟨w.heap.size, 0, none⟩) n n) (filled l k)) ∧ Hid (Below w.heap.size w wr)) (fun i _ => n - (intOf i).toNat)
  case atStart => exact ⟨0, Nat.zero_le _, rfl, HO, HB⟩
  case round =>
    obtain ⟨k, hk, rfl, ho, hb⟩ := hrel
    by_cases hlt : k < n
    · have hlen := HN.out
      obtain ⟨b, off, rfl, hc⟩ := ((HH.out).on hb.out).at (j := k) (by omega)
      obtain ⟨hc2, hf2⟩ := own_cell ho.out (by rw [filled_length l (by omega)]; exact hlen) (j := k) (by rw [filled_length l (by omega)]; omega)
      obtain ⟨hs1, hs2⟩ := own_store ho.out (by rw [filled_length l (by omega)]; exact hlen) k (nth l k)
      rw [filled_step l (by omega)] at hs1
      have HS1 := Lib.hid hs1; have HS2 := Lib.hid hs2
      clear hs1 hs2 hlen
      go_wp2
      go_roundw
      case rel => exact ⟨k + 1, by omega, by go_num, HS1, Lib.hid (hb.out.grown HS2.out (by have := hb.out.size; exact this) (fun g hg => by cases hg; exact Nat.le_refl _))⟩
      case measure => simp [intOf]; omega
    · obtain rfl : k = n := by omega
      clear hlt
      go_wp2
      go_ret
      refine ⟨_, rfl, ?_, hb.out⟩
      have := ho.out
      rw [HN.out, filled_all] at this
      rw [HN.out]
      exact this

theorem eqStringS_len (x y : Option Addr) (n m cx cy : Nat) (w : World) (h : (((n : Nat) : Int) != ((m : Nat) : Int)) = true) :
    Calls Try.prog 56 #[.slice x n cx, .slice y m cy] w fun e w' => e = .returned (.bool false) ∧ w = w' := by
  go_enter Try.func56, Try.ntmps56
  go_wp2
  go_ret
  exact ⟨rfl, rfl⟩

set_option maxHeartbeats 1000000 in
theorem eqStringS (v u : Value) (l m : List ByteArray) (w : World) (h : Holds Value.string w v l) (g : Holds Value.string w u m) (hl : l.length ≤ 140737488351232) (hm : m.length ≤ 140737488351232) :
    Calls Try.prog 56 #[v, u] w fun e w' => e = .returned (.bool (eqB l m)) ∧ Below w.heap.size w w' := by
  obtain ⟨x, cx, rfl, hcx, hh⟩ := h.shape
  obtain ⟨y, cy, rfl, hcy, hg⟩ := g.shape
  by_cases he : l.length = m.length
  · obtain ⟨n, hn⟩ : ∃ n, n = l.length := ⟨_, rfl⟩
    rw [← he] at hg hm hcy ⊢
    rw [← hn] at hcx hh hl hg hm hcy ⊢
    have HE := Lib.hid he
    have HN := Lib.hid hn
    have HH := Lib.hid hh
    have HG := Lib.hid hg
    have htest : (((n : Nat) : Int) != ((n : Nat) : Int)) = false := by simp
    clear hn h hh g hg he
    go_enter Try.func56, Try.ntmps56
    go_wp2
    go_loopw [5] (fun i wr => ∃ k nq : Nat, k ≤ n ∧ i = .int .i64 k ∧ Hid (agree l m k) ∧ wr = w.drewN nq) (fun i _ => n - (intOf i).toNat)
    case atStart => exact ⟨0, 0, Nat.zero_le _, rfl, Lib.hid (agree_zero _ _), rfl⟩
    case round =>
      obtain ⟨k, nq, hk, rfl, ha, rfl⟩ := hrel
      by_cases hlt : k < n
      · have hlen := HN.out
        have hlen2 := HE.out
        obtain ⟨b, off, rfl, hc⟩ := HH.out.at (j := k) (by omega)
        obtain ⟨b', off', rfl, hc'⟩ := HG.out.at (j := k) (by omega)
        clear hlen hlen2
        by_cases hd : nth l k = nth m k
        · have hd2 := tl_eq hd
          have HD := Lib.hid hd; clear hd
          go_wp2_with fail
          go_quiet (fail)
          go_wp2_with fail
          go_roundw
          case rel => exact ⟨k + 1, _, by omega, by go_num, Lib.hid (agree_succ ha.out HD.out), rfl⟩
          case measure => simp [intOf]; omega
        · have hd2 := tl_ne hd
          have HD := Lib.hid (eqB_false (differ_at hd)); clear hd
          go_wp2_with fail
          go_quiet (fail)
          go_wp2_with fail
          go_ret
          exact ⟨ret_bool HD.out.symm, below_drewN (below_drewN (Below.refl _ _) _) _⟩
      · obtain rfl : k = n := by omega
        have HD := Lib.hid (eqB_true (agree_all HE.out (HN.out ▸ ha.out)))
        clear hlt
        go_wp2
        go_ret
        exact ⟨ret_bool HD.out.symm, below_drewN (Below.refl _ _) _⟩
  · have htest : (((l.length : Nat) : Int) != ((m.length : Nat) : Int)) = true := by
      rw [bne_iff_ne]; omega
    rw [eqB_false (fun e => he (by rw [e]))]
    exact (eqStringS_len x y _ _ cx cy w htest).mono fun e w' ⟨h1, h2⟩ => ⟨h1, by subst h2; exact Below.refl _ _⟩

/-! ### the marks' texts -/
theorem keepS {w w' : World} {a : Addr} {v : Value} (hc : w.cell? a = some v) {W : World} (hbW : Below W.heap.size W w) (hb : Below w.heap.size w w') : w'.cell? a = some v ∧ Below W.heap.size W w' := ⟨by rw [hb.cell (cell_lt hc)]; exact hc, hbW.trans (hb.mono hbW.size)⟩
def str (l : List UInt8) : ByteArray := ⟨l.toArray⟩
theorem str_cons (c : UInt8) (l : List UInt8) : str [c] ++ str l = str (c :: l) := by
  simp [str, ByteArray.ext_iff]
theorem str_size (l : List UInt8) : (str l).size = l.length := by simp [str, ByteArray.size]
/-- The decimal digits of a number, none of 0. -/
def digs (u : Nat) : List UInt8 := if u = 0 then [] else digs (u / 10) ++ [UInt8.ofNat (48 + u % 10)]
decreasing_by omega
theorem digs_zero : digs 0 = [] := by unfold digs; simp
theorem digs_step {u : Nat} (h : u ≠ 0) : digs u = digs (u / 10) ++ [UInt8.ofNat (48 + u % 10)] := by
  conv => lhs; unfold digs
  rw [if_neg h]
theorem digs_length (u : Nat) : (digs u).length ≤ u := by
  induction u using Nat.strongRecOn with
  | ind u ih =>
    by_cases h : u = 0
    · subst h; rw [digs_zero]; simp
    · rw [digs_step h]
      have := ih (u / 10) (by omega)
      simp; omega
def markT (k : Int) : ByteArray := if k ≤ 0 then str [109, 48] else str (109 :: digs k.toNat)
theorem ret_str {a b : ByteArray} (h : a = b) : Ending.returned (.string a) = .returned (.string b) := by rw [h]

theorem conv1 (wx : World) (v : Int) (h0 : 0 ≤ v) (h1 : v < 256) :
    (convert 38 9 (.slice (some ⟨wx.heap.size, 0, none⟩) 1 1)).run Try.prog (wx.alloc (.cells #[.int .u8 v] 5)) = .ok (.string (str [UInt8.ofNat v.toNat])) (wx.alloc (.cells #[.int .u8 v] 5)) := by
  have := run_convert_bytes_back (P := Try.prog) (wx.alloc (.cells #[.int .u8 v] 5)) 38 9 5 ⟨wx.heap.size, 0, none⟩ 1 [UInt8.ofNat v.toNat] Try.underlying38 Try.underlying5 Try.underlying9 ?_
  · exact this
  · intro j hj
    have : j = 0 := by simpa using hj
    subst this
    have e : ((UInt8.ofNat v.toNat).toNat : Int) = v := by simp; omega
    simp only [List.getElem_cons_zero, e]
    simp [Addr.add, World.cell?_alloc_mark]

theorem digs_more {x : Nat} (h : x ≠ 0) (l : List UInt8) : digs (x / 10) ++ (UInt8.ofNat (48 + x % 10) :: l) = digs x ++ l := by
  rw [digs_step h]; simp

set_option maxHeartbeats 1000000 in
theorem markText (k : Int) (w : World) (h0 : 0 ≤ k) (h1 : k ≤ 1000000000000) :
    Calls Try.prog 87 #[.int .i64 k] w fun e w' => e = .returned (.string (markT k)) ∧ Below w.heap.size w w' := by
  by_cases hk : k ≤ 0
  · obtain rfl : k = 0 := by omega
    go_enter Try.func87, Try.ntmps87
    go_wp2
    go_ret
    exact ⟨ret_str rfl, Below.refl _ _⟩
  · have hm : markT k = str (109 :: digs k.toNat) := if_neg hk
    have HM := Lib.hid hm
    have HL := Lib.hid (digs_length k.toNat)
    clear hm
    go_enter Try.func87, Try.ntmps87
    go_wp2
    go_loopw [0, 3] (fun xv sv wr => ∃ (x : Nat) (l : List UInt8), xv = .int .i64 x ∧ sv = .string (str l) ∧ x ≤ 1000000000000 ∧ Hid (digs x ++ l = digs k.toNat) ∧ Hid (Below w.heap.size w wr)) (fun xv _ _ => (intOf xv).toNat)
    case atStart => exact ⟨k.toNat, [], by congr 1; omega, rfl, by omega, Lib.hid (by simp), Lib.hid (Below.refl _ _)⟩
    case round =>
      obtain ⟨x, l, rfl, rfl, hx, hl, hb⟩ := hrel
      have hs : (str l).size ≤ 1000000000000 := by
        have e1 := congrArg List.length hl.out
        have e2 := HL.out
        rw [str_size]
        simp at e1; omega
      by_cases hx0 : x = 0
      · subst hx0
        go_wp2
        go_ret
        refine ⟨ret_str ?_, hb.out⟩
        have e := hl.out
        rw [digs_zero] at e
        rw [HM.out, ← e]
        exact str_cons 109 l
      · have hc := conv1 wr (48 + (x : Int) % 10) (by omega) (by omega)
        have hz : (str [48 + UInt8.ofNat (x % 10)]).size = 1 := by rw [str_size]; simp
        go_wp2
        go_roundw
        case rel => exact ⟨x / 10, _, by go_num, by rw [str_cons], by omega, Lib.hid (by
          rw [← hl.out, ← digs_more hx0]
          simp), Lib.hid (hb.out.alloc hb.out.size _)⟩
        case measure => simp only [intOf]; omega

set_option maxHeartbeats 1000000 in
/-- Marking: every element of a slice of the call's own is written. -/
theorem markStringS (B : Nat) (v : Value) (l : List ByteArray) (w : World) (k : Int) (h : Own 9 Value.string B w v l) (hl : l.length ≤ 100000000) (h0 : 0 ≤ k) (h1 : k ≤ 100000000000) :
    Calls Try.prog 61 #[v, .int .i64 k] w fun e w' => e = .returned (.int .i64 (k + l.length)) ∧ Own 9 Value.string B w' v (marks markT k l.length) ∧ w.grownBy w' v.ownBlock := by
  rcases h.form with ⟨rfl, rfl⟩ | ⟨g, cap, rfl, g1, g2, g3, g4⟩
  · have H := Lib.hid h; clear h
    go_enter Try.func61, Try.ntmps61
    go_wp2
    refine wp_loop_rounds 1 ?_
    rw [rounds_succ]
    go_wp2
    go_ret
    exact ⟨ret_int (by simp), H.out, World.grownBy.refl _ _⟩
  · obtain ⟨n, hn⟩ : ∃ n, n = l.length := ⟨_, rfl⟩
    rw [← hn] at h hl g3 ⊢
    have HN := Lib.hid hn
    have H := Lib.hid h
    clear hn h
    have HB : Hid (Own 9 Value.string B w (.slice (some ⟨g, 0, none⟩) n cap) (marked markT k l 0)) := by rw [marked_zero]; exact H.out
    go_enter Try.func61, Try.ntmps61
    go_wp2
    go_loopw [1, 5] (fun kv i wr => ∃ j : Nat, j ≤ n ∧ i = .int .i64 j ∧ kv = .int .i64 (k + j) ∧ Hid (Own 9 Value.string B wr (.slice (some ⟨g, 0, none⟩) n cap) (marked markT k l j)) ∧ Hid (w.grownBy wr (some g))) (fun _ i _ => n - (intOf i).toNat)
    case atStart => exact ⟨0, Nat.zero_le _, rfl, by simp, HB, Lib.hid (World.grownBy.refl _ _)⟩
    case round =>
      obtain ⟨j, hj, rfl, rfl, ho, hg⟩ := hrel
      by_cases hlt : j < n
      · go_wp2_with fail
        refine (markText (k + j) wr (by omega) (by omega)).mono ?_
        rintro e w1 ⟨rfl, hb1⟩
        have ho1 := ho.out.on hb1
        have HG1 := Lib.hid (Go.World.grownBy.trans hg.out (grown_of_below hb1 (some g)))
        have hlen := HN.out
        obtain ⟨hc2, hf2⟩ := own_cell ho1 (by rw [marked_length _ _ l (by omega)]; exact hlen) (j := j) (by rw [marked_length _ _ l (by omega)]; omega)
        obtain ⟨hs1, hs2⟩ := own_store ho1 (by rw [marked_length _ _ l (by omega)]; exact hlen) j (markT (k + j))
        rw [marked_step _ _ l (by omega)] at hs1
        have HS1 := Lib.hid hs1; have HS2 := Lib.hid (Go.World.grownBy.trans HG1.out hs2)
        clear hs1 hs2 hlen ho1 hb1 HG1
        go_wp2
        go_roundw
        case rel => exact ⟨j + 1, by omega, by go_num, by go_num, HS1, HS2⟩
        case measure => simp [intOf]; omega
      · obtain rfl : j = n := by omega
        clear hlt
        go_wp2
        go_ret
        refine ⟨rfl, ?_, hg.out⟩
        have := ho.out
        rw [HN.out, marked_all] at this
        rw [HN.out]
        exact this

set_option maxHeartbeats 1000000 in
theorem heldStringS (v : Value) (w : World) (k : Int) (n : Nat) (h : Holds Value.string w v (marks markT k n)) (hl : n ≤ 100000000) (h0 : 0 ≤ k) (h1 : k ≤ 100000000000) :
    Calls Try.prog 71 #[v, .int .i64 k] w fun e w' => e = .returned (.int .i64 (k + n)) ∧ Below w.heap.size w w' := by
  obtain ⟨x, cap, rfl, hcap, hh⟩ := h.shape
  rw [marks_length] at hcap hh ⊢
  have HH := Lib.hid hh; clear hh h
  go_enter Try.func71, Try.ntmps71
  go_wp2
  go_loopw [1, 5] (fun kv i wr => ∃ j : Nat, j ≤ n ∧ i = .int .i64 j ∧ kv = .int .i64 (k + j) ∧ Hid (Below w.heap.size w wr)) (fun _ i _ => n - (intOf i).toNat)
  case atStart => exact ⟨0, Nat.zero_le _, rfl, by simp, Lib.hid (Below.refl _ _)⟩
  case round =>
    obtain ⟨j, hj, rfl, rfl, hb⟩ := hrel
    by_cases hlt : j < n
    · obtain ⟨b, off, rfl, hc⟩ := (HH.out.on hb.out).at (j := j) (by rw [marks_length]; exact hlt)
      rw [marks_at _ _ n j hlt] at hc
      have hne := tl_eq (rfl : markT (k + j) = markT (k + j))
      go_wp2_with fail
      have HC := Lib.hid hc
      clear hc
      go_region_held3 (fun w' => w'.cell? ⟨b, off + j, none⟩ = some (.string (markT (k + j))) ∧ Below w.heap.size w w') (first | exact keepS HC.out hb.out (Below.refl _ _).drew | exact keepS HC.out hb.out (hb1.mono (Nat.le_refl _)) | exact keepS HC.out hb.out ((Below.refl _ _).drew.trans (hb1.mono (Nat.le_refl _)))) ((go_at_call 87; refine (markText (k + j) _ (by omega) (by omega)).mono ?_; rintro e w1 ⟨rfl, hb1⟩))
      all_goals
        have HB2 := Lib.hid (hb.out.drew.trans (hb1.mono hb.out.size))
        clear hb1
        go_wp2_with fail
        go_roundw
        case rel => exact ⟨j + 1, by omega, by go_num, by go_num, HB2⟩
        case measure => simp [intOf]; omega
    · obtain rfl : j = n := by omega
      clear hlt
      go_wp2
      go_ret
      exact ⟨rfl, hb.out⟩

end Go.Proofs.Ytnblopilgfdjkaa.Row
/- Results that lie in a variable of the call's own: a struct is read back cell by cell. For any program. -/
namespace Go.Proofs.Ytnblopilgfdjkaa.Ret
variable {P : Program}

/-- The type is a struct or an array of so many cells. -/
def AggOf (P : Program) (ty : TypeId) (n : Nat) : Prop := (match P.underlying ty with | some (.struct _) => true | some (.array _ _) => true | _ => false) = true ∧ (P.info? ty).map (·.size) = some n

theorem run_loadVar_cells (w : World) (b : Nat) (ty : TypeId) (cs : List Value) (hc : ∀ j v, cs[j]? = some v → w.cell? ⟨b, j, none⟩ = some v) (ha : AggOf P ty cs.length) :
    (loadVar ty ⟨b, 0, none⟩).run P w = .ok (.agg cs.toArray) w := by
  obtain ⟨hd, hi⟩ := ha
  have hl : (loadCells ⟨b, 0, none⟩ cs.length).run P w = .ok cs.toArray w :=
    run_loadCells_list (P := P) w ⟨b, 0, none⟩ cs (fun j v hv => by
      have hadd : (⟨b, 0, none⟩ : Addr).add j = ⟨b, j, none⟩ := by unfold Addr.add; split <;> simp_all
      rw [hadd]; exact hc j v hv)
  cases hq : P.info? ty with
  | none => simp [hq] at hi
  | some i =>
    have hs : i.size = cs.length := by simpa [hq] using hi
    cases hu : P.underlying ty with
    | none => simp [hu] at hd
    | some d =>
      have hagg : (isAgg ty).run P w = .ok true w := by
        unfold isAgg
        rw [Sem.run_bind, run_underlying hu w]
        cases d <;> simp_all
      simp [loadVar, Sem.run_bind, hagg, sizeOf, typeInfo, hq, hs, hl]

theorem results_c {fn : Func} {p : Tmp} {ty : TypeId} (h : fn.results = #[.cell p ty]) (tmps : Array Value) (w : World) (b : Nat) (cs : List Value) (hp : tmps.getD p undef = .pointer (some ⟨b, 0, none⟩))
    (ha : AggOf P ty cs.length) (hc : ∀ j v, cs[j]? = some v → w.cell? ⟨b, j, none⟩ = some v) : (results fn tmps).run P w = .ok (.agg cs.toArray) w := by
  have hp' : tmps[p]?.getD undef = .pointer (some ⟨b, 0, none⟩) := by simpa using hp
  have hl := run_loadVar_cells (P := P) w b ty cs hc ha
  simp [results, h, hp', asAddr, hl]
theorem results_ct {fn : Func} {p u : Tmp} {ty : TypeId} (h : fn.results = #[.cell p ty, .tmp u]) (tmps : Array Value) (w : World) (b : Nat) (cs : List Value) (hp : tmps.getD p undef = .pointer (some ⟨b, 0, none⟩))
    (ha : AggOf P ty cs.length) (hc : ∀ j v, cs[j]? = some v → w.cell? ⟨b, j, none⟩ = some v) : (results fn tmps).run P w = .ok (.tuple #[.agg cs.toArray, tmps.getD u undef]) w := by
  have hp' : tmps[p]?.getD undef = .pointer (some ⟨b, 0, none⟩) := by simpa using hp
  have hl := run_loadVar_cells (P := P) w b ty cs hc ha
  simp [results, h, hp', asAddr, hl, Result.andThen]
/-- One cell: what is asked of it. -/
theorem one {w : World} {b : Nat} {u : Value} (h : w.cell? ⟨b, 0, none⟩ = some u) : ∀ j v, [u][j]? = some v → w.cell? ⟨b, j, none⟩ = some v := by
  intro j v hv
  cases j with
  | zero => simp at hv; subst hv; exact h
  | succ j => simp at hv

theorem two {w : World} {b : Nat} {u0 u1 : Value} (h0 : w.cell? ⟨b, 0, none⟩ = some u0) (h1 : w.cell? ⟨b, 1, none⟩ = some u1) : ∀ j v, [u0, u1][j]? = some v → w.cell? ⟨b, j, none⟩ = some v := by
  intro j v hv
  match j with
  | 0 => simp at hv; subst hv; exact h0
  | 1 => simp at hv; subst hv; exact h1
  | j + 2 => simp at hv

/-- A new block's cell; one that stands below. -/
theorem cell_at {w : World} {u : Value} {t : TypeId} {n : Nat} (hn : n = w.heap.size) : (w.alloc (.cells #[u] t)).cell? ⟨n, 0, none⟩ = some u := by
  rw [World.cell?_alloc_at _ _ _ _ hn]; rfl
theorem set_same {w : World} {a : Addr} {u v : Value} (h : w.cell? a = some u) : (w.setCell a v).cell? a = some v := World.cell?_setCell_same' w a v (by rw [h]; rfl)
theorem grownBy_set (w : World) (a : Addr) (u : Value) : w.grownBy (w.setCell a u) (some a.block) := ⟨rfl, rfl, rfl, by simp [World.setCell], fun i hi hne => Go.RowKit.Below.heap_setCell _ _ _ _ (fun e => hne (by rw [e]))⟩
open Go.RowKit in
theorem cell_lt {w : World} {a : Addr} {u : Value} (h : w.cell? a = some u) : a.block < w.heap.size := World.block_lt_of_cell? w a h
/-- Block g's first cell holds u, and may be written. -/
def NC (w : World) (g : Nat) (u : Value) : Prop := w.cell? ⟨g, 0, none⟩ = some u ∧ w.frozen? ⟨g, 0, none⟩ = false
section
open Go.RowKit
variable {w w' : World} {g : Nat} {u : Value}
theorem NC.lt (h : NC w g u) : g < w.heap.size := cell_lt h.1
theorem NC.on (h : NC w g u) (hb : Below w.heap.size w w') : NC w' g u := ⟨by rw [hb.cell h.lt]; exact h.1, by rw [hb.frozen h.lt]; exact h.2⟩
theorem NC.grown (h : NC w g u) {row : Option Nat} (hg : w.grownBy w' row) (hne : some g ≠ row) : NC w' g u := ⟨hg.cell h.1 hne, (World.frozen?_of_block (hg.block g h.lt hne)).trans h.2⟩
theorem NC.new (w : World) (u : Value) (t : TypeId) : NC (w.alloc (.cells #[u] t)) w.heap.size u := ⟨cell_at rfl, World.frozen?_alloc_at _ _ _ _ rfl⟩
theorem NC.new' {w : World} (u : Value) (t : TypeId) {n : Nat} (h : n = w.heap.size) : NC (w.alloc (.cells #[u] t)) n u := by subst h; exact NC.new w u t
theorem NC.alloc (h : NC w g u) (o : Obj) : NC (w.alloc o) g u := ⟨by rw [World.cell?_alloc_past _ _ _ h.lt]; exact h.1, by rw [World.frozen?_alloc_past _ _ _ h.lt]; exact h.2⟩
theorem NC.drew (h : NC w g u) : NC w.drew g u := h
theorem NC.other (h : NC w g u) {a : Addr} (hne : a.block ≠ g) (v : Value) : NC (w.setCell a v) g u := h.grown (grownBy_set w a v) (fun e => hne (by cases e; rfl))
end
/-- Block g is the call's own variable of type t, and holds u. -/
def Box (w : World) (g : Nat) (u : Value) (t : TypeId) : Prop := w.heap[g]? = some (.cells #[u] t)
section
open Go.RowKit
variable {w w' : World} {g : Nat} {u : Value} {t : TypeId}
theorem Box.lt (h : Box w g u t) : g < w.heap.size := (Array.getElem?_eq_some_iff.1 h).1
theorem Box.cell (h : Box w g u t) : w.cell? ⟨g, 0, none⟩ = some u := by rw [cell_of_row w g 0 #[u] t _ h]; rfl
theorem Box.on (h : Box w g u t) (hb : Below w.heap.size w w') : Box w' g u t := (hb.block g h.lt).trans h
theorem Box.grown (h : Box w g u t) {row : Option Nat} (hg : w.grownBy w' row) (hne : some g ≠ row) : Box w' g u t := (hg.block g h.lt hne).trans h
theorem Box.new (w : World) (u : Value) (t : TypeId) : Box (w.alloc (.cells #[u] t)) w.heap.size u t := heap_alloc_new w _
theorem Box.frozen (h : Box w g u t) : w.frozen? ⟨g, 0, none⟩ = false := by simp [World.frozen?, show w.heap[g]? = some (.cells #[u] t) from h]
theorem Box.nc (h : Box w g u t) : NC w g u := ⟨h.cell, h.frozen⟩
theorem Box.set (h : Box w g u t) (v : Value) : Box (w.setCell ⟨g, 0, none⟩ v) g v t := by
  have h' : w.heap[g]? = some (.cells #[u] t) := h
  unfold Box
  simp [World.setCell, Array.getElem?_modify, h']
theorem Box.new' {w : World} (u : Value) (t : TypeId) {n : Nat} (h : n = w.heap.size) : Box (w.alloc (.cells #[u] t)) n u t := by subst h; exact Box.new w u t
end
end Go.Proofs.Ytnblopilgfdjkaa.Ret
/- Contracts of the helpers by which the laws measure, copy, compare, mark and look at names (a struct of one slice of strings). No conditions but that lengths fit. -/
namespace Go.Proofs.Ytnblopilgfdjkaa.Row
open Go.ChangeShapes Go.WideShapes Go.ChangeAt Go.RowKit Go.Instr
set_option linter.unusedVariables false
set_option maxRecDepth 100000

theorem Own.shape {α : Type} [Inhabited α] {enc : α → Value} {e : TypeId} {B : Nat} {w : World} {v : Value} {l : List α} (h : Own e enc B w v l) : ∃ x cap, v = .slice x l.length cap ∧ l.length ≤ cap ∧ Own e enc B w (.slice x l.length cap) l := by
  rcases h.form with ⟨rfl, rfl⟩ | ⟨g, cap, rfl, h1, h2, h3, h4⟩
  · exact ⟨none, 0, rfl, by simp, h⟩
  · exact ⟨_, cap, rfl, h3, h⟩

theorem Own.shapeN {α : Type} [Inhabited α] {enc : α → Value} {e : TypeId} {B : Nat} {w : World} {v : Value} {l : List α} (h : Own e enc B w v l) : ∃ x n cap, v = .slice x n cap ∧ n = l.length ∧ n ≤ cap ∧ Own e enc B w (.slice x n cap) l := by
  obtain ⟨x, cap, rfl, hc, ho⟩ := h.shape
  exact ⟨x, _, cap, rfl, rfl, hc, ho⟩
theorem Holds.shapeN {α : Type} [Inhabited α] {enc : α → Value} {w : World} {v : Value} {l : List α} (h : Holds enc w v l) : ∃ x n cap, v = .slice x n cap ∧ n = l.length ∧ n ≤ cap ∧ Holds enc w (.slice x n cap) l := by
  obtain ⟨x, cap, rfl, hc, ho⟩ := h.shape
  exact ⟨x, _, cap, rfl, rfl, hc, ho⟩
theorem nb {α : Type} [Inhabited α] {enc : α → Value} {e : TypeId} {B : Nat} {w : World} {v : Value} {l : List α} (h : Own e enc B w v l) {b : Nat} (hb : b < B) : v.ownBlock = none ∨ v.ownBlock ≠ some b := by
  cases hv : v.ownBlock with
  | none => exact Or.inl rfl
  | some g =>
    have := (h.lt g hv).1
    exact Or.inr (fun e => by cases e; omega)
theorem bigLen {l : List ByteArray} {n : Nat} (h : bulk l ≤ n) : l.length ≤ n := Nat.le_trans (bulk_len l) h

set_option maxHeartbeats 1000000 in
theorem szName (v : Value) (l : List ByteArray) (w : World) (left : Int) (h : Holds Value.string w v l) (hl : l.length ≤ 9223372036854775807) (hs : ∀ x ∈ l, x.size ≤ maxLen) (h0 : 0 ≤ left) (h1 : left ≤ 1048576) :
    Calls Try.prog 15 #[.agg #[v], .int .i64 left] w fun e w' => e = .returned (.int .i64 (szL l left)) ∧ Below w.heap.size w w' := by
  obtain ⟨x, cap, rfl, hcap, hh⟩ := h.shape
  have HH := Lib.hid hh; have HS := Lib.hid hs
  clear hh h hs
  go_enter Try.func15, Try.ntmps15
  go_wp2_with fail
  have HA := Lib.hid (HH.out.on ((Below.refl w.heap.size w).alloc (Nat.le_refl _) (.cells #[.slice x l.length cap] 31)))
  refine (szStringS _ l _ left HA.out hl HS.out h0 h1).mono ?_
  rintro e w' ⟨rfl, rfl⟩
  by_cases hb : (bulk l : Int) ≤ left
  · rw [szL_fit hb]
    have h2 : ¬ left - (bulk l : Int) < 0 := by omega
    go_wp2
    go_ret
    exact ⟨ret_int (szL_fit hb).symm, (Below.refl _ _).alloc (Nat.le_refl _) _⟩
  · have hz := szL_not (l := l) (left := left) (by omega)
    rw [hz]
    have HZ := Lib.hid hz; clear hz
    go_wp2
    go_ret
    exact ⟨ret_int HZ.out.symm, (Below.refl _ _).alloc (Nat.le_refl _) _⟩

set_option maxHeartbeats 1000000 in
theorem toName (v : Value) (l : List ByteArray) (w : World) (h : Holds Value.string w v l) (hl : l.length ≤ 100000000) :
    Calls Try.prog 17 #[.agg #[v]] w fun e w' => ∃ v', e = .returned (.agg #[v']) ∧ Own 9 Value.string w.heap.size w' v' l ∧ Below w.heap.size w w' := by
  obtain ⟨x, cap, rfl, hcap, hh⟩ := h.shape
  have HH := Lib.hid hh
  clear hh h
  go_enter Try.func17, Try.ntmps17
  go_wp2_with fail
  have HB := Lib.hid ((((Below.refl w.heap.size w).alloc (Nat.le_refl _) (.cells #[.slice x l.length cap] 31)).alloc (by simp) (.cells #[.slice none 0 0] 34)).alloc (by simp; omega) (.cells #[.slice none 0 0] 34))
  have HA := Lib.hid (HH.out.on HB.out)
  refine (toStringS _ l _ HA.out hl).mono ?_
  rintro e w1 ⟨v1, rfl, ho, hb⟩
  obtain ⟨x1, c1, rfl, hc1, ho1⟩ := ho.shape
  have HO := Lib.hid ho1
  have HB1 := Lib.hid hb
  clear ho ho1 hb
  have hk1 : w1.cell? ⟨w.heap.size + 1, 0, none⟩ = some (.slice none 0 0) := by rw [HB1.out.cell (by simp), World.cell?_alloc_past _ _ _ (by simp), World.cell?_alloc_at _ _ _ _ (by simp)]; rfl
  have hk2 : w1.cell? ⟨w.heap.size + 1 + 1, 0, none⟩ = some (.slice none 0 0) := by rw [HB1.out.cell (by simp), World.cell?_alloc_at _ _ _ _ (by simp)]; rfl
  have hf1 : w1.frozen? ⟨w.heap.size + 1, 0, none⟩ = false := by rw [HB1.out.frozen (by simp), World.frozen?_alloc_past _ _ _ (by simp), World.frozen?_alloc_at _ _ _ _ (by simp)]
  have hf2 : w1.frozen? ⟨w.heap.size + 1 + 1, 0, none⟩ = false := by rw [HB1.out.frozen (by simp), World.frozen?_alloc_at _ _ _ _ (by simp)]
  go_wp2
  have hk3 := Ret.set_same (v := .slice x1 l.length c1) (a := ⟨w.heap.size + 1, 0, none⟩) (w := w1.setCell ⟨w.heap.size + 1 + 1, 0, none⟩ (.slice x1 l.length c1)) (u := .slice none 0 0) (by rw [World.cell?_setCell_other _ _ _ _ (by simp)]; exact hk1)
  refine bodyPost_ret (Ret.results_c rfl _ _ (w.heap.size + 1) [.slice x1 l.length c1] rfl (by unfold Ret.AggOf; exact ⟨by kernel_rfl, by kernel_rfl⟩) (Ret.one hk3)) rfl ?_
  have hs := HB1.out.size
  simp at hs
  have hO2 := (HO.out.grown (Ret.grownBy_set w1 ⟨w.heap.size + 1 + 1, 0, none⟩ (.slice x1 l.length c1)) (nb HO.out (by simp))).grown (Ret.grownBy_set _ ⟨w.heap.size + 1, 0, none⟩ (.slice x1 l.length c1)) (nb HO.out (by simp))
  exact ⟨_, rfl, hO2.mono (by simp; omega), ((HB.out.trans (HB1.out.mono (by simp; omega))).setCell (by simp; omega) _).setCell (by simp) _⟩

set_option maxHeartbeats 1000000 in
theorem eqName (v u : Value) (l m : List ByteArray) (w : World) (h : Holds Value.string w v l) (g : Holds Value.string w u m) (hl : l.length ≤ 140737488351232) (hm : m.length ≤ 140737488351232) :
    Calls Try.prog 19 #[.agg #[v], .agg #[u]] w fun e w' => e = .returned (.bool (eqB l m)) ∧ Below w.heap.size w w' := by
  obtain ⟨x, cx, rfl, hcx, hh⟩ := h.shape
  obtain ⟨y, cy, rfl, hcy, hg⟩ := g.shape
  have HH := Lib.hid hh; have HG := Lib.hid hg
  clear hh h hg g
  go_enter Try.func19, Try.ntmps19
  go_wp2_with fail
  have HB := Lib.hid (((Below.refl w.heap.size w).alloc (Nat.le_refl _) (.cells #[.slice x l.length cx] 34)).alloc (Nat.le_trans (Nat.le_refl _) (by simp)) (.cells #[.slice y m.length cy] 34))
  have HA := Lib.hid (HH.out.on HB.out); have HC := Lib.hid (HG.out.on HB.out)
  refine (eqStringS _ _ l m _ HA.out HC.out hl hm).mono ?_
  rintro e w' ⟨rfl, hb⟩
  have HB2 := Lib.hid (HB.out.trans (hb.mono (by simp; omega))); clear hb
  by_cases he : l = m
  · have HE := Lib.hid (eqB_true he)
    rw [HE.out]
    clear he
    go_wp2
    go_ret
    exact ⟨ret_bool HE.out.symm, HB2.out⟩
  · have HE := Lib.hid (eqB_false he)
    rw [HE.out]
    clear he
    go_wp2
    go_ret
    exact ⟨ret_bool HE.out.symm, HB2.out⟩

set_option maxHeartbeats 1000000 in
theorem markName (B : Nat) (v : Value) (l : List ByteArray) (w : World) (k : Int) (h : Own 9 Value.string B w v l) (hl : l.length ≤ 100000000) (h0 : 0 ≤ k) (h1 : k ≤ 100000000000) :
    Calls Try.prog 26 #[.agg #[v], .int .i64 k] w fun e w' => e = .returned (.int .i64 (k + l.length)) ∧ Own 9 Value.string B w' v (marks markT k l.length) ∧ w.grownBy w' v.ownBlock := by
  obtain ⟨x, cx, rfl, hcx, hh⟩ := h.shape
  have HH := Lib.hid hh
  clear hh h
  go_enter Try.func26, Try.ntmps26
  go_wp2_with fail
  have HB := Lib.hid ((Below.refl w.heap.size w).alloc (Nat.le_refl _) (.cells #[.slice x l.length cx] 34))
  have HA := Lib.hid (HH.out.on HB.out)
  refine (markStringS B _ l _ k HA.out hl h0 h1).mono ?_
  rintro e w' ⟨rfl, ho, hg⟩
  have HO := Lib.hid ho
  have HG := Lib.hid ((grown_of_below HB.out (Value.slice x l.length cx).ownBlock).trans hg)
  clear ho hg
  go_wp2
  go_ret
  exact ⟨rfl, HO.out, HG.out⟩

set_option maxHeartbeats 1000000 in
theorem heldName (v : Value) (w : World) (k : Int) (n : Nat) (h : Holds Value.string w v (marks markT k n)) (hl : n ≤ 100000000) (h0 : 0 ≤ k) (h1 : k ≤ 100000000000) :
    Calls Try.prog 62 #[.agg #[v], .int .i64 k] w fun e w' => e = .returned (.int .i64 (k + n)) ∧ Below w.heap.size w w' := by
  obtain ⟨x, cx, rfl, hcx, hh⟩ := h.shape
  rw [marks_length] at hh hcx ⊢
  have HH := Lib.hid hh
  clear hh h
  go_enter Try.func62, Try.ntmps62
  go_wp2_with fail
  have HB := Lib.hid ((Below.refl w.heap.size w).alloc (Nat.le_refl _) (.cells #[.slice x n cx] 34))
  have HA := Lib.hid (HH.out.on HB.out)
  refine (heldStringS _ _ k n HA.out hl h0 h1).mono ?_
  rintro e w' ⟨rfl, hb⟩
  have HB2 := Lib.hid (HB.out.trans (hb.mono (by simp))); clear hb
  go_wp2
  go_ret
  exact ⟨rfl, HB2.out⟩

end Go.Proofs.Ytnblopilgfdjkaa.Row
/- What the exact laws on names use besides the contracts: a name that came in as an argument; equal names compared; blocks that differ. No conditions. -/
namespace Go.Proofs.Ytnblopilgfdjkaa.Row
open Go.ChangeShapes Go.WideShapes Go.ChangeAt Go.RowKit Go.Instr
set_option linter.unusedVariables false
set_option maxRecDepth 100000

/-- Two slices never lie in one block. -/
def Apart (v u : Value) : Prop := ∀ g, v.ownBlock = some g → u.ownBlock ≠ some g
theorem Apart.symm {v u : Value} (h : Apart v u) : Apart u v := fun g h1 h2 => h g h2 h1
theorem apart_or {v u : Value} (h : Apart v u) : v.ownBlock = none ∨ v.ownBlock ≠ u.ownBlock := by
  cases hv : v.ownBlock with
  | none => exact Or.inl rfl
  | some g => exact Or.inr fun he => h g hv he.symm
/-- v lies below block B, if it holds anything. -/
def Far {α : Type} [Inhabited α] (enc : α → Value) (B : Nat) (w : World) (v : Value) (l : List α) : Prop :=
  ∃ x cap, v = .slice x l.length cap ∧ l.length ≤ cap ∧ (l = [] ∨ ∃ b off, x = some ⟨b, off, none⟩ ∧ b < B ∧ ∀ j, j < l.length → w.cell? ⟨b, off + j, none⟩ = some (enc (nth l j)))
section
variable {α : Type} [Inhabited α] {enc : α → Value} {B : Nat} {w w' : World} {v : Value} {l : List α}
theorem Far.holds (h : Far enc B w v l) : Holds enc w v l := by
  obtain ⟨x, cap, hv, hc, hh⟩ := h
  refine ⟨x, cap, hv, hc, ?_⟩
  rcases hh with h1 | ⟨b, off, hx, _, h2⟩
  · exact Or.inl h1
  · exact Or.inr ⟨b, off, hx, h2⟩
theorem Far.on (h : Far enc B w v l) (hb : Below w.heap.size w w') : Far enc B w' v l := by
  obtain ⟨x, cap, hv, hc, hh⟩ := h
  refine ⟨x, cap, hv, hc, ?_⟩
  rcases hh with h1 | ⟨b, off, hx, hlt, h2⟩
  · exact Or.inl h1
  · exact Or.inr ⟨b, off, hx, hlt, fun j hj => by rw [hb.cell (cell_lt (h2 j hj))]; exact h2 j hj⟩
theorem Far.grown (h : Far enc B w v l) {row : Option Nat} (hg : w.grownBy w' row) (hr : ∀ g, row = some g → B ≤ g) : Far enc B w' v l := by
  obtain ⟨x, cap, hv, hc, hh⟩ := h
  refine ⟨x, cap, hv, hc, ?_⟩
  rcases hh with h1 | ⟨b, off, hx, hlt, h2⟩
  · exact Or.inl h1
  · exact Or.inr ⟨b, off, hx, hlt, fun j hj => hg.cell (h2 j hj) (fun e => by have := hr b e.symm; omega)⟩
/-- u's block, if it has one, is from B on. -/
def Over (B : Nat) (u : Value) : Prop := ∀ g, u.ownBlock = some g → B ≤ g
end

theorem sameN (v u : Value) (l : List ByteArray) (w : World) (h : Holds Value.string w v l) (g : Holds Value.string w u l) (hl : l.length ≤ 140737488351232) :
    Calls Try.prog 19 #[.agg #[v], .agg #[u]] w fun e w' => e = .returned (.bool true) ∧ Below w.heap.size w w' := by
  have := eqName v u l l w h g hl hl
  rwa [eqB_self] at this

theorem open_name {H : Type} {enc : TypeId × Value → H} {P : Program} {w : World} {base b2 : Nat} {held : Bool} {t e s : TypeId} {v : Value} {d : DataW H} {p : List MemPlace} {f0 : Field}
    (ht : P.underlying t = some (.struct #[f0])) (hf : f0.type = e) (ho : f0.offset = 0) (hct : P.cellsOf t = 1) (hce : P.cellsOf e = 1) (he : P.underlying e = some (.slice s)) (hs : P.underlying s = some .string) (hcs : P.cellsOf s = 1)
    (hv : Value.okWide P w .any base t v) (h : DataW.Trod enc P w b2 (fun _ => true) held t v d p) :
    ∃ u l, v = .agg #[u] ∧ Holds Value.string w u l ∧ (∀ x ∈ l, x.size ≤ maxLen) ∧ l.length ≤ 9223372036854775807 := by
  have hmx : maxLen = 9223372036854775807 := rfl
  obtain ⟨cs, rfl, hcz⟩ := okWide_struct ht hv
  obtain ⟨fuel, hfu⟩ := h
  obtain ⟨y0, n, -, hlen, h0⟩ := trod_struct1 ht hfu
  obtain ⟨u, rfl⟩ : ∃ u, cs = #[u] := by
    rw [hct] at hcz
    obtain ⟨L⟩ := cs
    match L, hcz with
    | [u], _ => exact ⟨u, rfl⟩
  rw [hf, ho, hce] at h0
  simp only [Value.cells, List.drop_zero] at h0
  have h0 : DataW.trod enc P w b2 (fun _ => true) held n e [u] = some y0 := h0
  rcases Deep.open_strs he hs hcs h0 with ⟨hc, hx⟩ | ⟨a, len, cap, m, Sx, hc, hb, hl, hm, hmm, hx, hi⟩
  · simp only [List.cons.injEq, and_true] at hc
    subst hc
    exact ⟨_, [], rfl, Holds.nil _ _, by simp, by simp⟩
  · simp only [List.cons.injEq, and_true] at hc
    subst hc
    simp only [if_true] at hmm
    have hL : ((List.range len).map Sx).length = len := by simp
    refine ⟨_, (List.range len).map Sx, rfl, ⟨some a, cap, by rw [hL], by rw [hL]; exact hl, ?_⟩, ?_, by rw [hL, ← hmx]; exact Nat.le_trans hl hm⟩
    · by_cases h0 : len = 0
      · left; subst h0; simp
      · right
        obtain ⟨b, off, spot⟩ := a
        have h1 := (hi 0 (by omega)).1
        have hs : spot = none := by simpa [Addr.add] using World.cell?_spot h1
        subst hs
        refine ⟨b, off, rfl, fun i hii => ?_⟩
        rw [hL] at hii
        have h2 := (hi i (by omega)).1
        rw [Go.WideShapes.add_plain] at h2
        rw [h2, nth_eq (by rw [hL]; exact hii)]
        simp
    · intro x hx
      obtain ⟨i, hi2, rfl⟩ := List.mem_map.1 hx
      exact (hi i (by have := List.mem_range.1 hi2; omega)).2

/-- A slice of strings as it is read. -/
theorem open_strs1 {H : Type} {enc : TypeId × Value → H} {P : Program} {w : World} {b2 n : Nat} {held : Bool} {e s : TypeId} {cs : List Value} {y0 : DataW H × List MemPlace} (he : P.underlying e = some (.slice s)) (hs : P.underlying s = some .string) (hcs : P.cellsOf s = 1)
    (h0 : DataW.trod enc P w b2 (fun _ => true) held n e cs = some y0) : ∃ (ad : Option Addr) (k c : Nat) (l : List ByteArray), cs = [.slice ad k c] ∧ Holds Value.string w (.slice ad k c) l ∧ (∀ x ∈ l, x.size ≤ maxLen) ∧ l.length ≤ 9223372036854775807 := by
  have hmx : maxLen = 9223372036854775807 := rfl
  rcases Deep.open_strs he hs hcs h0 with ⟨hc, hx⟩ | ⟨a, len, cap, m, Sx, hc, hb, hl, hm, hmm, hx, hi⟩
  · exact ⟨none, 0, 0, [], hc, Holds.nil _ _, by simp, by simp⟩
  · simp only [if_true] at hmm
    have hL : ((List.range len).map Sx).length = len := by simp
    refine ⟨some a, len, cap, (List.range len).map Sx, hc, ⟨some a, cap, by rw [hL], by rw [hL]; exact hl, ?_⟩, ?_, by rw [hL, ← hmx]; exact Nat.le_trans hl hm⟩
    · by_cases h0 : len = 0
      · left; subst h0; simp
      · right
        obtain ⟨b, off, spot⟩ := a
        have h1 := (hi 0 (by omega)).1
        have hs : spot = none := by simpa [Addr.add] using World.cell?_spot h1
        subst hs
        refine ⟨b, off, rfl, fun i hii => ?_⟩
        rw [hL] at hii
        have h2 := (hi i (by omega)).1
        rw [Go.WideShapes.add_plain] at h2
        rw [h2, nth_eq (by rw [hL]; exact hii)]
        simp
    · intro x hx
      obtain ⟨i, hi2, rfl⟩ := List.mem_map.1 hx
      exact (hi i (by have := List.mem_range.1 hi2; omega)).2

end Go.Proofs.Ytnblopilgfdjkaa.Row
/- Slices of elements of several cells (structs) in memory, for any program: a slice value that holds a list; a slice in blocks of the call's own that holds a list; what keeps both; appending, storing. No conditions but that lengths fit. -/
namespace Go.Proofs.Ytnblopilgfdjkaa.Row
open Go.ChangeShapes Go.WideShapes Go.ChangeAt Go.RowKit
set_option linter.unusedVariables false
set_option maxRecDepth 100000

/-- Every element is written in so many cells. -/
def Sz {α : Type} (enc : α → List Value) (sz : Nat) : Prop := ∀ x, (enc x).length = sz
def flat {α : Type} (enc : α → List Value) (l : List α) : List Value := l.flatMap enc

section
variable {α : Type} {enc : α → List Value} {sz : Nat}
theorem flat_length (hs : Sz enc sz) (l : List α) : (flat enc l).length = l.length * sz := by
  unfold flat
  induction l with
  | nil => simp
  | cons a r ih => rw [List.flatMap_cons, List.length_append, ih, hs a, List.length_cons, Nat.add_mul]; omega
theorem flat_append (l m : List α) : flat enc (l ++ m) = flat enc l ++ flat enc m := by simp [flat]
theorem flat_one (x : α) : flat enc [x] = enc x := by simp [flat]
theorem flat_at [Inhabited α] (hs : Sz enc sz) : ∀ (l : List α) (j i : Nat), j < l.length → i < sz → (flat enc l)[j * sz + i]? = (enc (nth l j))[i]?
  | a :: r, 0, i, _, hi => by
    unfold flat
    rw [List.flatMap_cons, List.getElem?_append_left (by rw [hs a]; omega)]
    simp [nth]
  | a :: r, j + 1, i, hj, hi => by
    have ih := flat_at hs r j i (by simpa using hj) hi
    unfold flat at *
    rw [List.flatMap_cons, List.getElem?_append_right (by rw [hs a, Nat.add_mul]; omega), hs a, show (j + 1) * sz + i - sz = j * sz + i by rw [Nat.add_mul]; omega, ih]
    simp [nth]
theorem flat_set [Inhabited α] (hs : Sz enc sz) {y : α} {u : Value} {i : Nat} (hi : i < sz) : ∀ (l : List α) (j : Nat), j < l.length → enc y = (enc (nth l j)).set i u → (flat enc l).set (j * sz + i) u = flat enc (l.set j y)
  | a :: r, 0, _, he => by
    have he : enc y = (enc a).set i u := by simpa [nth] using he
    unfold flat
    rw [List.flatMap_cons, List.set_cons_zero, List.flatMap_cons, List.set_append_left _ _ (by rw [hs a]; omega), he]
    simp
  | a :: r, j + 1, hj, he => by
    have ih := flat_set hs hi r j (by simpa using hj) (by simpa [nth] using he)
    unfold flat at *
    rw [List.flatMap_cons, List.set_cons_succ, List.flatMap_cons, List.set_append_right _ _ (by rw [hs a, Nat.add_mul]; omega), hs a, show (j + 1) * sz + i - sz = j * sz + i by rw [Nat.add_mul]; omega, ih]
theorem flat_one' (h1c : ∀ x, ∀ u ∈ enc x, u.oneCell' = true) (l : List α) : ∀ u ∈ flat enc l, u.oneCell' = true := by
  intro u hu
  unfold flat at hu
  obtain ⟨x, _, hx⟩ := List.mem_flatMap.1 hu
  exact h1c x u hx
end

/-- The slice value v holds the elements l, each written in sz cells by enc, in the world w. -/
def HoldsK {α : Type} (enc : α → List Value) (sz : Nat) (w : World) (v : Value) (l : List α) : Prop :=
  ∃ x cap, v = .slice x l.length cap ∧ l.length ≤ cap ∧ (l = [] ∨ ∃ b off, x = some ⟨b, off, none⟩ ∧ ∀ j, j < l.length * sz → ∃ u, (flat enc l)[j]? = some u ∧ w.cell? ⟨b, off + j, none⟩ = some u)
/-- The slice value v lies at the head of a row of its own, in a block from B on, and holds l. -/
def OwnK {α : Type} (e : TypeId) (enc : α → List Value) (sz : Nat) (B : Nat) (w : World) (v : Value) (l : List α) : Prop := w.ownsRow B e sz v l.length (flat enc l)

section
variable {α : Type} {enc : α → List Value} {sz : Nat} {e : TypeId} {B : Nat} {w w' : World} {v : Value} {l : List α}

theorem OwnK.form (h : OwnK e enc sz B w v l) : (v = .slice none 0 0 ∧ l = []) ∨ ∃ g cap, v = .slice (some ⟨g, 0, none⟩) l.length cap ∧ B ≤ g ∧ g < w.heap.size ∧ l.length ≤ cap ∧ cap ≤ maxLen := by
  rcases h.2 with ⟨hv, hn⟩ | ⟨g, cap, cur, hv, hg, hh, h1, h2, h3, h4⟩
  · exact Or.inl ⟨hv, List.eq_nil_of_length_eq_zero hn⟩
  · exact Or.inr ⟨g, cap, hv, hg, (Array.getElem?_eq_some_iff.1 hh).1, h1, h2⟩
theorem OwnK.holds (h : OwnK e enc sz B w v l) : HoldsK enc sz w v l := by
  rcases h.form with ⟨rfl, rfl⟩ | ⟨g, cap, rfl, h1, h2, h3, h4⟩
  · exact ⟨none, 0, rfl, by simp, Or.inl rfl⟩
  · refine ⟨_, cap, rfl, h3, ?_⟩
    by_cases hl : l = []
    · exact Or.inl hl
    · refine Or.inr ⟨g, 0, rfl, fun j hj => ?_⟩
      have h5 := World.ownsRow.cellAt h j hj
      have h6 : (flat enc l)[j]? = some ((flat enc l)[j]'(by rw [h.1]; exact hj)) := List.getElem?_eq_getElem _
      exact ⟨_, h6, by rw [Nat.zero_add, h5]; exact h6⟩
theorem OwnK.lt (h : OwnK e enc sz B w v l) : ∀ g, v.ownBlock = some g → B ≤ g ∧ g < w.heap.size := World.ownsRow.lt h
theorem OwnK.grown (h : OwnK e enc sz B w v l) {row : Option Nat} (hg : w.grownBy w' row) (hne : v.ownBlock = none ∨ v.ownBlock ≠ row) : OwnK e enc sz B w' v l := World.ownsRow.kept h hg hne
theorem OwnK.on (h : OwnK e enc sz B w v l) (hb : Below w.heap.size w w') : OwnK e enc sz B w' v l := by
  refine World.ownsRow.kept h (grown_of_below hb none) ?_
  cases hv : v.ownBlock <;> simp
theorem OwnK.mono (h : OwnK e enc sz B w v l) {B' : Nat} (hB : B' ≤ B) : OwnK e enc sz B' w v l := by
  refine ⟨h.1, ?_⟩
  rcases h.2 with h2 | ⟨g, cap, cur, hv, hg, r⟩
  · exact Or.inl h2
  · exact Or.inr ⟨g, cap, cur, hv, Nat.le_trans hB hg, r⟩
theorem OwnK.nil (e : TypeId) (enc : α → List Value) (sz B : Nat) (w : World) : OwnK e enc sz B w (.slice none 0 0) [] := World.ownsRow_nil w B e sz
theorem OwnK.len (h : OwnK e enc sz B w v l) : l.length ≤ maxLen := by
  rcases h.form with ⟨rfl, rfl⟩ | ⟨g, cap, rfl, h1, h2, h3, h4⟩
  · simp
  · omega
theorem HoldsK.on (h : HoldsK enc sz w v l) (hb : Below w.heap.size w w') : HoldsK enc sz w' v l := by
  obtain ⟨x, cap, hv, hc, h⟩ := h
  refine ⟨x, cap, hv, hc, ?_⟩
  rcases h with h | ⟨b, off, hx, h⟩
  · exact Or.inl h
  · refine Or.inr ⟨b, off, hx, fun j hj => ?_⟩
    obtain ⟨u, h1, h2⟩ := h j hj
    exact ⟨u, h1, by rw [hb.cell (cell_lt h2)]; exact h2⟩
theorem HoldsK.nil (enc : α → List Value) (sz : Nat) (w : World) : HoldsK enc sz w (.slice none 0 0) [] := ⟨none, 0, rfl, by simp, Or.inl rfl⟩
theorem HoldsK.shape (h : HoldsK enc sz w v l) : ∃ x cap, v = .slice x l.length cap ∧ l.length ≤ cap ∧ HoldsK enc sz w (.slice x l.length cap) l := by
  obtain ⟨x, cap, hv, hc, h⟩ := h
  exact ⟨x, cap, hv, hc, x, cap, rfl, hc, h⟩
theorem OwnK.shape (h : OwnK e enc sz B w v l) : ∃ x cap, v = .slice x l.length cap ∧ l.length ≤ cap ∧ OwnK e enc sz B w (.slice x l.length cap) l := by
  rcases h.form with ⟨rfl, rfl⟩ | ⟨g, cap, rfl, h1, h2, h3, h4⟩
  · exact ⟨none, 0, rfl, by simp, h⟩
  · exact ⟨_, cap, rfl, h3, h⟩
theorem OwnK.shapeN (h : OwnK e enc sz B w v l) : ∃ x n cap, v = .slice x n cap ∧ n = l.length ∧ n ≤ cap ∧ OwnK e enc sz B w (.slice x n cap) l := by
  obtain ⟨x, cap, rfl, hc, ho⟩ := h.shape
  exact ⟨x, _, cap, rfl, rfl, hc, ho⟩
theorem HoldsK.shapeN (h : HoldsK enc sz w v l) : ∃ x n cap, v = .slice x n cap ∧ n = l.length ∧ n ≤ cap ∧ HoldsK enc sz w (.slice x n cap) l := by
  obtain ⟨x, cap, rfl, hc, ho⟩ := h.shape
  exact ⟨x, _, cap, rfl, rfl, hc, ho⟩
theorem HoldsK.lenEq {x : Option Addr} {n cap : Nat} (h : HoldsK enc sz w (.slice x n cap) l) : n = l.length := by
  obtain ⟨x', cap', hv, hc, h⟩ := h
  cases hv; rfl
/-- The cells of element j: the address's block and offset, and what its cells hold. -/
theorem HoldsK.at [Inhabited α] (hs : Sz enc sz) {x : Option Addr} {n cap : Nat} (h : HoldsK enc sz w (.slice x n cap) l) {j : Nat} (hj : j < l.length) :
    ∃ b off, x = some ⟨b, off, none⟩ ∧ ∀ i, i < sz → w.cell? ⟨b, off + (j * sz + i), none⟩ = (enc (nth l j))[i]? := by
  obtain ⟨x', cap', hv, hc, h⟩ := h
  cases hv
  rcases h with rfl | ⟨b, off, hx, h⟩
  · simp at hj
  · refine ⟨b, off, hx, fun i hi => ?_⟩
    have hlt : j * sz + i < l.length * sz := by
      have : (j + 1) * sz ≤ l.length * sz := Nat.mul_le_mul_right _ hj
      rw [Nat.add_mul] at this; omega
    obtain ⟨u, h1, h2⟩ := h _ hlt
    rw [h2, ← flat_at hs l j i hj hi, h1]
theorem HoldsK.cells (hs : Sz enc sz) {ad : Addr} {n cap : Nat} (h : HoldsK enc sz w (.slice (some ad) n cap) l) : ∀ j u, (flat enc l)[j]? = some u → w.cell? (ad.add j) = some u := by
  intro j u hu
  have hj : j < l.length * sz := by have := (List.getElem?_eq_some_iff.1 hu).1; rwa [flat_length hs] at this
  obtain ⟨x', cap', hv, hc, h⟩ := h
  cases hv
  rcases h with rfl | ⟨b, off, hx, h⟩
  · simp [flat] at hu
  · cases hx
    obtain ⟨u', h1, h2⟩ := h j hj
    rw [Go.WideShapes.add_plain, h2, ← h1, hu]
theorem HoldsK.grown (h : HoldsK enc sz w v l) {row : Option Nat} (hg : w.grownBy w' row) (hne : ∀ g, v.ownBlock = some g → some g ≠ row) : HoldsK enc sz w' v l := by
  obtain ⟨x, cap, rfl, hc, h⟩ := h
  refine ⟨x, cap, rfl, hc, ?_⟩
  rcases h with h | ⟨b, off, rfl, h⟩
  · exact Or.inl h
  · refine Or.inr ⟨b, off, rfl, fun j hj => ?_⟩
    obtain ⟨u, h1, h2⟩ := h j hj
    exact ⟨u, h1, hg.cell h2 (hne b rfl)⟩
end

/-! ### append -/
def ElemK (P : Program) (e : TypeId) (z : Value) (sz bytes : Nat) : Prop := (P.info? e).map (fun i => (i.zero, i.size, i.bytes)) = some (some z, sz, bytes)
/-- What is asked of the kind of elements, once for all. -/
structure Kind {α : Type} (P : Program) (e : TypeId) (enc : α → List Value) (z : Value) (sz bytes : Nat) : Prop where
  elem : ElemK P e z sz bytes
  zs : z.cells.size = sz
  pos : 0 < sz
  size : Sz enc sz
  one : ∀ x, ∀ u ∈ enc x, u.oneCell' = true

section
variable {P : Program} {w : World} {ops : Array Oper} {rest : List Oper} {o : Oper} {a : Act} {Q : Exit → Act → World → Prop} {α : Type} {enc : α → List Value} {sz : Nat} {e t : TypeId} {bytes : Nat} {z : Value}

/-- append to a slice of the call's own, whatever is appended. -/
theorem wpList_appK_nn (K : Kind P e enc z sz bytes) (hgd : o.guard = none) (s x : Operand) (ho : o.op = .call { callee := .builtin .append, args := #[s, x], argTypes := #[t, t] }) (ht : P.underlying t = some (.slice e))
    {B : Nat} {v vx : Value} {l m : List α} (hs : a.eval s = v) (hx : a.eval x = vx) (hown : OwnK e enc sz B w v l) (hsrc : HoldsK enc sz w vx m) (hlen : (l.length + m.length) * bytes ≤ 140737488355328) (hmx : l.length + m.length ≤ maxLen) (hB : B ≤ w.heap.size)
    (h : ∀ v' w', OwnK e enc sz B w' v' (l ++ m) → w.grownBy w' v.ownBlock → (v ≠ .slice none 0 0 → v' ≠ .slice none 0 0) → wpList P ops Q rest (a.put o.dst v') w') : wpList P ops Q (o :: rest) a w := by
  obtain ⟨i, h1, h2, h3, h4⟩ := info_parts K.elem
  obtain ⟨ao, cap, rfl, hcap, hc⟩ := hsrc
  have hsrc : HoldsK enc sz w (.slice ao m.length cap) m := ⟨ao, cap, rfl, hcap, hc⟩
  have fin : ∀ v' w', w'.ownsRow B e sz v' (l.length + m.length) (flat enc l ++ flat enc m) → OwnK e enc sz B w' v' (l ++ m) := by
    intro v' w' hh
    unfold OwnK
    rw [List.length_append, flat_append]; exact hh
  cases ao with
  | some ad =>
    exact wpList_append_own w hgd s x t ho B e i z sz bytes ht h1 h2 h3 h4 K.zs K.pos v l.length _ hs hown ad m.length cap (flat enc m) hx (flat_length K.size m) (hsrc.cells K.size) (flat_one' K.one m) hmx hlen hB
      fun v' w' r1 r2 r3 => h v' w' (fin v' w' r1) r2 (fun hn he => hn (r3.1 he).1)
  | none =>
    rcases hc with rfl | ⟨b, off, hc, _⟩
    · refine wpList_plain hgd fun K hK => ?_
      have hrun : (Builtin.append_ #[t, t] o.type #[v, .slice none 0 cap]).run P w = .ok v w := by
        rcases hown.2 with ⟨rfl, hn⟩ | ⟨g, cap', cur, rfl, _, _, hnc, _⟩
        · simp [Builtin.append_, run_underlying ht, sizeOf, typeInfo, h1, Builtin.lenOf, Builtin.firstCells]
        · simp [Builtin.append_, run_underlying ht, sizeOf, typeInfo, h1, Builtin.lenOf, Builtin.firstCells, hnc, storeCells]
      have hx' : a.eval x = .slice none 0 cap := by simpa using hx
      unfold Oper.wp
      simp [execOp, ho, resolve, invoke, builtin, hs, hx', hrun, Result.andThen]
      exact hK _ _ (h v w (by simpa using hown) (World.grownBy.refl _ _) (fun hn => hn))
    · cases hc
theorem wpList_appK (K : Kind P e enc z sz bytes) (hgd : o.guard = none) (s x : Operand) (ho : o.op = .call { callee := .builtin .append, args := #[s, x], argTypes := #[t, t] }) (ht : P.underlying t = some (.slice e))
    {B : Nat} {v vx : Value} {l m : List α} (hs : a.eval s = v) (hx : a.eval x = vx) (hown : OwnK e enc sz B w v l) (hsrc : HoldsK enc sz w vx m) (hlen : (l.length + m.length) * bytes ≤ 140737488355328) (hmx : l.length + m.length ≤ maxLen) (hB : B ≤ w.heap.size)
    (h : ∀ v' w', OwnK e enc sz B w' v' (l ++ m) → w.grownBy w' v.ownBlock → wpList P ops Q rest (a.put o.dst v') w') : wpList P ops Q (o :: rest) a w :=
  wpList_appK_nn K hgd s x ho ht hs hx hown hsrc hlen hmx hB fun v' w' h1 h2 _ => h v' w' h1 h2
end

/-- A new block of one element; a new empty block. -/
theorem holdsK_one {α : Type} {enc : α → List Value} {sz : Nat} (hs : Sz enc sz) (e : TypeId) (w : World) (x : α) : HoldsK enc sz (w.alloc (.cells (enc x).toArray e)) (.slice (some ⟨w.heap.size, 0, none⟩) 1 1) [x] := by
  refine ⟨_, 1, rfl, by simp, Or.inr ⟨_, _, rfl, fun j hj => ?_⟩⟩
  have hj' : j < (enc x).length := by rw [hs x]; simpa using hj
  refine ⟨(enc x)[j], by rw [flat_one]; exact List.getElem?_eq_getElem hj', ?_⟩
  rw [Nat.zero_add, World.cell?_alloc_mark]
  simp [hj']
theorem ownK_empty {α : Type} (enc : α → List Value) (sz : Nat) (e : TypeId) (w : World) : OwnK e enc sz w.heap.size (w.alloc (.cells #[] e)) (.slice (some ⟨w.heap.size, 0, none⟩) 0 0) [] := World.ownsRow_lit w #[] 0 (Nat.le_refl _) (by unfold maxLen; omega) (by simp)

/-! ### make, stores -/
theorem madeK {α : Type} [Inhabited α] {enc : α → List Value} {sz : Nat} (hs : Sz enc sz) (hp : 0 < sz) {z : Value} (hz : z.cells.toList = enc default) (n : Nat) : (madeCells z.cells (n * sz)).toList = flat enc (List.replicate n default) := by
  have hzs : z.cells.size = sz := by rw [← Array.length_toList, hz, hs]
  apply List.ext_getElem?
  intro j
  by_cases hj : j < n * sz
  · have e1 : j = j / sz * sz + j % sz := by rw [Nat.mul_comm]; exact (Nat.div_add_mod j sz).symm
    have h1 : j / sz < n := (Nat.div_lt_iff_lt_mul hp).2 hj
    have h2 : j % sz < sz := Nat.mod_lt _ hp
    have hL : (madeCells z.cells (n * sz)).toList[j]? = some (z.cells[j % z.cells.size]!) := by simp [madeCells, hj]
    rw [hL]
    conv => rhs; rw [e1]
    rw [flat_at hs _ _ _ (by simpa using h1) h2]
    have : nth (List.replicate n (default : α)) (j / sz) = default := by simp [nth, List.getD, h1]
    rw [this, ← hz, hzs, getElem!_pos z.cells (j % sz) (by omega)]
    simp [Array.getElem?_toList, getElem?_pos z.cells (j % sz) (by omega)]
  · rw [List.getElem?_eq_none (by simp [madeCells]; omega), List.getElem?_eq_none (by rw [flat_length hs]; simp; omega)]

section
variable {α : Type} [Inhabited α] {enc : α → List Value} {sz : Nat}
theorem ownK_store (hs : Sz enc sz) {e : TypeId} {B : Nat} {w : World} {g n cap : Nat} {l : List α} (h : OwnK e enc sz B w (.slice (some ⟨g, 0, none⟩) n cap) l) (hn : n = l.length) {j i : Nat} (hj : j < l.length) (hi : i < sz) {y : α} {u : Value} (hy : enc y = (enc (nth l j)).set i u) :
    OwnK e enc sz B (w.setCell ⟨g, j * sz + i, none⟩ u) (.slice (some ⟨g, 0, none⟩) n cap) (l.set j y) ∧ w.grownBy (w.setCell ⟨g, j * sz + i, none⟩ u) (some g) := by
  subst hn
  have := World.ownsRow.stored h (j * sz + i) u
  refine ⟨?_, this.2⟩
  unfold OwnK
  rw [List.length_set, ← flat_set hs hi l j hj hy]
  exact this.1
theorem ownK_cell (hs : Sz enc sz) {e : TypeId} {B : Nat} {w : World} {g n cap : Nat} {l : List α} (h : OwnK e enc sz B w (.slice (some ⟨g, 0, none⟩) n cap) l) (hn : n = l.length) {j i : Nat} (hj : j < l.length) (hi : i < sz) :
    w.cell? ⟨g, j * sz + i, none⟩ = (enc (nth l j))[i]? ∧ w.frozen? ⟨g, j * sz + i, none⟩ = false := by
  subst hn
  have hlt : j * sz + i < l.length * sz := by
    have : (j + 1) * sz ≤ l.length * sz := Nat.mul_le_mul_right _ hj
    rw [Nat.add_mul] at this; omega
  exact ⟨by rw [World.ownsRow.cellAt h _ hlt, flat_at hs l j i hj hi], World.ownsRow.frozenAt h _⟩
end
theorem nth_set {α : Type} [Inhabited α] {l : List α} {k : Nat} (h : k < l.length) (x : α) : nth (l.set k x) k = x := by simp [nth, List.getD, h]
/-- The list behind the first k stores of a copy. -/
def filledK {α : Type} [Inhabited α] (l : List α) (k : Nat) : List α := l.take k ++ List.replicate (l.length - k) default
section
variable {α : Type} [Inhabited α]
end
/-- append to a slice of structs of the call's own, as a step of a statement that draws its order. -/
theorem step_appK {P : Program} {ops : Array Oper} {o : Oper} {a : Act} {w : World} {K : Act → World → Prop} {Q : Exit → Act → World → Prop} {E : Prop} {α : Type} {enc : α → List Value} {sz : Nat} {e t : TypeId} {bytes : Nat} {z : Value}
    (KD : Kind P e enc z sz bytes) (hg : o.guard = none) (s x : Operand) (hop : o.op = Op.call { callee := Callee.builtin Builtin.append, args := #[s, x], argTypes := #[t, t] }) (ht : P.underlying t = some (.slice e))
    {B : Nat} {v : Value} {ad : Addr} {n c : Nat} {l m : List α} (hs : a.eval s = v) (hx : a.eval x = .slice (some ad) n c) (hown : OwnK e enc sz B w v l) (hsrc : HoldsK enc sz w (.slice (some ad) n c) m) (hlen : (l.length + m.length) * bytes ≤ 140737488355328) (hmx : l.length + m.length ≤ maxLen) (hB : B ≤ w.heap.size)
    (hK : ∀ v' w', OwnK e enc sz B w' v' (l ++ m) → w.grownBy w' v.ownBlock → K (a.put o.dst v') w') :
    if Region.wanted o (yielded ops a.tmps) = true then Oper.wp P o a w K Q else E := by
  have hw : Region.wanted o (yielded ops a.tmps) = true := by simp [Region.wanted, hg]
  rw [if_pos hw]
  obtain ⟨i, h1, h2, h3, h4⟩ := info_parts KD.elem
  obtain rfl := hsrc.lenEq
  obtain ⟨v', w', hrun, r1, r2, _⟩ := run_append_own (P := P) w B t o.type e i z sz bytes ht h1 h2 h3 h4 KD.zs KD.pos v l.length (flat enc l) hown ad m.length c (flat enc m) (flat_length KD.size m) (hsrc.cells KD.size) (flat_one' KD.one m) hmx hlen hB
  unfold Oper.wp
  simp [execOp, hop, resolve, invoke, builtin, hs, hx, hrun, Result.andThen]
  refine hK v' w' ?_ r2
  unfold OwnK
  rw [List.length_append, flat_append]; exact r1
end Go.Proofs.Ytnblopilgfdjkaa.Row
/- What laws over several values use: blocks that differ, loads' facts kept by calls. For any program. -/
namespace Go.Proofs.Ytnblopilgfdjkaa.Row
open Go.ChangeShapes Go.WideShapes Go.ChangeAt Go.RowKit Go.Instr
set_option linter.unusedVariables false
set_option maxRecDepth 100000

theorem keep4 {w w' : World} {a1 a2 a3 a4 : Addr} {v1 v2 v3 v4 : Value} (h1 : w.cell? a1 = some v1) (h2 : w.cell? a2 = some v2) (h3 : w.cell? a3 = some v3) (h4 : w.cell? a4 = some v4) {W : World} (hbW : Below W.heap.size W w) (hb : Below w.heap.size w w') :
    w'.cell? a1 = some v1 ∧ w'.cell? a2 = some v2 ∧ w'.cell? a3 = some v3 ∧ w'.cell? a4 = some v4 ∧ Below W.heap.size W w' :=
  ⟨by rw [hb.cell (cell_lt h1)]; exact h1, by rw [hb.cell (cell_lt h2)]; exact h2, by rw [hb.cell (cell_lt h3)]; exact h3, by rw [hb.cell (cell_lt h4)]; exact h4, hbW.trans (hb.mono hbW.size)⟩
theorem keepN2 {W w1 w2 : World} {a1 a2 : Addr} {u1 u2 : Value} (h : w1.cell? a1 = some u1 ∧ w1.cell? a2 = some u2 ∧ Below W.heap.size W w1) (hb : Below w1.heap.size w1 w2) : w2.cell? a1 = some u1 ∧ w2.cell? a2 = some u2 ∧ Below W.heap.size W w2 :=
  ⟨by rw [hb.cell (cell_lt h.1)]; exact h.1, by rw [hb.cell (cell_lt h.2.1)]; exact h.2.1, h.2.2.trans (hb.mono h.2.2.size)⟩
end Go.Proofs.Ytnblopilgfdjkaa.Row
/- Tables (slices of a name and a number each) in memory: a slice that holds a list of entries, each of which holds its name; one whose blocks are all the call's own and all differ. No conditions. -/
namespace Go.Proofs.Ytnblopilgfdjkaa.Row
open Go.ChangeShapes Go.WideShapes Go.ChangeAt Go.RowKit Go.Instr
set_option linter.unusedVariables false
set_option maxRecDepth 100000

/-- An entry as it lies in memory: where its name's parts lie, what they are, and its number. -/
structure Ent where
  ad : Option Addr
  n : Nat
  cap : Nat
  ps : List ByteArray
  val : Int
instance : Inhabited Ent := ⟨⟨none, 0, 0, [], 0⟩⟩
def Ent.v (x : Ent) : Value := .slice x.ad x.n x.cap
/-- An entry as it is read. -/
def Ent.t (x : Ent) : List ByteArray × Int := (x.ps, x.val)
def Ent.whole (x : Ent) : Value := .agg #[x.v, .int .i64 x.val]
def strip (L : List Ent) : List (List ByteArray × Int) := L.map Ent.t
theorem strip_length (L : List Ent) : (strip L).length = L.length := by simp [strip]
theorem strip_nth {L : List Ent} {k : Nat} (h : k < L.length) : nth (strip L) k = (nth L k).t := by simp [strip, nth, List.getD, h]
theorem strip_append (L M : List Ent) : strip (L ++ M) = strip L ++ strip M := by simp [strip]
theorem strip_take (L : List Ent) (k : Nat) : strip (L.take k) = (strip L).take k := by simp [strip, List.map_take]
theorem strip_mem {L : List Ent} {x : Ent} (h : x ∈ L) : x.t ∈ strip L := List.mem_map_of_mem h
theorem nth_mem {α : Type} [Inhabited α] {L : List α} {k : Nat} (h : k < L.length) : nth L k ∈ L := by rw [nth_eq h]; exact List.getElem_mem _
def encE (x : Ent) : List Value := [x.v, .int .i64 x.val]
theorem szE : Sz encE 2 := fun _ => rfl
/-- v is a slice of the entries L, whose names are there. -/
def TabH (w : World) (v : Value) (L : List Ent) : Prop := HoldsK encE 2 w v L ∧ ∀ x ∈ L, Holds Value.string w x.v x.ps
section
variable {B : Nat} {w w' : World} {v : Value} {L : List Ent}
theorem TabH.on (h : TabH w v L) (hb : Below w.heap.size w w') : TabH w' v L := ⟨h.1.on hb, fun x hx => (h.2 x hx).on hb⟩
theorem TabH.nil (w : World) : TabH w (.slice none 0 0) [] := ⟨HoldsK.nil _ _ _, by simp⟩
theorem TabH.shapeN (h : TabH w v L) : ∃ x n cap, v = .slice x n cap ∧ n = L.length ∧ n ≤ cap ∧ TabH w (.slice x n cap) L := by
  obtain ⟨x, n, cap, rfl, hn, hc, ho⟩ := h.1.shapeN
  exact ⟨x, n, cap, rfl, hn, hc, ho, h.2⟩
/-- Entry k's two cells, and its name. -/
theorem TabH.at {x : Option Addr} {n cap : Nat} (h : TabH w (.slice x n cap) L) {k : Nat} (hk : k < L.length) :
    ∃ b off, x = some ⟨b, off, none⟩ ∧ w.cell? ⟨b, off + k * 2, none⟩ = some (.slice (nth L k).ad (nth L k).n (nth L k).cap) ∧ w.cell? ⟨b, off + k * 2 + 1, none⟩ = some (.int .i64 (nth L k).val) ∧ Holds Value.string w (.slice (nth L k).ad (nth L k).n (nth L k).cap) (nth L k).ps := by
  obtain ⟨b, off, hx, hc⟩ := h.1.at szE hk
  exact ⟨b, off, hx, by have := hc 0 (by decide); simpa [encE, Ent.v] using this, by have := hc 1 (by decide); simpa [encE, Nat.add_assoc] using this, h.2 _ (nth_mem hk)⟩
end

/-! ### as they are read -/
def TabHolds (w : World) (v : Value) (T : List (List ByteArray × Int)) : Prop := ∃ L, strip L = T ∧ TabH w v L
/-- Only blocks from B on and below E are written, and new ones. -/
structure Wrote (B E : Nat) (w w' : World) : Prop where
  os : w'.os = w.os
  tape : w'.tape = w.tape
  output : w'.output = w.output
  size : w.heap.size ≤ w'.heap.size
  block : ∀ i, i < w.heap.size → ¬ (B ≤ i ∧ i < E) → w'.heap[i]? = w.heap[i]?
theorem Wrote.of {B E : Nat} {w w' : World} {row : Option Nat} (h : w.grownBy w' row) (hr : ∀ g, row = some g → B ≤ g ∧ g < E) : Wrote B E w w' := ⟨h.os, h.tape, h.output, h.size, fun i hi hn => h.block i hi (fun e => hn (hr i e.symm))⟩
theorem Wrote.refl (B E : Nat) (w : World) : Wrote B E w w := ⟨rfl, rfl, rfl, Nat.le_refl _, fun _ _ _ => rfl⟩
theorem Wrote.trans {B E : Nat} {w w1 w2 : World} (h : Wrote B E w w1) (g : Wrote B E w1 w2) : Wrote B E w w2 := ⟨g.os.trans h.os, g.tape.trans h.tape, g.output.trans h.output, Nat.le_trans h.size g.size, fun i hi hn => (g.block i (Nat.lt_of_lt_of_le hi h.size) hn).trans (h.block i hi hn)⟩
theorem Wrote.below {B E X : Nat} {w0 w w' : World} (hb : Below X w0 w) (h : Wrote B E w w') (hX : X ≤ w.heap.size) (hB : X ≤ B) : Below X w0 w' :=
  hb.trans ⟨h.os, h.tape, h.output, h.size, fun k hk => h.block k (by omega) (by omega)⟩
theorem Wrote.ofBelow {B E : Nat} {w w' : World} (h : Below w.heap.size w w') : Wrote B E w w' := ⟨h.os, h.tape, h.output, h.size, fun i hi _ => h.block i hi⟩
/-- What does not lie there is kept. -/
theorem Wrote.grown {B E : Nat} {w w' : World} (h : Wrote B E w w') {g : Nat} (hg : g < w.heap.size) (hn : g < B ∨ E ≤ g) : w'.heap[g]? = w.heap[g]? := h.block g hg (by omega)
theorem Wrote.row {e : TypeId} {sz n B0 B E : Nat} {w w' : World} {v : Value} {xs : List Value} (h : Wrote B E w w') (ho : w.ownsRow B0 e sz v n xs) (hn : ∀ g, v.ownBlock = some g → g < B ∨ E ≤ g) : w'.ownsRow B0 e sz v n xs := by
  refine ⟨ho.1, ?_⟩
  rcases ho.2 with h2 | ⟨g, cap, cur, hv, hB, hc, r⟩
  · exact Or.inl h2
  · refine Or.inr ⟨g, cap, cur, hv, hB, ?_, r⟩
    rw [h.grown (Array.getElem?_eq_some_iff.1 hc).1 (hn g (by rw [hv]; rfl))]
    exact hc
/-- A name, a table whose blocks lie from B on and below E. -/
def NameIn (B E : Nat) (w : World) (v : Value) (l : List ByteArray) : Prop := Own 9 Value.string B w v l ∧ ∀ g, v.ownBlock = some g → g < E
section
variable {B E B' E' : Nat} {w w' : World} {v : Value} {l : List ByteArray} {T : List (List ByteArray × Int)}
theorem NameIn.of (h : Own 9 Value.string B w v l) : NameIn B w.heap.size w v l := ⟨h, fun g hg => (h.lt g hg).2⟩
theorem NameIn.on (h : NameIn B E w v l) (hb : Below w.heap.size w w') : NameIn B E w' v l := ⟨h.1.on hb, h.2⟩
theorem NameIn.wrote (h : NameIn B E w v l) (hw : Wrote B' E' w w') (hn : E ≤ B' ∨ E' ≤ B) : NameIn B E w' v l :=
  ⟨hw.row h.1 (fun g hg => by have := (h.1.lt g hg).1; have := h.2 g hg; omega), h.2⟩
theorem NameIn.holds (h : NameIn B E w v l) : Holds Value.string w v l := h.1.holds
theorem TabHolds.on (h : TabHolds w v T) (hb : Below w.heap.size w w') : TabHolds w' v T := by
  obtain ⟨L, e, h⟩ := h
  exact ⟨L, e, h.on hb⟩
theorem TabHolds.shapeN (h : TabHolds w v T) : ∃ x n cap, v = .slice x n cap ∧ n = T.length ∧ n ≤ cap ∧ TabHolds w (.slice x n cap) T := by
  obtain ⟨L, e, h⟩ := h
  obtain ⟨x, n, cap, rfl, hn, hc, ho⟩ := h.shapeN
  exact ⟨x, n, cap, rfl, by rw [hn, ← e, strip_length], hc, L, e, ho⟩
end
end Go.Proofs.Ytnblopilgfdjkaa.Row
/- Lists of keys (slices of a name and a number each) in memory: a slice that holds a list of entries, each of which holds its name; one whose blocks are all the call's own and all differ. No conditions. -/
namespace Go.Proofs.Ytnblopilgfdjkaa.Row.Ring
open Go.ChangeShapes Go.WideShapes Go.ChangeAt Go.RowKit Go.Instr
set_option linter.unusedVariables false
set_option maxRecDepth 100000

/-- An entry as it lies in memory: where its name's parts lie, what they are, and its number. -/
structure Ent where
  ad : Option Addr
  n : Nat
  cap : Nat
  ps : List ByteArray
  val : Int
instance : Inhabited Ent := ⟨⟨none, 0, 0, [], 0⟩⟩
def Ent.v (x : Ent) : Value := .slice x.ad x.n x.cap
/-- An entry as it is read. -/
def Ent.t (x : Ent) : List ByteArray × Int := (x.ps, x.val)
def Ent.whole (x : Ent) : Value := .agg #[x.v, .int .i64 x.val]
def strip (L : List Ent) : List (List ByteArray × Int) := L.map Ent.t
theorem strip_length (L : List Ent) : (strip L).length = L.length := by simp [strip]
theorem strip_nth {L : List Ent} {k : Nat} (h : k < L.length) : nth (strip L) k = (nth L k).t := by simp [strip, nth, List.getD, h]
theorem strip_append (L M : List Ent) : strip (L ++ M) = strip L ++ strip M := by simp [strip]
theorem strip_take (L : List Ent) (k : Nat) : strip (L.take k) = (strip L).take k := by simp [strip, List.map_take]
theorem strip_mem {L : List Ent} {x : Ent} (h : x ∈ L) : x.t ∈ strip L := List.mem_map_of_mem h
def encE (x : Ent) : List Value := [x.v, .int .i64 x.val]
theorem szE : Sz encE 2 := fun _ => rfl
theorem kindE : Kind Try.prog 67 encE (.agg #[.slice none 0 0, .int .i64 0]) 2 32 where
  elem := by unfold ElemK; kernel_rfl
  zs := rfl
  pos := by decide
  size := szE
  one := by intro x u hu; simp [encE, Ent.v] at hu; rcases hu with rfl | rfl <;> rfl

/-- v is a slice of the entries L, whose names are there. -/
def TabH (w : World) (v : Value) (L : List Ent) : Prop := HoldsK encE 2 w v L ∧ ∀ x ∈ L, Holds Value.string w x.v x.ps
/-- v is a slice of the entries L, all of whose blocks are from B on, and no two the same. -/
def TabO (B : Nat) (w : World) (v : Value) (L : List Ent) : Prop := OwnK 67 encE 2 B w v L ∧ (∀ x ∈ L, Own 9 Value.string B w x.v x.ps) ∧ L.Pairwise (fun a b => Apart a.v b.v)
section
variable {B : Nat} {w w' : World} {v : Value} {L : List Ent}
theorem TabO.holds (h : TabO B w v L) : TabH w v L := ⟨h.1.holds, fun x hx => (h.2.1 x hx).holds⟩
theorem TabH.on (h : TabH w v L) (hb : Below w.heap.size w w') : TabH w' v L := ⟨h.1.on hb, fun x hx => (h.2 x hx).on hb⟩
theorem TabO.on (h : TabO B w v L) (hb : Below w.heap.size w w') : TabO B w' v L := ⟨h.1.on hb, fun x hx => (h.2.1 x hx).on hb, h.2.2⟩
theorem TabO.mono (h : TabO B w v L) {B' : Nat} (hB : B' ≤ B) : TabO B' w v L := ⟨h.1.mono hB, fun x hx => (h.2.1 x hx).mono hB, h.2.2⟩
theorem TabO.nil (B : Nat) (w : World) : TabO B w (.slice none 0 0) [] := ⟨OwnK.nil _ _ _ _ _, by simp, by simp⟩
theorem TabO.empty (w : World) : TabO w.heap.size (w.alloc (.cells #[] 67)) (.slice (some ⟨w.heap.size, 0, none⟩) 0 0) [] := ⟨ownK_empty _ _ _ _, by simp, by simp⟩
theorem TabH.nil (w : World) : TabH w (.slice none 0 0) [] := ⟨HoldsK.nil _ _ _, by simp⟩
theorem TabH.shapeN (h : TabH w v L) : ∃ x n cap, v = .slice x n cap ∧ n = L.length ∧ n ≤ cap ∧ TabH w (.slice x n cap) L := by
  obtain ⟨x, n, cap, rfl, hn, hc, ho⟩ := h.1.shapeN
  exact ⟨x, n, cap, rfl, hn, hc, ho, h.2⟩
theorem TabO.shapeN (h : TabO B w v L) : ∃ x n cap, v = .slice x n cap ∧ n = L.length ∧ n ≤ cap ∧ TabO B w (.slice x n cap) L := by
  obtain ⟨x, n, cap, rfl, hn, hc, ho⟩ := h.1.shapeN
  exact ⟨x, n, cap, rfl, hn, hc, ho, h.2⟩
/-- Entry k's two cells, and its name. -/
theorem TabH.at {x : Option Addr} {n cap : Nat} (h : TabH w (.slice x n cap) L) {k : Nat} (hk : k < L.length) :
    ∃ b off, x = some ⟨b, off, none⟩ ∧ w.cell? ⟨b, off + k * 2, none⟩ = some (.slice (nth L k).ad (nth L k).n (nth L k).cap) ∧ w.cell? ⟨b, off + k * 2 + 1, none⟩ = some (.int .i64 (nth L k).val) ∧ Holds Value.string w (.slice (nth L k).ad (nth L k).n (nth L k).cap) (nth L k).ps := by
  obtain ⟨b, off, hx, hc⟩ := h.1.at szE hk
  exact ⟨b, off, hx, by have := hc 0 (by decide); simpa [encE, Ent.v] using this, by have := hc 1 (by decide); simpa [encE, Nat.add_assoc] using this, h.2 _ (nth_mem hk)⟩
theorem TabO.cells {g n cap : Nat} (h : TabO B w (.slice (some ⟨g, 0, none⟩) n cap) L) (hn : n = L.length) {k : Nat} (hk : k < L.length) :
    (w.cell? ⟨g, k * 2, none⟩ = some (.slice (nth L k).ad (nth L k).n (nth L k).cap) ∧ w.frozen? ⟨g, k * 2, none⟩ = false) ∧ (w.cell? ⟨g, k * 2 + 1, none⟩ = some (.int .i64 (nth L k).val) ∧ w.frozen? ⟨g, k * 2 + 1, none⟩ = false) ∧ Own 9 Value.string B w (.slice (nth L k).ad (nth L k).n (nth L k).cap) (nth L k).ps :=
  ⟨by simpa [encE, Ent.v] using ownK_cell szE h.1 hn hk (i := 0) (by decide), by simpa [encE] using ownK_cell szE h.1 hn hk (i := 1) (by decide), h.2.1 _ (nth_mem hk)⟩
/-- A slice of strings and a slice of entries never share a block. -/
theorem name_row {u : Value} {ps : List ByteArray} {B' : Nat} (h : Own 9 Value.string B w u ps) (g : OwnK 67 encE 2 B' w v L) : Apart u v := by
  intro k h1 h2
  rcases h.2 with ⟨rfl, _⟩ | ⟨b, cap, cur, rfl, _, hb, _⟩
  · cases h1
  · rcases g.2 with ⟨rfl, _⟩ | ⟨b', cap', cur', rfl, _, hb', _⟩
    · cases h2
    · have e1 : b = k := by simpa [Value.ownBlock] using h1
      have e2 : b' = k := by simpa [Value.ownBlock] using h2
      rw [e1] at hb; rw [e2, hb] at hb'
      cases hb'
/-- What writes into the entries' own row alone leaves the names. -/
theorem TabO.names (h : TabO B w v L) (hg : w.grownBy w' v.ownBlock) : ∀ x ∈ L, Own 9 Value.string B w' x.v x.ps := fun x hx => (h.2.1 x hx).grown hg (apart_or (name_row (h.2.1 x hx) h.1))
theorem TabO.row (h : TabO B w v L) {v' : Value} {L' : List Ent} (ho : OwnK 67 encE 2 B w' v' L') (hg : w.grownBy w' v.ownBlock) (hm : ∀ x ∈ L', ∃ y ∈ L, x.v = y.v ∧ x.ps = y.ps) (hp : L'.Pairwise (fun a b => Apart a.v b.v)) : TabO B w' v' L' := by
  refine ⟨ho, fun x hx => ?_, hp⟩
  obtain ⟨y, hy, e1, e2⟩ := hm x hx
  rw [e1, e2]
  exact h.names hg y hy
theorem TabO.lt (h : TabO B w v L) : (∀ g, v.ownBlock = some g → B ≤ g ∧ g < w.heap.size) ∧ ∀ x ∈ L, ∀ g, x.v.ownBlock = some g → B ≤ g ∧ g < w.heap.size := ⟨h.1.lt, fun x hx => (h.2.1 x hx).lt⟩
/-- A name in new memory is apart from all names that were there. -/
theorem TabO.fresh (h : TabO B w v L) {u : Value} (hu : ∀ g, u.ownBlock = some g → w.heap.size ≤ g) : ∀ y ∈ L, Apart y.v u := fun y hy g h1 h2 => by
  have := h.lt.2 y hy g h1
  have := hu g h2
  omega
/-- One entry more. -/
theorem TabO.push (h : TabO B w v L) {x : Ent} (hx : Own 9 Value.string B w x.v x.ps) (hap : ∀ y ∈ L, Apart y.v x.v) {v' : Value} (ho : OwnK 67 encE 2 B w' v' (L ++ [x])) (hg : w.grownBy w' v.ownBlock) : TabO B w' v' (L ++ [x]) := by
  refine ⟨ho, fun y hy => ?_, ?_⟩
  · rcases List.mem_append.1 hy with hy | hy
    · exact h.names hg y hy
    · rw [List.mem_singleton.1 hy]; exact hx.grown hg (apart_or (name_row hx h.1))
  · rw [List.pairwise_append]
    exact ⟨h.2.2, by simp, fun a ha b hb => by rw [List.mem_singleton.1 hb]; exact hap a ha⟩
theorem TabO.len (h : TabO B w v L) : L.length ≤ maxLen := h.1.len
end

/-! ### as they are read -/
def TabHolds (w : World) (v : Value) (T : List (List ByteArray × Int)) : Prop := ∃ L, strip L = T ∧ TabH w v L
def TabOwn (B : Nat) (w : World) (v : Value) (T : List (List ByteArray × Int)) : Prop := ∃ L, strip L = T ∧ TabO B w v L
def TabIn (B E : Nat) (w : World) (v : Value) (T : List (List ByteArray × Int)) : Prop := ∃ L, strip L = T ∧ TabO B w v L ∧ (∀ g, v.ownBlock = some g → g < E) ∧ ∀ x ∈ L, ∀ g, x.v.ownBlock = some g → g < E
section
variable {B E B' E' : Nat} {w w' : World} {v : Value} {l : List ByteArray} {T : List (List ByteArray × Int)}
theorem TabIn.of (h : TabOwn B w v T) : TabIn B w.heap.size w v T := by
  obtain ⟨L, e, h⟩ := h
  exact ⟨L, e, h, fun g hg => (h.lt.1 g hg).2, fun x hx g hg => (h.lt.2 x hx g hg).2⟩
theorem TabIn.on (h : TabIn B E w v T) (hb : Below w.heap.size w w') : TabIn B E w' v T := by
  obtain ⟨L, e, h, h1, h2⟩ := h
  exact ⟨L, e, h.on hb, h1, h2⟩
theorem TabIn.wrote (h : TabIn B E w v T) (hw : Wrote B' E' w w') (hn : E ≤ B' ∨ E' ≤ B) : TabIn B E w' v T := by
  obtain ⟨L, e, h, h1, h2⟩ := h
  refine ⟨L, e, ⟨hw.row h.1 (fun g hg => ?_), fun x hx => hw.row (h.2.1 x hx) (fun g hg => ?_), h.2.2⟩, h1, h2⟩
  · have := (h.lt.1 g hg).1; have := h1 g hg; omega
  · have := (h.lt.2 x hx g hg).1; have := h2 x hx g hg; omega
theorem TabIn.own (h : TabIn B E w v T) : TabOwn B w v T := by
  obtain ⟨L, e, h, -, -⟩ := h
  exact ⟨L, e, h⟩
theorem TabOwn.holds (h : TabOwn B w v T) : TabHolds w v T := by
  obtain ⟨L, e, h⟩ := h
  exact ⟨L, e, h.holds⟩
theorem TabIn.holds (h : TabIn B E w v T) : TabHolds w v T := h.own.holds
theorem TabOwn.mono (h : TabOwn B w v T) (hB : B' ≤ B) : TabOwn B' w v T := by
  obtain ⟨L, e, h⟩ := h
  exact ⟨L, e, h.mono hB⟩
theorem TabOwn.on (h : TabOwn B w v T) (hb : Below w.heap.size w w') : TabOwn B w' v T := by
  obtain ⟨L, e, h⟩ := h
  exact ⟨L, e, h.on hb⟩
theorem TabHolds.on (h : TabHolds w v T) (hb : Below w.heap.size w w') : TabHolds w' v T := by
  obtain ⟨L, e, h⟩ := h
  exact ⟨L, e, h.on hb⟩
theorem TabHolds.shapeN (h : TabHolds w v T) : ∃ x n cap, v = .slice x n cap ∧ n = T.length ∧ n ≤ cap ∧ TabHolds w (.slice x n cap) T := by
  obtain ⟨L, e, h⟩ := h
  obtain ⟨x, n, cap, rfl, hn, hc, ho⟩ := h.shapeN
  exact ⟨x, n, cap, rfl, by rw [hn, ← e, strip_length], hc, L, e, ho⟩
theorem TabOwn.shapeN (h : TabOwn B w v T) : ∃ x n cap, v = .slice x n cap ∧ n = T.length ∧ n ≤ cap ∧ TabOwn B w (.slice x n cap) T := by
  obtain ⟨L, e, h⟩ := h
  obtain ⟨x, n, cap, rfl, hn, hc, ho⟩ := h.shapeN
  exact ⟨x, n, cap, rfl, by rw [hn, ← e, strip_length], hc, L, e, ho⟩
end
end Go.Proofs.Ytnblopilgfdjkaa.Row.Ring
/- Contracts of the helpers by which the laws measure, copy, compare, mark and look at lists of keys. No conditions but that lengths fit. -/
namespace Go.Proofs.Ytnblopilgfdjkaa.Row.Ring
open Go.ChangeShapes Go.WideShapes Go.ChangeAt Go.RowKit Go.Instr
set_option linter.unusedVariables false
set_option maxRecDepth 100000

/-- Length and sizes of a table together, up to place k. -/
def bulkTTo (l : List (List ByteArray × Int)) (k : Nat) : Nat := l.length + ((l.take k).map (fun x => bulk x.1)).sum
def bulkT (l : List (List ByteArray × Int)) : Nat := bulkTTo l l.length
theorem bulkTTo_zero (l : List (List ByteArray × Int)) : bulkTTo l 0 = l.length := by simp [bulkTTo]
theorem bulkTTo_succ (l : List (List ByteArray × Int)) {k : Nat} (h : k < l.length) : bulkTTo l (k + 1) = bulkTTo l k + bulk (nth l k).1 := by
  unfold bulkTTo
  rw [List.take_succ_eq_append_getElem h, nth_eq h, List.map_append, List.sum_append]
  simp only [List.map_cons, List.map_nil, List.sum_cons, List.sum_nil]
  omega
theorem bulkTTo_le (l : List (List ByteArray × Int)) (k : Nat) : bulkTTo l k ≤ bulkT l := by
  unfold bulkT bulkTTo
  have := sum_take_le (l.map (fun x => bulk x.1)) k
  rw [List.take_length, List.map_take]; omega
theorem bulkT_len (l : List (List ByteArray × Int)) : l.length ≤ bulkT l := by unfold bulkT bulkTTo; omega
theorem bulkT_mem {l : List (List ByteArray × Int)} {x : List ByteArray × Int} (h : x ∈ l) : bulk x.1 ≤ bulkT l := by
  obtain ⟨k, hk, rfl⟩ := List.getElem_of_mem h
  have h1 := bulkTTo_succ l hk
  have h2 := bulkTTo_le l (k + 1)
  rw [nth_eq hk] at h1
  omega
def szLT (l : List (List ByteArray × Int)) (left : Int) : Int := if (bulkT l : Int) ≤ left then left - bulkT l else -1
theorem szLT_fit {l : List (List ByteArray × Int)} {left : Int} (h : (bulkT l : Int) ≤ left) : szLT l left = left - bulkT l := if_pos h
theorem szLT_not {l : List (List ByteArray × Int)} {left : Int} (h : left < (bulkT l : Int)) : szLT l left = -1 := if_neg (by omega)

set_option maxHeartbeats 4000000 in
theorem szKey (v : Value) (l : List ByteArray) (val : Int) (w : World) (left : Int) (h : Holds Value.string w v l) (hl : l.length ≤ 9223372036854775807) (hs : ∀ x ∈ l, x.size ≤ maxLen) (h0 : 0 ≤ left) (h1 : left ≤ 1048576) :
    Calls Try.prog 39 #[.agg #[v, .int .i64 val], .int .i64 left] w fun e w' => e = .returned (.int .i64 (szL l left)) ∧ Below w.heap.size w w' := by
  obtain ⟨x, n, cap, rfl, hn, hcap, hh⟩ := h.shapeN
  have HB := Lib.hid ((Below.refl w.heap.size w).alloc (Nat.le_refl _) (.cells #[.slice x n cap, .int .i64 val] 62))
  have HA := Lib.hid (hh.on HB.out); have HS := Lib.hid hs
  clear hh h hs hn
  go_enter Try.func39, Try.ntmps39
  go_wp2_with fail
  refine (szName _ l _ left HA.out hl HS.out h0 h1).mono ?_
  rintro e w' ⟨rfl, hb⟩
  have HB2 := Lib.hid (HB.out.trans (hb.mono HB.out.size)); clear hb
  by_cases hb : (bulk l : Int) ≤ left
  · rw [szL_fit hb]
    have h2 : ¬ left - (bulk l : Int) < 0 := by omega
    go_wp2
    go_ret
    exact ⟨ret_int (szL_fit hb).symm, HB2.out⟩
  · have hz := szL_not (l := l) (left := left) (by omega)
    rw [hz]
    have HZ := Lib.hid hz; clear hz
    go_wp2
    go_ret
    exact ⟨ret_int HZ.out.symm, HB2.out⟩

set_option maxHeartbeats 4000000 in
theorem szKeyS (v : Value) (T : List (List ByteArray × Int)) (w : World) (left : Int) (h : TabHolds w v T) (hl : T.length ≤ 9223372036854775807) (hs : ∀ t ∈ T, t.1.length ≤ 9223372036854775807 ∧ ∀ x ∈ t.1, x.size ≤ maxLen) (h0 : 0 ≤ left) (h1 : left ≤ 1048576) :
    Calls Try.prog 10 #[v, .int .i64 left] w fun e w' => e = .returned (.int .i64 (szLT T left)) ∧ Below w.heap.size w w' := by
  obtain ⟨L, hT, h⟩ := h
  obtain ⟨x, n, cap, rfl, hn, hcap, hh⟩ := h.shapeN
  have hle := bulkTTo_le T
  have hb0 := bulkTTo_zero T
  have hlen : T.length = n := by rw [← hT, strip_length]; exact hn.symm
  rw [hlen] at hl hb0
  by_cases hbig : left < (n : Int)
  · have hS : szLT T left = -1 := szLT_not (by have := bulkT_len T; omega)
    rw [hS]
    clear hh h hs hle hn hb0 hS hT hlen
    go_enter Try.func10, Try.ntmps10
    go_wp2
    go_ret
    exact ⟨rfl, Below.refl _ _⟩
  have HN := Lib.hid hn
  have HT := Lib.hid hT
  have HH := Lib.hid hh
  have HS := Lib.hid hs
  have HLE := Lib.hid hle
  have HB0 := Lib.hid hb0
  have HLEN := Lib.hid hlen
  clear hn h hh hs hle hb0 hT hlen
  go_enter Try.func10, Try.ntmps10
  go_wp2
  go_loopw [1, 5] (fun lv i wr => ∃ k : Nat, k ≤ n ∧ i = .int .i64 k ∧ ∃ u : Int, lv = .int .i64 u ∧ u = left - bulkTTo T k ∧ 0 ≤ u ∧ Hid (Below w.heap.size w wr)) (fun _ i _ => n - (intOf i).toNat)
  case atStart => exact ⟨0, Nat.zero_le _, rfl, _, rfl, by rw [HB0.out], by omega, Lib.hid (Below.refl _ _)⟩
  case round =>
    obtain ⟨k, hk, rfl, u, rfl, hu, h0u, hb⟩ := hrel
    have hub : u ≤ left := by omega
    have HU := Lib.hid hu
    clear hu
    by_cases hlt : k < n
    · have hlen := HN.out
      obtain ⟨b, off, rfl, hc1, hc2, hnm⟩ := (HH.out.on hb.out).at (k := k) (by omega)
      have hpt : (nth T k).1 = (nth L k).ps := by rw [← HT.out, strip_nth (by omega)]; rfl
      have hsz := HS.out (nth T k) (nth_mem (by have := HLEN.out; omega))
      rw [hpt] at hsz
      have HNM := Lib.hid hnm
      have HSZ := Lib.hid hsz
      have hstep := Lib.hid (bulkTTo_succ T (k := k) (by have := HLEN.out; omega))
      rw [hpt] at hstep
      have hall := HLE.out (k + 1)
      have HALL := Lib.hid hall
      clear hlen hall hsz hpt hnm
      go_wp2_with fail
      refine (szKey _ (nth L k).ps _ wr u HNM.out HSZ.out.1 HSZ.out.2 h0u (by omega)).mono ?_
      rintro e w1 ⟨rfl, hb1⟩
      have HB1 := Lib.hid (hb.out.trans (hb1.mono hb.out.size))
      clear hb1 hc1 hc2
      by_cases c1 : (bulk (nth L k).ps : Int) ≤ u
      · rw [szL_fit c1]
        have h2 : ¬ u - (bulk (nth L k).ps : Int) < 0 := by omega
        go_wp2
        go_roundw
        case rel => exact ⟨k + 1, by omega, by go_num, _, rfl, by rw [hstep.out, HU.out]; omega, by omega, HB1⟩
        case measure => simp [intOf]; omega
      · rw [szL_not (by omega)]
        have HZ : Hid (szLT T left = -1) := by
          have e1 := HALL.out; have e2 := HU.out; have e3 := hstep.out
          exact szLT_not (by omega)
        clear c1
        go_wp2
        go_ret
        exact ⟨ret_int HZ.out.symm, HB1.out⟩
    · obtain rfl : k = n := by omega
      clear hlt
      go_wp2
      go_ret
      refine ⟨ret_int ?_, hb.out⟩
      have := HU.out
      rw [← HLEN.out] at this
      rw [szLT_fit (by unfold bulkT; omega)]
      exact this

set_option maxHeartbeats 4000000 in
theorem toKey (v : Value) (l : List ByteArray) (val : Int) (w : World) (h : Holds Value.string w v l) (hl : l.length ≤ 100000000) :
    Calls Try.prog 41 #[.agg #[v, .int .i64 val]] w fun e w' => ∃ v', e = .returned (.agg #[v', .int .i64 val]) ∧ Own 9 Value.string w.heap.size w' v' l ∧ Below w.heap.size w w' := by
  obtain ⟨x, n, cap, rfl, hn, hcap, hh⟩ := h.shapeN
  have HB := Lib.hid ((((Below.refl w.heap.size w).alloc (Nat.le_refl _) (.cells #[.slice x n cap, .int .i64 val] 62)).alloc (by simp) (.cells #[.slice none 0 0, .int .i64 0] 67)).alloc (by simp; omega) (.cells #[.slice none 0 0, .int .i64 0] 67))
  have HA := Lib.hid (hh.on HB.out)
  clear hh h hn
  go_enter Try.func41, Try.ntmps41
  go_wp2_with fail
  refine (toName _ l _ HA.out hl).mono ?_
  rintro e w1 ⟨v1, rfl, ho, hb⟩
  obtain ⟨x1, n1, c1, rfl, -, hc1, ho1⟩ := ho.shapeN
  have HO := Lib.hid ho1
  have HB1 := Lib.hid hb
  clear ho ho1 hb
  have hq0 : w1.cell? ⟨w.heap.size, 1, none⟩ = some (.int .i64 val) := by rw [HB1.out.cell (by simp <;> omega), World.cell?_alloc_past _ _ _ (by simp <;> omega), World.cell?_alloc_past _ _ _ (by simp <;> omega), World.cell?_alloc_at _ _ _ _ rfl]; rfl
  have hk0 : w1.cell? ⟨w.heap.size + 1, 0, none⟩ = some (.slice none 0 0) := by rw [HB1.out.cell (by simp), World.cell?_alloc_past _ _ _ (by simp), World.cell?_alloc_at _ _ _ _ (by simp)]; rfl
  have hk1 : w1.cell? ⟨w.heap.size + 1, 1, none⟩ = some (.int .i64 0) := by rw [HB1.out.cell (by simp), World.cell?_alloc_past _ _ _ (by simp), World.cell?_alloc_at _ _ _ _ (by simp)]; rfl
  have hm0 : w1.cell? ⟨w.heap.size + 1 + 1, 0, none⟩ = some (.slice none 0 0) := by rw [HB1.out.cell (by simp), World.cell?_alloc_at _ _ _ _ (by simp)]; rfl
  have hm1 : w1.cell? ⟨w.heap.size + 1 + 1, 1, none⟩ = some (.int .i64 0) := by rw [HB1.out.cell (by simp), World.cell?_alloc_at _ _ _ _ (by simp)]; rfl
  have hf0 : w1.frozen? ⟨w.heap.size + 1, 0, none⟩ = false := by rw [HB1.out.frozen (by simp), World.frozen?_alloc_past _ _ _ (by simp), World.frozen?_alloc_at _ _ _ _ (by simp)]
  have hf1 : w1.frozen? ⟨w.heap.size + 1, 1, none⟩ = false := by rw [HB1.out.frozen (by simp), World.frozen?_alloc_past _ _ _ (by simp), World.frozen?_alloc_at _ _ _ _ (by simp)]
  have hg0 : w1.frozen? ⟨w.heap.size + 1 + 1, 0, none⟩ = false := by rw [HB1.out.frozen (by simp), World.frozen?_alloc_at _ _ _ _ (by simp)]
  have hg1 : w1.frozen? ⟨w.heap.size + 1 + 1, 1, none⟩ = false := by rw [HB1.out.frozen (by simp), World.frozen?_alloc_at _ _ _ _ (by simp)]
  go_wp2
  have hk4 := Ret.set_same (v := .int .i64 val) (a := ⟨w.heap.size + 1, 1, none⟩) (w := ((w1.setCell ⟨w.heap.size + 1 + 1, 0, none⟩ (.slice x1 n1 c1)).setCell ⟨w.heap.size + 1 + 1, 1, none⟩ (.int .i64 val)).setCell ⟨w.heap.size + 1, 0, none⟩ (.slice x1 n1 c1)) (u := .int .i64 0) (by rw [World.cell?_setCell_other _ _ _ _ (by simp), World.cell?_setCell_other _ _ _ _ (by simp), World.cell?_setCell_other _ _ _ _ (by simp)]; exact hk1)
  have hk3 := Ret.set_same (v := .slice x1 n1 c1) (a := ⟨w.heap.size + 1, 0, none⟩) (w := (w1.setCell ⟨w.heap.size + 1 + 1, 0, none⟩ (.slice x1 n1 c1)).setCell ⟨w.heap.size + 1 + 1, 1, none⟩ (.int .i64 val)) (u := .slice none 0 0) (by rw [World.cell?_setCell_other _ _ _ _ (by simp), World.cell?_setCell_other _ _ _ _ (by simp)]; exact hk0)
  refine bodyPost_ret (Ret.results_c rfl _ _ (w.heap.size + 1) [.slice x1 n1 c1, .int .i64 val] rfl (by unfold Ret.AggOf; exact ⟨by kernel_rfl, by kernel_rfl⟩) (Ret.two (by rw [World.cell?_setCell_other _ _ _ _ (by simp)]; exact hk3) hk4)) rfl ?_
  have hs := HB1.out.size
  simp at hs
  have hO2 := (((HO.out.grown (Ret.grownBy_set w1 ⟨w.heap.size + 1 + 1, 0, none⟩ (.slice x1 n1 c1)) (nb HO.out (by simp))).grown (Ret.grownBy_set _ ⟨w.heap.size + 1 + 1, 1, none⟩ (.int .i64 val)) (nb HO.out (by simp))).grown (Ret.grownBy_set _ ⟨w.heap.size + 1, 0, none⟩ (.slice x1 n1 c1)) (nb HO.out (by simp))).grown (Ret.grownBy_set _ ⟨w.heap.size + 1, 1, none⟩ (.int .i64 val)) (nb HO.out (by simp))
  exact ⟨_, rfl, hO2.mono (by simp; omega), ((((HB.out.trans (HB1.out.mono (by simp; omega))).setCell (by simp; omega) _).setCell (by simp; omega) _).setCell (by simp) _).setCell (by simp) _⟩

/-! ### a table's copy -/
theorem pairwise_set {α : Type} {R : α → α → Prop} {x : α} : ∀ {L : List α} (k : Nat), L.Pairwise R → (∀ y ∈ L, R y x ∧ R x y) → (L.set k x).Pairwise R
  | [], _, _, _ => by simp
  | a :: r, 0, h, g => by
    rw [List.set_cons_zero, List.pairwise_cons]
    rw [List.pairwise_cons] at h
    exact ⟨fun y hy => (g y (by simp [hy])).2, h.2⟩
  | a :: r, k + 1, h, g => by
    rw [List.set_cons_succ, List.pairwise_cons]
    rw [List.pairwise_cons] at h
    refine ⟨fun y hy => ?_, pairwise_set k h.2 (fun y hy => g y (by simp [hy]))⟩
    rcases List.mem_or_eq_of_mem_set hy with hy | hy
    · exact h.1 y hy
    · rw [hy]; exact (g a (by simp)).1
theorem ent_store {B : Nat} {w : World} {g n cap : Nat} {L : List Ent} (h : OwnK 67 encE 2 B w (.slice (some ⟨g, 0, none⟩) n cap) L) (hn : n = L.length) {k : Nat} (hk : k < L.length) (x : Ent) :
    OwnK 67 encE 2 B ((w.setCell ⟨g, k * 2, none⟩ x.v).setCell ⟨g, k * 2 + 1, none⟩ (.int .i64 x.val)) (.slice (some ⟨g, 0, none⟩) n cap) (L.set k x) ∧ w.grownBy ((w.setCell ⟨g, k * 2, none⟩ x.v).setCell ⟨g, k * 2 + 1, none⟩ (.int .i64 x.val)) (some g) := by
  obtain ⟨a1, a2⟩ := ownK_store szE h hn hk (i := 0) (by decide) (y := ⟨x.ad, x.n, x.cap, x.ps, (nth L k).val⟩) (u := x.v) rfl
  obtain ⟨b1, b2⟩ := ownK_store szE a1 (by simpa using hn) (j := k) (by simpa using hk) (i := 1) (by decide) (y := x) (u := .int .i64 x.val) (by rw [nth_set hk]; rfl)
  rw [List.set_set] at b1
  exact ⟨b1, Go.World.grownBy.trans a2 b2⟩
/-- An entry of its own is stored. -/
theorem TabO.put {B : Nat} {w : World} {g n cap : Nat} {L : List Ent} (h : TabO B w (.slice (some ⟨g, 0, none⟩) n cap) L) (hn : n = L.length) {k : Nat} (hk : k < L.length) {x : Ent} (hx : Own 9 Value.string B w x.v x.ps) (hap : ∀ y ∈ L, Apart y.v x.v) :
    TabO B ((w.setCell ⟨g, k * 2, none⟩ x.v).setCell ⟨g, k * 2 + 1, none⟩ (.int .i64 x.val)) (.slice (some ⟨g, 0, none⟩) n cap) (L.set k x) ∧ w.grownBy ((w.setCell ⟨g, k * 2, none⟩ x.v).setCell ⟨g, k * 2 + 1, none⟩ (.int .i64 x.val)) (some g) := by
  obtain ⟨a1, a2⟩ := ent_store h.1 hn hk x
  refine ⟨⟨a1, fun y hy => ?_, pairwise_set k h.2.2 (fun y hy => ⟨hap y hy, (hap y hy).symm⟩)⟩, a2⟩
  rcases List.mem_or_eq_of_mem_set hy with hy | hy
  · exact h.names a2 y hy
  · rw [hy]; exact hx.grown a2 (apart_or (name_row hx h.1))
/-- The list behind j stores of a copy: j entries made, the others empty. -/
def madeTo (M : List Ent) (n : Nat) : List Ent := M ++ List.replicate (n - M.length) default
theorem madeTo_length {M : List Ent} {n : Nat} (h : M.length ≤ n) : (madeTo M n).length = n := by simp [madeTo]; omega
theorem madeTo_step {M : List Ent} {n : Nat} (h : M.length < n) (x : Ent) : (madeTo M n).set M.length x = madeTo (M ++ [x]) n := by
  unfold madeTo
  rw [List.set_append_right _ _ (Nat.le_refl _), Nat.sub_self, show n - M.length = (n - (M ++ [x]).length) + 1 by simp; omega, List.replicate_succ, List.set_cons_zero, List.append_assoc]
  rfl
theorem madeTo_all {M : List Ent} {n : Nat} (h : M.length = n) : madeTo M n = M := by simp [madeTo, h]

set_option maxHeartbeats 2000000 in
theorem toKeyS (v : Value) (T : List (List ByteArray × Int)) (w : World) (h : TabHolds w v T) (hl : T.length ≤ 100000000) (hs : ∀ t ∈ T, t.1.length ≤ 100000000) :
    Calls Try.prog 12 #[v] w fun e w' => ∃ v', e = .returned v' ∧ TabOwn w.heap.size w' v' T ∧ Below w.heap.size w w' := by
  obtain ⟨L, rfl, h⟩ := h
  obtain ⟨x, n, cap, rfl, hn, hcap, hh⟩ := h.shapeN
  obtain ⟨i0, hi, hz0, hz1, hz2⟩ := info_parts kindE.elem
  rw [strip_length, ← hn] at hl
  have HN := Lib.hid hn
  have HH := Lib.hid hh
  have HS := Lib.hid hs
  have HI := Lib.hid hi; have HZ0 := Lib.hid hz0; have HZ1 := Lib.hid hz1; have HZ2 := Lib.hid hz2
  clear hn h hh hi hz0 hz1 hz2 hs
  go_enter Try.func12, Try.ntmps12
  go_wp2_with (at_make; refine wpList_make_full _ rfl _ _ 25 rfl w.heap.size 67 i0 (.agg #[.slice none 0 0, .int .i64 0]) 2 Try.underlying25 HI.out HZ0.out HZ1.out _ _ _ _ n rfl rfl rfl rfl (by rw [HZ2.out]; omega) (by unfold maxLen; omega) (Nat.le_refl _) ?_)
  intro w1 hown hgrow
  have ho : TabO w.heap.size w1 (.slice (some ⟨w.heap.size, 0, none⟩) n n) (madeTo [] n) := by
    have e1 : madeTo [] n = List.replicate n default := by simp [madeTo]
    rw [e1]
    refine ⟨?_, ?_, ?_⟩
    · unfold OwnK
      rw [List.length_replicate, ← madeK szE (by decide) (z := .agg #[.slice none 0 0, .int .i64 0]) rfl n]
      exact hown
    · intro y hy
      rw [List.eq_of_mem_replicate hy]
      exact Own.nil _ _ _ _
    · rw [List.pairwise_replicate]
      exact Or.inr (fun g h1 => by cases h1)
  have HO := Lib.hid ho
  have HB := Lib.hid ((Below.refl w.heap.size w).grown hgrow (Nat.le_refl _) (fun g hg => by cases hg))
  clear ho hown hgrow
  go_wp2
  go_loopw [4] (fun i wr => ∃ j : Nat, j ≤ n ∧ i = .int .i64 j ∧ ∃ M : List Ent, Hid (M.length = j) ∧ Hid (strip M = (strip L).take j) ∧ Hid (TabO w.heap.size wr (.slice (some ⟨w.heap.size, 0, none⟩) n n) (madeTo M n)) ∧ Hid (Below w.heap.size w wr)) (fun i _ => n - (intOf i).toNat)
  case atStart => exact ⟨0, Nat.zero_le _, rfl, [], Lib.hid rfl, Lib.hid (by simp [strip]), HO, HB⟩
  case round =>
    obtain ⟨j, hj, rfl, M, hM, hst, ho, hb⟩ := hrel
    by_cases hlt : j < n
    · have hlen := HN.out
      obtain ⟨b, off, rfl, hc1, hc2, hnm⟩ := (HH.out.on hb.out).at (k := j) (by omega)
      have HNM := Lib.hid hnm
      have HPS := Lib.hid (HS.out _ (strip_mem (nth_mem (L := L) (k := j) (by omega))))
      have HST := Lib.hid (show (strip L).take (j + 1) = (strip L).take j ++ [(nth L j).t] by rw [List.take_succ_eq_append_getElem (by rw [strip_length]; omega), ← nth_eq, strip_nth (by omega)])
      clear hlen hnm
      go_wp2_with fail
      refine (toKey _ (nth L j).ps _ wr HNM.out HPS.out).mono ?_
      rintro e w1 ⟨v1, rfl, ho1, hb1⟩
      obtain ⟨x1, n1, c1, rfl, -, hc1', ho1⟩ := ho1.shapeN
      have HO1 := Lib.hid (ho.out.on hb1)
      have HA := Lib.hid (ho.out.fresh (fun g hg => (ho1.lt g hg).1))
      have HX := Lib.hid (ho1.mono hb.out.size)
      have HB1 := Lib.hid (hb.out.trans (hb1.mono hb.out.size))
      have hml : n = (madeTo M n).length := (madeTo_length (by have := hM.out; omega)).symm
      have hmj : j < (madeTo M n).length := by omega
      obtain ⟨⟨k1, k2⟩, ⟨k3, k4⟩, -⟩ := HO1.out.cells hml hmj
      obtain ⟨p1, p2⟩ := HO1.out.put hml hmj (x := ⟨x1, n1, c1, (nth L j).ps, (nth L j).val⟩) HX.out HA.out
      have HP1 := Lib.hid p1
      have HP2 := Lib.hid p2
      clear hc1 hc2 ho1 hb1 hml hmj p1 p2
      go_wp2
      go_roundw
      case rel =>
        refine ⟨j + 1, by omega, by go_num, M ++ [⟨x1, n1, c1, (nth L j).ps, (nth L j).val⟩], Lib.hid (by simp [hM.out]), Lib.hid ?_, Lib.hid ?_, Lib.hid (HB1.out.grown HP2.out HB1.out.size (fun g hg => by cases hg; exact Nat.le_refl _))⟩
        · rw [strip_append, hst.out, HST.out]; rfl
        · rw [← madeTo_step (by have := hM.out; omega), hM.out]; exact HP1.out
      case measure => simp [intOf]; omega
    · obtain rfl : j = n := by omega
      clear hlt
      go_wp2
      go_ret
      refine ⟨_, rfl, ⟨M, ?_, ?_⟩, hb.out⟩
      · rw [hst.out, List.take_of_length_le (by rw [strip_length, ← HN.out]; omega)]
      · have := ho.out
        rw [madeTo_all hM.out] at this
        exact this

/-- All names have parts few and small enough for the contracts. -/
def smT (T : List (List ByteArray × Int)) : Prop := ∀ t ∈ T, bulk t.1 ≤ 9000000
theorem smT_of {T : List (List ByteArray × Int)} (h : bulkT T ≤ 9000000) : smT T := fun t ht => Nat.le_trans (bulkT_mem ht) h
theorem smT_ps {L : List Ent} (h : smT (strip L)) {k : Nat} (hk : k < L.length) : bulk (nth L k).ps ≤ 9000000 := h _ (strip_mem (nth_mem hk))
theorem smT_psl {L : List Ent} (h : smT (strip L)) {k : Nat} (hk : k < L.length) : (nth L k).ps.length ≤ 9000000 := Nat.le_trans (bulk_len _) (smT_ps h hk)
def eqT (l m : List (List ByteArray × Int)) : Bool := decide (l = m)
theorem eqT_self (l : List (List ByteArray × Int)) : eqT l l = true := by simp [eqT]
theorem eqT_true {l m : List (List ByteArray × Int)} (h : l = m) : eqT l m = true := by simp [eqT, h]
theorem eqT_false {l m : List (List ByteArray × Int)} (h : l ≠ m) : eqT l m = false := by simp [eqT, h]

theorem eqKey (v u : Value) (x y : List ByteArray × Int) (w : World) (q : Bool) (hq : decide (x = y) = q) (h : Holds Value.string w v x.1) (g : Holds Value.string w u y.1) (hl : x.1.length ≤ 140737488351232) (hm : y.1.length ≤ 140737488351232) :
    Calls Try.prog 43 #[.agg #[v, .int .i64 x.2], .agg #[u, .int .i64 y.2]] w fun e w' => e = .returned (.bool q) ∧ Below w.heap.size w w' := by
  obtain ⟨ps, a⟩ := x
  obtain ⟨qs, b⟩ := y
  simp only at h g hl hm ⊢
  obtain ⟨x, n, cap, rfl, -, hcap, hh⟩ := h.shapeN
  obtain ⟨y, m, cap', rfl, -, hcap', hg⟩ := g.shapeN
  have HB := Lib.hid (((Below.refl w.heap.size w).alloc (Nat.le_refl _) (.cells #[.slice x n cap, .int .i64 a] 67)).alloc (Nat.le_trans (Nat.le_refl _) (by simp)) (.cells #[.slice y m cap', .int .i64 b] 67))
  have HH := Lib.hid (hh.on HB.out); have HG := Lib.hid (hg.on HB.out)
  have HQ := Lib.hid hq
  clear hh hg h g hq
  go_enter Try.func43, Try.ntmps43
  go_wp2_with fail
  refine (eqName _ _ ps qs _ HH.out HG.out hl hm).mono ?_
  rintro e w1 ⟨rfl, hb⟩
  have hq0 : w1.cell? ⟨w.heap.size, 1, none⟩ = some (.int .i64 a) := by rw [hb.cell (by simp <;> omega), World.cell?_alloc_past _ _ _ (by simp <;> omega), World.cell?_alloc_at _ _ _ _ rfl]; rfl
  have hq1 : w1.cell? ⟨w.heap.size + 1, 1, none⟩ = some (.int .i64 b) := by rw [hb.cell (by simp <;> omega), World.cell?_alloc_at _ _ _ _ (by simp)]; rfl
  have HB2 := Lib.hid (HB.out.trans (hb.mono HB.out.size)); clear hb
  by_cases he : ps = qs
  · rw [eqB_true he]
    by_cases hv : a = b
    · have HE : Hid (q = true) := Lib.hid (by rw [← HQ.out]; simp [he, hv])
      have ht : (a != b) = false := by simp [hv]
      clear he hv
      go_wp2
      go_ret
      exact ⟨ret_bool HE.out.symm, HB2.out⟩
    · have HE : Hid (q = false) := Lib.hid (by rw [← HQ.out]; simp [hv])
      have ht : (a != b) = true := by simpa using hv
      clear he hv
      go_wp2
      go_ret
      exact ⟨ret_bool HE.out.symm, HB2.out⟩
  · rw [eqB_false he]
    have HE : Hid (q = false) := Lib.hid (by rw [← HQ.out]; simp [he])
    clear he
    go_wp2
    go_ret
    exact ⟨ret_bool HE.out.symm, HB2.out⟩

theorem eqKeyS_len (x y : Option Addr) (n m cx cy : Nat) (w : World) (h : (((n : Nat) : Int) != ((m : Nat) : Int)) = true) :
    Calls Try.prog 14 #[.slice x n cx, .slice y m cy] w fun e w' => e = .returned (.bool false) ∧ w = w' := by
  go_enter Try.func14, Try.ntmps14
  go_wp2
  go_ret
  exact ⟨rfl, rfl⟩

/-- All names are of lengths for the contracts. -/
def lnT (T : List (List ByteArray × Int)) : Prop := ∀ t ∈ T, t.1.length ≤ 9000000
theorem lnT_psl {L : List Ent} (h : lnT (strip L)) {k : Nat} (hk : k < L.length) : (nth L k).ps.length ≤ 9000000 := h _ (strip_mem (nth_mem hk))

set_option maxHeartbeats 4000000 in
theorem eqKeyS (v u : Value) (T U : List (List ByteArray × Int)) (w : World) (h : TabHolds w v T) (g : TabHolds w u U) (hl : T.length ≤ 140737488351232) (hm : U.length ≤ 140737488351232) (hT : lnT T) (hU : lnT U) :
    Calls Try.prog 14 #[v, u] w fun e w' => e = .returned (.bool (eqT T U)) ∧ Below w.heap.size w w' := by
  obtain ⟨L, rfl, h⟩ := h
  obtain ⟨M, rfl, g⟩ := g
  obtain ⟨x, n, cx, rfl, hn, hcx, hh⟩ := h.shapeN
  obtain ⟨y, m, cy, rfl, hm2, hcy, hg⟩ := g.shapeN
  rw [strip_length, ← hn] at hl
  rw [strip_length, ← hm2] at hm
  by_cases he : n = m
  · subst he
    have HN := Lib.hid hn
    have HM := Lib.hid hm2
    have HH := Lib.hid hh
    have HG := Lib.hid hg
    have HT := Lib.hid hT
    have HU := Lib.hid hU
    have htest : (((n : Nat) : Int) != ((n : Nat) : Int)) = false := by simp
    clear hn h hh g hg hm2 hT hU hm
    go_enter Try.func14, Try.ntmps14
    go_wp2
    go_loopw [5] (fun i wr => ∃ k : Nat, k ≤ n ∧ i = .int .i64 k ∧ Hid (agree (strip L) (strip M) k) ∧ Hid (Below w.heap.size w wr)) (fun i _ => n - (intOf i).toNat)
    case atStart => exact ⟨0, Nat.zero_le _, rfl, Lib.hid (agree_zero _ _), Lib.hid (Below.refl _ _)⟩
    case round =>
      obtain ⟨k, hk, rfl, ha, hb⟩ := hrel
      by_cases hlt : k < n
      · have hlen := HN.out
        have hlen2 := HM.out
        obtain ⟨b, off, rfl, hc, hd, hnm⟩ := (HH.out.on hb.out).at (k := k) (by omega)
        obtain ⟨b', off', rfl, hc', hd', hnm'⟩ := (HG.out.on hb.out).at (k := k) (by omega)
        have HL := Lib.hid (lnT_psl HT.out (k := k) (by omega)); have HL' := Lib.hid (lnT_psl HU.out (k := k) (by omega))
        have e1 := strip_nth (L := L) (k := k) (by omega)
        have e2 := strip_nth (L := M) (k := k) (by omega)
        have HC := Lib.hid hc; have HD := Lib.hid hd; have HC' := Lib.hid hc'; have HD' := Lib.hid hd'
        have HNM := Lib.hid hnm; have HNM' := Lib.hid hnm'
        by_cases hq : (nth L k).t = (nth M k).t
        · have HE1 : Hid (decide ((nth L k).t = (nth M k).t) = true) := Lib.hid (decide_eq_true hq)
          have HA := Lib.hid (agree_succ ha.out (by rw [e1, e2, hq]))
          clear hq hlen hlen2 e1 e2 hc hd hc' hd' hnm hnm'
          go_wp2_with fail
          go_region_held3 (fun w' => w'.cell? ⟨b, off + k * 2, none⟩ = some (.slice (nth L k).ad (nth L k).n (nth L k).cap) ∧ w'.cell? ⟨b, off + k * 2 + 1, none⟩ = some (.int .i64 (nth L k).val) ∧ w'.cell? ⟨b', off' + k * 2, none⟩ = some (.slice (nth M k).ad (nth M k).n (nth M k).cap) ∧ w'.cell? ⟨b', off' + k * 2 + 1, none⟩ = some (.int .i64 (nth M k).val) ∧ Below w.heap.size w w') (first | exact keep4 HC.out HD.out HC'.out HD'.out hb.out (Below.refl _ _).drew | exact keep4 HC.out HD.out HC'.out HD'.out hb.out (hb1.mono (Nat.le_refl _)) | exact keep4 HC.out HD.out HC'.out HD'.out hb.out ((Below.refl _ _).drew.trans (hb1.mono (Nat.le_refl _)))) ((go_at_call 43; refine (eqKey _ _ (nth L k).t (nth M k).t _ _ HE1.out (HNM.out.on (Below.refl _ _).drew) (HNM'.out.on (Below.refl _ _).drew) (Nat.le_trans HL.out (by decide)) (Nat.le_trans HL'.out (by decide))).mono ?_; rintro e w1 ⟨rfl, hb1⟩))
          all_goals
            have HB2 := Lib.hid (hb.out.drew.trans (hb1.mono hb.out.size))
            clear hb1
            go_wp2_with fail
            go_roundw
            case rel => exact ⟨k + 1, by omega, by go_num, HA, HB2⟩
            case measure => simp [intOf]; omega
        · have HE1 : Hid (decide ((nth L k).t = (nth M k).t) = false) := Lib.hid (decide_eq_false hq)
          have HA := Lib.hid (eqT_false (differ_at (k := k) (a := strip L) (b := strip M) (by rw [e1, e2]; exact hq)))
          clear hq hlen hlen2 e1 e2 hc hd hc' hd' hnm hnm'
          go_wp2_with fail
          go_region_held3 (fun w' => w'.cell? ⟨b, off + k * 2, none⟩ = some (.slice (nth L k).ad (nth L k).n (nth L k).cap) ∧ w'.cell? ⟨b, off + k * 2 + 1, none⟩ = some (.int .i64 (nth L k).val) ∧ w'.cell? ⟨b', off' + k * 2, none⟩ = some (.slice (nth M k).ad (nth M k).n (nth M k).cap) ∧ w'.cell? ⟨b', off' + k * 2 + 1, none⟩ = some (.int .i64 (nth M k).val) ∧ Below w.heap.size w w') (first | exact keep4 HC.out HD.out HC'.out HD'.out hb.out (Below.refl _ _).drew | exact keep4 HC.out HD.out HC'.out HD'.out hb.out (hb1.mono (Nat.le_refl _)) | exact keep4 HC.out HD.out HC'.out HD'.out hb.out ((Below.refl _ _).drew.trans (hb1.mono (Nat.le_refl _)))) ((go_at_call 43; refine (eqKey _ _ (nth L k).t (nth M k).t _ _ HE1.out (HNM.out.on (Below.refl _ _).drew) (HNM'.out.on (Below.refl _ _).drew) (Nat.le_trans HL.out (by decide)) (Nat.le_trans HL'.out (by decide))).mono ?_; rintro e w1 ⟨rfl, hb1⟩))
          all_goals
            have HB2 := Lib.hid (hb.out.drew.trans (hb1.mono hb.out.size))
            clear hb1
            go_wp2_with fail
            go_ret
            exact ⟨ret_bool HA.out.symm, HB2.out⟩
      · obtain rfl : k = n := by omega
        have HD := Lib.hid (eqT_true (agree_all (a := strip L) (b := strip M) (by rw [strip_length, strip_length, ← HN.out, ← HM.out]) (by rw [strip_length, ← HN.out]; exact ha.out)))
        clear hlt
        go_wp2
        go_ret
        exact ⟨ret_bool HD.out.symm, hb.out⟩
  · have htest : (((n : Nat) : Int) != ((m : Nat) : Int)) = true := by
      rw [bne_iff_ne]; omega
    rw [eqT_false (fun e => he (by have := congrArg List.length e; rw [strip_length, strip_length] at this; omega))]
    exact (eqKeyS_len x y _ _ cx cy w htest).mono fun e w' ⟨h1, h2⟩ => ⟨h1, by subst h2; exact Below.refl _ _⟩
end Go.Proofs.Ytnblopilgfdjkaa.Row.Ring
/- Contracts of CompareNames and EqualNames, the program's and the reference model's, and of the library's Compare and Equal on slices of strings: parts are compared one by one, byte by byte, then the lengths. No conditions but that lengths fit. -/
namespace Go.Proofs.Ytnblopilgfdjkaa.Row
open Go.ChangeShapes Go.WideShapes Go.ChangeAt Go.RowKit Go.Instr
set_option linter.unusedVariables false
set_option maxRecDepth 100000

def cmpS (a b : ByteArray) : Int := if Op.bytesLess a.toList b.toList = true then -1 else if a.toList = b.toList then 0 else 1
theorem cmpS_lt {a b : ByteArray} (h : Op.bytesLess a.toList b.toList = true) : cmpS a b = -1 := by simp [cmpS, h]
theorem cmpS_eq {a b : ByteArray} (h : Op.bytesLess a.toList b.toList = false) (he : (a.toList == b.toList) = true) : cmpS a b = 0 := by
  have : a.toList = b.toList := by simpa using he
  rw [cmpS, h, this]; simp
theorem cmpS_gt {a b : ByteArray} (h : Op.bytesLess a.toList b.toList = false) (he : (a.toList == b.toList) = false) : cmpS a b = 1 := by
  have : a.toList ≠ b.toList := by simpa using he
  simp [cmpS, h, this]
theorem cmpS_in (a b : ByteArray) : -1 ≤ cmpS a b ∧ cmpS a b ≤ 1 := by
  unfold cmpS; split
  · omega
  · split <;> omega
def cmpL : List ByteArray → List ByteArray → Int
  | [], [] => 0
  | [], _ :: _ => -1
  | _ :: _, [] => 1
  | a :: x, b :: y => if cmpS a b = 0 then cmpL x y else cmpS a b
theorem drop_nth {α : Type} [Inhabited α] {l : List α} {k : Nat} (h : k < l.length) : l.drop k = nth l k :: l.drop (k + 1) := by
  rw [nth_eq h]; exact List.drop_eq_getElem_cons h
theorem cmpL_same {a b : List ByteArray} {k : Nat} (h : k < a.length) (g : k < b.length) (hc : cmpS (nth a k) (nth b k) = 0) : cmpL (a.drop k) (b.drop k) = cmpL (a.drop (k + 1)) (b.drop (k + 1)) := by
  rw [drop_nth h, drop_nth g]; simp [cmpL, hc]
theorem cmpL_diff {a b : List ByteArray} {k : Nat} (h : k < a.length) (g : k < b.length) (hc : cmpS (nth a k) (nth b k) ≠ 0) : cmpL (a.drop k) (b.drop k) = cmpS (nth a k) (nth b k) := by
  rw [drop_nth h, drop_nth g]; simp [cmpL, hc]
theorem cmpL_long {a b : List ByteArray} {k : Nat} (h : k < a.length) (g : k = b.length) : cmpL (a.drop k) (b.drop k) = 1 := by
  rw [drop_nth h, g, List.drop_length]; rfl
theorem cmpL_short {a b : List ByteArray} {k : Nat} (h : k = a.length) (g : k < b.length) : cmpL (a.drop k) (b.drop k) = -1 := by
  rw [drop_nth g, h, List.drop_length]; rfl
theorem cmpL_both {a b : List ByteArray} {k : Nat} (h : k = a.length) (g : k = b.length) : cmpL (a.drop k) (b.drop k) = 0 := by
  rw [h, List.drop_length, ← h, g, List.drop_length]; rfl
set_option maxHeartbeats 1000000 in
theorem l4Cmp (a b : ByteArray) (w : World) : Calls Try.prog 105 #[.string a, .string b] w fun e w' => e = .returned (.int .i64 (cmpS a b)) ∧ w = w' := by
  cases h : Op.bytesLess a.toList b.toList with
  | true =>
    have HC := Lib.hid (cmpS_lt h)
    go_enter Try.func105, Try.ntmps105
    go_wp2
    go_ret
    exact ⟨ret_int HC.out.symm, rfl⟩
  | false =>
    cases he : (a.toList == b.toList) with
    | true =>
      have HC := Lib.hid (cmpS_eq h he)
      go_enter Try.func105, Try.ntmps105
      go_wp2
      go_ret
      exact ⟨ret_int HC.out.symm, rfl⟩
    | false =>
      have HC := Lib.hid (cmpS_gt h he)
      go_enter Try.func105, Try.ntmps105
      go_wp2
      go_ret
      exact ⟨ret_int HC.out.symm, rfl⟩

theorem quiet_add_left {P : Program} {f : FuncId} {args : Array Value} {w : World} {a n : Nat} {v : Value}
    (h : Calls P f args (w.drewN (a + n)) fun e w' => e = .returned v ∧ w.drewN (a + n) = w') :
    Calls P f args (w.drewN (a + n)) fun e w'' => e = .returned v ∧ ∃ m, w'' = w.drewN (a + m) :=
  h.mono fun _ _ ⟨he, hm⟩ => ⟨he, n, hm.symm⟩
theorem quiet_left {P : Program} {f : FuncId} {args : Array Value} {w : World} {n : Nat} {v : Value}
    (h : Calls P f args (w.drewN n) fun e w' => e = .returned v ∧ w.drewN n = w') : Calls P f args (w.drewN n) fun e w'' => e = .returned v ∧ ∃ m, w'' = w.drewN m :=
  h.mono fun _ _ ⟨he, hm⟩ => ⟨he, n, hm.symm⟩
theorem l4CmpV (a b : ByteArray) (c : Int) (w : World) (h : cmpS a b = c) : Calls Try.prog 105 #[.string a, .string b] w fun e w' => e = .returned (.int .i64 c) ∧ w = w' := h ▸ l4Cmp a b w

set_option maxHeartbeats 1000000 in
theorem specCompareNames (v u : Value) (l m : List ByteArray) (w : World) (h : Holds Value.string w v l) (g : Holds Value.string w u m) (hl : l.length ≤ 140737488351232) (hm : m.length ≤ 140737488351232) :
    Calls Try.prog 94 #[.agg #[v], .agg #[u]] w fun e w' => e = .returned (.int .i64 (cmpL l m)) ∧ Below w.heap.size w w' := by
  obtain ⟨x, cx, rfl, hcx, hh⟩ := h.shape
  obtain ⟨y, cy, rfl, hcy, hg⟩ := g.shape
  obtain ⟨n, hn⟩ : ∃ n, n = l.length := ⟨_, rfl⟩
  obtain ⟨q, hq⟩ : ∃ q, q = m.length := ⟨_, rfl⟩
  rw [← hn] at hcx hh hl ⊢
  rw [← hq] at hcy hg hm ⊢
  have HB := Lib.hid (((Below.refl w.heap.size w).alloc (Nat.le_refl _) (.cells #[.slice x n cx] 34)).alloc (Nat.le_trans (Nat.le_refl _) (by simp)) (.cells #[.slice y q cy] 34))
  have HN := Lib.hid hn; have HQ := Lib.hid hq; have HH := Lib.hid (hh.on HB.out); have HG := Lib.hid (hg.on HB.out)
  clear hn hq h hh g hg
  go_enter Try.func94, Try.ntmps94
  go_wp2_with fail
  go_loopw [5] (fun i wr => ∃ k nq : Nat, k ≤ n ∧ k ≤ q ∧ i = .int .i64 k ∧ wr = ((w.alloc (.cells #[.slice x n cx] 34)).alloc (.cells #[.slice y q cy] 34)).drewN nq ∧ Hid (cmpL l m = cmpL (l.drop k) (m.drop k))) (fun i _ => n - (intOf i).toNat)
  case atStart => exact ⟨0, 0, Nat.zero_le _, Nat.zero_le _, rfl, rfl, Lib.hid (by simp)⟩
  case round =>
    obtain ⟨k, nq, hk, hkq, rfl, rfl, hc⟩ := hrel
    by_cases hlt : k < n
    · have hlen := HN.out
      by_cases hlq : k < q
      · have hlen2 := HQ.out
        obtain ⟨b, off, rfl, hcx1⟩ := HH.out.at (j := k) (by omega)
        obtain ⟨b', off', rfl, hcy1⟩ := HG.out.at (j := k) (by omega)
        by_cases hd : cmpS (nth l k) (nth m k) = 0
        · have HC := Lib.hid (hc.out.trans (cmpL_same (by omega) (by omega) hd))
          have HD := Lib.hid hd
          clear hlen hlen2 hd
          go_wp2_with fail
          go_quiet ((go_at_call 105; first | exact quiet_add_left (l4CmpV _ _ 0 _ HD.out) | exact quiet_left (l4CmpV _ _ 0 _ HD.out)))
          go_wp2_with fail
          go_roundw
          case rel => exact ⟨k + 1, _, by omega, by omega, by go_num, rfl, HC⟩
          case measure => simp [intOf]; omega
        · have HC := Lib.hid (hc.out.trans (cmpL_diff (by omega) (by omega) hd))
          obtain ⟨c, hce⟩ : ∃ c, c = cmpS (nth l k) (nth m k) := ⟨_, rfl⟩
          have HE := Lib.hid hce
          rw [← hce] at hd
          have hd2 : (c != 0) = true := by simpa using hd
          have hcin := cmpS_in (nth l k) (nth m k)
          rw [← hce] at hcin
          obtain ⟨hc1, hc2⟩ := hcin
          clear hlen hlen2 hd hce
          go_wp2_with fail
          go_quiet ((go_at_call 105; first | exact quiet_add_left (l4CmpV _ _ c _ HE.out.symm) | exact quiet_left (l4CmpV _ _ c _ HE.out.symm)))
          go_wp2_with fail
          go_ret
          exact ⟨ret_int (HE.out.trans HC.out.symm), below_drewN HB.out _⟩
      · obtain rfl : k = q := by omega
        have HC := Lib.hid (hc.out.trans (cmpL_long (by omega) HQ.out))
        clear hlen
        go_wp2
        go_ret
        exact ⟨ret_int HC.out.symm, below_drewN HB.out _⟩
    · obtain rfl : k = n := by omega
      by_cases hlq : k < q
      · have HC := Lib.hid (hc.out.trans (cmpL_short HN.out (by have := HQ.out; omega)))
        go_wp2
        go_ret
        exact ⟨ret_int HC.out.symm, below_drewN HB.out _⟩
      · obtain rfl : k = q := by omega
        have HC := Lib.hid (hc.out.trans (cmpL_both HN.out HQ.out))
        go_wp2
        go_ret
        exact ⟨ret_int HC.out.symm, below_drewN HB.out _⟩

end Go.Proofs.Ytnblopilgfdjkaa.Row
/- Contracts of the helpers by which the laws mark tables and look at the marks. No conditions but that lengths fit. -/
namespace Go.Proofs.Ytnblopilgfdjkaa.Row.Ring
open Go.ChangeShapes Go.WideShapes Go.ChangeAt Go.RowKit Go.Instr
set_option linter.unusedVariables false
set_option maxRecDepth 100000

/-- How many numbers a marking takes: one a part, one an entry. -/
def adv : List (List ByteArray × Int) → Nat
  | [] => 0
  | x :: r => x.1.length + 1 + adv r
theorem adv_append : ∀ (a b : List (List ByteArray × Int)), adv (a ++ b) = adv a + adv b
  | [], b => by simp [adv]
  | x :: a, b => by simp [adv, adv_append a b]; omega
theorem adv_bulk : ∀ T : List (List ByteArray × Int), adv T ≤ bulkT T
  | [] => by simp [adv]
  | x :: r => by
    have h1 := adv_bulk r
    have h2 := bulk_len x.1
    have e : bulkT (x :: r) = bulk x.1 + 1 + bulkT r := by simp [bulkT, bulkTTo]; omega
    rw [e]
    simp only [adv]
    omega
theorem adv_len : ∀ T : List (List ByteArray × Int), T.length ≤ adv T
  | [] => by simp
  | x :: r => by have := adv_len r; simp [adv]; omega
theorem adv_take {T : List (List ByteArray × Int)} {j : Nat} (h : j < T.length) : adv (T.take (j + 1)) = adv (T.take j) + (nth T j).1.length + 1 := by
  rw [List.take_succ_eq_append_getElem h, adv_append, nth_eq h]; simp [adv]; omega
theorem adv_take_le (T : List (List ByteArray × Int)) (j : Nat) : adv (T.take j) ≤ adv T := by
  have := adv_append (T.take j) (T.drop j)
  rw [List.take_append_drop] at this; omega
/-- A table as a marking from k on leaves it. -/
def markTb (k : Int) : List (List ByteArray × Int) → List (List ByteArray × Int)
  | [] => []
  | x :: r => (marks markT k x.1.length, k + x.1.length) :: markTb (k + x.1.length + 1) r
theorem markTb_append (k : Int) : ∀ (a b : List (List ByteArray × Int)), markTb k (a ++ b) = markTb k a ++ markTb (k + adv a) b
  | [], b => by simp [markTb, adv]
  | x :: a, b => by
    simp only [List.cons_append, markTb, adv, markTb_append _ a b]
    congr 3
    simp; omega
theorem markTb_length (k : Int) : ∀ T, (markTb k T).length = T.length
  | [] => rfl
  | x :: r => by simp [markTb, markTb_length _ r]
theorem markTb_at (k : Int) (T : List (List ByteArray × Int)) {j : Nat} (h : j < T.length) : nth (markTb k T) j = (marks markT (k + adv (T.take j)) (nth T j).1.length, k + adv (T.take j) + (nth T j).1.length) := by
  have e : T = T.take j ++ T[j] :: T.drop (j + 1) := by rw [List.getElem_cons_drop, List.take_append_drop]
  have h2 : (markTb k (T.take j)).length = j := by rw [markTb_length]; simp; omega
  rw [nth_eq h]
  conv => lhs; rw [e, markTb_append]
  simp only [nth, List.getD, markTb]
  rw [List.getElem?_append_right (by omega), h2]
  simp
theorem drop_nth' {α : Type} [Inhabited α] {l : List α} {k : Nat} (h : k < l.length) : l.drop k = nth l k :: l.drop (k + 1) := by
  rw [nth_eq h, List.getElem_cons_drop]
def Ent.setPs (x : Ent) (ps : List ByteArray) : Ent := ⟨x.ad, x.n, x.cap, ps, x.val⟩
def Ent.setVal (x : Ent) (a : Int) : Ent := ⟨x.ad, x.n, x.cap, x.ps, a⟩
/-- An entry as it lies, marked. -/
def Ent.marked (x : Ent) (k : Int) : Ent := ⟨x.ad, x.n, x.cap, marks markT k x.ps.length, k + x.ps.length⟩

theorem pairwise_same {L M : List Ent} (h : L.Pairwise (fun a b => Apart a.v b.v)) (e : M.map Ent.v = L.map Ent.v) : M.Pairwise (fun a b => Apart a.v b.v) := by
  have h1 : (L.map Ent.v).Pairwise Apart := by rw [List.pairwise_map]; exact h
  rw [← e, List.pairwise_map] at h1
  exact h1
/-- Writing one name leaves the others and the row. -/
theorem TabO.named {B : Nat} {w w' : World} {v : Value} {L : List Ent} (h : TabO B w v L) {k : Nat} (hk : k < L.length) {ps : List ByteArray} (ho : Own 9 Value.string B w' (nth L k).v ps) (hg : w.grownBy w' (nth L k).v.ownBlock) :
    TabO B w' v (L.set k ((nth L k).setPs ps)) := by
  have hrow : OwnK 67 encE 2 B w' v L := h.1.grown hg (by
    cases hv : v.ownBlock with
    | none => exact Or.inl rfl
    | some g => exact Or.inr fun e => name_row (h.2.1 _ (nth_mem hk)) h.1 g e.symm hv)
  have henc : flat encE (L.set k ((nth L k).setPs ps)) = flat encE L := by
    unfold flat
    rw [List.flatMap_def, List.flatMap_def, List.map_set]
    congr 1
    have : encE ((nth L k).setPs ps) = (L.map encE)[k]'(by simpa using hk) := by simp [encE, Ent.v, Ent.setPs, nth_eq hk]
    rw [this, List.set_getElem_self]
  refine ⟨?_, fun y hy => ?_, ?_⟩
  · unfold OwnK at *
    rw [List.length_set, henc]; exact hrow
  · obtain ⟨i, hi, rfl⟩ := List.getElem_of_mem hy
    rw [List.length_set] at hi
    by_cases e : k = i
    · subst e
      rw [List.getElem_set_self]
      exact ho
    · rw [List.getElem_set_ne e]
      refine (h.2.1 _ (List.getElem_mem _)).grown hg (apart_or ?_)
      have := List.pairwise_iff_getElem.1 h.2.2
      have hkk := nth_eq hk
      generalize nth L k = z at *
      subst hkk
      have hi : i < L.length := by simpa using hi
      show Apart (L[i]'hi).v (L[k]'hk).v
      rcases Nat.lt_or_gt_of_ne e with e | e
      · exact (this k i hk hi e).symm
      · exact this i k hi hk e
  · refine pairwise_same h.2.2 ?_
    rw [List.map_set]
    have : Ent.v ((nth L k).setPs ps) = (L.map Ent.v)[k]'(by simpa using hk) := by simp [Ent.v, Ent.setPs, nth_eq hk]
    rw [this, List.set_getElem_self]
/-- A number is stored. -/
theorem TabO.valued {B : Nat} {w : World} {g n cap : Nat} {L : List Ent} (h : TabO B w (.slice (some ⟨g, 0, none⟩) n cap) L) (hn : n = L.length) {k : Nat} (hk : k < L.length) (a : Int) :
    TabO B (w.setCell ⟨g, k * 2 + 1, none⟩ (.int .i64 a)) (.slice (some ⟨g, 0, none⟩) n cap) (L.set k ((nth L k).setVal a)) ∧ w.grownBy (w.setCell ⟨g, k * 2 + 1, none⟩ (.int .i64 a)) (some g) := by
  obtain ⟨a1, a2⟩ := ownK_store szE h.1 hn hk (i := 1) (by decide) (y := ((nth L k).setVal a)) (u := .int .i64 a) rfl
  refine ⟨h.row a1 a2 (fun y hy => ?_) ?_, a2⟩
  · rcases List.mem_or_eq_of_mem_set hy with hy | hy
    · exact ⟨y, hy, rfl, rfl⟩
    · exact ⟨_, nth_mem hk, by rw [hy]; rfl, by rw [hy]; rfl⟩
  · refine pairwise_same h.2.2 ?_
    rw [List.map_set]
    have : Ent.v ((nth L k).setVal a) = (L.map Ent.v)[k]'(by simpa using hk) := by simp [Ent.v, Ent.setVal, nth_eq hk]
    rw [this, List.set_getElem_self]

set_option maxHeartbeats 4000000 in
/-- Marking: every part and every number of a table of the call's own is written. -/
theorem markKeyS (B E : Nat) (v : Value) (T : List (List ByteArray × Int)) (w : World) (k : Int) (h : TabIn B E w v T) (hl : adv T ≤ 100000000) (h0 : 0 ≤ k) (h1 : k ≤ 10000000000) :
    Calls Try.prog 25 #[v, .int .i64 k] w fun e w' => e = .returned (.int .i64 (k + adv T)) ∧ TabIn B E w' v (markTb k T) ∧ Wrote B E w w' := by
  obtain ⟨L, rfl, h, hE, hE2⟩ := h
  rcases h.1.form with ⟨rfl, rfl⟩ | ⟨g, cap, rfl, g1, g2, g3, g4⟩
  · have H := Lib.hid h; clear h hE hE2
    go_enter Try.func25, Try.ntmps25
    go_wp2
    refine wp_loop_rounds 1 ?_
    rw [rounds_succ]
    go_wp2
    go_ret
    exact ⟨ret_int (by simp [strip, adv]), ⟨[], rfl, H.out, by simp [Value.ownBlock], by simp⟩, Wrote.refl _ _ _⟩
  · obtain ⟨n, hn⟩ : ∃ n, n = L.length := ⟨_, rfl⟩
    have hgE : g < E := hE g rfl
    have hln : n ≤ 100000000 := by have := adv_len (strip L); rw [strip_length] at this; omega
    rw [← hn] at h g3 hE ⊢
    have HN := Lib.hid hn
    have HE2 := Lib.hid hE2
    have HADV := Lib.hid (fun j => adv_take_le (strip L) j)
    have HST := Lib.hid (fun j (h : j < L.length) => adv_take (T := strip L) (j := j) (by rw [strip_length]; exact h))
    have HB : Hid (TabO B w (.slice (some ⟨g, 0, none⟩) n cap) ([] ++ L.drop 0)) := by simpa using Lib.hid h
    clear hn h hE hE2
    go_enter Try.func25, Try.ntmps25
    go_wp2
    go_loopw [1, 5] (fun kv i wr => ∃ j : Nat, j ≤ n ∧ i = .int .i64 j ∧ kv = .int .i64 (k + adv ((strip L).take j)) ∧ ∃ M : List Ent, Hid (M.length = j ∧ strip M = markTb k ((strip L).take j) ∧ M.map Ent.v = (L.take j).map Ent.v) ∧ Hid (TabO B wr (.slice (some ⟨g, 0, none⟩) n cap) (M ++ L.drop j)) ∧ Hid (Wrote B E w wr)) (fun _ i _ => n - (intOf i).toNat)
    case atStart => exact ⟨0, Nat.zero_le _, rfl, by simp [adv], [], Lib.hid ⟨rfl, rfl, rfl⟩, HB, Lib.hid (Wrote.refl _ _ _)⟩
    case round =>
      obtain ⟨j, hj, rfl, rfl, M, hM, ho, hg⟩ := hrel
      by_cases hlt : j < n
      · have hn := HN.out
        have hlen : n = (M ++ L.drop j).length := by rw [List.length_append, hM.out.1, List.length_drop]; omega
        have hlt2 : j < (M ++ L.drop j).length := by omega
        have hnj : nth (M ++ L.drop j) j = nth L j := by
          simp only [nth, List.getD]
          rw [List.getElem?_append_right (by rw [hM.out.1]; exact Nat.le_refl _), hM.out.1]
          simp
        obtain ⟨⟨k1, k2⟩, -, hnm⟩ := ho.out.cells hlen hlt2
        rw [hnj] at k1 hnm
        have hps : nth (strip L) j = (nth L j).t := strip_nth (by omega)
        have hst := HST.out j (by omega)
        rw [hps] at hst
        have hst : adv ((strip L).take (j + 1)) = adv ((strip L).take j) + (nth L j).ps.length + 1 := hst
        have hadv := HADV.out j
        have hadv2 := HADV.out (j + 1)
        have HNM := Lib.hid hnm
        have HSTP := Lib.hid hst; have HLEN := Lib.hid hlen; have HLT2 := Lib.hid hlt2; have HNJ := Lib.hid hnj
        have hpl : (nth L j).ps.length ≤ 100000000 := by omega
        have ha0 : (adv ((strip L).take j) : Int) ≤ 100000000 := by omega
        clear hn hlen hlt2 hnj hps hst hadv hadv2 hnm
        go_wp2_with fail
        refine (markStringS B _ (nth L j).ps wr (k + adv ((strip L).take j)) HNM.out hpl (by omega) (by omega)).mono ?_
        rintro e w1 ⟨rfl, ho1, hg1⟩
        have HO1 := Lib.hid (TabO.named ho.out HLT2.out (ps := marks markT (k + adv ((strip L).take j)) (nth L j).ps.length) (by rw [HNJ.out]; exact ho1) (by rw [HNJ.out]; exact hg1))
        have HG1 := Lib.hid (hg.out.trans (Wrote.of hg1 (fun b hb => ⟨((HNM.out.lt b hb)).1, HE2.out _ (nth_mem (by have := HN.out; omega)) b hb⟩)))
        obtain ⟨-, ⟨k3, k4⟩, -⟩ := HO1.out.cells (by rw [List.length_set]; exact HLEN.out) (k := j) (by rw [List.length_set]; exact HLT2.out)
        obtain ⟨p1, p2⟩ := HO1.out.valued (by rw [List.length_set]; exact HLEN.out) (k := j) (by rw [List.length_set]; exact HLT2.out) (k + adv ((strip L).take j) + (nth L j).ps.length)
        rw [nth_set HLT2.out, List.set_set] at p1
        have HP1 := Lib.hid p1
        have HP2 := Lib.hid p2
        clear k1 k2 ho1 hg1 p1 p2
        go_wp2_with fail
        go_roundw
        case rel =>
          refine ⟨j + 1, by omega, by go_num, ?_, M ++ [(nth L j).marked (k + adv ((strip L).take j))], Lib.hid ⟨?_, ?_, ?_⟩, Lib.hid ?_, Lib.hid (HG1.out.trans (Wrote.of HP2.out (fun b hb => by cases hb; exact ⟨by omega, by omega⟩)))⟩
          · rw [HSTP.out]; go_num
          · simp [hM.out.1]
          · have e1 : (strip L).take (j + 1) = (strip L).take j ++ [(nth L j).t] := by
              have := HN.out
              rw [List.take_succ_eq_append_getElem (by rw [strip_length]; omega), ← nth_eq, strip_nth (by omega)]
            rw [e1, markTb_append, strip_append, hM.out.2.1]
            rfl
          · have e1 : L.take (j + 1) = L.take j ++ [nth L j] := by
              have := HN.out
              rw [List.take_succ_eq_append_getElem (by omega), nth_eq (by omega)]
            rw [e1, List.map_append, List.map_append, hM.out.2.2]
            rfl
          · have := HP1.out
            rw [HNJ.out] at this
            have e2 : (M ++ L.drop j).set j ((nth L j).marked (k + adv ((strip L).take j))) = M ++ [(nth L j).marked (k + adv ((strip L).take j))] ++ L.drop (j + 1) := by
              have := HN.out
              rw [List.set_append_right _ _ (by rw [hM.out.1]; exact Nat.le_refl _), hM.out.1, Nat.sub_self, drop_nth' (by omega), List.set_cons_zero, List.append_assoc]
              rfl
            rw [← e2]
            exact this
        case measure => simp [intOf]; omega
      · obtain rfl : j = n := by omega
        clear hlt
        go_wp2
        go_ret
        have hn := HN.out
        have e1 : (strip L).take j = strip L := List.take_of_length_le (by rw [strip_length]; omega)
        have e2 : L.take j = L := List.take_of_length_le (by omega)
        have e3 : L.drop j = [] := List.drop_eq_nil_of_le (by omega)
        have hh := ho.out
        have hm := hM.out
        rw [e3, List.append_nil] at hh
        rw [e1, e2] at hm
        rw [e1]
        refine ⟨rfl, ⟨M, hm.2.1, hh, fun b hb => by cases hb; exact hgE, fun y hy b hb => ?_⟩, hg.out⟩
        have : y.v ∈ L.map Ent.v := by rw [← hm.2.2]; exact List.mem_map_of_mem hy
        obtain ⟨z, hz, hzv⟩ := List.mem_map.1 this
        exact HE2.out z hz b (by rw [hzv]; exact hb)

set_option maxHeartbeats 2000000 in
theorem heldKeyS (v : Value) (w : World) (k : Int) (T : List (List ByteArray × Int)) (h : TabHolds w v (markTb k T)) (hl : adv T ≤ 100000000) (h0 : 0 ≤ k) (h1 : k ≤ 10000000000) :
    Calls Try.prog 45 #[v, .int .i64 k] w fun e w' => e = .returned (.int .i64 (k + adv T)) ∧ Below w.heap.size w w' := by
  obtain ⟨L, hL, h⟩ := h
  obtain ⟨x, n, cap, rfl, hn, hcap, hh⟩ := h.shapeN
  have hTn : T.length = n := by rw [← markTb_length k T, ← hL, strip_length]; exact hn.symm
  have hln : n ≤ 100000000 := by have := adv_len T; omega
  have HN := Lib.hid hn
  have HH := Lib.hid hh
  have HL := Lib.hid hL
  have HT := Lib.hid hTn
  have HADV := Lib.hid (fun j => adv_take_le T j)
  clear hh h hn hL hTn
  go_enter Try.func45, Try.ntmps45
  go_wp2
  go_loopw [1, 5] (fun kv i wr => ∃ j : Nat, j ≤ n ∧ i = .int .i64 j ∧ kv = .int .i64 (k + adv (T.take j)) ∧ Hid (Below w.heap.size w wr)) (fun _ i _ => n - (intOf i).toNat)
  case atStart => exact ⟨0, Nat.zero_le _, rfl, by simp [adv], Lib.hid (Below.refl _ _)⟩
  case round =>
    obtain ⟨j, hj, rfl, rfl, hb⟩ := hrel
    by_cases hlt : j < n
    · have hlen := HN.out
      have hTj : j < T.length := by rw [HT.out]; exact hlt
      obtain ⟨b, off, rfl, hc1, hc2, hnm⟩ := (HH.out.on hb.out).at (k := j) (by omega)
      have e1 : (nth L j).t = (marks markT (k + adv (T.take j)) (nth T j).1.length, k + adv (T.take j) + (nth T j).1.length) := by
        rw [← strip_nth (by omega), HL.out, markTb_at k T hTj]
      have e2 : (nth L j).ps = marks markT (k + adv (T.take j)) (nth T j).1.length := congrArg Prod.fst e1
      have e3 : (nth L j).val = k + adv (T.take j) + (nth T j).1.length := congrArg Prod.snd e1
      rw [e2] at hnm
      rw [e3] at hc2
      have hst := adv_take hTj
      have hadv := HADV.out j
      have hadv2 := HADV.out (j + 1)
      have hpl : (nth T j).1.length ≤ 100000000 := by omega
      have ha0 : (adv (T.take j) : Int) ≤ 100000000 := by omega
      have HNM := Lib.hid hnm
      have HST := Lib.hid hst
      clear hlen e1 e2 e3 hst hadv hadv2 hnm hTj
      have hne : (k + (adv (T.take j) : Int) + ((nth T j).1.length : Int) != k + (adv (T.take j) : Int) + ((nth T j).1.length : Int)) = false := by simp
      go_wp2_with fail
      refine (heldStringS _ wr (k + adv (T.take j)) (nth T j).1.length HNM.out hpl (by omega) (by omega)).mono ?_
      rintro e w1 ⟨rfl, hb1⟩
      have hc2' : w1.cell? ⟨b, off + j * 2 + 1, none⟩ = some (.int .i64 (k + adv (T.take j) + (nth T j).1.length)) := by rw [hb1.cell (cell_lt hc2)]; exact hc2
      have HB1 := Lib.hid (hb.out.trans (hb1.mono hb.out.size))
      have hpos : ¬ k + (adv (T.take j) : Int) + ((nth T j).1.length : Int) < 0 := by omega
      clear hc1 hc2 hb1
      go_wp2_with fail
      go_roundw
      case rel => exact ⟨j + 1, by omega, by go_num, by rw [HST.out]; go_num, HB1⟩
      case measure => simp [intOf]; omega
    · obtain rfl : j = n := by omega
      clear hlt
      go_wp2
      go_ret
      exact ⟨ret_int (by rw [List.take_of_length_le (by rw [HT.out]; exact Nat.le_refl _)]), hb.out⟩

end Go.Proofs.Ytnblopilgfdjkaa.Row.Ring
/- What the exact laws on tables use besides the contracts: a table that came in as an argument; equal ones compared; marks in a range of blocks. No conditions. -/
namespace Go.Proofs.Ytnblopilgfdjkaa.Row.Ring
open Go.ChangeShapes Go.WideShapes Go.ChangeAt Go.RowKit Go.Instr
set_option linter.unusedVariables false
set_option maxRecDepth 100000

/-- A table as it came in. -/
theorem open_tab {H : Type} {enc : TypeId × Value → H} {P : Program} {w : World} {base b2 : Nat} {held : Bool} {t e ep : TypeId} {v : Value} {d : DataW H} {p : List MemPlace} {f0 f1 g0 : Field}
    (ht : P.underlying t = some (.slice e)) (he : P.underlying e = some (.struct #[f0, f1])) (hN : P.underlying f0.type = some (.struct #[g0])) (hg : P.underlying g0.type = some (.slice ep)) (hs : P.underlying ep = some .string) (hI : P.underlying f1.type = some (.int .i64))
    (ho0 : f0.offset = 0) (ho1 : f1.offset = 1) (hog : g0.offset = 0) (hc0 : P.cellsOf f0.type = 1) (hc1 : P.cellsOf f1.type = 1) (hcg : P.cellsOf g0.type = 1) (hcs : P.cellsOf ep = 1) (hC : P.cellsOf e = 2)
    (hv : Value.okWide P w .any base t v) (h : DataW.Trod enc P w b2 (fun _ => true) held t v d p) :
    ∃ T, TabHolds w v T ∧ (∀ t ∈ T, t.1.length ≤ 9223372036854775807 ∧ (∀ x ∈ t.1, x.size ≤ maxLen) ∧ (Lit.int .i64 t.2).wf = true) ∧ T.length ≤ 9223372036854775807 := by
  have hmx : maxLen = 9223372036854775807 := rfl
  obtain ⟨a0, len, cap, rfl⟩ := okWide_slice ht hv
  obtain ⟨fuel, hf⟩ := h
  rcases Deep.open_slice ht hf with ⟨hcs, -⟩ | ⟨a, len', cap', m, n, D, Pl, hcs', hb, hl, hm, hmm, -, hi⟩
  · have : Value.slice a0 len cap = .slice none 0 0 := by simpa [Value.cells] using hcs
    exact ⟨[], ⟨[], rfl, by rw [this]; exact TabH.nil _⟩, by simp, by simp⟩
  · have hcs' : Value.slice a0 len cap = .slice (some a) len' cap' := by simpa [Value.cells] using hcs'
    simp only [if_true] at hmm
    have key : ∀ i, i < m → ∃ x : Ent, w.cell? (a.add (i * 2)) = some x.v ∧ w.cell? (a.add (i * 2 + 1)) = some (.int .i64 x.val) ∧ Holds Value.string w x.v x.ps ∧ (∀ y ∈ x.ps, y.size ≤ maxLen) ∧ x.ps.length ≤ 9223372036854775807 ∧ (Lit.int .i64 x.val).wf = true := by
      intro i him
      obtain ⟨cs, hc, htr⟩ := hi i him
      rw [hC] at hc
      obtain ⟨-, hcl, hat⟩ := World.cells?_some hc
      obtain ⟨y0, y1, n2, -, -, q0, q1⟩ := trod_struct2 he htr
      rw [ho0, hc0] at q0
      rw [ho1, hc1] at q1
      obtain ⟨z0, n3, -, -, q0⟩ := trod_struct1 hN q0
      rw [hog, hcg] at q0
      obtain ⟨ad, k, c, l, e0, hh, hz, hln⟩ := open_strs1 hg hs hcs q0
      obtain ⟨v1, e1, -, w1⟩ := DataW.trod_int hI q1
      obtain ⟨u0, u1, rfl⟩ : ∃ u0 u1, cs = [u0, u1] := by
        match cs, hcl with
        | [u0, u1], _ => exact ⟨u0, u1, rfl⟩
      simp at e0 e1
      subst e0 e1
      have c0 := hat 0 (by decide)
      have c1 := hat 1 (by decide)
      rw [Deep.add_add] at c0 c1
      exact ⟨⟨ad, k, c, l, v1⟩, by simpa [Ent.v] using c0, by simpa using c1, hh, hz, hln, w1⟩
    obtain ⟨Sx, hS⟩ := Deep.choose_lt key
    have hL : ((List.range len').map Sx).length = len' := by simp
    have hmem : ∀ x ∈ (List.range len').map Sx, ∃ i, i < len' ∧ x = Sx i := by
      intro x hx
      obtain ⟨i, hi2, rfl⟩ := List.mem_map.1 hx
      exact ⟨i, List.mem_range.1 hi2, rfl⟩
    refine ⟨strip ((List.range len').map Sx), ⟨_, rfl, ?_, ?_⟩, ?_, by rw [strip_length, hL, ← hmx]; exact Nat.le_trans hl hm⟩
    · rw [hcs']
      refine ⟨some a, cap', by rw [hL], by rw [hL]; exact hl, ?_⟩
      by_cases h00 : len' = 0
      · left; subst h00; simp
      · right
        obtain ⟨b, off, spot⟩ := a
        have q1 := (hS 0 (by omega)).1
        have hs : spot = none := by simpa [Addr.add] using World.cell?_spot q1
        subst hs
        refine ⟨b, off, rfl, fun j hj => ?_⟩
        rw [hL] at hj
        have hj2 : j / 2 < len' := by omega
        have q2 := hS (j / 2) (by omega)
        have hn : nth ((List.range len').map Sx) (j / 2) = Sx (j / 2) := by rw [nth_eq (by rw [hL]; exact hj2)]; simp
        have hfl := flat_at szE ((List.range len').map Sx) (j / 2) (j % 2) (by rw [hL]; exact hj2) (Nat.mod_lt _ (by decide))
        rw [hn, show j / 2 * 2 + j % 2 = j by omega] at hfl
        rcases Nat.mod_two_eq_zero_or_one j with hm0 | hm0
        · rw [hm0] at hfl
          refine ⟨_, hfl, ?_⟩
          have := q2.1
          rw [Go.WideShapes.add_plain, show j / 2 * 2 = j by omega] at this
          exact this
        · rw [hm0] at hfl
          refine ⟨_, hfl, ?_⟩
          have := q2.2.1
          rw [Go.WideShapes.add_plain, show j / 2 * 2 + 1 = j by omega] at this
          exact this
    · intro x hx
      obtain ⟨i, hi2, rfl⟩ := hmem x hx
      exact (hS i (by omega)).2.2.1
    · intro t ht
      obtain ⟨x, hx, rfl⟩ := List.mem_map.1 ht
      obtain ⟨i, hi2, rfl⟩ := hmem x hx
      have := hS i (by omega)
      exact ⟨this.2.2.2.2.1, this.2.2.2.1, this.2.2.2.2.2⟩
end Go.Proofs.Ytnblopilgfdjkaa.Row.Ring
/- Contracts of the library's slices.Grow at the nil slice, slices.Concat, slices.Equal and slices.Clone at slices of strings. No conditions but that lengths fit. -/
namespace Go.Proofs.Ytnblopilgfdjkaa.Row
open Go.ChangeShapes Go.WideShapes Go.ChangeAt Go.RowKit Go.Instr
set_option linter.unusedVariables false
set_option maxRecDepth 100000

/-- What a call of a function that returns a slice of strings of the call's own leaves. -/
def GivesS (w : World) (l : List ByteArray) (e : Ending) (w' : World) : Prop := ∃ v, e = .returned v ∧ Own 9 Value.string w.heap.size w' v l ∧ Below w.heap.size w w'
theorem own_one {α : Type} [Inhabited α] (enc : α → Value) (e : TypeId) (w : World) (x : α) : Own e enc w.heap.size (w.alloc (.cells #[enc x] e)) (.slice (some ⟨w.heap.size, 0, none⟩) 1 1) [x] :=
  World.ownsRow_lit w #[enc x] 1 (Nat.le_refl _) (by unfold maxLen; omega) rfl

/-- The first k lists, one behind the other. -/
def cat (ls : Nat → List ByteArray) : Nat → List ByteArray
  | 0 => []
  | k + 1 => cat ls k ++ ls k
theorem cat_mono (ls : Nat → List ByteArray) {k n : Nat} (h : k ≤ n) : (cat ls k).length ≤ (cat ls n).length := by
  induction n with
  | zero => obtain rfl : k = 0 := by omega
            exact Nat.le_refl _
  | succ n ih =>
    by_cases e : k = n + 1
    · subst e; exact Nat.le_refl _
    · have := ih (by omega)
      simp only [cat, List.length_append]; omega

set_option maxHeartbeats 1000000 in
theorem cloneS (v : Value) (l : List ByteArray) (w : World) (h : Holds Value.string w v l) (hl : l.length ≤ 10000000) :
    Calls Try.prog 102 #[v] w (GivesS w l) := by
  obtain ⟨x, cx, rfl, hcx, hh⟩ := h.shape
  cases x with
  | none =>
    have hl0 : l = [] := by
      obtain ⟨x', cap', hv, hc', hh'⟩ := hh
      cases hv
      rcases hh' with h1 | ⟨b, off, h1, _⟩
      · exact h1
      · cases h1
    subst hl0
    have hq : ∀ w : World, (binOp .eql 29 (.slice none 0 cx) (.slice none 0 0)).run Try.prog w = .ok (.bool true) w := fun w => by
      exact Lib.run_eql_slice_nil w _ _ _ _ _ _ _ Try.underlying29
    clear hh h
    simp only [List.length_nil]
    go_enter Try.func102, Try.ntmps102
    go_wp2
    go_ret
    exact ⟨_, rfl, Own.nil _ _ _ _, Below.refl _ _⟩
  | some ad =>
    have HB := Lib.hid ((Below.refl w.heap.size w).alloc (Nat.le_refl _) (.cells #[] 9))
    have HH := Lib.hid (hh.on HB.out)
    have HO := Lib.hid (own_empty Value.string 9 w)
    have hq : ∀ w : World, (binOp .eql 29 (.slice (some ad) l.length cx) (.slice none 0 0)).run Try.prog w = .ok (.bool false) w := fun w => by
      exact Lib.run_eql_slice_nil w _ _ _ _ _ _ _ Try.underlying29
    clear hh h
    go_enter Try.func102, Try.ntmps102
    go_wp2_with (at_builtin; refine wpList_app (enc := Value.string) (B := w.heap.size) (l := []) (m := l) rfl _ _ rfl Try.underlying29 elemSTR rfl rfl rfl HO.out HH.out oneStr (by simp; omega) (by unfold maxLen; simp; omega) (by simp) ?_)
    intro v2 w2 ho hg
    have HO2 := Lib.hid ho; have HB2 := Lib.hid (HB.out.grown hg (by simp) (fun g hh => (HO.out.lt g hh).1))
    clear ho hg
    go_wp2_with fail
    go_ret
    exact ⟨_, rfl, HO2.out, HB2.out⟩

end Go.Proofs.Ytnblopilgfdjkaa.Row
/- Contracts of the integer functions of chapter 1 (without the texts): each returns the plain integer that its definition below says. The functions that only compute leave the world alone; Min and Max make one new block. No conditions but that the arguments fit their kind where sums are formed. -/
namespace Go.Proofs.Ytnblopilgfdjkaa.Num
open Go.ChangeShapes Go.WideShapes Go.ChangeAt Go.RowKit
set_option linter.unusedVariables false
set_option maxRecDepth 100000

def inB (n a b : Int) : Bool := decide (a ≤ n ∧ n ≤ b)

theorem inB_true {n a b : Int} (h1 : a ≤ n) (h2 : n ≤ b) : inB n a b = true := by simp [inB, h1, h2]
theorem inB_false1 {n a b : Int} (h1 : ¬ a ≤ n) : inB n a b = false := by simp [inB, h1]
theorem inB_false2 {n a b : Int} (h2 : ¬ n ≤ b) : inB n a b = false := by simp [inB, h2]

theorem implInRange (n a b : Int) (w : World) :
    Calls Try.prog 86 #[.int .i64 n, .int .i64 a, .int .i64 b] w fun e w' => e = .returned (.bool (inB n a b)) ∧ w = w' := by
  by_cases h1 : a ≤ n
  · by_cases h2 : n ≤ b
    · rw [inB_true h1 h2]
      go_enter Try.func86, Try.ntmps86
      go_wp2
      go_ret
      exact ⟨rfl, rfl⟩
    · rw [inB_false2 h2]
      go_enter Try.func86, Try.ntmps86
      go_wp2
      go_ret
      exact ⟨rfl, rfl⟩
  · rw [inB_false1 h1]
    go_enter Try.func86, Try.ntmps86
    go_wp2
    go_ret
    exact ⟨rfl, rfl⟩

theorem specIn (n a b : Int) (w : World) :
    Calls Try.prog 76 #[.int .i64 n, .int .i64 a, .int .i64 b] w fun e w' => e = .returned (.bool (inB n a b)) ∧ w = w' := by
  by_cases h1 : a ≤ n
  · by_cases h2 : n ≤ b
    · rw [inB_true h1 h2]
      go_enter Try.func76, Try.ntmps76
      go_wp2
      go_ret
      exact ⟨rfl, rfl⟩
    · rw [inB_false2 h2]
      go_enter Try.func76, Try.ntmps76
      go_wp2
      go_ret
      exact ⟨rfl, rfl⟩
  · rw [inB_false1 h1]
    go_enter Try.func76, Try.ntmps76
    go_wp2
    go_ret
    exact ⟨rfl, rfl⟩

theorem specIn_true {n a b : Int} (h1 : a ≤ n) (h2 : n ≤ b) (w : World) :
    Calls Try.prog 76 #[.int .i64 n, .int .i64 a, .int .i64 b] w fun e w' => e = .returned (.bool true) ∧ w = w' := by
  have := specIn n a b w
  rwa [inB_true h1 h2] at this
theorem specIn_false {n a b : Int} (h : ¬ (a ≤ n ∧ n ≤ b)) (w : World) :
    Calls Try.prog 76 #[.int .i64 n, .int .i64 a, .int .i64 b] w fun e w' => e = .returned (.bool false) ∧ w = w' := by
  have := specIn n a b w
  have e : inB n a b = false := by simpa [inB] using h
  rwa [e] at this
theorem implIn_true {n a b : Int} (h1 : a ≤ n) (h2 : n ≤ b) (w : World) :
    Calls Try.prog 86 #[.int .i64 n, .int .i64 a, .int .i64 b] w fun e w' => e = .returned (.bool true) ∧ w = w' := by
  have := implInRange n a b w
  rwa [inB_true h1 h2] at this
theorem implIn_false {n a b : Int} (h : ¬ (a ≤ n ∧ n ≤ b)) (w : World) :
    Calls Try.prog 86 #[.int .i64 n, .int .i64 a, .int .i64 b] w fun e w' => e = .returned (.bool false) ∧ w = w' := by
  have := implInRange n a b w
  have e : inB n a b = false := by simpa [inB] using h
  rwa [e] at this

def minI (a b : Int) : Int := if b < a then b else a
def maxI (a b : Int) : Int := if a < b then b else a

def ceilI (a b : Int) : Int := if 0 ≤ a ∧ a ≤ 1000000000000 ∧ 1 ≤ b ∧ b ≤ 1000000000000 then (a + b - 1) / b else 0
def modI (n m : Int) : Int := if 1 ≤ m ∧ m ≤ 1000000000000 then n % m else 0
theorem modI_out {n m : Int} (h : ¬ (1 ≤ m ∧ m ≤ 1000000000000)) : modI n m = 0 := by
  unfold modI; rw [if_neg h]
theorem tmod_hi (n m : Int) (h : 1 ≤ m) : n.tmod m < m := Int.tmod_lt_of_pos n (by omega)
theorem tmod_lo (n m : Int) (h : 1 ≤ m) : -m < n.tmod m := by
  have := Int.lt_tmod_of_pos n (b := m) (by omega)
  omega
theorem modI_pos {n m : Int} (h1 : 1 ≤ m) (h2 : m ≤ 1000000000000) (h : ¬ n.tmod m < 0) : modI n m = n.tmod m := by
  unfold modI; rw [if_pos ⟨h1, h2⟩]
  have e := Int.tmod_add_mul_tdiv n m
  have hh := tmod_hi n m h1
  have : n.tmod m = n % m := by
    rw [← Int.emod_eq_of_lt (a := n.tmod m) (b := m) (by omega) hh]
    have e2 : n = n.tmod m + m * n.tdiv m := e.symm
    conv => rhs; rw [e2]
    rw [Int.add_mul_emod_self_left]
  omega
theorem modI_neg {n m : Int} (h1 : 1 ≤ m) (h2 : m ≤ 1000000000000) (h : n.tmod m < 0) : modI n m = n.tmod m + m := by
  unfold modI; rw [if_pos ⟨h1, h2⟩]
  have e := Int.tmod_add_mul_tdiv n m
  have hl := tmod_lo n m h1
  have : n.tmod m + m = n % m := by
    rw [← Int.emod_eq_of_lt (a := n.tmod m + m) (b := m) (by omega) (by omega)]
    have e2 : n = n.tmod m + m * n.tdiv m := e.symm
    conv => rhs; rw [e2]
    rw [Int.add_mul_emod_self_left, Int.add_emod_right]
  omega
theorem modI_spec {n m : Int} (h1 : 1 ≤ m) (h2 : m ≤ 1000000000000) : modI n m = (n.tmod m + m) % m := by
  rw [Int.add_emod_right]
  unfold modI; rw [if_pos ⟨h1, h2⟩]
  have e := Int.tmod_add_mul_tdiv n m
  have e2 : n = n.tmod m + m * n.tdiv m := e.symm
  conv => lhs; rw [e2]
  rw [Int.add_mul_emod_self_left]

theorem modI_nonneg (p : Int) {q : Int} (h : 1 ≤ q) : 0 ≤ modI p q := by
  unfold modI; split
  · exact Int.emod_nonneg _ (by omega)
  · omega
theorem modI_lt (p : Int) {q : Int} (h : 1 ≤ q) : modI p q < q := by
  unfold modI; split
  · exact Int.emod_lt_of_pos _ (by omega)
  · omega

theorem implMod (n m : Int) (w : World) :
    Calls Try.prog 116 #[.int .i64 n, .int .i64 m] w fun e w' => e = .returned (.int .i64 (modI n m)) ∧ w = w' := by
  by_cases h1 : 1 ≤ m
  · by_cases h2 : m ≤ 1000000000000
    · have hl := tmod_lo n m h1
      have hh := tmod_hi n m h1
      by_cases h3 : n.tmod m < 0
      · rw [modI_neg h1 h2 h3]
        go_enter Try.func116, Try.ntmps116
        go_wp2
        go_ret
        exact ⟨rfl, rfl⟩
      · rw [modI_pos h1 h2 h3]
        go_enter Try.func116, Try.ntmps116
        go_wp2
        go_ret
        exact ⟨rfl, rfl⟩
    · rw [modI_out (fun h => h2 h.2)]
      go_enter Try.func116, Try.ntmps116
      go_wp2
      go_ret
      exact ⟨rfl, rfl⟩
  · rw [modI_out (fun h => h1 h.1)]
    go_enter Try.func116, Try.ntmps116
    go_wp2
    go_ret
    exact ⟨rfl, rfl⟩

theorem specMod (n m : Int) (w : World) :
    Calls Try.prog 107 #[.int .i64 n, .int .i64 m] w fun e w' => e = .returned (.int .i64 (modI n m)) ∧ w = w' := by
  by_cases h1 : 1 ≤ m
  · by_cases h2 : m ≤ 1000000000000
    · have hl := tmod_lo n m h1
      have hh := tmod_hi n m h1
      rw [modI_spec h1 h2]
      go_enter Try.func107, Try.ntmps107
      go_wp2
      go_ret
      exact ⟨rfl, rfl⟩
    · rw [modI_out (fun h => h2 h.2)]
      go_enter Try.func107, Try.ntmps107
      go_wp2
      go_ret
      exact ⟨rfl, rfl⟩
  · rw [modI_out (fun h => h1 h.1)]
    go_enter Try.func107, Try.ntmps107
    go_wp2
    go_ret
    exact ⟨rfl, rfl⟩

end Go.Proofs.Ytnblopilgfdjkaa.Num
/- Contracts of Truncate, EqualNames and HasPrefix, the program's and the reference model's. No conditions but that lengths fit. -/
namespace Go.Proofs.Ytnblopilgfdjkaa.Row
open Go.ChangeShapes Go.WideShapes Go.ChangeAt Go.RowKit Go.Instr
set_option linter.unusedVariables false
set_option maxRecDepth 100000

section
variable {α : Type} [Inhabited α] {enc : α → Value} {w : World} {x : Option Addr} {n cap : Nat} {l : List α}
theorem Holds.take (h : Holds enc w (.slice x n cap) l) {j : Nat} (hj : j ≤ l.length) : Holds enc w (.slice x j cap) (l.take j) := by
  obtain ⟨x', cap', hv, hc, hh⟩ := h
  cases hv
  have hl : (l.take j).length = j := by simp; omega
  refine ⟨x, cap, by rw [hl], by omega, ?_⟩
  rcases hh with rfl | ⟨b, off, hx, hh⟩
  · left; simp
  · refine Or.inr ⟨b, off, hx, fun i hi => ?_⟩
    rw [hl] at hi
    rw [hh i (by omega), nth_eq (by omega), nth_eq (by omega)]
    simp
theorem Holds.drop {b off : Nat} (h : Holds enc w (.slice (some ⟨b, off, none⟩) n cap) l) {j : Nat} (hj : j ≤ l.length) : Holds enc w (.slice (some ⟨b, off + j, none⟩) (n - j) (cap - j)) (l.drop j) := by
  obtain ⟨x', cap', hv, hc, hh⟩ := h
  cases hv
  have hl : (l.drop j).length = l.length - j := by simp
  refine ⟨_, cap - j, by rw [hl], by omega, ?_⟩
  rcases hh with rfl | ⟨b', off', hx, hh⟩
  · left; simp
  · cases hx
    refine Or.inr ⟨b, off + j, rfl, fun i hi => ?_⟩
    rw [hl] at hi
    rw [Nat.add_assoc, hh (j + i) (by omega), nth_eq (by omega), nth_eq (by omega)]
    simp
end

/-- What a call that returns a name of its own leaves; a name and a bool; a name that lies somewhere. -/
def GivesN (w : World) (l : List ByteArray) (e : Ending) (w' : World) : Prop := ∃ v, e = .returned (.agg #[v]) ∧ Own 9 Value.string w.heap.size w' v l ∧ Below w.heap.size w w'
def GivesNB (w : World) (l : List ByteArray) (b : Bool) (e : Ending) (w' : World) : Prop := ∃ v, e = .returned (.tuple #[.agg #[v], .bool b]) ∧ Own 9 Value.string w.heap.size w' v l ∧ Below w.heap.size w w'
def GivesHB (w : World) (l : List ByteArray) (b : Bool) (e : Ending) (w' : World) : Prop := ∃ v, e = .returned (.tuple #[.agg #[v], .bool b]) ∧ Holds Value.string w' v l ∧ Below w.heap.size w w'

def trI (l : List ByteArray) (k : Int) : Nat := (Num.maxI 0 (Num.minI k l.length)).toNat
def trN (l : List ByteArray) (k : Int) : List ByteArray := l.take (trI l k)
theorem aggN : Ret.AggOf Try.prog 34 1 := by unfold Ret.AggOf; exact ⟨by kernel_rfl, by kernel_rfl⟩

/-- A name lies in its result cell: the last step of a function that returns a name. -/
theorem endN {w w1 : World} {g B : Nat} {v u : Value} {l : List ByteArray} (hw : w.heap.size ≤ g) (hgB : g < B) (ho : Own 9 Value.string B w1 v l) (hc : w1.cell? ⟨g, 0, none⟩ = some u) (hb : Below w.heap.size w w1) :
    (w1.setCell ⟨g, 0, none⟩ v).cell? ⟨g, 0, none⟩ = some v ∧ Own 9 Value.string w.heap.size (w1.setCell ⟨g, 0, none⟩ v) v l ∧ Below w.heap.size w (w1.setCell ⟨g, 0, none⟩ v) :=
  ⟨Ret.set_same hc, (ho.grown (Ret.grownBy_set w1 ⟨g, 0, none⟩ v) (nb ho hgB)).mono (by omega), hb.setCell hw _⟩

end Go.Proofs.Ytnblopilgfdjkaa.Row
/- Contracts of EqualNames and HasPrefix, the program's and the reference model's. No conditions but that lengths fit. -/
namespace Go.Proofs.Ytnblopilgfdjkaa.Row
open Go.ChangeShapes Go.WideShapes Go.ChangeAt Go.RowKit Go.Instr
set_option linter.unusedVariables false
set_option maxRecDepth 100000

theorem less_irrefl : ∀ l : List UInt8, Op.bytesLess l l = false
  | [] => rfl
  | a :: x => by
    rw [Op.bytesLess, less_irrefl x]
    have : decide (a < a) = false := by simp
    simp
theorem cmpS_zero {a b : ByteArray} : cmpS a b = 0 ↔ a = b := by
  constructor
  · intro h
    unfold cmpS at h
    split at h
    · omega
    · split at h
      · rename_i _ h2; exact toList_inj h2
      · omega
  · rintro rfl
    unfold cmpS
    rw [less_irrefl]; simp
theorem cmpL_zero : ∀ {l m : List ByteArray}, cmpL l m = 0 ↔ l = m
  | [], [] => by simp [cmpL]
  | [], _ :: _ => by simp [cmpL]
  | _ :: _, [] => by simp [cmpL]
  | a :: x, b :: y => by
    unfold cmpL
    by_cases h : cmpS a b = 0
    · rw [if_pos h, cmpL_zero, cmpS_zero.1 h]; simp
    · rw [if_neg h]
      have : a ≠ b := fun e => h (cmpS_zero.2 e)
      constructor
      · intro e; exact absurd e h
      · intro e; cases e; exact absurd rfl this
theorem eqB_cmp (l m : List ByteArray) : eqB l m = (cmpL l m == 0) := by
  unfold eqB
  by_cases h : l = m
  · have := cmpL_zero.2 h
    simp [h, cmpL_zero.2]
  · have h2 : cmpL l m ≠ 0 := fun e => h (cmpL_zero.1 e)
    simp [h, h2]

set_option maxHeartbeats 1000000 in
theorem specEqualNames (v u : Value) (l m : List ByteArray) (w : World) (h : Holds Value.string w v l) (g : Holds Value.string w u m) (hl : l.length ≤ 140737488351232) (hm : m.length ≤ 140737488351232) :
    Calls Try.prog 77 #[.agg #[v], .agg #[u]] w fun e w' => e = .returned (.bool (eqB l m)) ∧ Below w.heap.size w w' := by
  obtain ⟨x, cx, rfl, hcx, hh⟩ := h.shape
  obtain ⟨y, cy, rfl, hcy, hg⟩ := g.shape
  have HH := Lib.hid hh; have HG := Lib.hid hg
  have HE := Lib.hid (eqB_cmp l m)
  clear hh h hg g
  go_enter Try.func77, Try.ntmps77
  go_wp2_with fail
  have HB := Lib.hid (((Below.refl w.heap.size w).alloc (Nat.le_refl _) (.cells #[.slice x l.length cx] 34)).alloc (Nat.le_trans (Nat.le_refl _) (by simp)) (.cells #[.slice y m.length cy] 34))
  have HA := Lib.hid (HH.out.on HB.out); have HC := Lib.hid (HG.out.on HB.out)
  refine (specCompareNames _ _ l m _ HA.out HC.out hl hm).mono ?_
  rintro e w' ⟨rfl, hb⟩
  have HB2 := Lib.hid (HB.out.trans (hb.mono (by simp; omega))); clear hb
  go_wp2
  go_ret
  exact ⟨ret_bool HE.out.symm, HB2.out⟩

def hpB (l m : List ByteArray) : Bool := decide (m.length ≤ l.length ∧ l.take m.length = m)
end Go.Proofs.Ytnblopilgfdjkaa.Row
/- Contracts of ValidPart and ValidName, the program's and the reference model's: a part is right where its size is 1 to 8 and each byte is a small letter, a digit or a minus; a name where each part is and there are at most 6. No conditions but that lengths fit. -/
namespace Go.Proofs.Ytnblopilgfdjkaa.Row
open Go.ChangeShapes Go.WideShapes Go.ChangeAt Go.RowKit Go.Instr
set_option linter.unusedVariables false
set_option maxRecDepth 100000

def okR (r : Int) : Prop := (97 ≤ r ∧ r ≤ 122) ∨ (48 ≤ r ∧ r ≤ 57) ∨ r = 45
instance (r : Int) : Decidable (okR r) := by unfold okR; infer_instance
def okTo (s : ByteArray) (k : Nat) : Prop := ∀ j (h : j < s.size), j < k → okR ((s[j]'h).toNat : Int)
instance (s : ByteArray) (k : Nat) : Decidable (okTo s k) := by unfold okTo; infer_instance
def validP (s : ByteArray) : Bool := decide (1 ≤ s.size ∧ s.size ≤ 8 ∧ okTo s s.size)
theorem okTo_zero (s : ByteArray) : okTo s 0 := fun j h h2 => absurd h2 (by omega)
theorem okTo_succ {s : ByteArray} {k : Nat} (h : okTo s k) (hk : k < s.size) (hc : okR ((s[k]'hk).toNat : Int)) : okTo s (k + 1) := fun j h1 h2 => by
  by_cases e : j = k
  · subst e; exact hc
  · exact h j h1 (by omega)
theorem validP_true {s : ByteArray} (h1 : 1 ≤ s.size) (h2 : s.size ≤ 8) (h : okTo s s.size) : validP s = true := by simp [validP, h1, h2, h]
theorem validP_size {s : ByteArray} (h : ¬ (1 ≤ s.size ∧ s.size ≤ 8)) : validP s = false := by
  unfold validP; exact decide_eq_false (fun e => h ⟨e.1, e.2.1⟩)
theorem validP_byte {s : ByteArray} {k : Nat} (hk : k < s.size) (hc : ¬ okR ((s[k]'hk).toNat : Int)) : validP s = false := by
  unfold validP; exact decide_eq_false (fun e => hc (e.2.2 k hk hk))
theorem validP_iff {s : ByteArray} : validP s = true ↔ 1 ≤ s.size ∧ s.size ≤ 8 ∧ okTo s s.size := by unfold validP; exact decide_eq_true_iff

theorem rune_ok {s : ByteArray} {pos : Nat} (h : pos < s.size) (hr : okR ((Utf8.decode s pos).1 : Int)) : okR ((s[pos]'h).toNat : Int) ∧ (Utf8.decode s pos).2 = 1 := by
  by_cases ha : (s[pos]'h).toNat < 128
  · rw [decode_ascii s pos h ha] at hr ⊢
    exact ⟨hr, rfl⟩
  · have := (decode_high s pos h (by omega)).1
    unfold okR at hr; omega
theorem rune_not {s : ByteArray} {pos : Nat} (h : pos < s.size) (hr : ¬ okR ((Utf8.decode s pos).1 : Int)) : ¬ okR ((s[pos]'h).toNat : Int) := by
  by_cases ha : (s[pos]'h).toNat < 128
  · rwa [decode_ascii s pos h ha] at hr
  · unfold okR; omega

set_option maxHeartbeats 1000000 in
theorem isPartRune (r : Int) (w : World) : Calls Try.prog 106 #[.int .i32 r] w fun e w' => e = .returned (.bool (decide (okR r))) ∧ w = w' := by
  have HT := fun (h : okR r) => (decide_eq_true h).symm
  have HF := fun (h : ¬ okR r) => (decide_eq_false h).symm
  have HT := Lib.hid HT; have HF := Lib.hid HF
  by_cases h1 : 97 ≤ r ∧ r ≤ 122
  · obtain ⟨h1a, h1b⟩ := h1
    go_enter Try.func106, Try.ntmps106
    go_wp2
    go_ret
    exact ⟨ret_bool (HT.out (by unfold okR; omega)), rfl⟩
  · by_cases h2 : 48 ≤ r ∧ r ≤ 57
    · obtain ⟨h2a, h2b⟩ := h2
      have h1a : ¬ 97 ≤ r := by omega
      go_enter Try.func106, Try.ntmps106
      go_wp2
      go_ret
      exact ⟨ret_bool (HT.out (by unfold okR; omega)), rfl⟩
    · by_cases h3 : r = 45
      · subst h3
        go_enter Try.func106, Try.ntmps106
        go_wp2
        go_ret
        exact ⟨ret_bool (HT.out (by unfold okR; omega)), rfl⟩
      · have HF2 := Lib.hid (HF.out (by unfold okR; omega))
        have h3b : (r == 45) = false := by simpa using h3
        clear h3 HF HT
        by_cases h1a : 97 ≤ r
        · have h1b : ¬ r ≤ 122 := by omega
          have h2b : ¬ r ≤ 57 := by omega
          clear h1 h2
          go_enter Try.func106, Try.ntmps106
          go_wp2
          go_ret
          exact ⟨ret_bool HF2.out, rfl⟩
        · clear h1
          by_cases h2a : 48 ≤ r
          · have h2b : ¬ r ≤ 57 := by omega
            clear h2
            go_enter Try.func106, Try.ntmps106
            go_wp2
            go_ret
            exact ⟨ret_bool HF2.out, rfl⟩
          · clear h2
            go_enter Try.func106, Try.ntmps106
            go_wp2
            go_ret
            exact ⟨ret_bool HF2.out, rfl⟩

set_option maxHeartbeats 1000000 in
theorem implValidPart (s : ByteArray) (w : World) (hl : s.size ≤ 140737488351232) :
    Calls Try.prog 95 #[.string s] w fun e w' => e = .returned (.bool (validP s)) ∧ Below w.heap.size w w' := by
  go_enter Try.func95, Try.ntmps95
  go_wp2
  go_loopw [] (fun w' => ∃ pos : Nat, pos ≤ s.size ∧ w' = w.iter s pos ∧ Hid (okTo s pos)) (fun w' => s.size - w'.iterPos w.heap.size)
  case atStart => exact ⟨0, by omega, rfl, Lib.hid (okTo_zero s)⟩
  case round =>
    obtain ⟨pos, hpl, rfl, ho⟩ := hrel
    by_cases hp : pos < s.size
    · have hnx : ∀ ty, (Instr.next (.pointer (some ⟨w.heap.size, 0, none⟩)) true ty).run Try.prog (w.iter s pos) = _ := fun ty => run_next_any w s pos ty hp
      by_cases hr : okR ((Utf8.decode s pos).1 : Int)
      · obtain ⟨h1, h2⟩ := rune_ok hp hr
        have HO := Lib.hid (okTo_succ ho.out hp h1)
        have HR := Lib.hid (decide_eq_true hr)
        rw [h2] at hnx
        clear hr h1 h2
        go_wp2_with fail
        refine (isPartRune _ _).mono ?_
        rintro e w2 ⟨rfl, rfl⟩
        rw [HR.out]
        go_wp2
        go_roundw
        case rel => exact ⟨pos + 1, by omega, rfl, HO⟩
        case measure => simp; omega
      · have HV := Lib.hid (validP_byte hp (rune_not hp hr))
        have HR := Lib.hid (decide_eq_false hr)
        clear hr
        go_wp2_with fail
        refine (isPartRune _ _).mono ?_
        rintro e w2 ⟨rfl, rfl⟩
        rw [HR.out]
        go_wp2
        go_ret
        exact ⟨ret_bool HV.out.symm, (Below.refl _ _).alloc (Nat.le_refl _) _⟩
    · obtain rfl : pos = s.size := by omega
      have hnx : ∀ ty, (Instr.next (.pointer (some ⟨w.heap.size, 0, none⟩)) true ty).run Try.prog (w.iter s s.size) = _ := fun ty => run_next_end w s s.size ty hp
      go_wp2_with fail
      refine (Num.implInRange _ _ _ _).mono ?_
      rintro e w2 ⟨rfl, rfl⟩
      go_wp2
      go_ret
      refine ⟨ret_bool ?_, (Below.refl _ _).alloc (Nat.le_refl _) _⟩
      have := ho.out
      simp only [Num.inB, validP, this, and_true]
      congr 1
      apply propext
      omega

set_option maxHeartbeats 1000000 in
theorem specValidPart (s : ByteArray) (w : World) (hl : s.size ≤ 140737488351232) :
    Calls Try.prog 75 #[.string s] w fun e w' => e = .returned (.bool (validP s)) ∧ w = w' := by
  by_cases hsz : 1 ≤ s.size ∧ s.size ≤ 8
  · obtain ⟨hs1, hs8⟩ := hsz
    go_enter Try.func75, Try.ntmps75
    go_wp2_with fail
    refine (Num.specIn_true (by omega) (by omega) _).mono ?_
    rintro e w2 ⟨rfl, rfl⟩
    go_wp2
    go_loop [3] (fun iv => ∃ k : Nat, k ≤ s.size ∧ iv = .int .i64 k ∧ Hid (okTo s k)) (fun iv => s.size - (intOf iv).toNat)
    case atStart => exact ⟨0, by omega, rfl, Lib.hid (okTo_zero s)⟩
    case round =>
      obtain ⟨k, hk, rfl, ho⟩ := hrel
      by_cases hlt : k < s.size
      · have hb := (s[k]'hlt).toNat_lt
        have hb0 : (0 : Int) ≤ ((s[k]'hlt).toNat : Int) := by omega
        have hb1 : ((s[k]'hlt).toNat : Int) ≤ 255 := by omega
        have HOK := Lib.hid (fun hc => okTo_succ ho.out hlt hc)
        have HNO := Lib.hid (fun hc => validP_byte hlt hc)
        clear hb
        go_wp2_with fail
        by_cases h1 : 97 ≤ ((s[k]'hlt).toNat : Int) ∧ ((s[k]'hlt).toNat : Int) ≤ 122
        · refine (Num.specIn_true h1.1 h1.2 _).mono ?_
          rintro e w2 ⟨rfl, rfl⟩
          have HO2 := Lib.hid (HOK.out (by unfold okR; omega))
          clear HOK HNO h1
          go_wp2
          go_round
          case rel => exact ⟨k + 1, by omega, by go_num, HO2⟩
          case measure => simp [intOf]; omega
        · refine (Num.specIn_false h1 _).mono ?_
          rintro e w2 ⟨rfl, rfl⟩
          go_wp2_with fail
          by_cases h2 : 48 ≤ ((s[k]'hlt).toNat : Int) ∧ ((s[k]'hlt).toNat : Int) ≤ 57
          · refine (Num.specIn_true h2.1 h2.2 _).mono ?_
            rintro e w2 ⟨rfl, rfl⟩
            have HO2 := Lib.hid (HOK.out (by unfold okR; omega))
            clear HOK HNO h1 h2
            go_wp2
            go_round
            case rel => exact ⟨k + 1, by omega, by go_num, HO2⟩
            case measure => simp [intOf]; omega
          · refine (Num.specIn_false h2 _).mono ?_
            rintro e w2 ⟨rfl, rfl⟩
            by_cases h3 : (s[k]'hlt).toNat = 45
            · have h3b : (((s[k]'hlt).toNat : Int) != 45) = false := by simp [h3]
              have HO2 := Lib.hid (HOK.out (by unfold okR; omega))
              clear HOK HNO h1 h2
              go_wp2
              go_round
              case rel => exact ⟨k + 1, by omega, by go_num, HO2⟩
              case measure => simp [intOf]; omega
            · have h3b : (((s[k]'hlt).toNat : Int) != 45) = true := by simp; omega
              have HV := Lib.hid (HNO.out (by unfold okR; omega))
              clear HOK HNO h1 h2 h3
              go_wp2
              go_ret
              exact ⟨ret_bool HV.out.symm, rfl⟩
      · obtain rfl : k = s.size := by omega
        have HV := Lib.hid (validP_true hs1 hs8 ho.out)
        go_wp2
        go_ret
        exact ⟨ret_bool HV.out.symm, rfl⟩
  · have HV := Lib.hid (validP_size hsz)
    go_enter Try.func75, Try.ntmps75
    go_wp2_with fail
    refine (Num.specIn_false (by omega) _).mono ?_
    rintro e w2 ⟨rfl, rfl⟩
    go_wp2
    go_ret
    exact ⟨ret_bool HV.out.symm, rfl⟩

end Go.Proofs.Ytnblopilgfdjkaa.Row
/- Contracts of ValidName, the program's and the reference model's: a name is right where each part is and there are at most 6. No conditions but that lengths fit. -/
namespace Go.Proofs.Ytnblopilgfdjkaa.Row
open Go.ChangeShapes Go.WideShapes Go.ChangeAt Go.RowKit Go.Instr
set_option linter.unusedVariables false
set_option maxRecDepth 100000

def validN (l : List ByteArray) : Bool := decide (l.length ≤ 6 ∧ ∀ x ∈ l, validP x = true)
def allV (l : List ByteArray) (k : Nat) : Prop := ∀ j, j < k → validP (nth l j) = true
theorem allV_zero (l : List ByteArray) : allV l 0 := fun j h => absurd h (by omega)
theorem allV_succ {l : List ByteArray} {k : Nat} (h : allV l k) (hc : validP (nth l k) = true) : allV l (k + 1) := fun j h1 => by
  by_cases e : j = k
  · subst e; exact hc
  · exact h j (by omega)
theorem validN_not {l : List ByteArray} {k : Nat} (hk : k < l.length) (hc : validP (nth l k) = false) : validN l = false := by
  unfold validN
  refine decide_eq_false (fun e => ?_)
  have := e.2 (nth l k) (by rw [nth_eq hk]; exact List.getElem_mem _)
  rw [hc] at this; cases this
theorem validN_all {l : List ByteArray} (h : allV l l.length) : validN l = decide (l.length ≤ 6) := by
  have : ∀ x ∈ l, validP x = true := by
    intro x hx
    obtain ⟨j, hj, rfl⟩ := List.getElem_of_mem hx
    have := h j hj
    rwa [nth_eq hj] at this
  unfold validN
  congr 1
  exact propext ⟨fun e => e.1, fun e => ⟨e, this⟩⟩
theorem validN_iff {l : List ByteArray} : validN l = true ↔ l.length ≤ 6 ∧ ∀ x ∈ l, validP x = true := by unfold validN; exact decide_eq_true_iff
theorem size_nth {l : List ByteArray} {m : Nat} (h : bulk l ≤ m) {k : Nat} (hk : k < l.length) : (nth l k).size ≤ m := by
  have h1 := bulkTo_succ l hk
  have h2 := bulkTo_le l (k + 1)
  omega

set_option maxHeartbeats 1000000 in
theorem implValidName (v : Value) (l : List ByteArray) (w : World) (h : Holds Value.string w v l) (hl : bulk l ≤ 100000000) :
    Calls Try.prog 78 #[.agg #[v]] w fun e w' => e = .returned (.bool (validN l)) ∧ Below w.heap.size w w' := by
  obtain ⟨x, cap, rfl, hcap, hh⟩ := h.shape
  have hll := bigLen hl
  have HS := Lib.hid (fun k (hk : k < l.length) => size_nth hl hk)
  obtain ⟨n, hn⟩ : ∃ n, n = l.length := ⟨_, rfl⟩
  rw [← hn] at hcap hh hll ⊢
  have HN := Lib.hid hn
  have HH := Lib.hid hh
  have HB0 := Lib.hid ((Below.refl w.heap.size w).alloc (Nat.le_refl _) (.cells #[.slice x n cap] 34))
  have HC0 := Lib.hid (Ret.cell_at (w := w) (u := .slice x n cap) (t := 34) (n := w.heap.size) rfl)
  clear hn h hh hl
  go_enter Try.func78, Try.ntmps78
  go_wp2_with fail
  go_loopw [8] (fun i wr => ∃ k : Nat, k ≤ n ∧ i = .int .i64 k ∧ Hid (allV l k) ∧ Hid (Below w.heap.size w wr) ∧ Hid (wr.cell? ⟨w.heap.size, 0, none⟩ = some (.slice x n cap))) (fun i _ => n - (intOf i).toNat)
  case atStart => exact ⟨0, Nat.zero_le _, rfl, Lib.hid (allV_zero _), HB0, HC0⟩
  case round =>
    obtain ⟨k, hk, rfl, ha, hb, hc0⟩ := hrel
    by_cases hlt : k < n
    · have hlen := HN.out
      obtain ⟨b, off, rfl, hc⟩ := (HH.out.on hb.out).at (j := k) (by omega)
      have hsz := HS.out k (by omega)
      clear hlen
      go_wp2_with fail
      refine (implValidPart _ _ (by omega)).mono ?_
      rintro e w2 ⟨rfl, hb2⟩
      have HB2 := Lib.hid (hb.out.trans (hb2.mono hb.out.size))
      have HC2 := Lib.hid ((hb2.cell (cell_lt hc0.out)).trans hc0.out)
      clear hb2 hc
      by_cases hv : validP (nth l k) = true
      · rw [hv]
        have HA2 := Lib.hid (allV_succ ha.out hv)
        clear hv
        go_wp2
        go_roundw
        case rel => exact ⟨k + 1, by omega, by go_num, HA2, HB2, HC2⟩
        case measure => simp [intOf]; omega
      · have hv2 : validP (nth l k) = false := by simpa using hv
        rw [hv2]
        have HV := Lib.hid (validN_not (by have := HN.out; omega) hv2)
        clear hv hv2
        go_wp2
        go_ret
        exact ⟨ret_bool HV.out.symm, HB2.out⟩
    · obtain rfl : k = n := by omega
      have HV := Lib.hid (validN_all (HN.out ▸ ha.out))
      have hc0 := hc0.out
      clear hlt
      go_wp2
      go_ret
      refine ⟨ret_bool ?_, hb.out⟩
      rw [HV.out, ← HN.out]
      simp
      omega

set_option maxHeartbeats 1000000 in
theorem specValidName (v : Value) (l : List ByteArray) (w : World) (h : Holds Value.string w v l) (hl : bulk l ≤ 100000000) :
    Calls Try.prog 48 #[.agg #[v]] w fun e w' => e = .returned (.bool (validN l)) ∧ Below w.heap.size w w' := by
  obtain ⟨x, cap, rfl, hcap, hh⟩ := h.shape
  have hll := bigLen hl
  have HS := Lib.hid (fun k (hk : k < l.length) => size_nth hl hk)
  obtain ⟨n, hn⟩ : ∃ n, n = l.length := ⟨_, rfl⟩
  rw [← hn] at hcap hh hll ⊢
  have HN := Lib.hid hn
  have HH := Lib.hid hh
  have HB0 := Lib.hid ((Below.refl w.heap.size w).alloc (Nat.le_refl _) (.cells #[.slice x n cap] 34))
  have HC0 := Lib.hid (Ret.cell_at (w := w) (u := .slice x n cap) (t := 34) (n := w.heap.size) rfl)
  clear hn h hh hl
  go_enter Try.func48, Try.ntmps48
  go_wp2_with fail
  go_loopw [3] (fun i wr => ∃ k : Nat, k ≤ n ∧ i = .int .i64 k ∧ Hid (allV l k) ∧ Hid (Below w.heap.size w wr) ∧ Hid (wr.cell? ⟨w.heap.size, 0, none⟩ = some (.slice x n cap))) (fun i _ => n - (intOf i).toNat)
  case atStart => exact ⟨0, Nat.zero_le _, rfl, Lib.hid (allV_zero _), HB0, HC0⟩
  case round =>
    obtain ⟨k, hk, rfl, ha, hb, hc0⟩ := hrel
    by_cases hlt : k < n
    · have hlen := HN.out
      obtain ⟨b, off, rfl, hc⟩ := (HH.out.on hb.out).at (j := k) (by omega)
      have hsz := HS.out k (by omega)
      have hc1 := hc0.out
      clear hlen
      go_wp2_with fail
      refine (specValidPart _ _ (by omega)).mono ?_
      rintro e w2 ⟨rfl, rfl⟩
      clear hc
      by_cases hv : validP (nth l k) = true
      · rw [hv]
        have HA2 := Lib.hid (allV_succ ha.out hv)
        clear hv
        go_wp2
        go_roundw
        case rel => exact ⟨k + 1, by omega, by go_num, HA2, hb, hc0⟩
        case measure => simp [intOf]; omega
      · have hv2 : validP (nth l k) = false := by simpa using hv
        rw [hv2]
        have HV := Lib.hid (validN_not (by have := HN.out; omega) hv2)
        clear hv hv2
        go_wp2
        go_ret
        exact ⟨ret_bool HV.out.symm, hb.out⟩
    · obtain rfl : k = n := by omega
      have HV := Lib.hid (validN_all (HN.out ▸ ha.out))
      have hc0 := hc0.out
      clear hlt
      go_wp2
      go_ret
      refine ⟨ret_bool ?_, hb.out⟩
      rw [HV.out, ← HN.out]
      simp
      omega

end Go.Proofs.Ytnblopilgfdjkaa.Row
/- Contracts of AppendPart, the program's and the reference model's. No conditions but that lengths fit. -/
namespace Go.Proofs.Ytnblopilgfdjkaa.Row
open Go.ChangeShapes Go.WideShapes Go.ChangeAt Go.RowKit Go.Instr
set_option linter.unusedVariables false
set_option maxRecDepth 100000

theorem bulk_append (l m : List ByteArray) : bulk (l ++ m) = bulk l + bulk m := by
  unfold bulk bulkTo
  rw [List.take_length, List.take_length, List.take_length, List.map_append, List.sum_append, List.length_append]
  omega
theorem bulk_one (s : ByteArray) : bulk [s] = 1 + s.size := by simp [bulk, bulkTo]
theorem bulk_cons (x : ByteArray) (l : List ByteArray) : bulk (x :: l) = 1 + x.size + bulk l := by
  have := bulk_append [x] l
  rw [bulk_one] at this
  exact this
def appN (l : List ByteArray) (s : ByteArray) : List ByteArray := if validN (l ++ [s]) = true then l ++ [s] else l
def vs2 (a b : Value) (j : Nat) : Value := if j = 0 then a else b
def ls2 (a b : List ByteArray) (j : Nat) : List ByteArray := if j = 0 then a else b
set_option maxHeartbeats 1000000 in
theorem l4Copy (v : Value) (l : List ByteArray) (w : World) (h : Holds Value.string w v l) (hl : l.length ≤ 10000000) :
    Calls Try.prog 68 #[.agg #[v]] w (GivesN w l) := by
  obtain ⟨x, n, cap, rfl, hn, hcap, hh⟩ := h.shapeN
  rw [← hn] at hl
  have HB0 := Lib.hid ((((Below.refl w.heap.size w).alloc (Nat.le_refl _) (.cells #[.slice x n cap] 34)).alloc (by simp) (.cells #[.slice none 0 0] 34)).alloc (by simp; omega) (.cells #[] 9))
  have HN := Lib.hid hn
  have HT2 := Lib.hid (hh.on HB0.out)
  have HO := Lib.hid (own_empty Value.string 9 ((w.alloc (.cells #[.slice x n cap] 34)).alloc (.cells #[.slice none 0 0] 34)))
  simp only [World.size_alloc] at HO
  have HR := Lib.hid ((Ret.NC.new' (.slice none 0 0) 34 (w := w.alloc (.cells #[.slice x n cap] 34)) (n := w.heap.size + 1) (by simp)).alloc (.cells #[] 9))
  clear hh h hn
  go_enter Try.func68, Try.ntmps68
  go_wp2_with (at_builtin; refine wpList_app (enc := Value.string) (B := w.heap.size + 1 + 1) (l := []) (m := l) rfl _ _ rfl Try.underlying29 elemSTR rfl rfl rfl HO.out HT2.out oneStr (by rw [← HN.out]; simp; omega) (by rw [← HN.out]; unfold maxLen; simp; omega) (by simp) ?_)
  intro v3 w3 ho3 hg3
  obtain ⟨x3, n3, c3, rfl, hn3, hc3, ho3⟩ := ho3.shapeN
  clear hn3
  have HB4 := Lib.hid (HB0.out.grown hg3 (by simp; omega) (fun g hh => by have := (HO.out.lt g hh).1; omega))
  obtain ⟨hk2, hf2⟩ := HR.out.grown hg3 (by simp [Value.ownBlock])
  obtain ⟨q1, q2, q3⟩ := endN (w := w) (g := w.heap.size + 1) (by omega) (by omega) ho3 hk2 HB4.out
  have HQ1 := Lib.hid q1; have HQ2 := Lib.hid q2; have HQ3 := Lib.hid q3
  clear q1 q2 q3 ho3 hg3
  go_wp2
  refine bodyPost_ret (Ret.results_c rfl _ _ (w.heap.size + 1) [_] rfl aggN (Ret.one HQ1.out)) rfl ?_
  exact ⟨_, rfl, HQ2.out, HQ3.out⟩

end Go.Proofs.Ytnblopilgfdjkaa.Row
/- The names' contracts with their answers as letters. No conditions but that lengths fit. -/
namespace Go.Proofs.Ytnblopilgfdjkaa.Row.Ring
open Go.ChangeShapes Go.WideShapes Go.ChangeAt Go.RowKit Go.Instr
set_option linter.unusedVariables false
set_option maxRecDepth 100000
section
variable {v u : Value} {l m : List ByteArray} {w : World}
theorem sEqV (b : Bool) (hb : eqB l m = b) (h : Holds Value.string w v l) (g : Holds Value.string w u m) (hl : l.length ≤ 9000000) (hm : m.length ≤ 9000000) :
    Calls Try.prog 77 #[.agg #[v], .agg #[u]] w fun e w' => e = .returned (.bool b) ∧ Below w.heap.size w w' := hb ▸ specEqualNames _ _ l m _ h g (by omega) (by omega)
theorem sValV (b : Bool) (hb : validN l = b) (h : Holds Value.string w v l) (hl : bulk l ≤ 9000000) :
    Calls Try.prog 48 #[.agg #[v]] w fun e w' => e = .returned (.bool b) ∧ Below w.heap.size w w' := hb ▸ specValidName _ l _ h (by omega)
end
end Go.Proofs.Ytnblopilgfdjkaa.Row.Ring
/- Contract of the program's copy of a name. No conditions but that lengths fit. -/
namespace Go.Proofs.Ytnblopilgfdjkaa.Row
open Go.ChangeShapes Go.WideShapes Go.ChangeAt Go.RowKit Go.Instr
set_option linter.unusedVariables false
set_option maxRecDepth 100000

set_option maxHeartbeats 4000000 in
theorem cloneName (v : Value) (l : List ByteArray) (w : World) (h : Holds Value.string w v l) (hl : l.length ≤ 9000000) :
    Calls Try.prog 89 #[.agg #[v]] w (GivesN w l) := by
  obtain ⟨x, n, cap, rfl, hn, hcap, hh⟩ := h.shapeN
  have HB0 := Lib.hid (((Below.refl w.heap.size w).alloc (Nat.le_refl _) (.cells #[.slice x n cap] 34)).alloc (by simp) (.cells #[.slice none 0 0] 34))
  have HH := Lib.hid (hh.on HB0.out)
  have HR := Lib.hid (Ret.NC.new' (.slice none 0 0) 34 (w := w.alloc (.cells #[.slice x n cap] 34)) (n := w.heap.size + 1) (by simp))
  clear hh h hn
  go_enter Try.func89, Try.ntmps89
  go_wp2_with fail
  refine (cloneS _ l _ HH.out (by omega)).mono ?_
  rintro e w1 ⟨v1, rfl, ho, hb⟩
  obtain ⟨x1, n1, c1, rfl, -, -, ho1⟩ := ho.shapeN
  have HR1 := Lib.hid (HR.out.on hb)
  obtain ⟨hk, hf⟩ := HR1.out
  have HB1 := HB0.out.trans (hb.mono HB0.out.size)
  obtain ⟨q1, q2, q3⟩ := endN (w := w) (g := w.heap.size + 1) (by omega) (by simp) ho1 hk HB1
  have HQ1 := Lib.hid q1; have HQ2 := Lib.hid q2; have HQ3 := Lib.hid q3
  clear q1 q2 q3 ho ho1 hb HB1
  go_wp2
  refine bodyPost_ret (Ret.results_c rfl _ _ (w.heap.size + 1) [_] rfl aggN (Ret.one HQ1.out)) rfl ?_
  exact ⟨_, rfl, HQ2.out, HQ3.out⟩
end Go.Proofs.Ytnblopilgfdjkaa.Row
/- Contracts of the copies of lists of keys, the program's and the model's. No conditions but that lengths fit. -/
namespace Go.Proofs.Ytnblopilgfdjkaa.Row.Ring
open Go.ChangeShapes Go.WideShapes Go.ChangeAt Go.RowKit Go.Instr
set_option linter.unusedVariables false
set_option maxRecDepth 100000

/-- A result that is a table of the call's own. -/
def GivesT (w : World) (T : List (List ByteArray × Int)) (e : Ending) (w' : World) : Prop := ∃ v, e = .returned v ∧ TabOwn w.heap.size w' v T ∧ Below w.heap.size w w'
/-- A table grows by one entry whose name is new. -/
theorem TabO.grow {B : Nat} {w wd w3 w4 : World} {v v4 : Value} {M : List Ent} {x : Ent} {o : Obj} (hT : TabO B wd v M) (hW : Below B w wd) (hB : B ≤ wd.heap.size) (hb3 : Below wd.heap.size wd w3) (ho3 : Own 9 Value.string wd.heap.size w3 x.v x.ps)
    (ho4 : OwnK 67 encE 2 B w4 v4 (M ++ [x])) (hg4 : (w3.alloc o).grownBy w4 v.ownBlock) : TabO B w4 v4 (M ++ [x]) ∧ Below B w w4 := by
  have ha := (Below.refl w3.heap.size w3).alloc (Nat.le_refl _) o
  refine ⟨((hT.on hb3).on ha).push ((ho3.on ha).mono hB) (hT.fresh fun g hg => (ho3.lt g hg).1) ho4 hg4, ?_⟩
  have h1 := (hW.trans (hb3.mono hB)).alloc (Nat.le_trans hB hb3.size) o
  exact h1.grown hg4 (by have := hb3.size; simp; omega) (fun g hg => (hT.lt.1 g hg).1)
theorem take_next {T : List (List ByteArray × Int)} {k : Nat} (h : k < T.length) : T.take (k + 1) = T.take k ++ [nth T k] := by rw [List.take_succ_eq_append_getElem h, nth_eq h]
theorem strip_next {M L : List Ent} {k : Nat} {x : Ent} (h : k < L.length) (hM : strip M = (strip L).take k) (hx : x.t = (nth L k).t) : strip (M ++ [x]) = (strip L).take (k + 1) := by
  rw [strip_append, hM, take_next (by rw [strip_length]; exact h), strip_nth h, ← hx]; rfl

set_option maxHeartbeats 4000000 in
theorem cloneKeys (v : Value) (T : List (List ByteArray × Int)) (w : World) (h : TabHolds w v T) (hl : T.length ≤ 4000000) (hT : smT T) :
    Calls Try.prog 69 #[v] w (GivesT w T) := by
  obtain ⟨L, rfl, h⟩ := h
  obtain ⟨x, n, cx, rfl, hn, hcx, hh⟩ := h.shapeN
  obtain ⟨i0, hi, hz0, hz1, hz2⟩ := info_parts kindE.elem
  rw [strip_length, ← hn] at hl
  have HN := Lib.hid hn
  have HH := Lib.hid hh
  have HT := Lib.hid hT
  have HI := Lib.hid hi; have HZ0 := Lib.hid hz0; have HZ1 := Lib.hid hz1; have HZ2 := Lib.hid hz2
  clear hn h hh hT hi hz0 hz1 hz2
  go_enter Try.func69, Try.ntmps69
  go_wp2_with (at_make; refine wpList_make_own _ rfl _ _ 25 rfl w.heap.size 67 i0 (.agg #[.slice none 0 0, .int .i64 0]) 2 Try.underlying25 HI.out HZ0.out HZ1.out _ _ _ n rfl rfl rfl (by rw [HZ2.out]; omega) (by unfold maxLen; omega) (Nat.le_refl _) ?_)
  intro w1 hown hgrow
  have HO := Lib.hid (show TabO w.heap.size w1 (.slice (some ⟨w.heap.size, 0, none⟩) 0 n) [] from ⟨hown, by simp, by simp⟩)
  have HB := Lib.hid ((Below.refl w.heap.size w).grown hgrow (Nat.le_refl _) (fun g hg => by cases hg))
  clear hown hgrow HI HZ0 HZ1 HZ2
  go_wp2
  go_loopw [3, 11] (fun u i wr => ∃ k : Nat, k ≤ n ∧ i = .int .i64 k ∧ ∃ M : List Ent, Hid (M.length = k) ∧ Hid (strip M = (strip L).take k) ∧ Hid (TabO w.heap.size wr u M) ∧ Hid (Below w.heap.size w wr)) (fun _ i _ => n - (intOf i).toNat)
  case atStart => exact ⟨0, Nat.zero_le _, rfl, [], Lib.hid rfl, Lib.hid (by simp [strip]), HO, HB⟩
  case round =>
    obtain ⟨k, hk, rfl, M, hM, hst, ho, hb⟩ := hrel
    obtain ⟨xu, nu, cu, rfl, -, -, ho⟩ := ho.out.shapeN
    have ho := Lib.hid ho
    by_cases hlt : k < n
    · have hlen := HN.out
      obtain ⟨b, off, rfl, hc, hd, hnm⟩ := (HH.out.on hb.out).at (k := k) (by omega)
      have HL := Lib.hid (smT_psl HT.out (k := k) (by omega))
      have hal := ((Below.refl wr.heap.size wr).alloc (Nat.le_refl _) (.cells #[.slice (nth L k).ad (nth L k).n (nth L k).cap, .int .i64 (nth L k).val] 67)).drew
      have HOd := Lib.hid (ho.out.on hal)
      have HNM := Lib.hid (hnm.on hal)
      have HBd := Lib.hid (hb.out.trans (hal.mono hb.out.size))
      have hq1 : (wr.alloc (.cells #[.slice (nth L k).ad (nth L k).n (nth L k).cap, .int .i64 (nth L k).val] 67)).drew.cell? ⟨wr.heap.size, 1, none⟩ = some (.int .i64 (nth L k).val) := by
        rw [show (wr.alloc (.cells #[.slice (nth L k).ad (nth L k).n (nth L k).cap, .int .i64 (nth L k).val] 67)).drew.cell? ⟨wr.heap.size, 1, none⟩ = (wr.alloc (.cells #[.slice (nth L k).ad (nth L k).n (nth L k).cap, .int .i64 (nth L k).val] 67)).cell? ⟨wr.heap.size, 1, none⟩ from rfl, World.cell?_alloc_at _ _ _ _ rfl]; rfl
      have HLM := Lib.hid (show (M.length + 1) * 32 ≤ 140737488355328 by have := hM.out; omega)
      have HLX := Lib.hid (show M.length + 1 ≤ maxLen by have := hM.out; unfold maxLen; omega)
      have HKL := Lib.hid (show k < L.length by omega)
      clear hlen hnm hal
      go_wp2_with fail
      go_region_law (first | (refine step_appK kindE (B := w.heap.size) (l := M) (m := [⟨x3, n3, c3, (nth L k).ps, (nth L k).val⟩]) rfl _ _ (by rfl) Try.underlying25 (by rfl) (by rfl) HOA.out (holdsK_one szE 67 w3 ⟨x3, n3, c3, (nth L k).ps, (nth L k).val⟩) HLM.out HLX.out hB3 ?_; intro v4 w4 ho4 hg4; obtain ⟨x4, n4, c4, rfl, -, -, ho4⟩ := ho4.shapeN; have HQ := Lib.hid (TabO.grow HOd.out HBd.out HBd.out.size HB3.out HO3.out ho4 hg4); clear ho4 hg4) | (go_simp; go_at_call 89; refine (cloneName _ (nth L k).ps _ HNM.out HL.out).mono ?_; rintro e w3 ⟨v3, rfl, ho3, hb3⟩; obtain ⟨x3, n3, c3, rfl, -, -, ho3⟩ := ho3.shapeN; have HO3 := Lib.hid (show Own 9 Value.string _ w3 (Ent.v ⟨x3, n3, c3, (nth L k).ps, (nth L k).val⟩) (nth L k).ps from ho3); have HB3 := Lib.hid hb3; have hq3 : w3.cell? ⟨wr.heap.size, 1, none⟩ = some (.int .i64 (nth L k).val) := (hb3.cell (cell_lt hq1)).trans hq1; have HOA := Lib.hid ((HOd.out.1.on hb3).on ((Below.refl _ _).alloc (Nat.le_refl _) (.cells #[.slice x3 n3 c3, .int .i64 (nth L k).val] 67))); have hB3 : w.heap.size ≤ (w3.alloc (.cells #[.slice x3 n3 c3, .int .i64 (nth L k).val] 67)).heap.size := (by have := Nat.le_trans HBd.out.size hb3.size; simp; omega); clear ho3 hb3))
      all_goals
        have HST := Lib.hid (strip_next (x := ⟨x3, n3, c3, (nth L k).ps, (nth L k).val⟩) HKL.out hst.out rfl)
        clear hq3 hc hd
        go_wp2_with fail
        go_roundw
        case rel => exact ⟨k + 1, by omega, by go_num, _, Lib.hid (by simp [hM.out]), HST, Lib.hid HQ.out.1, Lib.hid HQ.out.2⟩
        case measure => simp [intOf]; omega
    · obtain rfl : k = n := by omega
      clear hlt
      go_wp2
      go_ret
      refine ⟨_, rfl, ⟨M, ?_, ho.out⟩, hb.out⟩
      rw [hst.out, List.take_of_length_le (by rw [strip_length, ← HN.out]; exact Nat.le_refl _)]


theorem ownK_some {α : Type} {enc : α → List Value} {e : TypeId} {sz B : Nat} {w : World} {v : Value} {l : List α} (h : OwnK e enc sz B w v l) (hl : l ≠ []) : v.ownBlock ≠ none := by
  rcases h.form with ⟨_, h0⟩ | ⟨g, cap, rfl, _⟩
  · exact absurd h0 hl
  · simp [Value.ownBlock]
set_option maxHeartbeats 4000000 in
theorem l9CopyB (v : Value) (T : List (List ByteArray × Int)) (w : World) (h : TabHolds w v T) (hl : T.length ≤ 4000000) (hT : smT T) :
    Calls Try.prog 67 #[v] w fun e w' => ∃ v, e = .returned v ∧ TabOwn w.heap.size w' v T ∧ Below w.heap.size w w' ∧ v.ownBlock ≠ none := by
  obtain ⟨L, rfl, h⟩ := h
  obtain ⟨x, n, cx, rfl, hn, hcx, hh⟩ := h.shapeN
  rw [strip_length, ← hn] at hl
  have HN := Lib.hid hn
  have HH := Lib.hid hh
  have HT := Lib.hid hT
  have HO := Lib.hid (TabO.empty w)
  have HB := Lib.hid ((Below.refl w.heap.size w).alloc (Nat.le_refl _) (.cells #[] 67))
  clear hn h hh hT
  go_enter Try.func67, Try.ntmps67
  go_wp2
  go_loopw [3, 4] (fun u i wr => ∃ k : Nat, k ≤ n ∧ i = .int .i64 k ∧ ∃ M : List Ent, Hid (M.length = k) ∧ Hid (strip M = (strip L).take k) ∧ Hid (TabO w.heap.size wr u M) ∧ Hid (Below w.heap.size w wr) ∧ Hid (u.ownBlock ≠ none)) (fun _ i _ => n - (intOf i).toNat)
  case atStart => exact ⟨0, Nat.zero_le _, rfl, [], Lib.hid rfl, Lib.hid (by simp [strip]), HO, HB, Lib.hid (by simp [Value.ownBlock])⟩
  case round =>
    obtain ⟨k, hk, rfl, M, hM, hst, ho, hb, hob⟩ := hrel
    obtain ⟨xu, nu, cu, rfl, -, -, ho⟩ := ho.out.shapeN
    have ho := Lib.hid ho
    by_cases hlt : k < n
    · have hlen := HN.out
      obtain ⟨b, off, rfl, hc, hd, hnm⟩ := (HH.out.on hb.out).at (k := k) (by omega)
      have HL := Lib.hid (smT_psl HT.out (k := k) (by omega))
      have HNM := Lib.hid hnm
      have HLM := Lib.hid (show (M.length + 1) * 32 ≤ 140737488355328 by have := hM.out; omega)
      have HLX := Lib.hid (show M.length + 1 ≤ maxLen by have := hM.out; unfold maxLen; omega)
      have HKL := Lib.hid (show k < L.length by omega)
      clear hlen hnm
      go_wp2_with fail
      refine (l4Copy _ (nth L k).ps _ HNM.out (Nat.le_trans HL.out (by decide))).mono ?_
      rintro e w3 ⟨v3, rfl, ho3, hb3⟩
      obtain ⟨x3, n3, c3, rfl, -, -, ho3⟩ := ho3.shapeN
      have ha := (Below.refl w3.heap.size w3).alloc (Nat.le_refl _) (.cells #[.slice x3 n3 c3] 34)
      have hq0 : ((w3.alloc (.cells #[.slice x3 n3 c3] 34))).cell? ⟨w3.heap.size, 0, none⟩ = some (.slice x3 n3 c3) := Ret.cell_at rfl
      have hq1 : ((w3.alloc (.cells #[.slice x3 n3 c3] 34))).cell? ⟨b, off + k * 2 + 1, none⟩ = some (.int .i64 (nth L k).val) := (ha.cell (Nat.lt_of_lt_of_le (cell_lt hd) hb3.size)).trans ((hb3.cell (cell_lt hd)).trans hd)
      have hq0d : ((w3.alloc (.cells #[.slice x3 n3 c3] 34))).drew.cell? ⟨w3.heap.size, 0, none⟩ = some (.slice x3 n3 c3) := hq0
      have hq1d : ((w3.alloc (.cells #[.slice x3 n3 c3] 34))).drew.cell? ⟨b, off + k * 2 + 1, none⟩ = some (.int .i64 (nth L k).val) := hq1
      have HO3 := Lib.hid (show Own 9 Value.string wr.heap.size ((w3.alloc (.cells #[.slice x3 n3 c3] 34)).drew) (Ent.v ⟨x3, n3, c3, (nth L k).ps, (nth L k).val⟩) (nth L k).ps from (ho3.on ha).on (Below.refl _ _).drew)
      have hbd := ((hb3.trans (ha.mono hb3.size))).drew
      have HB3 := Lib.hid hbd
      have HOA := Lib.hid ((ho.out.1.on hbd).on ((Below.refl _ _).alloc (Nat.le_refl _) (.cells #[.slice x3 n3 c3, .int .i64 (nth L k).val] 67)))
      have hB3 : w.heap.size ≤ (((w3.alloc (.cells #[.slice x3 n3 c3] 34)).drew).alloc (.cells #[.slice x3 n3 c3, .int .i64 (nth L k).val] 67)).heap.size := by have := Nat.le_trans hb.out.size hbd.size; rw [World.size_alloc]; omega
      have hs1 := holdsK_one szE 67 ((w3.alloc (.cells #[.slice x3 n3 c3] 34)).drew) ⟨x3, n3, c3, (nth L k).ps, (nth L k).val⟩
      rw [show ((w3.alloc (.cells #[.slice x3 n3 c3] 34)).drew).heap.size = w3.heap.size + 1 by simp] at hs1
      have HS1 := Lib.hid hs1
      clear hc hd ho3 hb3 ha hbd hs1
      go_wp2_with fail
      go_region_law (refine step_appK kindE (B := w.heap.size) (l := M) (m := [⟨x3, n3, c3, (nth L k).ps, (nth L k).val⟩]) rfl _ _ (by rfl) Try.underlying25 (by rfl) (by rfl) HOA.out HS1.out HLM.out HLX.out hB3 ?_; intro v4 w4 ho4 hg4; obtain ⟨x4, n4, c4, rfl, -, -, ho4⟩ := ho4.shapeN; have HQ := Lib.hid (TabO.grow ho.out hb.out hb.out.size HB3.out HO3.out ho4 hg4); clear ho4 hg4)
      all_goals
        have HST := Lib.hid (strip_next (x := ⟨x3, n3, c3, (nth L k).ps, (nth L k).val⟩) HKL.out hst.out rfl)
        clear hq0 hq1 hq0d hq1d
        go_wp2_with fail
        go_roundw
        case rel => exact ⟨k + 1, by omega, by go_num, _, Lib.hid (by simp [hM.out]), HST, Lib.hid HQ.out.1, Lib.hid HQ.out.2, Lib.hid (ownK_some HQ.out.1.1 (by simp))⟩
        case measure => simp [intOf]; omega
    · obtain rfl : k = n := by omega
      clear hlt
      go_wp2
      go_ret
      refine ⟨_, rfl, ⟨M, ?_, ho.out⟩, hb.out, hob.out⟩
      rw [hst.out, List.take_of_length_le (by rw [strip_length, ← HN.out]; exact Nat.le_refl _)]

theorem l9Copy (v : Value) (T : List (List ByteArray × Int)) (w : World) (h : TabHolds w v T) (hl : T.length ≤ 4000000) (hT : smT T) :
    Calls Try.prog 67 #[v] w (GivesT w T) :=
  (l9CopyB v T w h hl hT).mono fun e w' ⟨v', h1, h2, h3, _⟩ => ⟨v', h1, h2, h3⟩

end Go.Proofs.Ytnblopilgfdjkaa.Row.Ring
/- Contracts of the model's search for a key. No conditions but that lengths fit. -/
namespace Go.Proofs.Ytnblopilgfdjkaa.Row.Ring
open Go.ChangeShapes Go.WideShapes Go.ChangeAt Go.RowKit Go.Instr
set_option linter.unusedVariables false
set_option maxRecDepth 100000

/-- The place of the first entry of which p is true; -1 if there is none. -/
def ixT (p : List ByteArray × Int → Bool) (T : List (List ByteArray × Int)) : Int := if T.findIdx p < T.length then (T.findIdx p : Int) else -1
def noP (p : List ByteArray × Int → Bool) (T : List (List ByteArray × Int)) (i : Nat) : Prop := ∀ j, j < i → p (nth T j) = false
section
variable {p : List ByteArray × Int → Bool} {T : List (List ByteArray × Int)} {i : Nat}
theorem noP_zero (p : List ByteArray × Int → Bool) (T : List (List ByteArray × Int)) : noP p T 0 := fun j h => absurd h (by omega)
theorem noP_succ (h : noP p T i) (hc : p (nth T i) = false) : noP p T (i + 1) := fun j h1 => by
  by_cases e : j = i
  · subst e; exact hc
  · exact h j (by omega)
theorem fp_at (hi : i < T.length) (h : noP p T i) (hc : p (nth T i) = true) : T.findIdx p = i := by
  rw [List.findIdx_eq hi]
  exact ⟨by rw [← nth_eq hi]; exact hc, fun j hj => by rw [← nth_eq (Nat.lt_trans hj hi)]; exact h j hj⟩
theorem fp_none (h : noP p T T.length) : T.findIdx p = T.length := by
  rw [List.findIdx_eq_length]
  intro x hx
  obtain ⟨j, hj, rfl⟩ := List.getElem_of_mem hx
  rw [← nth_eq hj]; exact h j hj
theorem ixT_at (hi : i < T.length) (h : noP p T i) (hc : p (nth T i) = true) : ixT p T = i := by
  unfold ixT; rw [fp_at hi h hc, if_pos hi]
theorem ixT_none (h : noP p T T.length) : ixT p T = -1 := by
  unfold ixT; rw [fp_none h, if_neg (by omega)]
/-- There is none, or there is a place. -/
theorem ixT_cases (p : List ByteArray × Int → Bool) (T : List (List ByteArray × Int)) : (ixT p T = -1 ∧ T.findIdx p = T.length ∧ noP p T T.length) ∨ ∃ i, i < T.length ∧ ixT p T = (i : Int) ∧ T.findIdx p = i ∧ p (nth T i) = true ∧ noP p T i := by
  by_cases h : T.findIdx p < T.length
  · refine Or.inr ⟨T.findIdx p, h, by unfold ixT; rw [if_pos h], rfl, ?_, ?_⟩
    · rw [nth_eq h]; exact List.findIdx_getElem
    · intro j hj
      rw [nth_eq (Nat.lt_trans hj h)]
      have := List.not_of_lt_findIdx hj
      simpa using this
  · have e : T.findIdx p = T.length := Nat.le_antisymm List.findIdx_le_length (by omega)
    refine Or.inl ⟨by unfold ixT; rw [if_neg h], e, fun j hj => ?_⟩
    rw [nth_eq hj]
    have := List.not_of_lt_findIdx (p := p) (xs := T) (i := j) (by omega)
    simpa using this
end
/-- The entry has this name. -/
def isN (n : List ByteArray) (x : List ByteArray × Int) : Bool := eqB x.1 n
def lkN (T : List (List ByteArray × Int)) (n : List ByteArray) : Int := if T.findIdx (isN n) < T.length then (nth T (T.findIdx (isN n))).2 else 0
set_option maxHeartbeats 2000000 in
theorem l9Find (v u : Value) (T : List (List ByteArray × Int)) (m : List ByteArray) (w : World) (h : TabHolds w v T) (g : Holds Value.string w u m) (hl : T.length ≤ 100000000) (hT : smT T) (hm : m.length ≤ 9000000) :
    Calls Try.prog 50 #[v, .agg #[u]] w fun e w' => e = .returned (.int .i64 (ixT (isN m) T)) ∧ Below w.heap.size w w' := by
  obtain ⟨L, rfl, h⟩ := h
  obtain ⟨x, n, cx, rfl, hn, hcx, hh⟩ := h.shapeN
  obtain ⟨y, q, cy, rfl, -, hcy, hg⟩ := g.shapeN
  rw [strip_length, ← hn] at hl
  have HB0 := Lib.hid ((Below.refl w.heap.size w).alloc (Nat.le_refl _) (.cells #[.slice y q cy] 34))
  have HC0 := Lib.hid (Ret.Box.new w (.slice y q cy) 34)
  have HN := Lib.hid hn
  have HH := Lib.hid (hh.on HB0.out)
  have HG := Lib.hid (hg.on HB0.out)
  have HT := Lib.hid hT
  clear hn h hh hT g hg
  go_enter Try.func50, Try.ntmps50
  go_wp2
  go_loopw [5] (fun i wr => ∃ k : Nat, k ≤ n ∧ i = .int .i64 k ∧ Hid (noP (isN m) (strip L) k) ∧ Hid (Below (w.alloc (.cells #[.slice y q cy] 34)).heap.size (w.alloc (.cells #[.slice y q cy] 34)) wr)) (fun i _ => n - (intOf i).toNat)
  case atStart => exact ⟨0, Nat.zero_le _, rfl, Lib.hid (noP_zero _ _), Lib.hid (Below.refl _ _)⟩
  case round =>
    obtain ⟨k, hk, rfl, ha, hb⟩ := hrel
    by_cases hlt : k < n
    · have hlen := HN.out
      obtain ⟨b, off, rfl, hc, hd, hnm⟩ := (HH.out.on hb.out).at (k := k) (by omega)
      have HL := Lib.hid (smT_psl HT.out (k := k) (by omega))
      have HE := Lib.hid (strip_nth (L := L) (k := k) (by omega))
      have hc0 := (HC0.out.on hb.out).cell
      have HNM := Lib.hid (hnm.on (Below.refl wr.heap.size wr).drew)
      have HGM := Lib.hid ((HG.out.on hb.out).on (Below.refl wr.heap.size wr).drew)
      have hk0 : (0 : Int) ≤ (k : Int) := by omega
      have hk1 : (k : Int) < (n : Int) := by omega
      have KS := Lib.hid (show wr.drew.cell? ⟨b, off + k * 2, none⟩ = some (.slice (nth L k).ad (nth L k).n (nth L k).cap) ∧ wr.drew.cell? ⟨w.heap.size, 0, none⟩ = some (.slice y q cy) ∧ Below (w.alloc (.cells #[.slice y q cy] 34)).heap.size (w.alloc (.cells #[.slice y q cy] 34)) wr.drew from ⟨hc, hc0, hb.out.drew⟩)
      by_cases he : isN m (nth L k).t = true
      · have HEQ := Lib.hid (show eqB (nth L k).ps m = true from he)
        have HA := Lib.hid (ixT_at (T := strip L) (by rw [strip_length]; omega) ha.out (by rw [HE.out]; exact he))
        clear hlen he hnm hc hd hc0
        go_wp2_with fail
        go_region_held3 (fun w' => w'.cell? ⟨b, off + k * 2, none⟩ = some (.slice (nth L k).ad (nth L k).n (nth L k).cap) ∧ w'.cell? ⟨w.heap.size, 0, none⟩ = some (.slice y q cy) ∧ Below (w.alloc (.cells #[.slice y q cy] 34)).heap.size (w.alloc (.cells #[.slice y q cy] 34)) w') (first | exact KS.out | exact keepN2 KS.out hb1) ((go_at_call 77; refine (sEqV true HEQ.out HNM.out HGM.out HL.out hm).mono ?_; rintro e w1 ⟨rfl, hb1⟩))
        all_goals
          have HB3 := Lib.hid (keepN2 KS.out hb1).2.2
          clear hb1
          go_wp2_with fail
          go_ret
          exact ⟨ret_int HA.out.symm, HB0.out.trans (HB3.out.mono (by simp))⟩
      · have he : isN m (nth L k).t = false := by simpa using he
        have HEQ := Lib.hid (show eqB (nth L k).ps m = false from he)
        have HA := Lib.hid (noP_succ ha.out (by rw [HE.out]; exact he))
        clear hlen he hnm hc hd hc0
        go_wp2_with fail
        go_region_held3 (fun w' => w'.cell? ⟨b, off + k * 2, none⟩ = some (.slice (nth L k).ad (nth L k).n (nth L k).cap) ∧ w'.cell? ⟨w.heap.size, 0, none⟩ = some (.slice y q cy) ∧ Below (w.alloc (.cells #[.slice y q cy] 34)).heap.size (w.alloc (.cells #[.slice y q cy] 34)) w') (first | exact KS.out | exact keepN2 KS.out hb1) ((go_at_call 77; refine (sEqV false HEQ.out HNM.out HGM.out HL.out hm).mono ?_; rintro e w1 ⟨rfl, hb1⟩))
        all_goals
          have HB3 := Lib.hid (keepN2 KS.out hb1).2.2
          clear hb1
          go_wp2_with fail
          go_roundw
          case rel => exact ⟨k + 1, by omega, by go_num, HA, HB3⟩
          case measure => simp [intOf]; omega
    · obtain rfl : k = n := by omega
      have HV := Lib.hid (ixT_none (T := strip L) (p := isN m) (by rw [strip_length, ← HN.out]; exact ha.out))
      clear hlt
      go_wp2
      go_ret
      exact ⟨ret_int HV.out.symm, HB0.out.trans (hb.out.mono (by simp))⟩

end Go.Proofs.Ytnblopilgfdjkaa.Row.Ring
/- Kinds of values with memory beneath them, for any program: scalars, structs, slices of whatever: what lies in memory, what it reads as, what is the call's own; what keeps it. No conditions. -/
namespace Go.Proofs.Ytnblopilgfdjkaa.Row
open Go.ChangeShapes Go.WideShapes Go.ChangeAt Go.RowKit Go.Instr
set_option linter.unusedVariables false
set_option maxRecDepth 100000

/-- A slice as it lies: where, and its elements as they lie. -/
structure Rw (M : Type) where
  ad : Option Addr
  n : Nat
  cap : Nat
  els : List M
instance {M : Type} : Inhabited (Rw M) := ⟨⟨none, 0, 0, []⟩⟩
def Rw.v {M : Type} (r : Rw M) : Value := .slice r.ad r.n r.cap

/-- A kind: α: as it is read; M: as it lies in memory. -/
structure Kd (α M : Type) where
  strip : M → α
  cells : M → List Value
  size : Nat
  val : M → Value
  len : ∀ m, (cells m).length = size
  one : ∀ m, ∀ u ∈ cells m, u.oneCell' = true
  holds : World → M → Prop
  own : Nat → World → M → Prop
  blocks : M → List Nat
  holds_on : ∀ {w w' m}, holds w m → Below w.heap.size w w' → holds w' m
  own_holds : ∀ {B w m}, own B w m → holds w m
  own_keep : ∀ {B w w' m}, own B w m → (∀ g ∈ blocks m, w'.heap[g]? = w.heap[g]?) → own B w' m
  own_lt : ∀ {B w m}, own B w m → ∀ g ∈ blocks m, B ≤ g ∧ g < w.heap.size
  own_mono : ∀ {B B' w m}, own B w m → B' ≤ B → own B' w m

/-- A scalar: one cell, nothing beneath. -/
def Kd.scalar {α : Type} (enc : α → Value) (h1 : ∀ x, (enc x).oneCell' = true) : Kd α α where
  strip := id
  cells := fun x => [enc x]
  size := 1
  val := enc
  len := fun _ => rfl
  one := fun x u hu => by rw [List.mem_singleton.1 hu]; exact h1 x
  holds := fun _ _ => True
  own := fun _ _ _ => True
  blocks := fun _ => []
  holds_on := fun _ _ => trivial
  own_holds := fun _ => trivial
  own_keep := fun _ _ => trivial
  own_lt := fun _ g hg => by cases hg
  own_mono := fun _ _ => trivial
def kInt : Kd Int Int := Kd.scalar (Value.int .i64) (fun _ => rfl)
def kByte : Kd Int Int := Kd.scalar (Value.int .u8) (fun _ => rfl)
def kBool : Kd Bool Bool := Kd.scalar Value.bool (fun _ => rfl)
def kStr : Kd ByteArray ByteArray := Kd.scalar Value.string (fun _ => rfl)

/-- Two fields, one behind the other. -/
def Kd.pair {α M β N : Type} (k : Kd α M) (l : Kd β N) : Kd (α × β) (M × N) where
  strip := fun m => (k.strip m.1, l.strip m.2)
  cells := fun m => k.cells m.1 ++ l.cells m.2
  size := k.size + l.size
  val := fun m => .agg (k.cells m.1 ++ l.cells m.2).toArray
  len := fun m => by rw [List.length_append, k.len, l.len]
  one := fun m u hu => (List.mem_append.1 hu).elim (k.one _ u) (l.one _ u)
  holds := fun w m => k.holds w m.1 ∧ l.holds w m.2
  own := fun B w m => k.own B w m.1 ∧ l.own B w m.2
  blocks := fun m => k.blocks m.1 ++ l.blocks m.2
  holds_on := fun h hb => ⟨k.holds_on h.1 hb, l.holds_on h.2 hb⟩
  own_holds := fun h => ⟨k.own_holds h.1, l.own_holds h.2⟩
  own_keep := fun h hg => ⟨k.own_keep h.1 (fun g e => hg g (List.mem_append_left _ e)), l.own_keep h.2 (fun g e => hg g (List.mem_append_right _ e))⟩
  own_lt := fun h g e => (List.mem_append.1 e).elim (k.own_lt h.1 g) (l.own_lt h.2 g)
  own_mono := fun h hB => ⟨k.own_mono h.1 hB, l.own_mono h.2 hB⟩
/-- A struct of one field. -/
def Kd.wrap {α M : Type} (k : Kd α M) : Kd α M := { k with val := fun m => .agg (k.cells m).toArray }

theorem ownK_keep {α : Type} {enc : α → List Value} {sz B : Nat} {e : TypeId} {w w' : World} {v : Value} {l : List α} (h : OwnK e enc sz B w v l) (hg : ∀ g, v.ownBlock = some g → w'.heap[g]? = w.heap[g]?) : OwnK e enc sz B w' v l := by
  refine ⟨h.1, ?_⟩
  rcases h.2 with h2 | ⟨g, cap, cur, hv, hB, hc, r⟩
  · exact Or.inl h2
  · refine Or.inr ⟨g, cap, cur, hv, hB, ?_, r⟩
    rw [hg g (by rw [hv]; rfl)]
    exact hc
/-- A slice of elements of a kind; e: the elements' type. -/
def Kd.slice {α M : Type} (e : TypeId) (k : Kd α M) : Kd (List α) (Rw M) where
  strip := fun r => r.els.map k.strip
  cells := fun r => [r.v]
  size := 1
  val := Rw.v
  len := fun _ => rfl
  one := fun r u hu => by rw [List.mem_singleton.1 hu]; rfl
  holds := fun w r => HoldsK k.cells k.size w r.v r.els ∧ ∀ x ∈ r.els, k.holds w x
  own := fun B w r => OwnK e k.cells k.size B w r.v r.els ∧ ∀ x ∈ r.els, k.own B w x
  blocks := fun r => r.v.ownBlock.toList ++ r.els.flatMap k.blocks
  holds_on := fun h hb => ⟨h.1.on hb, fun x hx => k.holds_on (h.2 x hx) hb⟩
  own_holds := fun h => ⟨h.1.holds, fun x hx => k.own_holds (h.2 x hx)⟩
  own_keep := fun h hg => ⟨ownK_keep h.1 (fun g e => hg g (List.mem_append_left _ (by simp [e]))), fun x hx => k.own_keep (h.2 x hx) (fun g e => hg g (List.mem_append_right _ (List.mem_flatMap.2 ⟨x, hx, e⟩)))⟩
  own_lt := fun h g e => by
    rcases List.mem_append.1 e with e | e
    · exact h.1.lt g (by simpa using e)
    · obtain ⟨x, hx, e⟩ := List.mem_flatMap.1 e
      exact k.own_lt (h.2 x hx) g e
  own_mono := fun h hB => ⟨h.1.mono hB, fun x hx => k.own_mono (h.2 x hx) hB⟩

section
variable {α M : Type} {k : Kd α M} {B B' E E' : Nat} {w w' : World} {v : Value} {m : M} {a : α}
/-- The value v reads as a in the world w. -/
def Kd.At (k : Kd α M) (w : World) (v : Value) (a : α) : Prop := ∃ m, v = k.val m ∧ k.strip m = a ∧ k.holds w m
/-- .. and all that is beneath is the call's own, in blocks from B on and below E, no two the same. -/
def Kd.In (k : Kd α M) (B E : Nat) (w : World) (v : Value) (a : α) : Prop := ∃ m, v = k.val m ∧ k.strip m = a ∧ k.own B w m ∧ (k.blocks m).Nodup ∧ ∀ g ∈ k.blocks m, g < E
theorem Kd.At.on (h : k.At w v a) (hb : Below w.heap.size w w') : k.At w' v a := by
  obtain ⟨m, e1, e2, h⟩ := h
  exact ⟨m, e1, e2, k.holds_on h hb⟩
theorem Kd.In.at (h : k.In B E w v a) : k.At w v a := by
  obtain ⟨m, e1, e2, h, -, -⟩ := h
  exact ⟨m, e1, e2, k.own_holds h⟩
theorem Kd.In.on (h : k.In B E w v a) (hb : Below w.heap.size w w') : k.In B E w' v a := by
  obtain ⟨m, e1, e2, h, h1, h2⟩ := h
  exact ⟨m, e1, e2, k.own_keep h (fun g e => hb.block g (k.own_lt h g e).2), h1, h2⟩
theorem Kd.In.wrote (h : k.In B E w v a) (hw : Wrote B' E' w w') (hn : E ≤ B' ∨ E' ≤ B) : k.In B E w' v a := by
  obtain ⟨m, e1, e2, h, h1, h2⟩ := h
  exact ⟨m, e1, e2, k.own_keep h (fun g e => hw.block g (k.own_lt h g e).2 (by have := (k.own_lt h g e).1; have := h2 g e; omega)), h1, h2⟩
theorem Kd.In.grown (h : k.In B E w v a) {row : Option Nat} (hg : w.grownBy w' row) (hr : ∀ g, row = some g → g < B ∨ E ≤ g) : k.In B E w' v a := by
  obtain ⟨m, e1, e2, h, h1, h2⟩ := h
  refine ⟨m, e1, e2, k.own_keep h (fun g e => hg.block g (k.own_lt h g e).2 (fun er => ?_)), h1, h2⟩
  have := hr g er.symm
  have := (k.own_lt h g e).1
  have := h2 g e
  omega
theorem Kd.In.mono (h : k.In B E w v a) (hB : B' ≤ B) (hE : E ≤ E') : k.In B' E' w v a := by
  obtain ⟨m, e1, e2, h, h1, h2⟩ := h
  exact ⟨m, e1, e2, k.own_mono h hB, h1, fun g e => Nat.lt_of_lt_of_le (h2 g e) hE⟩
end

/-! ### The kinds that are in use, in the elder words -/
theorem flat_single {α : Type} (enc : α → Value) (l : List α) : flat (fun x => [enc x]) l = l.map enc := by
  induction l with
  | nil => rfl
  | cons a r ih => simp only [flat, List.flatMap_cons] at *; simp [ih]
theorem holdsK_single {α : Type} [Inhabited α] {enc : α → Value} {w : World} {v : Value} {l : List α} : HoldsK (fun x => [enc x]) 1 w v l ↔ Holds enc w v l := by
  constructor
  · rintro ⟨x, cap, hv, hc, h⟩
    refine ⟨x, cap, hv, hc, h.imp id ?_⟩
    rintro ⟨b, off, hx, h⟩
    refine ⟨b, off, hx, fun j hj => ?_⟩
    obtain ⟨u, h1, h2⟩ := h j (by omega)
    rw [flat_single, getD_map hj] at h1
    rw [h2, ← h1]
  · rintro ⟨x, cap, hv, hc, h⟩
    refine ⟨x, cap, hv, hc, h.imp id ?_⟩
    rintro ⟨b, off, hx, h⟩
    refine ⟨b, off, hx, fun j hj => ?_⟩
    have hj : j < l.length := by omega
    exact ⟨_, by rw [flat_single]; exact getD_map hj, h j hj⟩
theorem ownK_single {α : Type} [Inhabited α] {enc : α → Value} {e : TypeId} {B : Nat} {w : World} {v : Value} {l : List α} : OwnK e (fun x => [enc x]) 1 B w v l ↔ Own e enc B w v l := by
  unfold OwnK Own
  rw [flat_single]
def kNm (e : TypeId) : Kd (List ByteArray) (Rw ByteArray) := kStr.slice e
section
variable {e : TypeId} {w : World} {v : Value} {l : List ByteArray} {B : Nat}
theorem kNm_at (h : (kNm e).At w v l) : Holds Value.string w v l := by
  obtain ⟨m, rfl, rfl, h, -⟩ := h
  have : (kNm e).strip m = m.els := by simp [kNm, Kd.slice, kStr, Kd.scalar]
  rw [this]
  exact holdsK_single.1 h
theorem kNm_of (h : Holds Value.string w v l) : (kNm e).At w v l := by
  obtain ⟨x, n, cap, rfl, -, -, hh⟩ := h.shapeN
  exact ⟨⟨x, n, cap, l⟩, rfl, by simp [kNm, Kd.slice, kStr, Kd.scalar], holdsK_single.2 hh, fun _ _ => trivial⟩
theorem kNm_blocks (r : Rw ByteArray) : (kNm e).blocks r = r.v.ownBlock.toList := by simp [kNm, Kd.slice, kStr, Kd.scalar]
theorem kNm_in {E : Nat} (h : (kNm e).In B E w v l) : Own e Value.string B w v l ∧ ∀ g, v.ownBlock = some g → g < E := by
  obtain ⟨m, rfl, rfl, h, -, h2⟩ := h
  have hs : (kNm e).strip m = m.els := by simp [kNm, Kd.slice, kStr, Kd.scalar]
  rw [hs]
  rw [kNm_blocks] at h2
  exact ⟨ownK_single.1 h.1, fun g hg => h2 g (by rw [show m.v.ownBlock = some g from hg]; simp)⟩
end
end Go.Proofs.Ytnblopilgfdjkaa.Row
/- A variable of several cells (a struct): its block, whole; what keeps it; its cells written; it is given back. For any program. -/
namespace Go.Proofs.Ytnblopilgfdjkaa.Ret
open Go.RowKit
set_option linter.unusedVariables false
/-- Block g is a variable of type t, and holds the cells cs. -/
def Blk (w : World) (g : Nat) (cs : Array Value) (t : TypeId) : Prop := w.heap[g]? = some (.cells cs t)
section
variable {w w' : World} {g : Nat} {cs : Array Value} {t : TypeId}
theorem Blk.lt (h : Blk w g cs t) : g < w.heap.size := (Array.getElem?_eq_some_iff.1 h).1
theorem Blk.cell (h : Blk w g cs t) (i : Nat) : w.cell? ⟨g, i, none⟩ = cs[i]? := cell_of_row w g i cs t _ h
theorem Blk.frozen (h : Blk w g cs t) (i : Nat) : w.frozen? ⟨g, i, none⟩ = false := by simp [World.frozen?, show w.heap[g]? = some (.cells cs t) from h]
theorem Blk.on (h : Blk w g cs t) (hb : Below w.heap.size w w') : Blk w' g cs t := (hb.block g h.lt).trans h
theorem Blk.grown (h : Blk w g cs t) {row : Option Nat} (hg : w.grownBy w' row) (hne : some g ≠ row) : Blk w' g cs t := (hg.block g h.lt hne).trans h
theorem Blk.new (w : World) (cs : Array Value) (t : TypeId) : Blk (w.alloc (.cells cs t)) w.heap.size cs t := heap_alloc_new w _
theorem Blk.new' {w : World} (cs : Array Value) (t : TypeId) {n : Nat} (h : n = w.heap.size) : Blk (w.alloc (.cells cs t)) n cs t := by subst h; exact Blk.new w cs t
theorem Blk.other (h : Blk w g cs t) {a : Addr} (hne : a.block ≠ g) (v : Value) : Blk (w.setCell a v) g cs t := h.grown (grownBy_set w a v) (fun e => hne (by cases e; rfl))
theorem Blk.set (h : Blk w g cs t) (i : Nat) (v : Value) : Blk (w.setCell ⟨g, i, none⟩ v) g (cs.setIfInBounds i v) t := by
  have h' : w.heap[g]? = some (.cells cs t) := h
  unfold Blk
  simp only [World.setCell, Array.getElem?_modify, h']
  simp
theorem Blk.cells (h : Blk w g cs t) : ∀ j v, cs.toList[j]? = some v → w.cell? ⟨g, j, none⟩ = some v := fun j v e => by rw [h.cell]; simpa using e
end
end Go.Proofs.Ytnblopilgfdjkaa.Ret
/- Contracts of the helpers by which the laws measure, copy, compare, mark and look at interests (a name and three numbers). No conditions but that lengths fit. -/
namespace Go.Proofs.Ytnblopilgfdjkaa.Row
open Go.ChangeShapes Go.WideShapes Go.ChangeAt Go.RowKit Go.Instr
set_option linter.unusedVariables false
set_option maxRecDepth 100000

/-- An interest's cells. -/
abbrev wc (v : Value) (a b c : Int) : Array Value := #[v, .int .i64 a, .int .i64 b, .int .i64 c]
theorem own_set {α : Type} [Inhabited α] {enc : α → Value} {e : TypeId} {B g i : Nat} {w : World} {v u : Value} {l : List α} (h : Own e enc B w v l) (hg : g < B) : Own e enc B (w.setCell ⟨g, i, none⟩ u) v l := h.grown (Ret.grownBy_set w ⟨g, i, none⟩ u) (nb h hg)
end Go.Proofs.Ytnblopilgfdjkaa.Row
/- Slices of numbers in memory, for any program: a slice value that holds a list; a slice in blocks of the call's own that holds a list; what keeps both; one list appended to another. No conditions but that lengths fit. -/
namespace Go.Proofs.Ytnblopilgfdjkaa.Sl
open Go.ChangeShapes Go.WideShapes Go.ChangeAt Go.RowKit
set_option linter.unusedVariables false
set_option maxRecDepth 100000

/-- The number at place j. (A plain definition: the walk leaves it alone.) -/
def nth (l : List Int) (j : Nat) : Int := l.getD j 0

/-- The slice value v holds the numbers l, of kind k, in the world w. -/
def Holds (k : IntKind) (w : World) (v : Value) (l : List Int) : Prop :=
  ∃ x cap, v = .slice x l.length cap ∧ l.length ≤ cap ∧ (l = [] ∨ ∃ b off, x = some ⟨b, off, none⟩ ∧ ∀ j, j < l.length → w.cell? ⟨b, off + j, none⟩ = some (.int k (nth l j)))

/-- The slice value v lies at the head of a row of its own, in a block from B on, and holds l. -/
def Own (e : TypeId) (k : IntKind) (B : Nat) (w : World) (v : Value) (l : List Int) : Prop := w.ownsRow B e 1 v l.length (l.map (Value.int k))

section
variable {k : IntKind} {e : TypeId} {B : Nat} {w w' : World} {v : Value} {l : List Int}

theorem Own.form (h : Own e k B w v l) : (v = .slice none 0 0 ∧ l = []) ∨ ∃ g cap, v = .slice (some ⟨g, 0, none⟩) l.length cap ∧ B ≤ g ∧ g < w.heap.size ∧ l.length ≤ cap ∧ cap ≤ maxLen := by
  rcases h.2 with ⟨hv, hn⟩ | ⟨g, cap, cur, hv, hg, hh, h1, h2, h3, h4⟩
  · exact Or.inl ⟨hv, List.eq_nil_of_length_eq_zero hn⟩
  · exact Or.inr ⟨g, cap, hv, hg, (Array.getElem?_eq_some_iff.1 hh).1, h1, h2⟩

theorem Own.holds (h : Own e k B w v l) : Holds k w v l := by
  rcases h.form with ⟨rfl, rfl⟩ | ⟨g, cap, rfl, h1, h2, h3, h4⟩
  · exact ⟨none, 0, rfl, by simp, Or.inl rfl⟩
  · refine ⟨_, cap, rfl, h3, ?_⟩
    by_cases hl : l = []
    · exact Or.inl hl
    · refine Or.inr ⟨g, 0, rfl, fun j hj => ?_⟩
      have h5 := World.ownsRow.cellAt h j (by simpa using hj)
      rw [Nat.zero_add, h5, List.getElem?_map]
      simp [nth, List.getD, List.getElem?_eq_getElem hj]

theorem Own.lt (h : Own e k B w v l) : ∀ g, v.ownBlock = some g → B ≤ g ∧ g < w.heap.size := World.ownsRow.lt h
theorem Own.grown (h : Own e k B w v l) {row : Option Nat} (hg : w.grownBy w' row) (hne : v.ownBlock = none ∨ v.ownBlock ≠ row) : Own e k B w' v l := World.ownsRow.kept h hg hne
theorem grown_of_below (hb : Below w.heap.size w w') (row : Option Nat) : w.grownBy w' row := ⟨hb.os, hb.tape, hb.output, hb.size, fun i hi _ => hb.block i hi⟩
theorem Own.on (h : Own e k B w v l) (hb : Below w.heap.size w w') : Own e k B w' v l := by
  refine World.ownsRow.kept h (grown_of_below hb none) ?_
  cases hv : v.ownBlock <;> simp
theorem Own.mono (h : Own e k B w v l) {B' : Nat} (hB : B' ≤ B) : Own e k B' w v l := by
  refine ⟨h.1, ?_⟩
  rcases h.2 with h2 | ⟨g, cap, cur, hv, hg, r⟩
  · exact Or.inl h2
  · exact Or.inr ⟨g, cap, cur, hv, Nat.le_trans hB hg, r⟩
theorem Own.nil (e : TypeId) (k : IntKind) (B : Nat) (w : World) : Own e k B w (.slice none 0 0) [] := World.ownsRow_nil w B e 1
theorem Own.len (h : Own e k B w v l) : l.length ≤ maxLen := by
  rcases h.form with ⟨rfl, rfl⟩ | ⟨g, cap, rfl, h1, h2, h3, h4⟩
  · simp
  · omega
/-- A slice of the call's own that is not nil: its block. -/
theorem Own.block (h : Own e k B w v l) (hn : v ≠ .slice none 0 0) : ∃ g cap, v = .slice (some ⟨g, 0, none⟩) l.length cap ∧ B ≤ g ∧ g < w.heap.size ∧ l.length ≤ cap := by
  rcases h.form with ⟨hv, _⟩ | ⟨g, cap, hv, h1, h2, h3, h4⟩
  · exact absurd hv hn
  · exact ⟨g, cap, hv, h1, h2, h3⟩

theorem cell_lt {a : Addr} {u : Value} (h : w.cell? a = some u) : a.block < w.heap.size := by
  unfold World.cell? at h
  cases hh : w.heap[a.block]? with
  | none => simp [hh] at h
  | some o => exact (Array.getElem?_eq_some_iff.1 hh).1

theorem Holds.on (h : Holds k w v l) (hb : Below w.heap.size w w') : Holds k w' v l := by
  obtain ⟨x, cap, hv, hc, h⟩ := h
  refine ⟨x, cap, hv, hc, ?_⟩
  rcases h with h | ⟨b, off, hx, h⟩
  · exact Or.inl h
  · exact Or.inr ⟨b, off, hx, fun j hj => by rw [hb.cell (cell_lt (h j hj))]; exact h j hj⟩
theorem Holds.nil (k : IntKind) (w : World) : Holds k w (.slice none 0 0) [] := ⟨none, 0, rfl, by simp, Or.inl rfl⟩
theorem Holds.shape (h : Holds k w v l) : ∃ x cap, v = .slice x l.length cap ∧ l.length ≤ cap ∧ Holds k w (.slice x l.length cap) l := by
  obtain ⟨x, cap, hv, hc, h⟩ := h
  exact ⟨x, cap, hv, hc, x, cap, rfl, hc, h⟩
theorem Holds.at {x : Option Addr} {n cap : Nat} (h : Holds k w (.slice x n cap) l) {j : Nat} (hj : j < l.length) :
    ∃ b off, x = some ⟨b, off, none⟩ ∧ w.cell? ⟨b, off + j, none⟩ = some (.int k (nth l j)) := by
  obtain ⟨x', cap', hv, hc, h⟩ := h
  cases hv
  rcases h with rfl | ⟨b, off, hx, h⟩
  · simp at hj
  · exact ⟨b, off, hx, h j hj⟩
theorem Holds.lenEq {x : Option Addr} {n cap : Nat} (h : Holds k w (.slice x n cap) l) : n = l.length := by
  obtain ⟨x', cap', hv, hc, h⟩ := h
  cases hv; rfl

theorem Holds.grown (h : Holds k w v l) {row : Option Nat} (hg : w.grownBy w' row) (hne : ∀ g, v.ownBlock = some g → some g ≠ row) : Holds k w' v l := by
  obtain ⟨x, cap, rfl, hc, h⟩ := h
  refine ⟨x, cap, rfl, hc, ?_⟩
  rcases h with h | ⟨b, off, rfl, h⟩
  · exact Or.inl h
  · exact Or.inr ⟨b, off, rfl, fun j hj => hg.cell (h j hj) (hne b rfl)⟩

theorem nth_eq {l : List Int} {j : Nat} (hj : j < l.length) : nth l j = l[j] := by simp [nth, List.getD, List.getElem?_eq_getElem hj]
theorem getD_map {j : Nat} (hj : j < l.length) : (l.map (Value.int k))[j]? = some (.int k (nth l j)) := by
  simp [nth, List.getD, List.getElem?_eq_getElem hj]
end

/-! ### append -/
theorem oneCell (k : IntKind) (l : List Int) : ∀ u ∈ l.map (Value.int k), u.oneCell' = true := by
  intro u hu
  obtain ⟨_, _, rfl⟩ := List.mem_map.1 hu
  rfl

/-- What holds l is read as l's cells, or l is empty. -/
theorem Holds.cells {k : IntKind} {w : World} {ad : Addr} {n cap : Nat} {l : List Int} (h : Holds k w (.slice (some ad) n cap) l) : ∀ j u, (l.map (Value.int k))[j]? = some u → w.cell? (ad.add j) = some u := by
  intro j u hu
  have hj : j < l.length := by have := (List.getElem?_eq_some_iff.1 hu).1; simpa using this
  obtain ⟨b, off, hx, hc⟩ := h.at hj
  cases hx
  rw [Go.WideShapes.add_plain, hc]
  rw [getD_map hj] at hu
  exact hu

/-- The element type's row of the program's table: its zero, one cell, so many bytes. -/
def Elem (P : Program) (e : TypeId) (z : Value) (bytes : Nat) : Prop := (P.info? e).map (fun i => (i.zero, i.size, i.bytes)) = some (some z, 1, bytes)

section
variable {P : Program} {w : World} {ops : Array Oper} {rest : List Oper} {o : Oper} {a : Act} {Q : Exit → Act → World → Prop} {k : IntKind} {e t : TypeId} {bytes : Nat} {z : Value}

/-- append to a slice of the call's own, whatever is appended. -/
theorem wpList_app_nn (hgd : o.guard = none) (s x : Operand) (ho : o.op = .call { callee := .builtin .append, args := #[s, x], argTypes := #[t, t] }) (ht : P.underlying t = some (.slice e)) (hi : Elem P e z bytes) (hz : z.cells.size = 1)
    {B : Nat} {v vx : Value} {l m : List Int} (hs : a.eval s = v) (hx : a.eval x = vx) (hown : Own e k B w v l) (hsrc : Holds k w vx m) (hlen : (l.length + m.length) * 8 ≤ 140737488355328) (hby : bytes ≤ 8) (hB : B ≤ w.heap.size)
    (h : ∀ v' w', Own e k B w' v' (l ++ m) → w.grownBy w' v.ownBlock → (v ≠ .slice none 0 0 → v' ≠ .slice none 0 0) → wpList P ops Q rest (a.put o.dst v') w') : wpList P ops Q (o :: rest) a w := by
  obtain ⟨i, h1, h2, h3, h4⟩ := info_parts hi
  have hbytes : (l.length + m.length) * bytes ≤ 140737488355328 := Nat.le_trans (Nat.mul_le_mul_left _ hby) hlen
  have h63 : l.length + m.length ≤ maxLen := by unfold maxLen; omega
  obtain ⟨ao, cap, rfl, hcap, hc⟩ := hsrc
  have hsrc : Holds k w (.slice ao m.length cap) m := ⟨ao, cap, rfl, hcap, hc⟩
  have fin : ∀ v' w', w'.ownsRow B e 1 v' (l.length + m.length) (l.map (Value.int k) ++ m.map (Value.int k)) → Own e k B w' v' (l ++ m) := by
    intro v' w' hh
    unfold Own
    rw [List.length_append, List.map_append]; exact hh
  cases ao with
  | some ad =>
    exact wpList_append_own w hgd s x t ho B e i z 1 bytes ht h1 h2 h3 h4 hz (by decide) v l.length _ hs hown ad m.length cap (m.map (Value.int k)) hx (by simp) hsrc.cells (oneCell k m) h63 hbytes hB
      fun v' w' r1 r2 r3 => h v' w' (fin v' w' r1) r2 (fun hn he => hn (r3.1 he).1)
  | none =>
    rcases hc with rfl | ⟨b, off, hc, _⟩
    · refine wpList_plain hgd fun K hK => ?_
      have hrun : (Builtin.append_ #[t, t] o.type #[v, .slice none 0 cap]).run P w = .ok v w := by
        rcases hown.2 with ⟨rfl, hn⟩ | ⟨g, cap', cur, rfl, _, _, hnc, _⟩
        · simp [Builtin.append_, run_underlying ht, sizeOf, typeInfo, h1, Builtin.lenOf, Builtin.firstCells]
        · simp [Builtin.append_, run_underlying ht, sizeOf, typeInfo, h1, Builtin.lenOf, Builtin.firstCells, hnc, storeCells]
      have hx' : a.eval x = .slice none 0 cap := by simpa using hx
      unfold Oper.wp
      simp [execOp, ho, resolve, invoke, builtin, hs, hx', hrun, Result.andThen]
      exact hK _ _ (h v w (by simpa using hown) (World.grownBy.refl _ _) (fun hn => hn))
    · cases hc

theorem wpList_app (hgd : o.guard = none) (s x : Operand) (ho : o.op = .call { callee := .builtin .append, args := #[s, x], argTypes := #[t, t] }) (ht : P.underlying t = some (.slice e)) (hi : Elem P e z bytes) (hz : z.cells.size = 1)
    {B : Nat} {v vx : Value} {l m : List Int} (hs : a.eval s = v) (hx : a.eval x = vx) (hown : Own e k B w v l) (hsrc : Holds k w vx m) (hlen : (l.length + m.length) * 8 ≤ 140737488355328) (hby : bytes ≤ 8) (hB : B ≤ w.heap.size)
    (h : ∀ v' w', Own e k B w' v' (l ++ m) → w.grownBy w' v.ownBlock → wpList P ops Q rest (a.put o.dst v') w') : wpList P ops Q (o :: rest) a w :=
  wpList_app_nn hgd s x ho ht hi hz hs hx hown hsrc hlen hby hB fun v' w' h1 h2 _ => h v' w' h1 h2

/-- append to a slice without spare capacity: the new row is the call's own. -/
theorem wpList_app_full (hgd : o.guard = none) (s x : Operand) (ho : o.op = .call { callee := .builtin .append, args := #[s, x], argTypes := #[t, t] }) (ht : P.underlying t = some (.slice e)) (hi : Elem P e z bytes) (hz : z.cells.size = 1)
    {ao : Option Addr} {n : Nat} {ad : Addr} {c mm : Nat} {l m : List Int} (hs : a.eval s = .slice ao n n) (hx : a.eval x = .slice (some ad) mm c) (hold : Holds k w (.slice ao n n) l) (hsrc : Holds k w (.slice (some ad) mm c) m) (hm : m ≠ []) (hlen : (l.length + m.length) * 8 ≤ 140737488355328) (hby : bytes ≤ 8)
    (h : ∀ v' w', Own e k w.heap.size w' v' (l ++ m) → w.grownBy w' none → wpList P ops Q rest (a.put o.dst v') w') : wpList P ops Q (o :: rest) a w := by
  obtain ⟨i, h1, h2, h3, h4⟩ := info_parts hi
  have hbytes : (l.length + m.length) * bytes ≤ 140737488355328 := Nat.le_trans (Nat.mul_le_mul_left _ hby) hlen
  have h63 : l.length + m.length ≤ maxLen := by unfold maxLen; omega
  have e1 := hold.lenEq; subst e1
  have e2 := hsrc.lenEq; subst e2
  have hm0 : 0 < m.length := by cases m <;> simp_all
  refine wpList_append_grows w hgd s x t ho e i z 1 bytes ht h1 h2 h3 h4 hz (by decide) ao l.length l.length (l.map (Value.int k)) hs ?_ (by simp) ?_ ad m.length c (m.map (Value.int k)) hx (by simp) hsrc.cells (oneCell k m) (by omega) h63 hbytes ?_
  · rintro rfl
    obtain ⟨x', cap', hv, hc, hh⟩ := hold
    rcases hh with rfl | ⟨b, off, hx', _⟩
    · simp
    · cases hv; cases hx'
  · rintro b rfl
    exact hold.cells
  · intro v' w' r1 r2
    refine h v' w' ?_ r2
    unfold Own
    rw [List.length_append, List.map_append]; exact r1
end

/-- A slice of the call's own, or one without spare capacity: an append leaves what is below B. -/
def Fits (e : TypeId) (k : IntKind) (B : Nat) (w : World) (v : Value) (l : List Int) : Prop := Own e k B w v l ∨ ∃ x, v = .slice x l.length l.length ∧ Holds k w v l
theorem Fits.on {k : IntKind} {e : TypeId} {B : Nat} {w w' : World} {v : Value} {l : List Int} (h : Fits e k B w v l) (hb : Below w.heap.size w w') : Fits e k B w' v l := by
  rcases h with h | ⟨x, hv, h⟩
  · exact Or.inl (h.on hb)
  · exact Or.inr ⟨x, hv, h.on hb⟩
theorem Fits.holds {k : IntKind} {e : TypeId} {B : Nat} {w : World} {v : Value} {l : List Int} (h : Fits e k B w v l) : Holds k w v l := by
  rcases h with h | ⟨x, hv, h⟩
  · exact h.holds
  · exact h

section
variable {P : Program} {w : World} {ops : Array Oper} {rest : List Oper} {o : Oper} {a : Act} {Q : Exit → Act → World → Prop} {k : IntKind} {e t : TypeId} {bytes : Nat} {z : Value}
theorem wpList_app_fit (hgd : o.guard = none) (s x : Operand) (ho : o.op = .call { callee := .builtin .append, args := #[s, x], argTypes := #[t, t] }) (ht : P.underlying t = some (.slice e)) (hi : Elem P e z bytes) (hz : z.cells.size = 1)
    {B : Nat} {v vx : Value} {l m : List Int} (hs : a.eval s = v) (hx : a.eval x = vx) (hown : Fits e k B w v l) (hsrc : Holds k w vx m) (hm : m ≠ []) (hlen : (l.length + m.length) * 8 ≤ 140737488355328) (hby : bytes ≤ 8) (hB : B ≤ w.heap.size)
    (h : ∀ v' w', Own e k B w' v' (l ++ m) → Below B w w' → wpList P ops Q rest (a.put o.dst v') w') : wpList P ops Q (o :: rest) a w := by
  rcases hown with hown | ⟨ao, rfl, hold⟩
  · exact wpList_app hgd s x ho ht hi hz hs hx hown hsrc hlen hby hB fun v' w' h1 h2 => h v' w' h1 ((Below.refl _ _).grown h2 hB (fun g hg => (hown.lt g hg).1))
  · obtain ⟨xo, c, rfl, hc, hh⟩ := hsrc
    have hsrc : Holds k w (.slice xo m.length c) m := ⟨xo, c, rfl, hc, hh⟩
    rcases hh with hh | ⟨b, off, rfl, _⟩
    · exact absurd hh hm
    · exact wpList_app_full hgd s x ho ht hi hz hs hx hold hsrc hm hlen hby fun v' w' h1 h2 => h v' w' (h1.mono hB) ((Below.refl _ _).grown h2 hB (fun g hg => by cases hg))
end

/-- A new block of one number; a new empty block. -/
theorem holds_one (k : IntKind) (e : TypeId) (w : World) (x : Int) : Holds k (w.alloc (.cells #[.int k x] e)) (.slice (some ⟨w.heap.size, 0, none⟩) 1 1) [x] := by
  refine ⟨_, 1, rfl, by simp, Or.inr ⟨_, _, rfl, fun j hj => ?_⟩⟩
  have : j = 0 := by simpa using hj
  subst this
  simp [World.cell?_alloc_mark, nth]
theorem own_empty (k : IntKind) (e : TypeId) (w : World) : Own e k w.heap.size (w.alloc (.cells #[] e)) (.slice (some ⟨w.heap.size, 0, none⟩) 0 0) [] := World.ownsRow_lit w #[] 0 (Nat.le_refl _) (by unfold maxLen; omega) rfl
end Go.Proofs.Ytnblopilgfdjkaa.Sl
