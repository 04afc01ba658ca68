/- Contracts and mathematics, joined: Frame, Row, Str, Ret, Name, NameLaw, Many, Keep, Tab, Kd, Blk. No conditions but those that each states. -/
import Derived.ProofKit
import Derived.Carry
import Derived.SizedLaws
import Derived.ChangeSlices
import Derived.Lib.SmallJoins
import Derived.RowKit
import Derived.WalkKit
import Derived.WalkLawsBesides
import Derived.Lib.Hide
import Derived.Below
import Derived.OwnWalk
import Derived.Laws.OwnMore
import Derived.Laws.AppendOwnNone
import Derived.ArgAppend
import Derived.Maps.AppendAt
import Derived.Test.YtbooamnlocobfaaRows
import Derived.LoopTactic
import Derived.Deep.QuietTactic
import Derived.Deep.RegionHeld3
import Derived.BigQuiet
import Derived.Laws.Rows
import Derived.Laws.ResultCell
import Derived.Deep.Strs
import Derived.ChangeSame
/- The frame of a law, once for every law: a call that returns true and leaves all that was in memory as it was meets the law's statement, whatever the types of its arguments. -/
namespace Go.Proofs.Ytbooamnlocobfaa.Frame
open Go.ChangeShapes Go.WideShapes Go.ChangeAt Go.RowKit

theorem stays {H : Type} {enc : TypeId × Value → H} {P : Program} (hl : laidOutB P = true) {W W' : World} (hb : Below W.heap.size W W') :
    ∀ {ts : List TypeId} {vs : List Value} {ds : List (DataW H)} {ps : List MemPlace}, (∀ t ∈ ts, P.readableRec t = true ∧ t < P.types.size) → DataW.TrodAll enc P W 0 (fun _ => true) true ts vs ds ps → (∀ x ∈ ps, x.block < W.heap.size) →
      DataW.TrodAll enc P W' 0 (fun b => decide (b < W.heap.size)) true ts vs ds ps
  | [], [], [], _, _, h, _ => h
  | [], [], _ :: _, _, _, h, _ => h.elim
  | [], _ :: _, [], _, _, h, _ => h.elim
  | [], _ :: _, _ :: _, _, _, h, _ => h.elim
  | _ :: _, [], [], _, _, h, _ => h.elim
  | _ :: _, [], _ :: _, _, _, h, _ => h.elim
  | _ :: _, _ :: _, [], _, _, h, _ => h.elim
  | t :: ts, v :: vs, d :: ds, ps, ht, h, hlt => by
    obtain ⟨p, q, h1, h2, e⟩ := h
    have h3 := ht t (by simp)
    exact ⟨p, q, Below.trod hl h3.1 h3.2 h1 hb (fun x hx => hlt x (by rw [e]; simp [hx])), stays hl hb (fun t' ht' => ht t' (by simp [ht'])) h2 (fun x hx => hlt x (by rw [e]; simp [hx])), e⟩

def rowed (P : Program) (ts : List TypeId) : Bool := ts.all fun t => P.readableRec t && decide (t < P.types.size)

theorem law_post {H : Type} {enc : TypeId × Value → H} {P : Program} {f : Func} {s : ChangeSpec} {tb : TypeId} {W W' : World} {args : Array Value} {ds : List (DataW H)} {before : List MemPlace}
    (hl : laidOutB P = true) (hp : rowed P f.params.toList = true) (hres : f.resultTypes = #[tb]) (hub : P.underlying tb = some .bool) (hvars : s.vars = [])
    (hfn : s.fn H (ds ++ []) = { results := [.lit (.bool true)], args := ds }) (hW : DataW.Whole enc P f.params.toList s.vars false W args.toList ds [] before) (hb : Below W.heap.size W W') :
    s.post enc P f false true false false W args (.bool true) W' := by
  have hlt := hW.lt
  have hW' := hW
  obtain ⟨p, q, hA, hV, rfl, _, _⟩ := hW
  refine ⟨ds, [], p ++ q, [], p, [], hW', ?_, ?_, ?_, hb.frame _, fun h => by cases h⟩
  · rw [hfn, hres]
    exact trodAll_mk1 (shut_bool hub true)
  · rw [hfn]
    refine stays hl hb (fun t ht => ?_) hA (fun x hx => hlt x (by simp [hx]))
    have := List.all_eq_true.1 hp t ht
    simpa using this
  · rw [hfn, hvars]
    exact rfl
theorem reach_string {l : List UInt8} (h : l.length ≤ reachBytes) : l.length ≤ 140737488351232 := by
  have e : reachBytes = 140737488351232 := by decide
  omega
/-- A slice of bytes, nil or not: v holds the bytes l in the world w. -/
def Bytes (w : World) (v : Value) (l : List UInt8) : Prop :=
  (v = .slice none 0 0 ∧ l = []) ∨ ∃ a cap, v = .slice (some a) l.length cap ∧ l.length ≤ cap ∧ cap ≤ 140737488351232 ∧ ∀ i (h : i < l.length), w.cell? (a.add i) = some (.int .u8 l[i].toNat)

theorem cell_lt {w : World} {a : Addr} {v : Value} (h : w.cell? a = some v) : a.block < w.heap.size := by
  unfold World.cell? at h
  cases hh : w.heap[a.block]? with
  | none => simp [hh] at h
  | some o => exact (Array.getElem?_eq_some_iff.1 hh).1

theorem Bytes.on {w w' : World} {v : Value} {l : List UInt8} (h : Bytes w v l) (hb : Below w.heap.size w w') : Bytes w' v l := by
  rcases h with h | ⟨a, cap, h1, h2, h3, h4⟩
  · exact Or.inl h
  · exact Or.inr ⟨a, cap, h1, h2, h3, fun i hi => by rw [hb.cell (cell_lt (h4 i hi))]; exact h4 i hi⟩

theorem bytesOf_nums {zs : List Int} (h : ∀ n ∈ zs, (Lit.int .u8 n).wf = true) : ∃ l : List UInt8, zs = l.map fun c => (c.toNat : Int) := by
  induction zs with
  | nil => exact ⟨[], rfl⟩
  | cons z r ih =>
    obtain ⟨l, hl⟩ := ih (fun n hn => h n (by simp [hn]))
    have e1 : IntKind.u8.min = 0 := rfl
    have e2 : IntKind.u8.max = 255 := rfl
    have hz : 0 ≤ z ∧ z ≤ 255 := by simpa [Lit.wf, e1, e2] using h z (by simp)
    refine ⟨UInt8.ofNat z.toNat :: l, ?_⟩
    rw [hl]
    simp only [List.map_cons, List.cons.injEq, and_true]
    have : (UInt8.ofNat z.toNat).toNat = z.toNat := by simp; omega
    rw [this]; omega

theorem open_bytes {H : Type} {enc : TypeId × Value → H} {P : Program} {w : World} {base b2 : Nat} {held : Bool} {t e : TypeId} {v : Value} {d : DataW H} {p : List MemPlace} {ts : List TypeId} {ds : List (DataW H)} {j : Nat}
    (ht : P.underlying t = some (.slice e)) (he : P.underlying e = some (.int .u8)) (hc : P.cellsOf e = 1) (hz : P.bytesOf e = 1) (hv : Value.okWide P w .any base t v)
    (h : DataW.Trod enc P w b2 (fun _ => true) held t v d p) (hsz : (DataW.weightsEach P ts ds).all (· ≤ reachBytes) = true) (htj : ts[j]? = some t) (hdj : ds[j]? = some d) : ∃ l, Bytes w v l := by
  obtain ⟨a0, len, cap, rfl⟩ := okWide_slice ht hv
  obtain ⟨fuel, hf⟩ := h
  rcases open_ints ht he hc hf with ⟨hcs, hx⟩ | ⟨a, len', cap', zs, hcs, _, hl, hm, hn, hx, hcell, hwz⟩
  · refine ⟨[], Or.inl ⟨?_, rfl⟩⟩
    simpa [Value.cells] using hcs
  · have hcs' : Value.slice a0 len cap = .slice (some a) len' cap' := by simpa [Value.cells] using hcs
    simp only [Prod.mk.injEq] at hx
    obtain ⟨hd, -⟩ := hx
    subst hd
    have hw := sized_slice hsz htj hdj ht
    rw [hz] at hw
    obtain ⟨l, hl2⟩ := bytesOf_nums hwz
    subst hl2
    simp only [if_true, List.length_map] at hn
    have e : reachBytes = 140737488351232 := by decide
    have hlen : (l.take len').length = len' := by rw [List.length_take]; omega
    refine ⟨l.take len', Or.inr ⟨a, cap', ?_, by rw [hlen]; exact hl, ?_, ?_⟩⟩
    · rw [hlen]; exact hcs'
    · simp [lits] at hw; omega
    · intro i hi
      rw [hlen] at hi
      have := hcell i (by simp; omega)
      rw [this]
      simp [List.getD, List.getElem?_eq_getElem (show i < l.length by omega)]
end Go.Proofs.Ytbooamnlocobfaa.Frame
/- Slices of one-cell elements in memory (strings, numbers, slices), for any program: a slice value that holds a list; a slice in blocks of the call's own that holds a list; what keeps both; one list appended to another. No conditions but that lengths fit. -/
namespace Go.Proofs.Ytbooamnlocobfaa.Row
open Go.ChangeShapes Go.WideShapes Go.ChangeAt Go.RowKit
set_option linter.unusedVariables false
set_option maxRecDepth 100000

/-- The element at place j. (A plain definition: the walk leaves it alone.) -/
def nth {α : Type} [Inhabited α] (l : List α) (j : Nat) : α := l.getD j default

/-- The slice value v holds the elements l, written by enc, in the world w. -/
def Holds {α : Type} [Inhabited α] (enc : α → Value) (w : World) (v : Value) (l : List α) : Prop :=
  ∃ x cap, v = .slice x l.length cap ∧ l.length ≤ cap ∧ (l = [] ∨ ∃ b off, x = some ⟨b, off, none⟩ ∧ ∀ j, j < l.length → w.cell? ⟨b, off + j, none⟩ = some (enc (nth l j)))

/-- The slice value v lies at the head of a row of its own, in a block from B on, and holds l. -/
def Own {α : Type} [Inhabited α] (e : TypeId) (enc : α → Value) (B : Nat) (w : World) (v : Value) (l : List α) : Prop := w.ownsRow B e 1 v l.length (l.map enc)

section
variable {α : Type} [Inhabited α] {enc : α → Value} {e : TypeId} {B : Nat} {w w' : World} {v : Value} {l : List α}

theorem Own.form (h : Own e enc B w v l) : (v = .slice none 0 0 ∧ l = []) ∨ ∃ g cap, v = .slice (some ⟨g, 0, none⟩) l.length cap ∧ B ≤ g ∧ g < w.heap.size ∧ l.length ≤ cap ∧ cap ≤ maxLen := by
  rcases h.2 with ⟨hv, hn⟩ | ⟨g, cap, cur, hv, hg, hh, h1, h2, h3, h4⟩
  · exact Or.inl ⟨hv, List.eq_nil_of_length_eq_zero hn⟩
  · exact Or.inr ⟨g, cap, hv, hg, (Array.getElem?_eq_some_iff.1 hh).1, h1, h2⟩

theorem Own.holds (h : Own e enc B w v l) : Holds enc w v l := by
  rcases h.form with ⟨rfl, rfl⟩ | ⟨g, cap, rfl, h1, h2, h3, h4⟩
  · exact ⟨none, 0, rfl, by simp, Or.inl rfl⟩
  · refine ⟨_, cap, rfl, h3, ?_⟩
    by_cases hl : l = []
    · exact Or.inl hl
    · refine Or.inr ⟨g, 0, rfl, fun j hj => ?_⟩
      have h5 := World.ownsRow.cellAt h j (by simpa using hj)
      rw [Nat.zero_add, h5, List.getElem?_map]
      simp [nth, List.getD, List.getElem?_eq_getElem hj]

theorem Own.lt (h : Own e enc B w v l) : ∀ g, v.ownBlock = some g → B ≤ g ∧ g < w.heap.size := World.ownsRow.lt h
theorem Own.grown (h : Own e enc B w v l) {row : Option Nat} (hg : w.grownBy w' row) (hne : v.ownBlock = none ∨ v.ownBlock ≠ row) : Own e enc B w' v l := World.ownsRow.kept h hg hne
theorem grown_of_below (hb : Below w.heap.size w w') (row : Option Nat) : w.grownBy w' row := ⟨hb.os, hb.tape, hb.output, hb.size, fun i hi _ => hb.block i hi⟩
theorem Own.on (h : Own e enc B w v l) (hb : Below w.heap.size w w') : Own e enc B w' v l := by
  refine World.ownsRow.kept h (grown_of_below hb none) ?_
  cases hv : v.ownBlock <;> simp
theorem Own.mono (h : Own e enc B w v l) {B' : Nat} (hB : B' ≤ B) : Own e enc B' w v l := by
  refine ⟨h.1, ?_⟩
  rcases h.2 with h2 | ⟨g, cap, cur, hv, hg, r⟩
  · exact Or.inl h2
  · exact Or.inr ⟨g, cap, cur, hv, Nat.le_trans hB hg, r⟩
theorem Own.nil (e : TypeId) (enc : α → Value) (B : Nat) (w : World) : Own e enc B w (.slice none 0 0) [] := World.ownsRow_nil w B e 1
theorem Own.len (h : Own e enc B w v l) : l.length ≤ maxLen := by
  rcases h.form with ⟨rfl, rfl⟩ | ⟨g, cap, rfl, h1, h2, h3, h4⟩
  · simp
  · omega
/-- A slice of the call's own that is not nil: its block. -/
theorem Own.block (h : Own e enc B w v l) (hn : v ≠ .slice none 0 0) : ∃ g cap, v = .slice (some ⟨g, 0, none⟩) l.length cap ∧ B ≤ g ∧ g < w.heap.size ∧ l.length ≤ cap := by
  rcases h.form with ⟨hv, _⟩ | ⟨g, cap, hv, h1, h2, h3, h4⟩
  · exact absurd hv hn
  · exact ⟨g, cap, hv, h1, h2, h3⟩

theorem cell_lt {a : Addr} {u : Value} (h : w.cell? a = some u) : a.block < w.heap.size := by
  unfold World.cell? at h
  cases hh : w.heap[a.block]? with
  | none => simp [hh] at h
  | some o => exact (Array.getElem?_eq_some_iff.1 hh).1

theorem Holds.on (h : Holds enc w v l) (hb : Below w.heap.size w w') : Holds enc w' v l := by
  obtain ⟨x, cap, hv, hc, h⟩ := h
  refine ⟨x, cap, hv, hc, ?_⟩
  rcases h with h | ⟨b, off, hx, h⟩
  · exact Or.inl h
  · exact Or.inr ⟨b, off, hx, fun j hj => by rw [hb.cell (cell_lt (h j hj))]; exact h j hj⟩
theorem Holds.nil (enc : α → Value) (w : World) : Holds enc w (.slice none 0 0) [] := ⟨none, 0, rfl, by simp, Or.inl rfl⟩
theorem Holds.shape (h : Holds enc w v l) : ∃ x cap, v = .slice x l.length cap ∧ l.length ≤ cap ∧ Holds enc w (.slice x l.length cap) l := by
  obtain ⟨x, cap, hv, hc, h⟩ := h
  exact ⟨x, cap, hv, hc, x, cap, rfl, hc, h⟩
theorem Holds.at {x : Option Addr} {n cap : Nat} (h : Holds enc w (.slice x n cap) l) {j : Nat} (hj : j < l.length) :
    ∃ b off, x = some ⟨b, off, none⟩ ∧ w.cell? ⟨b, off + j, none⟩ = some (enc (nth l j)) := by
  obtain ⟨x', cap', hv, hc, h⟩ := h
  cases hv
  rcases h with rfl | ⟨b, off, hx, h⟩
  · simp at hj
  · exact ⟨b, off, hx, h j hj⟩
theorem Holds.lenEq {x : Option Addr} {n cap : Nat} (h : Holds enc w (.slice x n cap) l) : n = l.length := by
  obtain ⟨x', cap', hv, hc, h⟩ := h
  cases hv; rfl

/-- Two slices of the call's own in blocks that differ: writing one leaves the other. -/
theorem Own.apart {β : Type} [Inhabited β] {enc' : β → Value} {B' : Nat} {v' : Value} {l' : List β} {e' : TypeId} (h : Own e enc B w v l) (h' : Own e' enc' B' w' v' l') (hB : w'.heap.size ≤ B) : v.ownBlock = none ∨ v.ownBlock ≠ v'.ownBlock := by
  cases hv : v.ownBlock with
  | none => exact Or.inl rfl
  | some g =>
    refine Or.inr fun he => ?_
    have h1 := h.lt g hv
    have h2 := h'.lt g he.symm
    omega
theorem Own.apart' {β : Type} [Inhabited β] {enc' : β → Value} {B' : Nat} {v' : Value} {l' : List β} {e' : TypeId} (h : Own e enc B w v l) (h' : Own e' enc' B' w' v' l') (hB : w.heap.size ≤ B') : v.ownBlock = none ∨ v.ownBlock ≠ v'.ownBlock := by
  cases hv : v.ownBlock with
  | none => exact Or.inl rfl
  | some g =>
    refine Or.inr fun he => ?_
    have h1 := h.lt g hv
    have h2 := h'.lt g he.symm
    omega
theorem Holds.grown (h : Holds enc w v l) {row : Option Nat} (hg : w.grownBy w' row) (hne : ∀ g, v.ownBlock = some g → some g ≠ row) : Holds enc w' v l := by
  obtain ⟨x, cap, rfl, hc, h⟩ := h
  refine ⟨x, cap, rfl, hc, ?_⟩
  rcases h with h | ⟨b, off, rfl, h⟩
  · exact Or.inl h
  · exact Or.inr ⟨b, off, rfl, fun j hj => hg.cell (h j hj) (hne b rfl)⟩

theorem below_grown {w0 : World} {row : Option Nat} {B0 : Nat} (h : Below B0 w0 w) (hg : w.grownBy w' row) (hB : B0 ≤ w.heap.size) (hr : ∀ g, row = some g → B0 ≤ g) : Below B0 w0 w' := h.grown hg hB hr

theorem nth_eq {l : List α} {j : Nat} (hj : j < l.length) : nth l j = l[j] := by simp [nth, List.getD, List.getElem?_eq_getElem hj]
theorem getD_map {j : Nat} (hj : j < l.length) : (l.map enc)[j]? = some (enc (nth l j)) := by
  simp [nth, List.getD, List.getElem?_eq_getElem hj]
end

/-! ### append -/
theorem oneCell {α : Type} {enc : α → Value} (h1c : ∀ x, (enc x).oneCell' = true) (l : List α) : ∀ u ∈ l.map enc, u.oneCell' = true := by
  intro u hu
  obtain ⟨x, _, rfl⟩ := List.mem_map.1 hu
  exact h1c x

/-- What holds l is read as l's cells, or l is empty. -/
theorem Holds.cells {α : Type} [Inhabited α] {enc : α → Value} {w : World} {ad : Addr} {n cap : Nat} {l : List α} (h : Holds enc w (.slice (some ad) n cap) l) : ∀ j u, (l.map enc)[j]? = some u → w.cell? (ad.add j) = some u := by
  intro j u hu
  have hj : j < l.length := by have := (List.getElem?_eq_some_iff.1 hu).1; simpa using this
  obtain ⟨b, off, hx, hc⟩ := h.at hj
  cases hx
  rw [Go.WideShapes.add_plain, hc]
  rw [getD_map hj] at hu
  exact hu

/-- The element type's row of the program's table: its zero, one cell, so many bytes. -/
def Elem (P : Program) (e : TypeId) (z : Value) (bytes : Nat) : Prop := (P.info? e).map (fun i => (i.zero, i.size, i.bytes)) = some (some z, 1, bytes)

section
variable {P : Program} {w : World} {ops : Array Oper} {rest : List Oper} {o : Oper} {a : Act} {Q : Exit → Act → World → Prop} {α : Type} [Inhabited α] {enc : α → Value} {e t : TypeId} {bytes : Nat} {z : Value}

/-- append to a slice of the call's own, whatever is appended. -/
theorem wpList_app_nn (hgd : o.guard = none) (s x : Operand) (ho : o.op = .call { callee := .builtin .append, args := #[s, x], argTypes := #[t, t] }) (ht : P.underlying t = some (.slice e)) (hi : Elem P e z bytes) (hz : z.cells.size = 1)
    {B : Nat} {v vx : Value} {l m : List α} (hs : a.eval s = v) (hx : a.eval x = vx) (hown : Own e enc B w v l) (hsrc : Holds enc w vx m) (h1c : ∀ x, (enc x).oneCell' = true) (hlen : (l.length + m.length) * bytes ≤ 140737488355328) (hmx : l.length + m.length ≤ maxLen) (hB : B ≤ w.heap.size)
    (h : ∀ v' w', Own e enc B w' v' (l ++ m) → w.grownBy w' v.ownBlock → (v ≠ .slice none 0 0 → v' ≠ .slice none 0 0) → wpList P ops Q rest (a.put o.dst v') w') : wpList P ops Q (o :: rest) a w := by
  obtain ⟨i, h1, h2, h3, h4⟩ := info_parts hi
  have hbytes := hlen
  have h63 := hmx
  obtain ⟨ao, cap, rfl, hcap, hc⟩ := hsrc
  have hsrc : Holds enc w (.slice ao m.length cap) m := ⟨ao, cap, rfl, hcap, hc⟩
  have fin : ∀ v' w', w'.ownsRow B e 1 v' (l.length + m.length) (l.map enc ++ m.map enc) → Own e enc B w' v' (l ++ m) := by
    intro v' w' hh
    unfold Own
    rw [List.length_append, List.map_append]; exact hh
  cases ao with
  | some ad =>
    exact wpList_append_own w hgd s x t ho B e i z 1 bytes ht h1 h2 h3 h4 hz (by decide) v l.length _ hs hown ad m.length cap (m.map enc) hx (by simp) hsrc.cells (oneCell h1c m) h63 hbytes hB
      fun v' w' r1 r2 r3 => h v' w' (fin v' w' r1) r2 (fun hn he => hn (r3.1 he).1)
  | none =>
    rcases hc with rfl | ⟨b, off, hc, _⟩
    · refine wpList_plain hgd fun K hK => ?_
      have hrun : (Builtin.append_ #[t, t] o.type #[v, .slice none 0 cap]).run P w = .ok v w := by
        rcases hown.2 with ⟨rfl, hn⟩ | ⟨g, cap', cur, rfl, _, _, hnc, _⟩
        · simp [Builtin.append_, run_underlying ht, sizeOf, typeInfo, h1, Builtin.lenOf, Builtin.firstCells]
        · simp [Builtin.append_, run_underlying ht, sizeOf, typeInfo, h1, Builtin.lenOf, Builtin.firstCells, hnc, storeCells]
      have hx' : a.eval x = .slice none 0 cap := by simpa using hx
      unfold Oper.wp
      simp [execOp, ho, resolve, invoke, builtin, hs, hx', hrun, Result.andThen]
      exact hK _ _ (h v w (by simpa using hown) (World.grownBy.refl _ _) (fun hn => hn))
    · cases hc

theorem wpList_app (hgd : o.guard = none) (s x : Operand) (ho : o.op = .call { callee := .builtin .append, args := #[s, x], argTypes := #[t, t] }) (ht : P.underlying t = some (.slice e)) (hi : Elem P e z bytes) (hz : z.cells.size = 1)
    {B : Nat} {v vx : Value} {l m : List α} (hs : a.eval s = v) (hx : a.eval x = vx) (hown : Own e enc B w v l) (hsrc : Holds enc w vx m) (h1c : ∀ x, (enc x).oneCell' = true) (hlen : (l.length + m.length) * bytes ≤ 140737488355328) (hmx : l.length + m.length ≤ maxLen) (hB : B ≤ w.heap.size)
    (h : ∀ v' w', Own e enc B w' v' (l ++ m) → w.grownBy w' v.ownBlock → wpList P ops Q rest (a.put o.dst v') w') : wpList P ops Q (o :: rest) a w :=
  wpList_app_nn hgd s x ho ht hi hz hs hx hown hsrc h1c hlen hmx hB fun v' w' h1 h2 _ => h v' w' h1 h2

/-- append to a slice without spare capacity: the new row is the call's own. -/
theorem wpList_app_full (hgd : o.guard = none) (s x : Operand) (ho : o.op = .call { callee := .builtin .append, args := #[s, x], argTypes := #[t, t] }) (ht : P.underlying t = some (.slice e)) (hi : Elem P e z bytes) (hz : z.cells.size = 1)
    {ao : Option Addr} {n : Nat} {ad : Addr} {c mm : Nat} {l m : List α} (hs : a.eval s = .slice ao n n) (hx : a.eval x = .slice (some ad) mm c) (hold : Holds enc w (.slice ao n n) l) (hsrc : Holds enc w (.slice (some ad) mm c) m) (hm : m ≠ []) (h1c : ∀ x, (enc x).oneCell' = true) (hlen : (l.length + m.length) * bytes ≤ 140737488355328) (hmx : l.length + m.length ≤ maxLen)
    (h : ∀ v' w', Own e enc w.heap.size w' v' (l ++ m) → w.grownBy w' none → wpList P ops Q rest (a.put o.dst v') w') : wpList P ops Q (o :: rest) a w := by
  obtain ⟨i, h1, h2, h3, h4⟩ := info_parts hi
  have hbytes := hlen
  have h63 := hmx
  have e1 := hold.lenEq; subst e1
  have e2 := hsrc.lenEq; subst e2
  have hm0 : 0 < m.length := by cases m <;> simp_all
  refine wpList_append_grows w hgd s x t ho e i z 1 bytes ht h1 h2 h3 h4 hz (by decide) ao l.length l.length (l.map enc) hs ?_ (by simp) ?_ ad m.length c (m.map enc) hx (by simp) hsrc.cells (oneCell h1c m) (by omega) h63 hbytes ?_
  · rintro rfl
    obtain ⟨x', cap', hv, hc, hh⟩ := hold
    rcases hh with rfl | ⟨b, off, hx', _⟩
    · simp
    · cases hv; cases hx'
  · rintro b rfl
    exact hold.cells
  · intro v' w' r1 r2
    refine h v' w' ?_ r2
    unfold Own
    rw [List.length_append, List.map_append]; exact r1
end

/-- A slice of the call's own, or one without spare capacity: an append leaves what is below B. -/
def Fits {α : Type} [Inhabited α] (e : TypeId) (enc : α → Value) (B : Nat) (w : World) (v : Value) (l : List α) : Prop := Own e enc B w v l ∨ ∃ x, v = .slice x l.length l.length ∧ Holds enc w v l
theorem Fits.on {α : Type} [Inhabited α] {enc : α → Value} {e : TypeId} {B : Nat} {w w' : World} {v : Value} {l : List α} (h : Fits e enc B w v l) (hb : Below w.heap.size w w') : Fits e enc B w' v l := by
  rcases h with h | ⟨x, hv, h⟩
  · exact Or.inl (h.on hb)
  · exact Or.inr ⟨x, hv, h.on hb⟩
theorem Fits.holds {α : Type} [Inhabited α] {enc : α → Value} {e : TypeId} {B : Nat} {w : World} {v : Value} {l : List α} (h : Fits e enc B w v l) : Holds enc w v l := by
  rcases h with h | ⟨x, hv, h⟩
  · exact h.holds
  · exact h

section
variable {P : Program} {w : World} {ops : Array Oper} {rest : List Oper} {o : Oper} {a : Act} {Q : Exit → Act → World → Prop} {α : Type} [Inhabited α] {enc : α → Value} {e t : TypeId} {bytes : Nat} {z : Value}
theorem wpList_app_fit (hgd : o.guard = none) (s x : Operand) (ho : o.op = .call { callee := .builtin .append, args := #[s, x], argTypes := #[t, t] }) (ht : P.underlying t = some (.slice e)) (hi : Elem P e z bytes) (hz : z.cells.size = 1)
    {B : Nat} {v vx : Value} {l m : List α} (hs : a.eval s = v) (hx : a.eval x = vx) (hown : Fits e enc B w v l) (hsrc : Holds enc w vx m) (hm : m ≠ []) (h1c : ∀ x, (enc x).oneCell' = true) (hlen : (l.length + m.length) * bytes ≤ 140737488355328) (hmx : l.length + m.length ≤ maxLen) (hB : B ≤ w.heap.size)
    (h : ∀ v' w', Own e enc B w' v' (l ++ m) → Below B w w' → wpList P ops Q rest (a.put o.dst v') w') : wpList P ops Q (o :: rest) a w := by
  rcases hown with hown | ⟨ao, rfl, hold⟩
  · exact wpList_app hgd s x ho ht hi hz hs hx hown hsrc h1c hlen hmx hB fun v' w' h1 h2 => h v' w' h1 ((Below.refl _ _).grown h2 hB (fun g hg => (hown.lt g hg).1))
  · obtain ⟨xo, c, rfl, hc, hh⟩ := hsrc
    have hsrc : Holds enc w (.slice xo m.length c) m := ⟨xo, c, rfl, hc, hh⟩
    rcases hh with hh | ⟨b, off, rfl, _⟩
    · exact absurd hh hm
    · exact wpList_app_full hgd s x ho ht hi hz hs hx hold hsrc hm h1c hlen hmx fun v' w' h1 h2 => h v' w' (h1.mono hB) ((Below.refl _ _).grown h2 hB (fun g hg => by cases hg))
end

/-- A new block of one number; a new empty block. -/
theorem holds_one {α : Type} [Inhabited α] (enc : α → Value) (e : TypeId) (w : World) (x : α) : Holds enc (w.alloc (.cells #[enc x] e)) (.slice (some ⟨w.heap.size, 0, none⟩) 1 1) [x] := by
  refine ⟨_, 1, rfl, by simp, Or.inr ⟨_, _, rfl, fun j hj => ?_⟩⟩
  have : j = 0 := by simpa using hj
  subst this
  simp [World.cell?_alloc_mark, nth]
theorem own_empty {α : Type} [Inhabited α] (enc : α → Value) (e : TypeId) (w : World) : Own e enc w.heap.size (w.alloc (.cells #[] e)) (.slice (some ⟨w.heap.size, 0, none⟩) 0 0) [] := World.ownsRow_lit w #[] 0 (Nat.le_refl _) (by unfold maxLen; omega) rfl
end Go.Proofs.Ytbooamnlocobfaa.Row
/- Contracts of the helpers by which the laws measure, copy, compare, mark and look at slices of strings: a copy lies in memory of the call's own and holds the same list; comparing tells whether the lists are equal; marking writes the texts of the numbers from k on; looking at the marks tells that they are there. No conditions but that lengths fit. -/
namespace Go.Proofs.Ytbooamnlocobfaa.Row
open Go.ChangeShapes Go.WideShapes Go.ChangeAt Go.RowKit Go.Instr
set_option linter.unusedVariables false
set_option maxRecDepth 100000

/-! ### lists -/
/-- Length and sizes of a list of strings together, up to place k. -/
def bulkTo (l : List ByteArray) (k : Nat) : Nat := l.length + ((l.take k).map (·.size)).sum
def bulk (l : List ByteArray) : Nat := bulkTo l l.length
theorem bulkTo_zero (l : List ByteArray) : bulkTo l 0 = l.length := by simp [bulkTo]
theorem nth_eq' {α : Type} [Inhabited α] {l : List α} {k : Nat} (h : k < l.length) : nth l k = l[k] := nth_eq h
theorem bulkTo_succ (l : List ByteArray) {k : Nat} (h : k < l.length) : bulkTo l (k + 1) = bulkTo l k + (nth l k).size := by
  unfold bulkTo
  rw [List.take_succ_eq_append_getElem h, nth_eq h, List.map_append, List.sum_append]
  simp only [List.map_cons, List.map_nil, List.sum_cons, List.sum_nil]
  omega
theorem sum_take_le (l : List Nat) : ∀ k, (l.take k).sum ≤ l.sum := by
  induction l with
  | nil => simp
  | cons a r ih => intro k; cases k with
    | zero => simp
    | succ k => have := ih k; simp only [List.take_succ_cons, List.sum_cons]; omega
theorem bulkTo_le (l : List ByteArray) (k : Nat) : bulkTo l k ≤ bulk l := by
  unfold bulk bulkTo
  have := sum_take_le (l.map (·.size)) k
  rw [List.take_length, List.map_take]; omega
theorem bulk_len (l : List ByteArray) : l.length ≤ bulk l := by unfold bulk bulkTo; omega
/-- What is left behind measuring a list, or -1. -/
def szL (l : List ByteArray) (left : Int) : Int := if (bulk l : Int) ≤ left then left - bulk l else -1
theorem szL_fit {l : List ByteArray} {left : Int} (h : (bulk l : Int) ≤ left) : szL l left = left - bulk l := if_pos h
theorem szL_not {l : List ByteArray} {left : Int} (h : left < (bulk l : Int)) : szL l left = -1 := if_neg (by omega)

/-- The list behind the first k stores of a copy. -/
def filled (l : List ByteArray) (k : Nat) : List ByteArray := l.take k ++ List.replicate (l.length - k) ByteArray.empty
theorem filled_length (l : List ByteArray) {k : Nat} (h : k ≤ l.length) : (filled l k).length = l.length := by simp [filled]; omega
theorem filled_zero (l : List ByteArray) : filled l 0 = List.replicate l.length ByteArray.empty := by simp [filled]
theorem filled_all (l : List ByteArray) : filled l l.length = l := by simp [filled]
theorem filled_step (l : List ByteArray) {k : Nat} (h : k < l.length) : (filled l k).set k (nth l k) = filled l (k + 1) := by
  have hl : (l.take k).length = k := by simp; omega
  unfold filled
  rw [List.set_append_right _ _ (by omega), hl, Nat.sub_self, show l.length - k = (l.length - (k + 1)) + 1 by omega, List.replicate_succ, List.set_cons_zero, nth_eq h]
  have := List.take_succ_eq_append_getElem h
  rw [this, List.append_assoc]; rfl

/-- Two lists agree up to k. -/
def agree {α : Type} [Inhabited α] (a b : List α) (k : Nat) : Prop := ∀ j, j < k → nth a j = nth b j
section
variable {α : Type} [Inhabited α]
theorem agree_zero (a b : List α) : agree a b 0 := fun j h => absurd h (by omega)
theorem agree_succ {a b : List α} {k : Nat} (h : agree a b k) (hk : nth a k = nth b k) : agree a b (k + 1) := fun j hj => by
  by_cases e : j = k
  · subst e; exact hk
  · exact h j (by omega)
theorem agree_all {a b : List α} (hl : a.length = b.length) (h : agree a b a.length) : a = b := by
  apply List.ext_getElem hl
  intro i h1 h2
  have := h i h1
  rwa [nth_eq h1, nth_eq h2] at this
theorem differ_at {a b : List α} {k : Nat} (h : ¬ nth a k = nth b k) : a ≠ b := fun e => h (by rw [e])
end
def eqB (a b : List ByteArray) : Bool := decide (a = b)
theorem eqB_true {a b : List ByteArray} (h : a = b) : eqB a b = true := by simp [eqB, h]
theorem eqB_false {a b : List ByteArray} (h : a ≠ b) : eqB a b = false := by simp [eqB, h]
theorem eqB_self (a : List ByteArray) : eqB a a = true := by simp [eqB]

/-- The elements that a marking writes: from k on. -/
def marks {α : Type} (f : Int → α) (k : Int) : Nat → List α
  | 0 => []
  | n + 1 => marks f k n ++ [f (k + n)]
section
variable {α : Type} (f : Int → α)
theorem marks_length (k : Int) : ∀ n, (marks f k n).length = n
  | 0 => rfl
  | n + 1 => by simp [marks, marks_length k n]
theorem marks_at [Inhabited α] (k : Int) : ∀ n j, j < n → nth (marks f k n) j = f (k + j)
  | n + 1, j, h => by
    simp only [marks]
    by_cases hj : j < n
    · have := marks_at k n j hj
      simp only [nth, List.getD, List.getElem?_append, marks_length] at *
      rw [if_pos hj]; exact this
    · obtain rfl : j = n := by omega
      simp [nth, List.getD, marks_length]
/-- The list behind the first j marks. -/
def marked {α : Type} (f : Int → α) (k : Int) (l : List α) (j : Nat) : List α := marks f k j ++ l.drop j
theorem marked_length (k : Int) (l : List α) {j : Nat} (h : j ≤ l.length) : (marked f k l j).length = l.length := by simp [marked, marks_length]; omega
theorem marked_zero (k : Int) (l : List α) : marked f k l 0 = l := by simp [marked, marks]
theorem marked_all (k : Int) (l : List α) : marked f k l l.length = marks f k l.length := by simp [marked]
theorem marked_step (k : Int) (l : List α) {j : Nat} (h : j < l.length) : (marked f k l j).set j (f (k + j)) = marked f k l (j + 1) := by
  simp only [marked, marks]
  rw [List.set_append_right _ _ (by rw [marks_length]; omega), marks_length, Nat.sub_self, List.append_assoc]
  congr 1
  cases hd : l.drop j with
  | nil => have := congrArg List.length hd; simp at this; omega
  | cons x r =>
    have : l.drop (j + 1) = r := by rw [← List.drop_drop, hd]; rfl
    simp [this]
end

section
variable {α : Type} [Inhabited α] {enc : α → Value}
theorem own_store {e : TypeId} {B : Nat} {w : World} {g n cap : Nat} {l : List α} (h : Own e enc B w (.slice (some ⟨g, 0, none⟩) n cap) l) (hn : n = l.length) (j : Nat) (x : α) :
    Own e enc B (w.setCell ⟨g, j, none⟩ (enc x)) (.slice (some ⟨g, 0, none⟩) n cap) (l.set j x) ∧ w.grownBy (w.setCell ⟨g, j, none⟩ (enc x)) (some g) := by
  subst hn
  have := World.ownsRow.stored h j (enc x)
  refine ⟨?_, this.2⟩
  unfold Own
  rw [List.length_set, List.map_set]
  exact this.1
theorem own_cell {e : TypeId} {B : Nat} {w : World} {g n cap : Nat} {l : List α} (h : Own e enc B w (.slice (some ⟨g, 0, none⟩) n cap) l) (hn : n = l.length) {j : Nat} (hj : j < l.length) :
    w.cell? ⟨g, j, none⟩ = some (enc (nth l j)) ∧ w.frozen? ⟨g, j, none⟩ = false := by
  subst hn
  refine ⟨?_, World.ownsRow.frozenAt h j⟩
  rw [World.ownsRow.cellAt h j (by simpa using hj), getD_map hj]
end

theorem below_drewN {B : Nat} {a w : World} (h : Below B a w) (n : Nat) : Below B a (w.drewN n) := ⟨h.os, h.tape, h.output, h.size, h.block⟩
theorem ret_bool {a b : Bool} (h : a = b) : Ending.returned (.bool a) = .returned (.bool b) := by rw [h]
theorem ret_int {k : IntKind} {a b : Int} (h : a = b) : Ending.returned (.int k a) = .returned (.int k b) := by rw [h]

/-! ### strings -/
theorem toList_inj {a b : ByteArray} (h : a.toList = b.toList) : a = b := by
  rw [ByteArray.toList_eq, ByteArray.toList_eq] at h
  exact ByteArray.ext (Array.toList_inj.1 h)
theorem tl_eq {a b : ByteArray} (h : a = b) : (!(a.toList == b.toList)) = false := by subst h; simp
theorem tl_ne {a b : ByteArray} (h : ¬ a = b) : (!(a.toList == b.toList)) = true := by
  have : a.toList ≠ b.toList := fun e => h (toList_inj e)
  simpa using this
theorem oneStr (x : ByteArray) : (Value.string x).oneCell' = true := rfl
theorem elemSTR : Elem Try.prog 9 (.string ByteArray.empty) 16 := by unfold Elem; kernel_rfl

set_option maxHeartbeats 1000000 in
theorem szStringS (v : Value) (l : List ByteArray) (w : World) (left : Int) (h : Holds Value.string w v l) (hl : l.length ≤ 9223372036854775807) (hs : ∀ x ∈ l, x.size ≤ maxLen) (h0 : 0 ≤ left) (h1 : left ≤ 1048576) :
    Calls Try.prog 74 #[v, .int .i64 left] w fun e w' => e = .returned (.int .i64 (szL l left)) ∧ w = w' := by
  obtain ⟨x, cap, rfl, hcap, hh⟩ := h.shape
  have hle := bulkTo_le l
  obtain ⟨n, hn⟩ : ∃ n, n = l.length := ⟨_, rfl⟩
  have hb0 := bulkTo_zero l
  rw [← hn] at hcap hh hl hb0 ⊢
  by_cases hbig : left < (n : Int)
  · have hS : szL l left = -1 := szL_not (by have := bulk_len l; omega)
    rw [hS]
    clear hh h hs hle hn hb0 hS
    go_enter Try.func74, Try.ntmps74
    go_wp2
    go_ret
    exact ⟨rfl, rfl⟩
  have HN := Lib.hid hn
  have HH := Lib.hid hh
  have HS := Lib.hid hs
  have HLE := Lib.hid hle
  have HB0 := Lib.hid hb0
  clear hn h hh hs hle hb0
  go_enter Try.func74, Try.ntmps74
  go_wp2
  go_loop [1, 5] (fun lv i => ∃ k : Nat, k ≤ n ∧ i = .int .i64 k ∧ ∃ u : Int, lv = .int .i64 u ∧ u = left - bulkTo l k ∧ 0 ≤ u) (fun _ i => n - (intOf i).toNat)
  case atStart => exact ⟨0, Nat.zero_le _, rfl, _, rfl, by rw [HB0.out], by omega⟩
  case round =>
    obtain ⟨k, hk, rfl, u, rfl, hu, h0u⟩ := hrel
    have hub : u ≤ left := by omega
    have HU := Lib.hid hu
    clear hu
    by_cases hlt : k < n
    · have hlen := HN.out
      obtain ⟨b, off, rfl, hc⟩ := HH.out.at (j := k) (by omega)
      have hsz := HS.out (nth l k) (by rw [nth_eq (by omega)]; exact List.getElem_mem _)
      have hstep := Lib.hid (bulkTo_succ l (k := k) (by omega))
      have hm : maxLen = 9223372036854775807 := rfl
      rw [hm] at hsz
      have hall := HLE.out (k + 1)
      rw [bulkTo_succ l (k := k) (by omega)] at hall
      have HALL := Lib.hid hall
      clear hlen hm hall
      by_cases hneg : u - ((nth l k).size : Int) < 0
      · go_wp2
        go_ret
        refine ⟨ret_int ?_, rfl⟩
        have e1 := HALL.out
        have e2 := HU.out
        rw [szL_not (by omega)]
      · go_wp2
        go_round
        case rel => exact ⟨k + 1, by omega, by go_num, _, rfl, by rw [hstep.out, HU.out]; omega, by omega⟩
        case measure => simp [intOf]; omega
    · obtain rfl : k = n := by omega
      clear hlt
      go_wp2
      go_ret
      refine ⟨ret_int ?_, rfl⟩
      have := HU.out
      rw [HN.out] at this
      rw [szL_fit (by unfold bulk; omega)]
      exact this

set_option maxHeartbeats 1000000 in
theorem toStringS (v : Value) (l : List ByteArray) (w : World) (h : Holds Value.string w v l) (hl : l.length ≤ 100000000) :
    Calls Try.prog 76 #[v] w fun e w' => ∃ v', e = .returned v' ∧ Own 9 Value.string w.heap.size w' v' l ∧ Below w.heap.size w w' := by
  obtain ⟨x, cap, rfl, hcap, hh⟩ := h.shape
  obtain ⟨i0, hi, hz0, hz1, hz2⟩ := info_parts elemSTR
  obtain ⟨n, hn⟩ : ∃ n, n = l.length := ⟨_, rfl⟩
  rw [← hn] at hcap hh hl ⊢
  have HN := Lib.hid hn
  have HH := Lib.hid hh
  have HI := Lib.hid hi; have HZ0 := Lib.hid hz0; have HZ1 := Lib.hid hz1; have HZ2 := Lib.hid hz2
  clear hn h hh hi hz0 hz1 hz2
  go_enter Try.func76, Try.ntmps76
  go_wp2_with (at_make; refine wpList_make_full _ rfl _ _ 22 rfl w.heap.size 9 i0 (.string ByteArray.empty) 1 Try.underlying22 HI.out HZ0.out HZ1.out _ _ _ _ n rfl rfl rfl rfl (by rw [HZ2.out]; omega) (by unfold maxLen; omega) (Nat.le_refl _) ?_)
  intro w1 hown hgrow
  have ho : Own 9 Value.string w.heap.size w1 (.slice (some ⟨w.heap.size, 0, none⟩) n n) (filled l 0) := by
    unfold Own
    rw [filled_zero, List.length_replicate, ← HN.out, List.map_replicate]
    rw [toList_madeCells_one] at hown
    exact hown
  have hb : Below w.heap.size w w1 := (Below.refl _ _).grown hgrow (Nat.le_refl _) (fun k hk => by cases hk)
  have HO := Lib.hid ho; have HB := Lib.hid hb
  clear hown hgrow ho hb
  go_wp2_with fail
  go_loopw [4] (fun i wr => ∃ k : Nat, k ≤ n ∧ i = .int .i64 k ∧ Hid (Own 9 Value.string w.heap.size wr (.slice (some ⟨w.heap.size, 0, none⟩) n n) (filled l k)) ∧ Hid (Below w.heap.size w wr)) (fun i _ => n - (intOf i).toNat)
  case atStart => exact ⟨0, Nat.zero_le _, rfl, HO, HB⟩
  case round =>
    obtain ⟨k, hk, rfl, ho, hb⟩ := hrel
    by_cases hlt : k < n
    · have hlen := HN.out
      obtain ⟨b, off, rfl, hc⟩ := ((HH.out).on hb.out).at (j := k) (by omega)
      obtain ⟨hc2, hf2⟩ := own_cell ho.out (by rw [filled_length l (by omega)]; exact hlen) (j := k) (by rw [filled_length l (by omega)]; omega)
      obtain ⟨hs1, hs2⟩ := own_store ho.out (by rw [filled_length l (by omega)]; exact hlen) k (nth l k)
      rw [filled_step l (by omega)] at hs1
      have HS1 := Lib.hid hs1; have HS2 := Lib.hid hs2
      clear hs1 hs2 hlen
      go_wp2
      go_roundw
      case rel => exact ⟨k + 1, by omega, by go_num, HS1, Lib.hid (hb.out.grown HS2.out (by have := hb.out.size; exact this) (fun g hg => by cases hg; exact Nat.le_refl _))⟩
      case measure => simp [intOf]; omega
    · obtain rfl : k = n := by omega
      clear hlt
      go_wp2
      go_ret
      refine ⟨_, rfl, ?_, hb.out⟩
      have := ho.out
      rw [HN.out, filled_all] at this
      rw [HN.out]
      exact this

theorem eqStringS_len (x y : Option Addr) (n m cx cy : Nat) (w : World) (h : (((n : Nat) : Int) != ((m : Nat) : Int)) = true) :
    Calls Try.prog 78 #[.slice x n cx, .slice y m cy] w fun e w' => e = .returned (.bool false) ∧ w = w' := by
  go_enter Try.func78, Try.ntmps78
  go_wp2
  go_ret
  exact ⟨rfl, rfl⟩

set_option maxHeartbeats 1000000 in
theorem eqStringS (v u : Value) (l m : List ByteArray) (w : World) (h : Holds Value.string w v l) (g : Holds Value.string w u m) (hl : l.length ≤ 140737488351232) (hm : m.length ≤ 140737488351232) :
    Calls Try.prog 78 #[v, u] w fun e w' => e = .returned (.bool (eqB l m)) ∧ Below w.heap.size w w' := by
  obtain ⟨x, cx, rfl, hcx, hh⟩ := h.shape
  obtain ⟨y, cy, rfl, hcy, hg⟩ := g.shape
  by_cases he : l.length = m.length
  · obtain ⟨n, hn⟩ : ∃ n, n = l.length := ⟨_, rfl⟩
    rw [← he] at hg hm hcy ⊢
    rw [← hn] at hcx hh hl hg hm hcy ⊢
    have HE := Lib.hid he
    have HN := Lib.hid hn
    have HH := Lib.hid hh
    have HG := Lib.hid hg
    have htest : (((n : Nat) : Int) != ((n : Nat) : Int)) = false := by simp
    clear hn h hh g hg he
    go_enter Try.func78, Try.ntmps78
    go_wp2
    go_loopw [5] (fun i wr => ∃ k nq : Nat, k ≤ n ∧ i = .int .i64 k ∧ Hid (agree l m k) ∧ wr = w.drewN nq) (fun i _ => n - (intOf i).toNat)
    case atStart => exact ⟨0, 0, Nat.zero_le _, rfl, Lib.hid (agree_zero _ _), rfl⟩
    case round =>
      obtain ⟨k, nq, hk, rfl, ha, rfl⟩ := hrel
      by_cases hlt : k < n
      · have hlen := HN.out
        have hlen2 := HE.out
        obtain ⟨b, off, rfl, hc⟩ := HH.out.at (j := k) (by omega)
        obtain ⟨b', off', rfl, hc'⟩ := HG.out.at (j := k) (by omega)
        clear hlen hlen2
        by_cases hd : nth l k = nth m k
        · have hd2 := tl_eq hd
          have HD := Lib.hid hd; clear hd
          go_wp2_with fail
          go_quiet (fail)
          go_wp2_with fail
          go_roundw
          case rel => exact ⟨k + 1, _, by omega, by go_num, Lib.hid (agree_succ ha.out HD.out), rfl⟩
          case measure => simp [intOf]; omega
        · have hd2 := tl_ne hd
          have HD := Lib.hid (eqB_false (differ_at hd)); clear hd
          go_wp2_with fail
          go_quiet (fail)
          go_wp2_with fail
          go_ret
          exact ⟨ret_bool HD.out.symm, below_drewN (below_drewN (Below.refl _ _) _) _⟩
      · obtain rfl : k = n := by omega
        have HD := Lib.hid (eqB_true (agree_all HE.out (HN.out ▸ ha.out)))
        clear hlt
        go_wp2
        go_ret
        exact ⟨ret_bool HD.out.symm, below_drewN (Below.refl _ _) _⟩
  · have htest : (((l.length : Nat) : Int) != ((m.length : Nat) : Int)) = true := by
      rw [bne_iff_ne]; omega
    rw [eqB_false (fun e => he (by rw [e]))]
    exact (eqStringS_len x y _ _ cx cy w htest).mono fun e w' ⟨h1, h2⟩ => ⟨h1, by subst h2; exact Below.refl _ _⟩

/-! ### the marks' texts -/
theorem keepS {w w' : World} {a : Addr} {v : Value} (hc : w.cell? a = some v) {W : World} (hbW : Below W.heap.size W w) (hb : Below w.heap.size w w') : w'.cell? a = some v ∧ Below W.heap.size W w' := ⟨by rw [hb.cell (cell_lt hc)]; exact hc, hbW.trans (hb.mono hbW.size)⟩
def str (l : List UInt8) : ByteArray := ⟨l.toArray⟩
theorem str_cons (c : UInt8) (l : List UInt8) : str [c] ++ str l = str (c :: l) := by
  simp [str, ByteArray.ext_iff]
theorem str_size (l : List UInt8) : (str l).size = l.length := by simp [str, ByteArray.size]
/-- The decimal digits of a number, none of 0. -/
def digs (u : Nat) : List UInt8 := if u = 0 then [] else digs (u / 10) ++ [UInt8.ofNat (48 + u % 10)]
decreasing_by omega
theorem digs_zero : digs 0 = [] := by unfold digs; simp
theorem digs_step {u : Nat} (h : u ≠ 0) : digs u = digs (u / 10) ++ [UInt8.ofNat (48 + u % 10)] := by
  conv => lhs; unfold digs
  rw [if_neg h]
theorem digs_length (u : Nat) : (digs u).length ≤ u := by
  induction u using Nat.strongRecOn with
  | ind u ih =>
    by_cases h : u = 0
    · subst h; rw [digs_zero]; simp
    · rw [digs_step h]
      have := ih (u / 10) (by omega)
      simp; omega
def markT (k : Int) : ByteArray := if k ≤ 0 then str [109, 48] else str (109 :: digs k.toNat)
theorem ret_str {a b : ByteArray} (h : a = b) : Ending.returned (.string a) = .returned (.string b) := by rw [h]

theorem conv1 (wx : World) (v : Int) (h0 : 0 ≤ v) (h1 : v < 256) :
    (convert 25 9 (.slice (some ⟨wx.heap.size, 0, none⟩) 1 1)).run Try.prog (wx.alloc (.cells #[.int .u8 v] 5)) = .ok (.string (str [UInt8.ofNat v.toNat])) (wx.alloc (.cells #[.int .u8 v] 5)) := by
  have := run_convert_bytes_back (P := Try.prog) (wx.alloc (.cells #[.int .u8 v] 5)) 25 9 5 ⟨wx.heap.size, 0, none⟩ 1 [UInt8.ofNat v.toNat] Try.underlying25 Try.underlying5 Try.underlying9 ?_
  · exact this
  · intro j hj
    have : j = 0 := by simpa using hj
    subst this
    have e : ((UInt8.ofNat v.toNat).toNat : Int) = v := by simp; omega
    simp only [List.getElem_cons_zero, e]
    simp [Addr.add, World.cell?_alloc_mark]

theorem digs_more {x : Nat} (h : x ≠ 0) (l : List UInt8) : digs (x / 10) ++ (UInt8.ofNat (48 + x % 10) :: l) = digs x ++ l := by
  rw [digs_step h]; simp

set_option maxHeartbeats 1000000 in
theorem markText (k : Int) (w : World) (h0 : 0 ≤ k) (h1 : k ≤ 1000000000000) :
    Calls Try.prog 101 #[.int .i64 k] w fun e w' => e = .returned (.string (markT k)) ∧ Below w.heap.size w w' := by
  by_cases hk : k ≤ 0
  · obtain rfl : k = 0 := by omega
    go_enter Try.func101, Try.ntmps101
    go_wp2
    go_ret
    exact ⟨ret_str rfl, Below.refl _ _⟩
  · have hm : markT k = str (109 :: digs k.toNat) := if_neg hk
    have HM := Lib.hid hm
    have HL := Lib.hid (digs_length k.toNat)
    clear hm
    go_enter Try.func101, Try.ntmps101
    go_wp2
    go_loopw [0, 3] (fun xv sv wr => ∃ (x : Nat) (l : List UInt8), xv = .int .i64 x ∧ sv = .string (str l) ∧ x ≤ 1000000000000 ∧ Hid (digs x ++ l = digs k.toNat) ∧ Hid (Below w.heap.size w wr)) (fun xv _ _ => (intOf xv).toNat)
    case atStart => exact ⟨k.toNat, [], by congr 1; omega, rfl, by omega, Lib.hid (by simp), Lib.hid (Below.refl _ _)⟩
    case round =>
      obtain ⟨x, l, rfl, rfl, hx, hl, hb⟩ := hrel
      have hs : (str l).size ≤ 1000000000000 := by
        have e1 := congrArg List.length hl.out
        have e2 := HL.out
        rw [str_size]
        simp at e1; omega
      by_cases hx0 : x = 0
      · subst hx0
        go_wp2
        go_ret
        refine ⟨ret_str ?_, hb.out⟩
        have e := hl.out
        rw [digs_zero] at e
        rw [HM.out, ← e]
        exact str_cons 109 l
      · have hc := conv1 wr (48 + (x : Int) % 10) (by omega) (by omega)
        have hz : (str [48 + UInt8.ofNat (x % 10)]).size = 1 := by rw [str_size]; simp
        go_wp2
        go_roundw
        case rel => exact ⟨x / 10, _, by go_num, by rw [str_cons], by omega, Lib.hid (by
          rw [← hl.out, ← digs_more hx0]
          simp), Lib.hid (hb.out.alloc hb.out.size _)⟩
        case measure => simp only [intOf]; omega

set_option maxHeartbeats 1000000 in
/-- Marking: every element of a slice of the call's own is written. -/
theorem markStringS (B : Nat) (v : Value) (l : List ByteArray) (w : World) (k : Int) (h : Own 9 Value.string B w v l) (hl : l.length ≤ 100000000) (h0 : 0 ≤ k) (h1 : k ≤ 100000000000) :
    Calls Try.prog 82 #[v, .int .i64 k] w fun e w' => e = .returned (.int .i64 (k + l.length)) ∧ Own 9 Value.string B w' v (marks markT k l.length) ∧ w.grownBy w' v.ownBlock := by
  rcases h.form with ⟨rfl, rfl⟩ | ⟨g, cap, rfl, g1, g2, g3, g4⟩
  · have H := Lib.hid h; clear h
    go_enter Try.func82, Try.ntmps82
    go_wp2
    refine wp_loop_rounds 1 ?_
    rw [rounds_succ]
    go_wp2
    go_ret
    exact ⟨ret_int (by simp), H.out, World.grownBy.refl _ _⟩
  · obtain ⟨n, hn⟩ : ∃ n, n = l.length := ⟨_, rfl⟩
    rw [← hn] at h hl g3 ⊢
    have HN := Lib.hid hn
    have H := Lib.hid h
    clear hn h
    have HB : Hid (Own 9 Value.string B w (.slice (some ⟨g, 0, none⟩) n cap) (marked markT k l 0)) := by rw [marked_zero]; exact H.out
    go_enter Try.func82, Try.ntmps82
    go_wp2
    go_loopw [1, 5] (fun kv i wr => ∃ j : Nat, j ≤ n ∧ i = .int .i64 j ∧ kv = .int .i64 (k + j) ∧ Hid (Own 9 Value.string B wr (.slice (some ⟨g, 0, none⟩) n cap) (marked markT k l j)) ∧ Hid (w.grownBy wr (some g))) (fun _ i _ => n - (intOf i).toNat)
    case atStart => exact ⟨0, Nat.zero_le _, rfl, by simp, HB, Lib.hid (World.grownBy.refl _ _)⟩
    case round =>
      obtain ⟨j, hj, rfl, rfl, ho, hg⟩ := hrel
      by_cases hlt : j < n
      · go_wp2_with fail
        refine (markText (k + j) wr (by omega) (by omega)).mono ?_
        rintro e w1 ⟨rfl, hb1⟩
        have ho1 := ho.out.on hb1
        have HG1 := Lib.hid (Go.World.grownBy.trans hg.out (grown_of_below hb1 (some g)))
        have hlen := HN.out
        obtain ⟨hc2, hf2⟩ := own_cell ho1 (by rw [marked_length _ _ l (by omega)]; exact hlen) (j := j) (by rw [marked_length _ _ l (by omega)]; omega)
        obtain ⟨hs1, hs2⟩ := own_store ho1 (by rw [marked_length _ _ l (by omega)]; exact hlen) j (markT (k + j))
        rw [marked_step _ _ l (by omega)] at hs1
        have HS1 := Lib.hid hs1; have HS2 := Lib.hid (Go.World.grownBy.trans HG1.out hs2)
        clear hs1 hs2 hlen ho1 hb1 HG1
        go_wp2
        go_roundw
        case rel => exact ⟨j + 1, by omega, by go_num, by go_num, HS1, HS2⟩
        case measure => simp [intOf]; omega
      · obtain rfl : j = n := by omega
        clear hlt
        go_wp2
        go_ret
        refine ⟨rfl, ?_, hg.out⟩
        have := ho.out
        rw [HN.out, marked_all] at this
        rw [HN.out]
        exact this

set_option maxHeartbeats 1000000 in
theorem heldStringS (v : Value) (w : World) (k : Int) (n : Nat) (h : Holds Value.string w v (marks markT k n)) (hl : n ≤ 100000000) (h0 : 0 ≤ k) (h1 : k ≤ 100000000000) :
    Calls Try.prog 87 #[v, .int .i64 k] w fun e w' => e = .returned (.int .i64 (k + n)) ∧ Below w.heap.size w w' := by
  obtain ⟨x, cap, rfl, hcap, hh⟩ := h.shape
  rw [marks_length] at hcap hh ⊢
  have HH := Lib.hid hh; clear hh h
  go_enter Try.func87, Try.ntmps87
  go_wp2
  go_loopw [1, 5] (fun kv i wr => ∃ j : Nat, j ≤ n ∧ i = .int .i64 j ∧ kv = .int .i64 (k + j) ∧ Hid (Below w.heap.size w wr)) (fun _ i _ => n - (intOf i).toNat)
  case atStart => exact ⟨0, Nat.zero_le _, rfl, by simp, Lib.hid (Below.refl _ _)⟩
  case round =>
    obtain ⟨j, hj, rfl, rfl, hb⟩ := hrel
    by_cases hlt : j < n
    · obtain ⟨b, off, rfl, hc⟩ := (HH.out.on hb.out).at (j := j) (by rw [marks_length]; exact hlt)
      rw [marks_at _ _ n j hlt] at hc
      have hne := tl_eq (rfl : markT (k + j) = markT (k + j))
      go_wp2_with fail
      have HC := Lib.hid hc
      clear hc
      go_region_held3 (fun w' => w'.cell? ⟨b, off + j, none⟩ = some (.string (markT (k + j))) ∧ Below w.heap.size w w') (first | exact keepS HC.out hb.out (Below.refl _ _).drew | exact keepS HC.out hb.out (hb1.mono (Nat.le_refl _)) | exact keepS HC.out hb.out ((Below.refl _ _).drew.trans (hb1.mono (Nat.le_refl _)))) ((go_at_call 101; refine (markText (k + j) _ (by omega) (by omega)).mono ?_; rintro e w1 ⟨rfl, hb1⟩))
      all_goals
        have HB2 := Lib.hid (hb.out.drew.trans (hb1.mono hb.out.size))
        clear hb1
        go_wp2_with fail
        go_roundw
        case rel => exact ⟨j + 1, by omega, by go_num, by go_num, HB2⟩
        case measure => simp [intOf]; omega
    · obtain rfl : j = n := by omega
      clear hlt
      go_wp2
      go_ret
      exact ⟨rfl, hb.out⟩

end Go.Proofs.Ytbooamnlocobfaa.Row
/- Results that lie in a variable of the call's own: a struct is read back cell by cell. For any program. -/
namespace Go.Proofs.Ytbooamnlocobfaa.Ret
variable {P : Program}

/-- The type is a struct or an array of so many cells. -/
def AggOf (P : Program) (ty : TypeId) (n : Nat) : Prop := (match P.underlying ty with | some (.struct _) => true | some (.array _ _) => true | _ => false) = true ∧ (P.info? ty).map (·.size) = some n

theorem run_loadVar_cells (w : World) (b : Nat) (ty : TypeId) (cs : List Value) (hc : ∀ j v, cs[j]? = some v → w.cell? ⟨b, j, none⟩ = some v) (ha : AggOf P ty cs.length) :
    (loadVar ty ⟨b, 0, none⟩).run P w = .ok (.agg cs.toArray) w := by
  obtain ⟨hd, hi⟩ := ha
  have hl : (loadCells ⟨b, 0, none⟩ cs.length).run P w = .ok cs.toArray w :=
    run_loadCells_list (P := P) w ⟨b, 0, none⟩ cs (fun j v hv => by
      have hadd : (⟨b, 0, none⟩ : Addr).add j = ⟨b, j, none⟩ := by unfold Addr.add; split <;> simp_all
      rw [hadd]; exact hc j v hv)
  cases hq : P.info? ty with
  | none => simp [hq] at hi
  | some i =>
    have hs : i.size = cs.length := by simpa [hq] using hi
    cases hu : P.underlying ty with
    | none => simp [hu] at hd
    | some d =>
      have hagg : (isAgg ty).run P w = .ok true w := by
        unfold isAgg
        rw [Sem.run_bind, run_underlying hu w]
        cases d <;> simp_all
      simp [loadVar, Sem.run_bind, hagg, sizeOf, typeInfo, hq, hs, hl]

theorem results_c {fn : Func} {p : Tmp} {ty : TypeId} (h : fn.results = #[.cell p ty]) (tmps : Array Value) (w : World) (b : Nat) (cs : List Value) (hp : tmps.getD p undef = .pointer (some ⟨b, 0, none⟩))
    (ha : AggOf P ty cs.length) (hc : ∀ j v, cs[j]? = some v → w.cell? ⟨b, j, none⟩ = some v) : (results fn tmps).run P w = .ok (.agg cs.toArray) w := by
  have hp' : tmps[p]?.getD undef = .pointer (some ⟨b, 0, none⟩) := by simpa using hp
  have hl := run_loadVar_cells (P := P) w b ty cs hc ha
  simp [results, h, hp', asAddr, hl]
theorem results_ct {fn : Func} {p u : Tmp} {ty : TypeId} (h : fn.results = #[.cell p ty, .tmp u]) (tmps : Array Value) (w : World) (b : Nat) (cs : List Value) (hp : tmps.getD p undef = .pointer (some ⟨b, 0, none⟩))
    (ha : AggOf P ty cs.length) (hc : ∀ j v, cs[j]? = some v → w.cell? ⟨b, j, none⟩ = some v) : (results fn tmps).run P w = .ok (.tuple #[.agg cs.toArray, tmps.getD u undef]) w := by
  have hp' : tmps[p]?.getD undef = .pointer (some ⟨b, 0, none⟩) := by simpa using hp
  have hl := run_loadVar_cells (P := P) w b ty cs hc ha
  simp [results, h, hp', asAddr, hl, Result.andThen]
theorem results_cc {fn : Func} {p p2 : Tmp} {ty ty2 : TypeId} (h : fn.results = #[.cell p ty, .cell p2 ty2]) (tmps : Array Value) (w : World) (b b2 : Nat) (cs cs2 : List Value) (hp : tmps.getD p undef = .pointer (some ⟨b, 0, none⟩)) (hp2 : tmps.getD p2 undef = .pointer (some ⟨b2, 0, none⟩))
    (ha : AggOf P ty cs.length) (ha2 : AggOf P ty2 cs2.length) (hc : ∀ j v, cs[j]? = some v → w.cell? ⟨b, j, none⟩ = some v) (hc2 : ∀ j v, cs2[j]? = some v → w.cell? ⟨b2, j, none⟩ = some v) : (results fn tmps).run P w = .ok (.tuple #[.agg cs.toArray, .agg cs2.toArray]) w := by
  have hp' : tmps[p]?.getD undef = .pointer (some ⟨b, 0, none⟩) := by simpa using hp
  have hp2' : tmps[p2]?.getD undef = .pointer (some ⟨b2, 0, none⟩) := by simpa using hp2
  have hl := run_loadVar_cells (P := P) w b ty cs hc ha
  have hl2 := run_loadVar_cells (P := P) w b2 ty2 cs2 hc2 ha2
  simp [results, h, hp', hp2', asAddr, hl, hl2, Result.andThen]

/-- One cell: what is asked of it. -/
theorem one {w : World} {b : Nat} {u : Value} (h : w.cell? ⟨b, 0, none⟩ = some u) : ∀ j v, [u][j]? = some v → w.cell? ⟨b, j, none⟩ = some v := by
  intro j v hv
  cases j with
  | zero => simp at hv; subst hv; exact h
  | succ j => simp at hv

theorem two {w : World} {b : Nat} {u0 u1 : Value} (h0 : w.cell? ⟨b, 0, none⟩ = some u0) (h1 : w.cell? ⟨b, 1, none⟩ = some u1) : ∀ j v, [u0, u1][j]? = some v → w.cell? ⟨b, j, none⟩ = some v := by
  intro j v hv
  match j with
  | 0 => simp at hv; subst hv; exact h0
  | 1 => simp at hv; subst hv; exact h1
  | j + 2 => simp at hv

/-- A new block's cell; one that stands below. -/
theorem cell_at {w : World} {u : Value} {t : TypeId} {n : Nat} (hn : n = w.heap.size) : (w.alloc (.cells #[u] t)).cell? ⟨n, 0, none⟩ = some u := by
  rw [World.cell?_alloc_at _ _ _ _ hn]; rfl
theorem set_same {w : World} {a : Addr} {u v : Value} (h : w.cell? a = some u) : (w.setCell a v).cell? a = some v := World.cell?_setCell_same' w a v (by rw [h]; rfl)
theorem grownBy_set (w : World) (a : Addr) (u : Value) : w.grownBy (w.setCell a u) (some a.block) := ⟨rfl, rfl, rfl, by simp [World.setCell], fun i hi hne => Go.RowKit.Below.heap_setCell _ _ _ _ (fun e => hne (by rw [e]))⟩
open Go.RowKit in
theorem cell_lt {w : World} {a : Addr} {u : Value} (h : w.cell? a = some u) : a.block < w.heap.size := World.block_lt_of_cell? w a h
/-- Block g's first cell holds u, and may be written. -/
def NC (w : World) (g : Nat) (u : Value) : Prop := w.cell? ⟨g, 0, none⟩ = some u ∧ w.frozen? ⟨g, 0, none⟩ = false
section
open Go.RowKit
variable {w w' : World} {g : Nat} {u : Value}
theorem NC.lt (h : NC w g u) : g < w.heap.size := cell_lt h.1
theorem NC.on (h : NC w g u) (hb : Below w.heap.size w w') : NC w' g u := ⟨by rw [hb.cell h.lt]; exact h.1, by rw [hb.frozen h.lt]; exact h.2⟩
theorem NC.grown (h : NC w g u) {row : Option Nat} (hg : w.grownBy w' row) (hne : some g ≠ row) : NC w' g u := ⟨hg.cell h.1 hne, (World.frozen?_of_block (hg.block g h.lt hne)).trans h.2⟩
theorem NC.new (w : World) (u : Value) (t : TypeId) : NC (w.alloc (.cells #[u] t)) w.heap.size u := ⟨cell_at rfl, World.frozen?_alloc_at _ _ _ _ rfl⟩
theorem NC.new' {w : World} (u : Value) (t : TypeId) {n : Nat} (h : n = w.heap.size) : NC (w.alloc (.cells #[u] t)) n u := by subst h; exact NC.new w u t
theorem NC.alloc (h : NC w g u) (o : Obj) : NC (w.alloc o) g u := ⟨by rw [World.cell?_alloc_past _ _ _ h.lt]; exact h.1, by rw [World.frozen?_alloc_past _ _ _ h.lt]; exact h.2⟩
theorem NC.drew (h : NC w g u) : NC w.drew g u := h
theorem NC.other (h : NC w g u) {a : Addr} (hne : a.block ≠ g) (v : Value) : NC (w.setCell a v) g u := h.grown (grownBy_set w a v) (fun e => hne (by cases e; rfl))
end
/-- Block g is the call's own variable of type t, and holds u. -/
def Box (w : World) (g : Nat) (u : Value) (t : TypeId) : Prop := w.heap[g]? = some (.cells #[u] t)
section
open Go.RowKit
variable {w w' : World} {g : Nat} {u : Value} {t : TypeId}
theorem Box.lt (h : Box w g u t) : g < w.heap.size := (Array.getElem?_eq_some_iff.1 h).1
theorem Box.cell (h : Box w g u t) : w.cell? ⟨g, 0, none⟩ = some u := by rw [cell_of_row w g 0 #[u] t _ h]; rfl
theorem Box.on (h : Box w g u t) (hb : Below w.heap.size w w') : Box w' g u t := (hb.block g h.lt).trans h
theorem Box.grown (h : Box w g u t) {row : Option Nat} (hg : w.grownBy w' row) (hne : some g ≠ row) : Box w' g u t := (hg.block g h.lt hne).trans h
theorem Box.new (w : World) (u : Value) (t : TypeId) : Box (w.alloc (.cells #[u] t)) w.heap.size u t := heap_alloc_new w _
theorem Box.frozen (h : Box w g u t) : w.frozen? ⟨g, 0, none⟩ = false := by simp [World.frozen?, show w.heap[g]? = some (.cells #[u] t) from h]
theorem Box.nc (h : Box w g u t) : NC w g u := ⟨h.cell, h.frozen⟩
theorem Box.set (h : Box w g u t) (v : Value) : Box (w.setCell ⟨g, 0, none⟩ v) g v t := by
  have h' : w.heap[g]? = some (.cells #[u] t) := h
  unfold Box
  simp [World.setCell, Array.getElem?_modify, h']
theorem Box.new' {w : World} (u : Value) (t : TypeId) {n : Nat} (h : n = w.heap.size) : Box (w.alloc (.cells #[u] t)) n u t := by subst h; exact Box.new w u t
end
end Go.Proofs.Ytbooamnlocobfaa.Ret
/- Contracts of the helpers by which the laws measure, copy, compare, mark and look at names (a struct of one slice of strings). No conditions but that lengths fit. -/
namespace Go.Proofs.Ytbooamnlocobfaa.Row
open Go.ChangeShapes Go.WideShapes Go.ChangeAt Go.RowKit Go.Instr
set_option linter.unusedVariables false
set_option maxRecDepth 100000

theorem Own.shape {α : Type} [Inhabited α] {enc : α → Value} {e : TypeId} {B : Nat} {w : World} {v : Value} {l : List α} (h : Own e enc B w v l) : ∃ x cap, v = .slice x l.length cap ∧ l.length ≤ cap ∧ Own e enc B w (.slice x l.length cap) l := by
  rcases h.form with ⟨rfl, rfl⟩ | ⟨g, cap, rfl, h1, h2, h3, h4⟩
  · exact ⟨none, 0, rfl, by simp, h⟩
  · exact ⟨_, cap, rfl, h3, h⟩

theorem Own.shapeN {α : Type} [Inhabited α] {enc : α → Value} {e : TypeId} {B : Nat} {w : World} {v : Value} {l : List α} (h : Own e enc B w v l) : ∃ x n cap, v = .slice x n cap ∧ n = l.length ∧ n ≤ cap ∧ Own e enc B w (.slice x n cap) l := by
  obtain ⟨x, cap, rfl, hc, ho⟩ := h.shape
  exact ⟨x, _, cap, rfl, rfl, hc, ho⟩
theorem Holds.shapeN {α : Type} [Inhabited α] {enc : α → Value} {w : World} {v : Value} {l : List α} (h : Holds enc w v l) : ∃ x n cap, v = .slice x n cap ∧ n = l.length ∧ n ≤ cap ∧ Holds enc w (.slice x n cap) l := by
  obtain ⟨x, cap, rfl, hc, ho⟩ := h.shape
  exact ⟨x, _, cap, rfl, rfl, hc, ho⟩
theorem nb {α : Type} [Inhabited α] {enc : α → Value} {e : TypeId} {B : Nat} {w : World} {v : Value} {l : List α} (h : Own e enc B w v l) {b : Nat} (hb : b < B) : v.ownBlock = none ∨ v.ownBlock ≠ some b := by
  cases hv : v.ownBlock with
  | none => exact Or.inl rfl
  | some g =>
    have := (h.lt g hv).1
    exact Or.inr (fun e => by cases e; omega)
theorem bigLen {l : List ByteArray} {n : Nat} (h : bulk l ≤ n) : l.length ≤ n := Nat.le_trans (bulk_len l) h

set_option maxHeartbeats 1000000 in
theorem szName (v : Value) (l : List ByteArray) (w : World) (left : Int) (h : Holds Value.string w v l) (hl : l.length ≤ 9223372036854775807) (hs : ∀ x ∈ l, x.size ≤ maxLen) (h0 : 0 ≤ left) (h1 : left ≤ 1048576) :
    Calls Try.prog 39 #[.agg #[v], .int .i64 left] w fun e w' => e = .returned (.int .i64 (szL l left)) ∧ Below w.heap.size w w' := by
  obtain ⟨x, cap, rfl, hcap, hh⟩ := h.shape
  have HH := Lib.hid hh; have HS := Lib.hid hs
  clear hh h hs
  go_enter Try.func39, Try.ntmps39
  go_wp2_with fail
  have HA := Lib.hid (HH.out.on ((Below.refl w.heap.size w).alloc (Nat.le_refl _) (.cells #[.slice x l.length cap] 24)))
  refine (szStringS _ l _ left HA.out hl HS.out h0 h1).mono ?_
  rintro e w' ⟨rfl, rfl⟩
  by_cases hb : (bulk l : Int) ≤ left
  · rw [szL_fit hb]
    have h2 : ¬ left - (bulk l : Int) < 0 := by omega
    go_wp2
    go_ret
    exact ⟨ret_int (szL_fit hb).symm, (Below.refl _ _).alloc (Nat.le_refl _) _⟩
  · have hz := szL_not (l := l) (left := left) (by omega)
    rw [hz]
    have HZ := Lib.hid hz; clear hz
    go_wp2
    go_ret
    exact ⟨ret_int HZ.out.symm, (Below.refl _ _).alloc (Nat.le_refl _) _⟩

set_option maxHeartbeats 1000000 in
theorem toName (v : Value) (l : List ByteArray) (w : World) (h : Holds Value.string w v l) (hl : l.length ≤ 100000000) :
    Calls Try.prog 43 #[.agg #[v]] w fun e w' => ∃ v', e = .returned (.agg #[v']) ∧ Own 9 Value.string w.heap.size w' v' l ∧ Below w.heap.size w w' := by
  obtain ⟨x, cap, rfl, hcap, hh⟩ := h.shape
  have HH := Lib.hid hh
  clear hh h
  go_enter Try.func43, Try.ntmps43
  go_wp2_with fail
  have HB := Lib.hid ((((Below.refl w.heap.size w).alloc (Nat.le_refl _) (.cells #[.slice x l.length cap] 24)).alloc (by simp) (.cells #[.slice none 0 0] 30)).alloc (by simp; omega) (.cells #[.slice none 0 0] 30))
  have HA := Lib.hid (HH.out.on HB.out)
  refine (toStringS _ l _ HA.out hl).mono ?_
  rintro e w1 ⟨v1, rfl, ho, hb⟩
  obtain ⟨x1, c1, rfl, hc1, ho1⟩ := ho.shape
  have HO := Lib.hid ho1
  have HB1 := Lib.hid hb
  clear ho ho1 hb
  have hk1 : w1.cell? ⟨w.heap.size + 1, 0, none⟩ = some (.slice none 0 0) := by rw [HB1.out.cell (by simp), World.cell?_alloc_past _ _ _ (by simp), World.cell?_alloc_at _ _ _ _ (by simp)]; rfl
  have hk2 : w1.cell? ⟨w.heap.size + 1 + 1, 0, none⟩ = some (.slice none 0 0) := by rw [HB1.out.cell (by simp), World.cell?_alloc_at _ _ _ _ (by simp)]; rfl
  have hf1 : w1.frozen? ⟨w.heap.size + 1, 0, none⟩ = false := by rw [HB1.out.frozen (by simp), World.frozen?_alloc_past _ _ _ (by simp), World.frozen?_alloc_at _ _ _ _ (by simp)]
  have hf2 : w1.frozen? ⟨w.heap.size + 1 + 1, 0, none⟩ = false := by rw [HB1.out.frozen (by simp), World.frozen?_alloc_at _ _ _ _ (by simp)]
  go_wp2
  have hk3 := Ret.set_same (v := .slice x1 l.length c1) (a := ⟨w.heap.size + 1, 0, none⟩) (w := w1.setCell ⟨w.heap.size + 1 + 1, 0, none⟩ (.slice x1 l.length c1)) (u := .slice none 0 0) (by rw [World.cell?_setCell_other _ _ _ _ (by simp)]; exact hk1)
  refine bodyPost_ret (Ret.results_c rfl _ _ (w.heap.size + 1) [.slice x1 l.length c1] rfl (by unfold Ret.AggOf; exact ⟨by kernel_rfl, by kernel_rfl⟩) (Ret.one hk3)) rfl ?_
  have hs := HB1.out.size
  simp at hs
  have hO2 := (HO.out.grown (Ret.grownBy_set w1 ⟨w.heap.size + 1 + 1, 0, none⟩ (.slice x1 l.length c1)) (nb HO.out (by simp))).grown (Ret.grownBy_set _ ⟨w.heap.size + 1, 0, none⟩ (.slice x1 l.length c1)) (nb HO.out (by simp))
  exact ⟨_, rfl, hO2.mono (by simp; omega), ((HB.out.trans (HB1.out.mono (by simp; omega))).setCell (by simp; omega) _).setCell (by simp) _⟩

set_option maxHeartbeats 1000000 in
theorem eqName (v u : Value) (l m : List ByteArray) (w : World) (h : Holds Value.string w v l) (g : Holds Value.string w u m) (hl : l.length ≤ 140737488351232) (hm : m.length ≤ 140737488351232) :
    Calls Try.prog 46 #[.agg #[v], .agg #[u]] w fun e w' => e = .returned (.bool (eqB l m)) ∧ Below w.heap.size w w' := by
  obtain ⟨x, cx, rfl, hcx, hh⟩ := h.shape
  obtain ⟨y, cy, rfl, hcy, hg⟩ := g.shape
  have HH := Lib.hid hh; have HG := Lib.hid hg
  clear hh h hg g
  go_enter Try.func46, Try.ntmps46
  go_wp2_with fail
  have HB := Lib.hid (((Below.refl w.heap.size w).alloc (Nat.le_refl _) (.cells #[.slice x l.length cx] 30)).alloc (Nat.le_trans (Nat.le_refl _) (by simp)) (.cells #[.slice y m.length cy] 30))
  have HA := Lib.hid (HH.out.on HB.out); have HC := Lib.hid (HG.out.on HB.out)
  refine (eqStringS _ _ l m _ HA.out HC.out hl hm).mono ?_
  rintro e w' ⟨rfl, hb⟩
  have HB2 := Lib.hid (HB.out.trans (hb.mono (by simp; omega))); clear hb
  by_cases he : l = m
  · have HE := Lib.hid (eqB_true he)
    rw [HE.out]
    clear he
    go_wp2
    go_ret
    exact ⟨ret_bool HE.out.symm, HB2.out⟩
  · have HE := Lib.hid (eqB_false he)
    rw [HE.out]
    clear he
    go_wp2
    go_ret
    exact ⟨ret_bool HE.out.symm, HB2.out⟩

theorem slice_own {x : Option Addr} {n cap : Nat} : (Value.slice x n cap).ownBlock = x.map (·.block) := by
  cases x <;> rfl

set_option maxHeartbeats 1000000 in
theorem markName (B : Nat) (v : Value) (l : List ByteArray) (w : World) (k : Int) (h : Own 9 Value.string B w v l) (hl : l.length ≤ 100000000) (h0 : 0 ≤ k) (h1 : k ≤ 100000000000) :
    Calls Try.prog 50 #[.agg #[v], .int .i64 k] w fun e w' => e = .returned (.int .i64 (k + l.length)) ∧ Own 9 Value.string B w' v (marks markT k l.length) ∧ w.grownBy w' v.ownBlock := by
  obtain ⟨x, cx, rfl, hcx, hh⟩ := h.shape
  have HH := Lib.hid hh
  clear hh h
  go_enter Try.func50, Try.ntmps50
  go_wp2_with fail
  have HB := Lib.hid ((Below.refl w.heap.size w).alloc (Nat.le_refl _) (.cells #[.slice x l.length cx] 30))
  have HA := Lib.hid (HH.out.on HB.out)
  refine (markStringS B _ l _ k HA.out hl h0 h1).mono ?_
  rintro e w' ⟨rfl, ho, hg⟩
  have HO := Lib.hid ho
  have HG := Lib.hid ((grown_of_below HB.out (Value.slice x l.length cx).ownBlock).trans hg)
  clear ho hg
  go_wp2
  go_ret
  exact ⟨rfl, HO.out, HG.out⟩

set_option maxHeartbeats 1000000 in
theorem heldName (v : Value) (w : World) (k : Int) (n : Nat) (h : Holds Value.string w v (marks markT k n)) (hl : n ≤ 100000000) (h0 : 0 ≤ k) (h1 : k ≤ 100000000000) :
    Calls Try.prog 55 #[.agg #[v], .int .i64 k] w fun e w' => e = .returned (.int .i64 (k + n)) ∧ Below w.heap.size w w' := by
  obtain ⟨x, cx, rfl, hcx, hh⟩ := h.shape
  rw [marks_length] at hh hcx ⊢
  have HH := Lib.hid hh
  clear hh h
  go_enter Try.func55, Try.ntmps55
  go_wp2_with fail
  have HB := Lib.hid ((Below.refl w.heap.size w).alloc (Nat.le_refl _) (.cells #[.slice x n cx] 30))
  have HA := Lib.hid (HH.out.on HB.out)
  refine (heldStringS _ _ k n HA.out hl h0 h1).mono ?_
  rintro e w' ⟨rfl, hb⟩
  have HB2 := Lib.hid (HB.out.trans (hb.mono (by simp))); clear hb
  go_wp2
  go_ret
  exact ⟨rfl, HB2.out⟩

end Go.Proofs.Ytbooamnlocobfaa.Row
/- What the exact laws on names use besides the contracts: a name that came in as an argument; equal names compared; blocks that differ. No conditions. -/
namespace Go.Proofs.Ytbooamnlocobfaa.Row
open Go.ChangeShapes Go.WideShapes Go.ChangeAt Go.RowKit Go.Instr
set_option linter.unusedVariables false
set_option maxRecDepth 100000

theorem Own.notBox {α : Type} [Inhabited α] {enc : α → Value} {e : TypeId} {B : Nat} {w : World} {v : Value} {l : List α} (h : Own e enc B w v l) {g : Nat} {u : Value} {t : TypeId} (hb : Ret.Box w g u t) (hne : e ≠ t) : some g ≠ v.ownBlock := by
  rcases h.2 with ⟨rfl, _⟩ | ⟨g', cap, cur, rfl, _, hg, _⟩
  · simp [Value.ownBlock]
  · intro e1
    have : g = g' := by simpa [Value.ownBlock] using e1
    rw [← this, hb] at hg
    cases hg
    exact hne rfl
/-- Two slices never lie in one block. -/
def Apart (v u : Value) : Prop := ∀ g, v.ownBlock = some g → u.ownBlock ≠ some g
theorem Apart.symm {v u : Value} (h : Apart v u) : Apart u v := fun g h1 h2 => h g h2 h1
theorem apart_or {v u : Value} (h : Apart v u) : v.ownBlock = none ∨ v.ownBlock ≠ u.ownBlock := by
  cases hv : v.ownBlock with
  | none => exact Or.inl rfl
  | some g => exact Or.inr fun he => h g hv he.symm
theorem apart_new {α β : Type} [Inhabited α] [Inhabited β] {enc : α → Value} {enc' : β → Value} {e e' : TypeId} {B : Nat} {w w' : World} {v u : Value} {l : List α} {m : List β} (h : Own e enc w.heap.size w' v l) (h' : Own e' enc' B w u m) : Apart v u := fun g h1 h2 => by
  have a := h.lt g h1
  have b := h'.lt g h2
  omega
/-- v lies below block B, if it holds anything. -/
def Far {α : Type} [Inhabited α] (enc : α → Value) (B : Nat) (w : World) (v : Value) (l : List α) : Prop :=
  ∃ x cap, v = .slice x l.length cap ∧ l.length ≤ cap ∧ (l = [] ∨ ∃ b off, x = some ⟨b, off, none⟩ ∧ b < B ∧ ∀ j, j < l.length → w.cell? ⟨b, off + j, none⟩ = some (enc (nth l j)))
section
variable {α : Type} [Inhabited α] {enc : α → Value} {B : Nat} {w w' : World} {v : Value} {l : List α}
theorem Holds.far (h : Holds enc w v l) : Far enc w.heap.size w v l := by
  obtain ⟨x, cap, hv, hc, hh⟩ := h
  refine ⟨x, cap, hv, hc, ?_⟩
  rcases hh with h1 | ⟨b, off, hx, h2⟩
  · exact Or.inl h1
  · by_cases hl : l = []
    · exact Or.inl hl
    · exact Or.inr ⟨b, off, hx, cell_lt (h2 0 (List.length_pos_iff.2 hl)), h2⟩
theorem Far.holds (h : Far enc B w v l) : Holds enc w v l := by
  obtain ⟨x, cap, hv, hc, hh⟩ := h
  refine ⟨x, cap, hv, hc, ?_⟩
  rcases hh with h1 | ⟨b, off, hx, _, h2⟩
  · exact Or.inl h1
  · exact Or.inr ⟨b, off, hx, h2⟩
theorem Far.on (h : Far enc B w v l) (hb : Below w.heap.size w w') : Far enc B w' v l := by
  obtain ⟨x, cap, hv, hc, hh⟩ := h
  refine ⟨x, cap, hv, hc, ?_⟩
  rcases hh with h1 | ⟨b, off, hx, hlt, h2⟩
  · exact Or.inl h1
  · exact Or.inr ⟨b, off, hx, hlt, fun j hj => by rw [hb.cell (cell_lt (h2 j hj))]; exact h2 j hj⟩
theorem Far.grown (h : Far enc B w v l) {row : Option Nat} (hg : w.grownBy w' row) (hr : ∀ g, row = some g → B ≤ g) : Far enc B w' v l := by
  obtain ⟨x, cap, hv, hc, hh⟩ := h
  refine ⟨x, cap, hv, hc, ?_⟩
  rcases hh with h1 | ⟨b, off, hx, hlt, h2⟩
  · exact Or.inl h1
  · exact Or.inr ⟨b, off, hx, hlt, fun j hj => hg.cell (h2 j hj) (fun e => by have := hr b e.symm; omega)⟩
/-- u's block, if it has one, is from B on. -/
def Over (B : Nat) (u : Value) : Prop := ∀ g, u.ownBlock = some g → B ≤ g
theorem Own.over {e : TypeId} (h : Own e enc B w v l) {B' : Nat} (hB : B' ≤ B) : Over B' v := fun g hg => Nat.le_trans hB (h.lt g hg).1
end

theorem sameN (v u : Value) (l : List ByteArray) (w : World) (h : Holds Value.string w v l) (g : Holds Value.string w u l) (hl : l.length ≤ 140737488351232) :
    Calls Try.prog 46 #[.agg #[v], .agg #[u]] w fun e w' => e = .returned (.bool true) ∧ Below w.heap.size w w' := by
  have := eqName v u l l w h g hl hl
  rwa [eqB_self] at this

theorem open_name {H : Type} {enc : TypeId × Value → H} {P : Program} {w : World} {base b2 : Nat} {held : Bool} {t e s : TypeId} {v : Value} {d : DataW H} {p : List MemPlace} {f0 : Field}
    (ht : P.underlying t = some (.struct #[f0])) (hf : f0.type = e) (ho : f0.offset = 0) (hct : P.cellsOf t = 1) (hce : P.cellsOf e = 1) (he : P.underlying e = some (.slice s)) (hs : P.underlying s = some .string) (hcs : P.cellsOf s = 1)
    (hv : Value.okWide P w .any base t v) (h : DataW.Trod enc P w b2 (fun _ => true) held t v d p) :
    ∃ u l, v = .agg #[u] ∧ Holds Value.string w u l ∧ (∀ x ∈ l, x.size ≤ maxLen) ∧ l.length ≤ 9223372036854775807 := by
  have hmx : maxLen = 9223372036854775807 := rfl
  obtain ⟨cs, rfl, hcz⟩ := okWide_struct ht hv
  obtain ⟨fuel, hfu⟩ := h
  obtain ⟨y0, n, -, hlen, h0⟩ := trod_struct1 ht hfu
  obtain ⟨u, rfl⟩ : ∃ u, cs = #[u] := by
    rw [hct] at hcz
    obtain ⟨L⟩ := cs
    match L, hcz with
    | [u], _ => exact ⟨u, rfl⟩
  rw [hf, ho, hce] at h0
  simp only [Value.cells, List.drop_zero] at h0
  have h0 : DataW.trod enc P w b2 (fun _ => true) held n e [u] = some y0 := h0
  rcases Deep.open_strs he hs hcs h0 with ⟨hc, hx⟩ | ⟨a, len, cap, m, Sx, hc, hb, hl, hm, hmm, hx, hi⟩
  · simp only [List.cons.injEq, and_true] at hc
    subst hc
    exact ⟨_, [], rfl, Holds.nil _ _, by simp, by simp⟩
  · simp only [List.cons.injEq, and_true] at hc
    subst hc
    simp only [if_true] at hmm
    have hL : ((List.range len).map Sx).length = len := by simp
    refine ⟨_, (List.range len).map Sx, rfl, ⟨some a, cap, by rw [hL], by rw [hL]; exact hl, ?_⟩, ?_, by rw [hL, ← hmx]; exact Nat.le_trans hl hm⟩
    · by_cases h0 : len = 0
      · left; subst h0; simp
      · right
        obtain ⟨b, off, spot⟩ := a
        have h1 := (hi 0 (by omega)).1
        have hs : spot = none := by simpa [Addr.add] using World.cell?_spot h1
        subst hs
        refine ⟨b, off, rfl, fun i hii => ?_⟩
        rw [hL] at hii
        have h2 := (hi i (by omega)).1
        rw [Go.WideShapes.add_plain] at h2
        rw [h2, nth_eq (by rw [hL]; exact hii)]
        simp
    · intro x hx
      obtain ⟨i, hi2, rfl⟩ := List.mem_map.1 hx
      exact (hi i (by have := List.mem_range.1 hi2; omega)).2

/-- A slice of strings as it is read. -/
theorem open_strs1 {H : Type} {enc : TypeId × Value → H} {P : Program} {w : World} {b2 n : Nat} {held : Bool} {e s : TypeId} {cs : List Value} {y0 : DataW H × List MemPlace} (he : P.underlying e = some (.slice s)) (hs : P.underlying s = some .string) (hcs : P.cellsOf s = 1)
    (h0 : DataW.trod enc P w b2 (fun _ => true) held n e cs = some y0) : ∃ (ad : Option Addr) (k c : Nat) (l : List ByteArray), cs = [.slice ad k c] ∧ Holds Value.string w (.slice ad k c) l ∧ (∀ x ∈ l, x.size ≤ maxLen) ∧ l.length ≤ 9223372036854775807 := by
  have hmx : maxLen = 9223372036854775807 := rfl
  rcases Deep.open_strs he hs hcs h0 with ⟨hc, hx⟩ | ⟨a, len, cap, m, Sx, hc, hb, hl, hm, hmm, hx, hi⟩
  · exact ⟨none, 0, 0, [], hc, Holds.nil _ _, by simp, by simp⟩
  · simp only [if_true] at hmm
    have hL : ((List.range len).map Sx).length = len := by simp
    refine ⟨some a, len, cap, (List.range len).map Sx, hc, ⟨some a, cap, by rw [hL], by rw [hL]; exact hl, ?_⟩, ?_, by rw [hL, ← hmx]; exact Nat.le_trans hl hm⟩
    · by_cases h0 : len = 0
      · left; subst h0; simp
      · right
        obtain ⟨b, off, spot⟩ := a
        have h1 := (hi 0 (by omega)).1
        have hs : spot = none := by simpa [Addr.add] using World.cell?_spot h1
        subst hs
        refine ⟨b, off, rfl, fun i hii => ?_⟩
        rw [hL] at hii
        have h2 := (hi i (by omega)).1
        rw [Go.WideShapes.add_plain] at h2
        rw [h2, nth_eq (by rw [hL]; exact hii)]
        simp
    · intro x hx
      obtain ⟨i, hi2, rfl⟩ := List.mem_map.1 hx
      exact (hi i (by have := List.mem_range.1 hi2; omega)).2

end Go.Proofs.Ytbooamnlocobfaa.Row
/- Slices of elements of several cells (structs) in memory, for any program: a slice value that holds a list; a slice in blocks of the call's own that holds a list; what keeps both; appending, storing. No conditions but that lengths fit. -/
namespace Go.Proofs.Ytbooamnlocobfaa.Row
open Go.ChangeShapes Go.WideShapes Go.ChangeAt Go.RowKit
set_option linter.unusedVariables false
set_option maxRecDepth 100000

/-- Every element is written in so many cells. -/
def Sz {α : Type} (enc : α → List Value) (sz : Nat) : Prop := ∀ x, (enc x).length = sz
def flat {α : Type} (enc : α → List Value) (l : List α) : List Value := l.flatMap enc

section
variable {α : Type} {enc : α → List Value} {sz : Nat}
theorem flat_length (hs : Sz enc sz) (l : List α) : (flat enc l).length = l.length * sz := by
  unfold flat
  induction l with
  | nil => simp
  | cons a r ih => rw [List.flatMap_cons, List.length_append, ih, hs a, List.length_cons, Nat.add_mul]; omega
theorem flat_append (l m : List α) : flat enc (l ++ m) = flat enc l ++ flat enc m := by simp [flat]
theorem flat_nil : flat enc [] = [] := rfl
theorem flat_one (x : α) : flat enc [x] = enc x := by simp [flat]
theorem flat_at [Inhabited α] (hs : Sz enc sz) : ∀ (l : List α) (j i : Nat), j < l.length → i < sz → (flat enc l)[j * sz + i]? = (enc (nth l j))[i]?
  | a :: r, 0, i, _, hi => by
    unfold flat
    rw [List.flatMap_cons, List.getElem?_append_left (by rw [hs a]; omega)]
    simp [nth]
  | a :: r, j + 1, i, hj, hi => by
    have ih := flat_at hs r j i (by simpa using hj) hi
    unfold flat at *
    rw [List.flatMap_cons, List.getElem?_append_right (by rw [hs a, Nat.add_mul]; omega), hs a, show (j + 1) * sz + i - sz = j * sz + i by rw [Nat.add_mul]; omega, ih]
    simp [nth]
theorem flat_set [Inhabited α] (hs : Sz enc sz) {y : α} {u : Value} {i : Nat} (hi : i < sz) : ∀ (l : List α) (j : Nat), j < l.length → enc y = (enc (nth l j)).set i u → (flat enc l).set (j * sz + i) u = flat enc (l.set j y)
  | a :: r, 0, _, he => by
    have he : enc y = (enc a).set i u := by simpa [nth] using he
    unfold flat
    rw [List.flatMap_cons, List.set_cons_zero, List.flatMap_cons, List.set_append_left _ _ (by rw [hs a]; omega), he]
    simp
  | a :: r, j + 1, hj, he => by
    have ih := flat_set hs hi r j (by simpa using hj) (by simpa [nth] using he)
    unfold flat at *
    rw [List.flatMap_cons, List.set_cons_succ, List.flatMap_cons, List.set_append_right _ _ (by rw [hs a, Nat.add_mul]; omega), hs a, show (j + 1) * sz + i - sz = j * sz + i by rw [Nat.add_mul]; omega, ih]
theorem flat_one' (h1c : ∀ x, ∀ u ∈ enc x, u.oneCell' = true) (l : List α) : ∀ u ∈ flat enc l, u.oneCell' = true := by
  intro u hu
  unfold flat at hu
  obtain ⟨x, _, hx⟩ := List.mem_flatMap.1 hu
  exact h1c x u hx
end

/-- The slice value v holds the elements l, each written in sz cells by enc, in the world w. -/
def HoldsK {α : Type} (enc : α → List Value) (sz : Nat) (w : World) (v : Value) (l : List α) : Prop :=
  ∃ x cap, v = .slice x l.length cap ∧ l.length ≤ cap ∧ (l = [] ∨ ∃ b off, x = some ⟨b, off, none⟩ ∧ ∀ j, j < l.length * sz → ∃ u, (flat enc l)[j]? = some u ∧ w.cell? ⟨b, off + j, none⟩ = some u)
/-- The slice value v lies at the head of a row of its own, in a block from B on, and holds l. -/
def OwnK {α : Type} (e : TypeId) (enc : α → List Value) (sz : Nat) (B : Nat) (w : World) (v : Value) (l : List α) : Prop := w.ownsRow B e sz v l.length (flat enc l)

section
variable {α : Type} {enc : α → List Value} {sz : Nat} {e : TypeId} {B : Nat} {w w' : World} {v : Value} {l : List α}

theorem OwnK.form (h : OwnK e enc sz B w v l) : (v = .slice none 0 0 ∧ l = []) ∨ ∃ g cap, v = .slice (some ⟨g, 0, none⟩) l.length cap ∧ B ≤ g ∧ g < w.heap.size ∧ l.length ≤ cap ∧ cap ≤ maxLen := by
  rcases h.2 with ⟨hv, hn⟩ | ⟨g, cap, cur, hv, hg, hh, h1, h2, h3, h4⟩
  · exact Or.inl ⟨hv, List.eq_nil_of_length_eq_zero hn⟩
  · exact Or.inr ⟨g, cap, hv, hg, (Array.getElem?_eq_some_iff.1 hh).1, h1, h2⟩
theorem OwnK.holds (h : OwnK e enc sz B w v l) : HoldsK enc sz w v l := by
  rcases h.form with ⟨rfl, rfl⟩ | ⟨g, cap, rfl, h1, h2, h3, h4⟩
  · exact ⟨none, 0, rfl, by simp, Or.inl rfl⟩
  · refine ⟨_, cap, rfl, h3, ?_⟩
    by_cases hl : l = []
    · exact Or.inl hl
    · refine Or.inr ⟨g, 0, rfl, fun j hj => ?_⟩
      have h5 := World.ownsRow.cellAt h j hj
      have h6 : (flat enc l)[j]? = some ((flat enc l)[j]'(by rw [h.1]; exact hj)) := List.getElem?_eq_getElem _
      exact ⟨_, h6, by rw [Nat.zero_add, h5]; exact h6⟩
theorem OwnK.lt (h : OwnK e enc sz B w v l) : ∀ g, v.ownBlock = some g → B ≤ g ∧ g < w.heap.size := World.ownsRow.lt h
theorem OwnK.grown (h : OwnK e enc sz B w v l) {row : Option Nat} (hg : w.grownBy w' row) (hne : v.ownBlock = none ∨ v.ownBlock ≠ row) : OwnK e enc sz B w' v l := World.ownsRow.kept h hg hne
theorem OwnK.on (h : OwnK e enc sz B w v l) (hb : Below w.heap.size w w') : OwnK e enc sz B w' v l := by
  refine World.ownsRow.kept h (grown_of_below hb none) ?_
  cases hv : v.ownBlock <;> simp
theorem OwnK.mono (h : OwnK e enc sz B w v l) {B' : Nat} (hB : B' ≤ B) : OwnK e enc sz B' w v l := by
  refine ⟨h.1, ?_⟩
  rcases h.2 with h2 | ⟨g, cap, cur, hv, hg, r⟩
  · exact Or.inl h2
  · exact Or.inr ⟨g, cap, cur, hv, Nat.le_trans hB hg, r⟩
theorem OwnK.nil (e : TypeId) (enc : α → List Value) (sz B : Nat) (w : World) : OwnK e enc sz B w (.slice none 0 0) [] := World.ownsRow_nil w B e sz
theorem OwnK.len (h : OwnK e enc sz B w v l) : l.length ≤ maxLen := by
  rcases h.form with ⟨rfl, rfl⟩ | ⟨g, cap, rfl, h1, h2, h3, h4⟩
  · simp
  · omega
theorem HoldsK.on (h : HoldsK enc sz w v l) (hb : Below w.heap.size w w') : HoldsK enc sz w' v l := by
  obtain ⟨x, cap, hv, hc, h⟩ := h
  refine ⟨x, cap, hv, hc, ?_⟩
  rcases h with h | ⟨b, off, hx, h⟩
  · exact Or.inl h
  · refine Or.inr ⟨b, off, hx, fun j hj => ?_⟩
    obtain ⟨u, h1, h2⟩ := h j hj
    exact ⟨u, h1, by rw [hb.cell (cell_lt h2)]; exact h2⟩
theorem HoldsK.nil (enc : α → List Value) (sz : Nat) (w : World) : HoldsK enc sz w (.slice none 0 0) [] := ⟨none, 0, rfl, by simp, Or.inl rfl⟩
theorem HoldsK.shape (h : HoldsK enc sz w v l) : ∃ x cap, v = .slice x l.length cap ∧ l.length ≤ cap ∧ HoldsK enc sz w (.slice x l.length cap) l := by
  obtain ⟨x, cap, hv, hc, h⟩ := h
  exact ⟨x, cap, hv, hc, x, cap, rfl, hc, h⟩
theorem OwnK.shape (h : OwnK e enc sz B w v l) : ∃ x cap, v = .slice x l.length cap ∧ l.length ≤ cap ∧ OwnK e enc sz B w (.slice x l.length cap) l := by
  rcases h.form with ⟨rfl, rfl⟩ | ⟨g, cap, rfl, h1, h2, h3, h4⟩
  · exact ⟨none, 0, rfl, by simp, h⟩
  · exact ⟨_, cap, rfl, h3, h⟩
theorem OwnK.shapeN (h : OwnK e enc sz B w v l) : ∃ x n cap, v = .slice x n cap ∧ n = l.length ∧ n ≤ cap ∧ OwnK e enc sz B w (.slice x n cap) l := by
  obtain ⟨x, cap, rfl, hc, ho⟩ := h.shape
  exact ⟨x, _, cap, rfl, rfl, hc, ho⟩
theorem HoldsK.shapeN (h : HoldsK enc sz w v l) : ∃ x n cap, v = .slice x n cap ∧ n = l.length ∧ n ≤ cap ∧ HoldsK enc sz w (.slice x n cap) l := by
  obtain ⟨x, cap, rfl, hc, ho⟩ := h.shape
  exact ⟨x, _, cap, rfl, rfl, hc, ho⟩
theorem HoldsK.lenEq {x : Option Addr} {n cap : Nat} (h : HoldsK enc sz w (.slice x n cap) l) : n = l.length := by
  obtain ⟨x', cap', hv, hc, h⟩ := h
  cases hv; rfl
/-- The cells of element j: the address's block and offset, and what its cells hold. -/
theorem HoldsK.at [Inhabited α] (hs : Sz enc sz) {x : Option Addr} {n cap : Nat} (h : HoldsK enc sz w (.slice x n cap) l) {j : Nat} (hj : j < l.length) :
    ∃ b off, x = some ⟨b, off, none⟩ ∧ ∀ i, i < sz → w.cell? ⟨b, off + (j * sz + i), none⟩ = (enc (nth l j))[i]? := by
  obtain ⟨x', cap', hv, hc, h⟩ := h
  cases hv
  rcases h with rfl | ⟨b, off, hx, h⟩
  · simp at hj
  · refine ⟨b, off, hx, fun i hi => ?_⟩
    have hlt : j * sz + i < l.length * sz := by
      have : (j + 1) * sz ≤ l.length * sz := Nat.mul_le_mul_right _ hj
      rw [Nat.add_mul] at this; omega
    obtain ⟨u, h1, h2⟩ := h _ hlt
    rw [h2, ← flat_at hs l j i hj hi, h1]
theorem HoldsK.cells (hs : Sz enc sz) {ad : Addr} {n cap : Nat} (h : HoldsK enc sz w (.slice (some ad) n cap) l) : ∀ j u, (flat enc l)[j]? = some u → w.cell? (ad.add j) = some u := by
  intro j u hu
  have hj : j < l.length * sz := by have := (List.getElem?_eq_some_iff.1 hu).1; rwa [flat_length hs] at this
  obtain ⟨x', cap', hv, hc, h⟩ := h
  cases hv
  rcases h with rfl | ⟨b, off, hx, h⟩
  · simp [flat] at hu
  · cases hx
    obtain ⟨u', h1, h2⟩ := h j hj
    rw [Go.WideShapes.add_plain, h2, ← h1, hu]
theorem HoldsK.grown (h : HoldsK enc sz w v l) {row : Option Nat} (hg : w.grownBy w' row) (hne : ∀ g, v.ownBlock = some g → some g ≠ row) : HoldsK enc sz w' v l := by
  obtain ⟨x, cap, rfl, hc, h⟩ := h
  refine ⟨x, cap, rfl, hc, ?_⟩
  rcases h with h | ⟨b, off, rfl, h⟩
  · exact Or.inl h
  · refine Or.inr ⟨b, off, rfl, fun j hj => ?_⟩
    obtain ⟨u, h1, h2⟩ := h j hj
    exact ⟨u, h1, hg.cell h2 (hne b rfl)⟩
end

/-! ### append -/
def ElemK (P : Program) (e : TypeId) (z : Value) (sz bytes : Nat) : Prop := (P.info? e).map (fun i => (i.zero, i.size, i.bytes)) = some (some z, sz, bytes)
/-- What is asked of the kind of elements, once for all. -/
structure Kind {α : Type} (P : Program) (e : TypeId) (enc : α → List Value) (z : Value) (sz bytes : Nat) : Prop where
  elem : ElemK P e z sz bytes
  zs : z.cells.size = sz
  pos : 0 < sz
  size : Sz enc sz
  one : ∀ x, ∀ u ∈ enc x, u.oneCell' = true

section
variable {P : Program} {w : World} {ops : Array Oper} {rest : List Oper} {o : Oper} {a : Act} {Q : Exit → Act → World → Prop} {α : Type} {enc : α → List Value} {sz : Nat} {e t : TypeId} {bytes : Nat} {z : Value}

/-- append to a slice of the call's own, whatever is appended. -/
theorem wpList_appK_nn (K : Kind P e enc z sz bytes) (hgd : o.guard = none) (s x : Operand) (ho : o.op = .call { callee := .builtin .append, args := #[s, x], argTypes := #[t, t] }) (ht : P.underlying t = some (.slice e))
    {B : Nat} {v vx : Value} {l m : List α} (hs : a.eval s = v) (hx : a.eval x = vx) (hown : OwnK e enc sz B w v l) (hsrc : HoldsK enc sz w vx m) (hlen : (l.length + m.length) * bytes ≤ 140737488355328) (hmx : l.length + m.length ≤ maxLen) (hB : B ≤ w.heap.size)
    (h : ∀ v' w', OwnK e enc sz B w' v' (l ++ m) → w.grownBy w' v.ownBlock → (v ≠ .slice none 0 0 → v' ≠ .slice none 0 0) → wpList P ops Q rest (a.put o.dst v') w') : wpList P ops Q (o :: rest) a w := by
  obtain ⟨i, h1, h2, h3, h4⟩ := info_parts K.elem
  obtain ⟨ao, cap, rfl, hcap, hc⟩ := hsrc
  have hsrc : HoldsK enc sz w (.slice ao m.length cap) m := ⟨ao, cap, rfl, hcap, hc⟩
  have fin : ∀ v' w', w'.ownsRow B e sz v' (l.length + m.length) (flat enc l ++ flat enc m) → OwnK e enc sz B w' v' (l ++ m) := by
    intro v' w' hh
    unfold OwnK
    rw [List.length_append, flat_append]; exact hh
  cases ao with
  | some ad =>
    exact wpList_append_own w hgd s x t ho B e i z sz bytes ht h1 h2 h3 h4 K.zs K.pos v l.length _ hs hown ad m.length cap (flat enc m) hx (flat_length K.size m) (hsrc.cells K.size) (flat_one' K.one m) hmx hlen hB
      fun v' w' r1 r2 r3 => h v' w' (fin v' w' r1) r2 (fun hn he => hn (r3.1 he).1)
  | none =>
    rcases hc with rfl | ⟨b, off, hc, _⟩
    · refine wpList_plain hgd fun K hK => ?_
      have hrun : (Builtin.append_ #[t, t] o.type #[v, .slice none 0 cap]).run P w = .ok v w := by
        rcases hown.2 with ⟨rfl, hn⟩ | ⟨g, cap', cur, rfl, _, _, hnc, _⟩
        · simp [Builtin.append_, run_underlying ht, sizeOf, typeInfo, h1, Builtin.lenOf, Builtin.firstCells]
        · simp [Builtin.append_, run_underlying ht, sizeOf, typeInfo, h1, Builtin.lenOf, Builtin.firstCells, hnc, storeCells]
      have hx' : a.eval x = .slice none 0 cap := by simpa using hx
      unfold Oper.wp
      simp [execOp, ho, resolve, invoke, builtin, hs, hx', hrun, Result.andThen]
      exact hK _ _ (h v w (by simpa using hown) (World.grownBy.refl _ _) (fun hn => hn))
    · cases hc
theorem wpList_appK (K : Kind P e enc z sz bytes) (hgd : o.guard = none) (s x : Operand) (ho : o.op = .call { callee := .builtin .append, args := #[s, x], argTypes := #[t, t] }) (ht : P.underlying t = some (.slice e))
    {B : Nat} {v vx : Value} {l m : List α} (hs : a.eval s = v) (hx : a.eval x = vx) (hown : OwnK e enc sz B w v l) (hsrc : HoldsK enc sz w vx m) (hlen : (l.length + m.length) * bytes ≤ 140737488355328) (hmx : l.length + m.length ≤ maxLen) (hB : B ≤ w.heap.size)
    (h : ∀ v' w', OwnK e enc sz B w' v' (l ++ m) → w.grownBy w' v.ownBlock → wpList P ops Q rest (a.put o.dst v') w') : wpList P ops Q (o :: rest) a w :=
  wpList_appK_nn K hgd s x ho ht hs hx hown hsrc hlen hmx hB fun v' w' h1 h2 _ => h v' w' h1 h2
end

/-- A new block of one element; a new empty block. -/
theorem holdsK_one {α : Type} {enc : α → List Value} {sz : Nat} (hs : Sz enc sz) (e : TypeId) (w : World) (x : α) : HoldsK enc sz (w.alloc (.cells (enc x).toArray e)) (.slice (some ⟨w.heap.size, 0, none⟩) 1 1) [x] := by
  refine ⟨_, 1, rfl, by simp, Or.inr ⟨_, _, rfl, fun j hj => ?_⟩⟩
  have hj' : j < (enc x).length := by rw [hs x]; simpa using hj
  refine ⟨(enc x)[j], by rw [flat_one]; exact List.getElem?_eq_getElem hj', ?_⟩
  rw [Nat.zero_add, World.cell?_alloc_mark]
  simp [hj']
theorem ownK_empty {α : Type} (enc : α → List Value) (sz : Nat) (e : TypeId) (w : World) : OwnK e enc sz w.heap.size (w.alloc (.cells #[] e)) (.slice (some ⟨w.heap.size, 0, none⟩) 0 0) [] := World.ownsRow_lit w #[] 0 (Nat.le_refl _) (by unfold maxLen; omega) (by simp)

/-! ### make, stores -/
theorem madeK {α : Type} [Inhabited α] {enc : α → List Value} {sz : Nat} (hs : Sz enc sz) (hp : 0 < sz) {z : Value} (hz : z.cells.toList = enc default) (n : Nat) : (madeCells z.cells (n * sz)).toList = flat enc (List.replicate n default) := by
  have hzs : z.cells.size = sz := by rw [← Array.length_toList, hz, hs]
  apply List.ext_getElem?
  intro j
  by_cases hj : j < n * sz
  · have e1 : j = j / sz * sz + j % sz := by rw [Nat.mul_comm]; exact (Nat.div_add_mod j sz).symm
    have h1 : j / sz < n := (Nat.div_lt_iff_lt_mul hp).2 hj
    have h2 : j % sz < sz := Nat.mod_lt _ hp
    have hL : (madeCells z.cells (n * sz)).toList[j]? = some (z.cells[j % z.cells.size]!) := by simp [madeCells, hj]
    rw [hL]
    conv => rhs; rw [e1]
    rw [flat_at hs _ _ _ (by simpa using h1) h2]
    have : nth (List.replicate n (default : α)) (j / sz) = default := by simp [nth, List.getD, h1]
    rw [this, ← hz, hzs, getElem!_pos z.cells (j % sz) (by omega)]
    simp [Array.getElem?_toList, getElem?_pos z.cells (j % sz) (by omega)]
  · rw [List.getElem?_eq_none (by simp [madeCells]; omega), List.getElem?_eq_none (by rw [flat_length hs]; simp; omega)]

section
variable {α : Type} [Inhabited α] {enc : α → List Value} {sz : Nat}
theorem ownK_store (hs : Sz enc sz) {e : TypeId} {B : Nat} {w : World} {g n cap : Nat} {l : List α} (h : OwnK e enc sz B w (.slice (some ⟨g, 0, none⟩) n cap) l) (hn : n = l.length) {j i : Nat} (hj : j < l.length) (hi : i < sz) {y : α} {u : Value} (hy : enc y = (enc (nth l j)).set i u) :
    OwnK e enc sz B (w.setCell ⟨g, j * sz + i, none⟩ u) (.slice (some ⟨g, 0, none⟩) n cap) (l.set j y) ∧ w.grownBy (w.setCell ⟨g, j * sz + i, none⟩ u) (some g) := by
  subst hn
  have := World.ownsRow.stored h (j * sz + i) u
  refine ⟨?_, this.2⟩
  unfold OwnK
  rw [List.length_set, ← flat_set hs hi l j hj hy]
  exact this.1
theorem ownK_cell (hs : Sz enc sz) {e : TypeId} {B : Nat} {w : World} {g n cap : Nat} {l : List α} (h : OwnK e enc sz B w (.slice (some ⟨g, 0, none⟩) n cap) l) (hn : n = l.length) {j i : Nat} (hj : j < l.length) (hi : i < sz) :
    w.cell? ⟨g, j * sz + i, none⟩ = (enc (nth l j))[i]? ∧ w.frozen? ⟨g, j * sz + i, none⟩ = false := by
  subst hn
  have hlt : j * sz + i < l.length * sz := by
    have : (j + 1) * sz ≤ l.length * sz := Nat.mul_le_mul_right _ hj
    rw [Nat.add_mul] at this; omega
  exact ⟨by rw [World.ownsRow.cellAt h _ hlt, flat_at hs l j i hj hi], World.ownsRow.frozenAt h _⟩
end
theorem nth_set {α : Type} [Inhabited α] {l : List α} {k : Nat} (h : k < l.length) (x : α) : nth (l.set k x) k = x := by simp [nth, List.getD, h]
/-- The list behind the first k stores of a copy. -/
def filledK {α : Type} [Inhabited α] (l : List α) (k : Nat) : List α := l.take k ++ List.replicate (l.length - k) default
section
variable {α : Type} [Inhabited α]
theorem filledK_length (l : List α) {k : Nat} (h : k ≤ l.length) : (filledK l k).length = l.length := by simp [filledK]; omega
theorem filledK_zero (l : List α) : filledK l 0 = List.replicate l.length default := by simp [filledK]
theorem filledK_all (l : List α) : filledK l l.length = l := by simp [filledK]
theorem filledK_step (l : List α) {k : Nat} (h : k < l.length) : (filledK l k).set k (nth l k) = filledK l (k + 1) := by
  have hl : (l.take k).length = k := by simp; omega
  unfold filledK
  rw [List.set_append_right _ _ (by omega), hl, Nat.sub_self, show l.length - k = (l.length - (k + 1)) + 1 by omega, List.replicate_succ, List.set_cons_zero, nth_eq h]
  have := List.take_succ_eq_append_getElem h
  rw [this, List.append_assoc]; rfl
end
/-- append to a slice of structs of the call's own, as a step of a statement that draws its order. -/
theorem step_appK {P : Program} {ops : Array Oper} {o : Oper} {a : Act} {w : World} {K : Act → World → Prop} {Q : Exit → Act → World → Prop} {E : Prop} {α : Type} {enc : α → List Value} {sz : Nat} {e t : TypeId} {bytes : Nat} {z : Value}
    (KD : Kind P e enc z sz bytes) (hg : o.guard = none) (s x : Operand) (hop : o.op = Op.call { callee := Callee.builtin Builtin.append, args := #[s, x], argTypes := #[t, t] }) (ht : P.underlying t = some (.slice e))
    {B : Nat} {v : Value} {ad : Addr} {n c : Nat} {l m : List α} (hs : a.eval s = v) (hx : a.eval x = .slice (some ad) n c) (hown : OwnK e enc sz B w v l) (hsrc : HoldsK enc sz w (.slice (some ad) n c) m) (hlen : (l.length + m.length) * bytes ≤ 140737488355328) (hmx : l.length + m.length ≤ maxLen) (hB : B ≤ w.heap.size)
    (hK : ∀ v' w', OwnK e enc sz B w' v' (l ++ m) → w.grownBy w' v.ownBlock → K (a.put o.dst v') w') :
    if Region.wanted o (yielded ops a.tmps) = true then Oper.wp P o a w K Q else E := by
  have hw : Region.wanted o (yielded ops a.tmps) = true := by simp [Region.wanted, hg]
  rw [if_pos hw]
  obtain ⟨i, h1, h2, h3, h4⟩ := info_parts KD.elem
  obtain rfl := hsrc.lenEq
  obtain ⟨v', w', hrun, r1, r2, _⟩ := run_append_own (P := P) w B t o.type e i z sz bytes ht h1 h2 h3 h4 KD.zs KD.pos v l.length (flat enc l) hown ad m.length c (flat enc m) (flat_length KD.size m) (hsrc.cells KD.size) (flat_one' KD.one m) hmx hlen hB
  unfold Oper.wp
  simp [execOp, hop, resolve, invoke, builtin, hs, hx, hrun, Result.andThen]
  refine hK v' w' ?_ r2
  unfold OwnK
  rw [List.length_append, flat_append]; exact r1
end Go.Proofs.Ytbooamnlocobfaa.Row
/- What laws over several values use: blocks that differ, loads' facts kept by calls. For any program. -/
namespace Go.Proofs.Ytbooamnlocobfaa.Row
open Go.ChangeShapes Go.WideShapes Go.ChangeAt Go.RowKit Go.Instr
set_option linter.unusedVariables false
set_option maxRecDepth 100000

theorem OwnK.notBox {α : Type} {enc : α → List Value} {sz : Nat} {e : TypeId} {B : Nat} {w : World} {v : Value} {l : List α} (h : OwnK e enc sz B w v l) {g : Nat} {u : Value} {t : TypeId} (hb : Ret.Box w g u t) (hne : e ≠ t) : some g ≠ v.ownBlock := by
  rcases h.2 with ⟨rfl, _⟩ | ⟨g', cap, cur, rfl, _, hg, _⟩
  · simp [Value.ownBlock]
  · intro e1
    have : g = g' := by simpa [Value.ownBlock] using e1
    rw [← this, hb] at hg
    cases hg
    exact hne rfl
/-- A slice in new memory lies in no block that was there. -/
theorem apart_lt {v u : Value} {B : Nat} (h : ∀ g, v.ownBlock = some g → B ≤ g) (h' : ∀ g, u.ownBlock = some g → g < B) : Apart v u := fun g h1 h2 => by
  have a := h g h1
  have b := h' g h2
  omega
theorem OwnK.over {α : Type} {enc : α → List Value} {sz : Nat} {e : TypeId} {B : Nat} {w : World} {v : Value} {l : List α} (h : OwnK e enc sz B w v l) {B' : Nat} (hB : B' ≤ B) : Over B' v := fun g hg => Nat.le_trans hB (h.lt g hg).1
theorem keep4 {w w' : World} {a1 a2 a3 a4 : Addr} {v1 v2 v3 v4 : Value} (h1 : w.cell? a1 = some v1) (h2 : w.cell? a2 = some v2) (h3 : w.cell? a3 = some v3) (h4 : w.cell? a4 = some v4) {W : World} (hbW : Below W.heap.size W w) (hb : Below w.heap.size w w') :
    w'.cell? a1 = some v1 ∧ w'.cell? a2 = some v2 ∧ w'.cell? a3 = some v3 ∧ w'.cell? a4 = some v4 ∧ Below W.heap.size W w' :=
  ⟨by rw [hb.cell (cell_lt h1)]; exact h1, by rw [hb.cell (cell_lt h2)]; exact h2, by rw [hb.cell (cell_lt h3)]; exact h3, by rw [hb.cell (cell_lt h4)]; exact h4, hbW.trans (hb.mono hbW.size)⟩
/-- What a region's loads read is kept by a call that leaves old memory. -/
theorem keepN1 {W w1 w2 : World} {a1 : Addr} {u1 : Value} (h : w1.cell? a1 = some u1 ∧ Below W.heap.size W w1) (hb : Below w1.heap.size w1 w2) : w2.cell? a1 = some u1 ∧ Below W.heap.size W w2 :=
  ⟨by rw [hb.cell (cell_lt h.1)]; exact h.1, h.2.trans (hb.mono h.2.size)⟩
theorem keepN2 {W w1 w2 : World} {a1 a2 : Addr} {u1 u2 : Value} (h : w1.cell? a1 = some u1 ∧ w1.cell? a2 = some u2 ∧ Below W.heap.size W w1) (hb : Below w1.heap.size w1 w2) : w2.cell? a1 = some u1 ∧ w2.cell? a2 = some u2 ∧ Below W.heap.size W w2 :=
  ⟨by rw [hb.cell (cell_lt h.1)]; exact h.1, by rw [hb.cell (cell_lt h.2.1)]; exact h.2.1, h.2.2.trans (hb.mono h.2.2.size)⟩
theorem keepN3 {W w1 w2 : World} {a1 a2 a3 : Addr} {u1 u2 u3 : Value} (h : w1.cell? a1 = some u1 ∧ w1.cell? a2 = some u2 ∧ w1.cell? a3 = some u3 ∧ Below W.heap.size W w1) (hb : Below w1.heap.size w1 w2) : w2.cell? a1 = some u1 ∧ w2.cell? a2 = some u2 ∧ w2.cell? a3 = some u3 ∧ Below W.heap.size W w2 :=
  ⟨by rw [hb.cell (cell_lt h.1)]; exact h.1, by rw [hb.cell (cell_lt h.2.1)]; exact h.2.1, by rw [hb.cell (cell_lt h.2.2.1)]; exact h.2.2.1, h.2.2.2.trans (hb.mono h.2.2.2.size)⟩
end Go.Proofs.Ytbooamnlocobfaa.Row
/- Tables (slices of a name and a number each) in memory: a slice that holds a list of entries, each of which holds its name; one whose blocks are all the call's own and all differ. No conditions. -/
namespace Go.Proofs.Ytbooamnlocobfaa.Row
open Go.ChangeShapes Go.WideShapes Go.ChangeAt Go.RowKit Go.Instr
set_option linter.unusedVariables false
set_option maxRecDepth 100000

/-- An entry as it lies in memory: where its name's parts lie, what they are, and its number. -/
structure Ent where
  ad : Option Addr
  n : Nat
  cap : Nat
  ps : List ByteArray
  val : Int
instance : Inhabited Ent := ⟨⟨none, 0, 0, [], 0⟩⟩
def Ent.v (x : Ent) : Value := .slice x.ad x.n x.cap
/-- An entry as it is read. -/
def Ent.t (x : Ent) : List ByteArray × Int := (x.ps, x.val)
def Ent.whole (x : Ent) : Value := .agg #[x.v, .int .i64 x.val]
def strip (L : List Ent) : List (List ByteArray × Int) := L.map Ent.t
theorem strip_length (L : List Ent) : (strip L).length = L.length := by simp [strip]
theorem strip_nth {L : List Ent} {k : Nat} (h : k < L.length) : nth (strip L) k = (nth L k).t := by simp [strip, nth, List.getD, h]
theorem strip_append (L M : List Ent) : strip (L ++ M) = strip L ++ strip M := by simp [strip]
theorem strip_take (L : List Ent) (k : Nat) : strip (L.take k) = (strip L).take k := by simp [strip, List.map_take]
theorem strip_drop (L : List Ent) (k : Nat) : strip (L.drop k) = (strip L).drop k := by simp [strip, List.map_drop]
theorem strip_set (L : List Ent) (k : Nat) (x : Ent) : strip (L.set k x) = (strip L).set k x.t := by simp [strip, List.map_set]
theorem strip_mem {L : List Ent} {x : Ent} (h : x ∈ L) : x.t ∈ strip L := List.mem_map_of_mem h
theorem nth_mem {α : Type} [Inhabited α] {L : List α} {k : Nat} (h : k < L.length) : nth L k ∈ L := by rw [nth_eq h]; exact List.getElem_mem _
def encE (x : Ent) : List Value := [x.v, .int .i64 x.val]
theorem szE : Sz encE 2 := fun _ => rfl
/-- v is a slice of the entries L, whose names are there. -/
def TabH (w : World) (v : Value) (L : List Ent) : Prop := HoldsK encE 2 w v L ∧ ∀ x ∈ L, Holds Value.string w x.v x.ps
section
variable {B : Nat} {w w' : World} {v : Value} {L : List Ent}
theorem TabH.on (h : TabH w v L) (hb : Below w.heap.size w w') : TabH w' v L := ⟨h.1.on hb, fun x hx => (h.2 x hx).on hb⟩
theorem TabH.nil (w : World) : TabH w (.slice none 0 0) [] := ⟨HoldsK.nil _ _ _, by simp⟩
theorem TabH.shapeN (h : TabH w v L) : ∃ x n cap, v = .slice x n cap ∧ n = L.length ∧ n ≤ cap ∧ TabH w (.slice x n cap) L := by
  obtain ⟨x, n, cap, rfl, hn, hc, ho⟩ := h.1.shapeN
  exact ⟨x, n, cap, rfl, hn, hc, ho, h.2⟩
/-- Entry k's two cells, and its name. -/
theorem TabH.at {x : Option Addr} {n cap : Nat} (h : TabH w (.slice x n cap) L) {k : Nat} (hk : k < L.length) :
    ∃ b off, x = some ⟨b, off, none⟩ ∧ w.cell? ⟨b, off + k * 2, none⟩ = some (.slice (nth L k).ad (nth L k).n (nth L k).cap) ∧ w.cell? ⟨b, off + k * 2 + 1, none⟩ = some (.int .i64 (nth L k).val) ∧ Holds Value.string w (.slice (nth L k).ad (nth L k).n (nth L k).cap) (nth L k).ps := by
  obtain ⟨b, off, hx, hc⟩ := h.1.at szE hk
  exact ⟨b, off, hx, by have := hc 0 (by decide); simpa [encE, Ent.v] using this, by have := hc 1 (by decide); simpa [encE, Nat.add_assoc] using this, h.2 _ (nth_mem hk)⟩
end

/-! ### as they are read -/
def TabHolds (w : World) (v : Value) (T : List (List ByteArray × Int)) : Prop := ∃ L, strip L = T ∧ TabH w v L
/-- Only blocks from B on and below E are written, and new ones. -/
structure Wrote (B E : Nat) (w w' : World) : Prop where
  os : w'.os = w.os
  tape : w'.tape = w.tape
  output : w'.output = w.output
  size : w.heap.size ≤ w'.heap.size
  block : ∀ i, i < w.heap.size → ¬ (B ≤ i ∧ i < E) → w'.heap[i]? = w.heap[i]?
theorem Wrote.of {B E : Nat} {w w' : World} {row : Option Nat} (h : w.grownBy w' row) (hr : ∀ g, row = some g → B ≤ g ∧ g < E) : Wrote B E w w' := ⟨h.os, h.tape, h.output, h.size, fun i hi hn => h.block i hi (fun e => hn (hr i e.symm))⟩
theorem Wrote.refl (B E : Nat) (w : World) : Wrote B E w w := ⟨rfl, rfl, rfl, Nat.le_refl _, fun _ _ _ => rfl⟩
theorem Wrote.trans {B E : Nat} {w w1 w2 : World} (h : Wrote B E w w1) (g : Wrote B E w1 w2) : Wrote B E w w2 := ⟨g.os.trans h.os, g.tape.trans h.tape, g.output.trans h.output, Nat.le_trans h.size g.size, fun i hi hn => (g.block i (Nat.lt_of_lt_of_le hi h.size) hn).trans (h.block i hi hn)⟩
theorem Wrote.below {B E X : Nat} {w0 w w' : World} (hb : Below X w0 w) (h : Wrote B E w w') (hX : X ≤ w.heap.size) (hB : X ≤ B) : Below X w0 w' :=
  hb.trans ⟨h.os, h.tape, h.output, h.size, fun k hk => h.block k (by omega) (by omega)⟩
theorem Wrote.ofBelow {B E : Nat} {w w' : World} (h : Below w.heap.size w w') : Wrote B E w w' := ⟨h.os, h.tape, h.output, h.size, fun i hi _ => h.block i hi⟩
/-- What does not lie there is kept. -/
theorem Wrote.grown {B E : Nat} {w w' : World} (h : Wrote B E w w') {g : Nat} (hg : g < w.heap.size) (hn : g < B ∨ E ≤ g) : w'.heap[g]? = w.heap[g]? := h.block g hg (by omega)
theorem Wrote.box {B E : Nat} {w w' : World} (h : Wrote B E w w') {g : Nat} {u : Value} {t : TypeId} (hb : Ret.Box w g u t) (hn : g < B ∨ E ≤ g) : Ret.Box w' g u t := (h.grown hb.lt hn).trans hb
theorem Wrote.row {e : TypeId} {sz n B0 B E : Nat} {w w' : World} {v : Value} {xs : List Value} (h : Wrote B E w w') (ho : w.ownsRow B0 e sz v n xs) (hn : ∀ g, v.ownBlock = some g → g < B ∨ E ≤ g) : w'.ownsRow B0 e sz v n xs := by
  refine ⟨ho.1, ?_⟩
  rcases ho.2 with h2 | ⟨g, cap, cur, hv, hB, hc, r⟩
  · exact Or.inl h2
  · refine Or.inr ⟨g, cap, cur, hv, hB, ?_, r⟩
    rw [h.grown (Array.getElem?_eq_some_iff.1 hc).1 (hn g (by rw [hv]; rfl))]
    exact hc
/-- A name, a table whose blocks lie from B on and below E. -/
def NameIn (B E : Nat) (w : World) (v : Value) (l : List ByteArray) : Prop := Own 9 Value.string B w v l ∧ ∀ g, v.ownBlock = some g → g < E
section
variable {B E B' E' : Nat} {w w' : World} {v : Value} {l : List ByteArray} {T : List (List ByteArray × Int)}
theorem NameIn.of (h : Own 9 Value.string B w v l) : NameIn B w.heap.size w v l := ⟨h, fun g hg => (h.lt g hg).2⟩
theorem NameIn.on (h : NameIn B E w v l) (hb : Below w.heap.size w w') : NameIn B E w' v l := ⟨h.1.on hb, h.2⟩
theorem NameIn.wrote (h : NameIn B E w v l) (hw : Wrote B' E' w w') (hn : E ≤ B' ∨ E' ≤ B) : NameIn B E w' v l :=
  ⟨hw.row h.1 (fun g hg => by have := (h.1.lt g hg).1; have := h.2 g hg; omega), h.2⟩
theorem NameIn.holds (h : NameIn B E w v l) : Holds Value.string w v l := h.1.holds
theorem TabHolds.on (h : TabHolds w v T) (hb : Below w.heap.size w w') : TabHolds w' v T := by
  obtain ⟨L, e, h⟩ := h
  exact ⟨L, e, h.on hb⟩
theorem TabHolds.shapeN (h : TabHolds w v T) : ∃ x n cap, v = .slice x n cap ∧ n = T.length ∧ n ≤ cap ∧ TabHolds w (.slice x n cap) T := by
  obtain ⟨L, e, h⟩ := h
  obtain ⟨x, n, cap, rfl, hn, hc, ho⟩ := h.shapeN
  exact ⟨x, n, cap, rfl, by rw [hn, ← e, strip_length], hc, L, e, ho⟩
end
end Go.Proofs.Ytbooamnlocobfaa.Row
/- Kinds of values with memory beneath them, for any program: scalars, structs, slices of whatever: what lies in memory, what it reads as, what is the call's own; what keeps it. No conditions. -/
namespace Go.Proofs.Ytbooamnlocobfaa.Row
open Go.ChangeShapes Go.WideShapes Go.ChangeAt Go.RowKit Go.Instr
set_option linter.unusedVariables false
set_option maxRecDepth 100000

/-- A slice as it lies: where, and its elements as they lie. -/
structure Rw (M : Type) where
  ad : Option Addr
  n : Nat
  cap : Nat
  els : List M
instance {M : Type} : Inhabited (Rw M) := ⟨⟨none, 0, 0, []⟩⟩
def Rw.v {M : Type} (r : Rw M) : Value := .slice r.ad r.n r.cap

/-- A kind: α: as it is read; M: as it lies in memory. -/
structure Kd (α M : Type) where
  strip : M → α
  cells : M → List Value
  size : Nat
  val : M → Value
  len : ∀ m, (cells m).length = size
  one : ∀ m, ∀ u ∈ cells m, u.oneCell' = true
  holds : World → M → Prop
  own : Nat → World → M → Prop
  blocks : M → List Nat
  holds_on : ∀ {w w' m}, holds w m → Below w.heap.size w w' → holds w' m
  own_holds : ∀ {B w m}, own B w m → holds w m
  own_keep : ∀ {B w w' m}, own B w m → (∀ g ∈ blocks m, w'.heap[g]? = w.heap[g]?) → own B w' m
  own_lt : ∀ {B w m}, own B w m → ∀ g ∈ blocks m, B ≤ g ∧ g < w.heap.size
  own_mono : ∀ {B B' w m}, own B w m → B' ≤ B → own B' w m

/-- A scalar: one cell, nothing beneath. -/
def Kd.scalar {α : Type} (enc : α → Value) (h1 : ∀ x, (enc x).oneCell' = true) : Kd α α where
  strip := id
  cells := fun x => [enc x]
  size := 1
  val := enc
  len := fun _ => rfl
  one := fun x u hu => by rw [List.mem_singleton.1 hu]; exact h1 x
  holds := fun _ _ => True
  own := fun _ _ _ => True
  blocks := fun _ => []
  holds_on := fun _ _ => trivial
  own_holds := fun _ => trivial
  own_keep := fun _ _ => trivial
  own_lt := fun _ g hg => by cases hg
  own_mono := fun _ _ => trivial
def kInt : Kd Int Int := Kd.scalar (Value.int .i64) (fun _ => rfl)
def kByte : Kd Int Int := Kd.scalar (Value.int .u8) (fun _ => rfl)
def kBool : Kd Bool Bool := Kd.scalar Value.bool (fun _ => rfl)
def kStr : Kd ByteArray ByteArray := Kd.scalar Value.string (fun _ => rfl)

/-- Two fields, one behind the other. -/
def Kd.pair {α M β N : Type} (k : Kd α M) (l : Kd β N) : Kd (α × β) (M × N) where
  strip := fun m => (k.strip m.1, l.strip m.2)
  cells := fun m => k.cells m.1 ++ l.cells m.2
  size := k.size + l.size
  val := fun m => .agg (k.cells m.1 ++ l.cells m.2).toArray
  len := fun m => by rw [List.length_append, k.len, l.len]
  one := fun m u hu => (List.mem_append.1 hu).elim (k.one _ u) (l.one _ u)
  holds := fun w m => k.holds w m.1 ∧ l.holds w m.2
  own := fun B w m => k.own B w m.1 ∧ l.own B w m.2
  blocks := fun m => k.blocks m.1 ++ l.blocks m.2
  holds_on := fun h hb => ⟨k.holds_on h.1 hb, l.holds_on h.2 hb⟩
  own_holds := fun h => ⟨k.own_holds h.1, l.own_holds h.2⟩
  own_keep := fun h hg => ⟨k.own_keep h.1 (fun g e => hg g (List.mem_append_left _ e)), l.own_keep h.2 (fun g e => hg g (List.mem_append_right _ e))⟩
  own_lt := fun h g e => (List.mem_append.1 e).elim (k.own_lt h.1 g) (l.own_lt h.2 g)
  own_mono := fun h hB => ⟨k.own_mono h.1 hB, l.own_mono h.2 hB⟩
/-- A struct of one field. -/
def Kd.wrap {α M : Type} (k : Kd α M) : Kd α M := { k with val := fun m => .agg (k.cells m).toArray }

theorem ownK_keep {α : Type} {enc : α → List Value} {sz B : Nat} {e : TypeId} {w w' : World} {v : Value} {l : List α} (h : OwnK e enc sz B w v l) (hg : ∀ g, v.ownBlock = some g → w'.heap[g]? = w.heap[g]?) : OwnK e enc sz B w' v l := by
  refine ⟨h.1, ?_⟩
  rcases h.2 with h2 | ⟨g, cap, cur, hv, hB, hc, r⟩
  · exact Or.inl h2
  · refine Or.inr ⟨g, cap, cur, hv, hB, ?_, r⟩
    rw [hg g (by rw [hv]; rfl)]
    exact hc
/-- A slice of elements of a kind; e: the elements' type. -/
def Kd.slice {α M : Type} (e : TypeId) (k : Kd α M) : Kd (List α) (Rw M) where
  strip := fun r => r.els.map k.strip
  cells := fun r => [r.v]
  size := 1
  val := Rw.v
  len := fun _ => rfl
  one := fun r u hu => by rw [List.mem_singleton.1 hu]; rfl
  holds := fun w r => HoldsK k.cells k.size w r.v r.els ∧ ∀ x ∈ r.els, k.holds w x
  own := fun B w r => OwnK e k.cells k.size B w r.v r.els ∧ ∀ x ∈ r.els, k.own B w x
  blocks := fun r => r.v.ownBlock.toList ++ r.els.flatMap k.blocks
  holds_on := fun h hb => ⟨h.1.on hb, fun x hx => k.holds_on (h.2 x hx) hb⟩
  own_holds := fun h => ⟨h.1.holds, fun x hx => k.own_holds (h.2 x hx)⟩
  own_keep := fun h hg => ⟨ownK_keep h.1 (fun g e => hg g (List.mem_append_left _ (by simp [e]))), fun x hx => k.own_keep (h.2 x hx) (fun g e => hg g (List.mem_append_right _ (List.mem_flatMap.2 ⟨x, hx, e⟩)))⟩
  own_lt := fun h g e => by
    rcases List.mem_append.1 e with e | e
    · exact h.1.lt g (by simpa using e)
    · obtain ⟨x, hx, e⟩ := List.mem_flatMap.1 e
      exact k.own_lt (h.2 x hx) g e
  own_mono := fun h hB => ⟨h.1.mono hB, fun x hx => k.own_mono (h.2 x hx) hB⟩

section
variable {α M : Type} {k : Kd α M} {B B' E E' : Nat} {w w' : World} {v : Value} {m : M} {a : α}
/-- The value v reads as a in the world w. -/
def Kd.At (k : Kd α M) (w : World) (v : Value) (a : α) : Prop := ∃ m, v = k.val m ∧ k.strip m = a ∧ k.holds w m
/-- .. and all that is beneath is the call's own, in blocks from B on and below E, no two the same. -/
def Kd.In (k : Kd α M) (B E : Nat) (w : World) (v : Value) (a : α) : Prop := ∃ m, v = k.val m ∧ k.strip m = a ∧ k.own B w m ∧ (k.blocks m).Nodup ∧ ∀ g ∈ k.blocks m, g < E
theorem Kd.At.on (h : k.At w v a) (hb : Below w.heap.size w w') : k.At w' v a := by
  obtain ⟨m, e1, e2, h⟩ := h
  exact ⟨m, e1, e2, k.holds_on h hb⟩
theorem Kd.In.at (h : k.In B E w v a) : k.At w v a := by
  obtain ⟨m, e1, e2, h, -, -⟩ := h
  exact ⟨m, e1, e2, k.own_holds h⟩
theorem Kd.In.keep (h : k.In B E w v a) (hg : ∀ g, B ≤ g → g < E → w'.heap[g]? = w.heap[g]?) : k.In B E w' v a := by
  obtain ⟨m, e1, e2, h, h1, h2⟩ := h
  exact ⟨m, e1, e2, k.own_keep h (fun g e => hg g (k.own_lt h g e).1 (h2 g e)), h1, h2⟩
theorem Kd.In.on (h : k.In B E w v a) (hb : Below w.heap.size w w') : k.In B E w' v a := by
  obtain ⟨m, e1, e2, h, h1, h2⟩ := h
  exact ⟨m, e1, e2, k.own_keep h (fun g e => hb.block g (k.own_lt h g e).2), h1, h2⟩
theorem Kd.In.wrote (h : k.In B E w v a) (hw : Wrote B' E' w w') (hn : E ≤ B' ∨ E' ≤ B) : k.In B E w' v a := by
  obtain ⟨m, e1, e2, h, h1, h2⟩ := h
  exact ⟨m, e1, e2, k.own_keep h (fun g e => hw.block g (k.own_lt h g e).2 (by have := (k.own_lt h g e).1; have := h2 g e; omega)), h1, h2⟩
theorem Kd.In.grown (h : k.In B E w v a) {row : Option Nat} (hg : w.grownBy w' row) (hr : ∀ g, row = some g → g < B ∨ E ≤ g) : k.In B E w' v a := by
  obtain ⟨m, e1, e2, h, h1, h2⟩ := h
  refine ⟨m, e1, e2, k.own_keep h (fun g e => hg.block g (k.own_lt h g e).2 (fun er => ?_)), h1, h2⟩
  have := hr g er.symm
  have := (k.own_lt h g e).1
  have := h2 g e
  omega
theorem Kd.In.mono (h : k.In B E w v a) (hB : B' ≤ B) (hE : E ≤ E') : k.In B' E' w v a := by
  obtain ⟨m, e1, e2, h, h1, h2⟩ := h
  exact ⟨m, e1, e2, k.own_mono h hB, h1, fun g e => Nat.lt_of_lt_of_le (h2 g e) hE⟩
/-- What is the call's own up to now. -/
theorem Kd.In.now (h : k.own B w m) (hn : (k.blocks m).Nodup) : k.In B w.heap.size w (k.val m) (k.strip m) := ⟨m, rfl, rfl, h, hn, fun g e => (k.own_lt h g e).2⟩
end

/-! ### The kinds that are in use, in the elder words -/
theorem flat_single {α : Type} (enc : α → Value) (l : List α) : flat (fun x => [enc x]) l = l.map enc := by
  induction l with
  | nil => rfl
  | cons a r ih => simp only [flat, List.flatMap_cons] at *; simp [ih]
theorem holdsK_single {α : Type} [Inhabited α] {enc : α → Value} {w : World} {v : Value} {l : List α} : HoldsK (fun x => [enc x]) 1 w v l ↔ Holds enc w v l := by
  constructor
  · rintro ⟨x, cap, hv, hc, h⟩
    refine ⟨x, cap, hv, hc, h.imp id ?_⟩
    rintro ⟨b, off, hx, h⟩
    refine ⟨b, off, hx, fun j hj => ?_⟩
    obtain ⟨u, h1, h2⟩ := h j (by omega)
    rw [flat_single, getD_map hj] at h1
    rw [h2, ← h1]
  · rintro ⟨x, cap, hv, hc, h⟩
    refine ⟨x, cap, hv, hc, h.imp id ?_⟩
    rintro ⟨b, off, hx, h⟩
    refine ⟨b, off, hx, fun j hj => ?_⟩
    have hj : j < l.length := by omega
    exact ⟨_, by rw [flat_single]; exact getD_map hj, h j hj⟩
theorem ownK_single {α : Type} [Inhabited α] {enc : α → Value} {e : TypeId} {B : Nat} {w : World} {v : Value} {l : List α} : OwnK e (fun x => [enc x]) 1 B w v l ↔ Own e enc B w v l := by
  unfold OwnK Own
  rw [flat_single]
def kNm (e : TypeId) : Kd (List ByteArray) (Rw ByteArray) := kStr.slice e
section
variable {e : TypeId} {w : World} {v : Value} {l : List ByteArray} {B : Nat}
theorem kNm_at (h : (kNm e).At w v l) : Holds Value.string w v l := by
  obtain ⟨m, rfl, rfl, h, -⟩ := h
  have : (kNm e).strip m = m.els := by simp [kNm, Kd.slice, kStr, Kd.scalar]
  rw [this]
  exact holdsK_single.1 h
theorem kNm_of (h : Holds Value.string w v l) : (kNm e).At w v l := by
  obtain ⟨x, n, cap, rfl, -, -, hh⟩ := h.shapeN
  exact ⟨⟨x, n, cap, l⟩, rfl, by simp [kNm, Kd.slice, kStr, Kd.scalar], holdsK_single.2 hh, fun _ _ => trivial⟩
theorem kNm_blocks (r : Rw ByteArray) : (kNm e).blocks r = r.v.ownBlock.toList := by simp [kNm, Kd.slice, kStr, Kd.scalar]
theorem kNm_own (h : Own e Value.string B w v l) : (kNm e).In B w.heap.size w v l := by
  obtain ⟨x, n, cap, rfl, -, -, hh⟩ := h.shapeN
  refine ⟨⟨x, n, cap, l⟩, rfl, by simp [kNm, Kd.slice, kStr, Kd.scalar], ⟨ownK_single.2 hh, fun _ _ => trivial⟩, ?_, ?_⟩
  · rw [kNm_blocks]
    cases h2 : (Rw.v ⟨x, n, cap, l⟩).ownBlock <;> simp
  · rw [kNm_blocks]
    intro g hg
    exact (hh.lt g (by simpa [Rw.v] using hg)).2
theorem kNm_in {E : Nat} (h : (kNm e).In B E w v l) : Own e Value.string B w v l ∧ ∀ g, v.ownBlock = some g → g < E := by
  obtain ⟨m, rfl, rfl, h, -, h2⟩ := h
  have hs : (kNm e).strip m = m.els := by simp [kNm, Kd.slice, kStr, Kd.scalar]
  rw [hs]
  rw [kNm_blocks] at h2
  exact ⟨ownK_single.1 h.1, fun g hg => h2 g (by rw [show m.v.ownBlock = some g from hg]; simp)⟩
end
end Go.Proofs.Ytbooamnlocobfaa.Row
/- A variable of several cells (a struct): its block, whole; what keeps it; its cells written; it is given back. For any program. -/
namespace Go.Proofs.Ytbooamnlocobfaa.Ret
open Go.RowKit
set_option linter.unusedVariables false
/-- Block g is a variable of type t, and holds the cells cs. -/
def Blk (w : World) (g : Nat) (cs : Array Value) (t : TypeId) : Prop := w.heap[g]? = some (.cells cs t)
section
variable {w w' : World} {g : Nat} {cs : Array Value} {t : TypeId}
theorem Blk.lt (h : Blk w g cs t) : g < w.heap.size := (Array.getElem?_eq_some_iff.1 h).1
theorem Blk.cell (h : Blk w g cs t) (i : Nat) : w.cell? ⟨g, i, none⟩ = cs[i]? := cell_of_row w g i cs t _ h
theorem Blk.frozen (h : Blk w g cs t) (i : Nat) : w.frozen? ⟨g, i, none⟩ = false := by simp [World.frozen?, show w.heap[g]? = some (.cells cs t) from h]
theorem Blk.on (h : Blk w g cs t) (hb : Below w.heap.size w w') : Blk w' g cs t := (hb.block g h.lt).trans h
theorem Blk.grown (h : Blk w g cs t) {row : Option Nat} (hg : w.grownBy w' row) (hne : some g ≠ row) : Blk w' g cs t := (hg.block g h.lt hne).trans h
theorem Blk.new (w : World) (cs : Array Value) (t : TypeId) : Blk (w.alloc (.cells cs t)) w.heap.size cs t := heap_alloc_new w _
theorem Blk.new' {w : World} (cs : Array Value) (t : TypeId) {n : Nat} (h : n = w.heap.size) : Blk (w.alloc (.cells cs t)) n cs t := by subst h; exact Blk.new w cs t
theorem Blk.other (h : Blk w g cs t) {a : Addr} (hne : a.block ≠ g) (v : Value) : Blk (w.setCell a v) g cs t := h.grown (grownBy_set w a v) (fun e => hne (by cases e; rfl))
theorem Blk.set (h : Blk w g cs t) (i : Nat) (v : Value) : Blk (w.setCell ⟨g, i, none⟩ v) g (cs.setIfInBounds i v) t := by
  have h' : w.heap[g]? = some (.cells cs t) := h
  unfold Blk
  simp only [World.setCell, Array.getElem?_modify, h']
  simp
theorem Blk.cells (h : Blk w g cs t) : ∀ j v, cs.toList[j]? = some v → w.cell? ⟨g, j, none⟩ = some v := fun j v e => by rw [h.cell]; simpa using e
end
end Go.Proofs.Ytbooamnlocobfaa.Ret
