/- Slices of elements of several cells (structs) in memory, for any program: a slice value that holds a list; a slice in blocks of the call's own that holds a list; what keeps both; appending, storing. No conditions but that lengths fit. -/
import Derived.Test.YtkojeajjappchaaRow
namespace Go.Proofs.Ytkojeajjappchaa.Row
open Go.ChangeShapes Go.WideShapes Go.ChangeAt Go.RowKit
set_option linter.unusedVariables false
set_option maxRecDepth 100000

/-- Every element is written in so many cells. -/
def Sz {α : Type} (enc : α → List Value) (sz : Nat) : Prop := ∀ x, (enc x).length = sz
def flat {α : Type} (enc : α → List Value) (l : List α) : List Value := l.flatMap enc

section
variable {α : Type} {enc : α → List Value} {sz : Nat}
theorem flat_length (hs : Sz enc sz) (l : List α) : (flat enc l).length = l.length * sz := by
  unfold flat
  induction l with
  | nil => simp
  | cons a r ih => rw [List.flatMap_cons, List.length_append, ih, hs a, List.length_cons, Nat.add_mul]; omega
theorem flat_append (l m : List α) : flat enc (l ++ m) = flat enc l ++ flat enc m := by simp [flat]
theorem flat_nil : flat enc [] = [] := rfl
theorem flat_one (x : α) : flat enc [x] = enc x := by simp [flat]
theorem flat_at [Inhabited α] (hs : Sz enc sz) : ∀ (l : List α) (j i : Nat), j < l.length → i < sz → (flat enc l)[j * sz + i]? = (enc (nth l j))[i]?
  | a :: r, 0, i, _, hi => by
    unfold flat
    rw [List.flatMap_cons, List.getElem?_append_left (by rw [hs a]; omega)]
    simp [nth]
  | a :: r, j + 1, i, hj, hi => by
    have ih := flat_at hs r j i (by simpa using hj) hi
    unfold flat at *
    rw [List.flatMap_cons, List.getElem?_append_right (by rw [hs a, Nat.add_mul]; omega), hs a, show (j + 1) * sz + i - sz = j * sz + i by rw [Nat.add_mul]; omega, ih]
    simp [nth]
theorem flat_set [Inhabited α] (hs : Sz enc sz) {y : α} {u : Value} {i : Nat} (hi : i < sz) : ∀ (l : List α) (j : Nat), j < l.length → enc y = (enc (nth l j)).set i u → (flat enc l).set (j * sz + i) u = flat enc (l.set j y)
  | a :: r, 0, _, he => by
    have he : enc y = (enc a).set i u := by simpa [nth] using he
    unfold flat
    rw [List.flatMap_cons, List.set_cons_zero, List.flatMap_cons, List.set_append_left _ _ (by rw [hs a]; omega), he]
    simp
  | a :: r, j + 1, hj, he => by
    have ih := flat_set hs hi r j (by simpa using hj) (by simpa [nth] using he)
    unfold flat at *
    rw [List.flatMap_cons, List.set_cons_succ, List.flatMap_cons, List.set_append_right _ _ (by rw [hs a, Nat.add_mul]; omega), hs a, show (j + 1) * sz + i - sz = j * sz + i by rw [Nat.add_mul]; omega, ih]
theorem flat_one' (h1c : ∀ x, ∀ u ∈ enc x, u.oneCell' = true) (l : List α) : ∀ u ∈ flat enc l, u.oneCell' = true := by
  intro u hu
  unfold flat at hu
  obtain ⟨x, _, hx⟩ := List.mem_flatMap.1 hu
  exact h1c x u hx
end

/-- The slice value v holds the elements l, each written in sz cells by enc, in the world w. -/
def HoldsK {α : Type} (enc : α → List Value) (sz : Nat) (w : World) (v : Value) (l : List α) : Prop :=
  ∃ x cap, v = .slice x l.length cap ∧ l.length ≤ cap ∧ (l = [] ∨ ∃ b off, x = some ⟨b, off, none⟩ ∧ ∀ j, j < l.length * sz → ∃ u, (flat enc l)[j]? = some u ∧ w.cell? ⟨b, off + j, none⟩ = some u)
/-- The slice value v lies at the head of a row of its own, in a block from B on, and holds l. -/
def OwnK {α : Type} (e : TypeId) (enc : α → List Value) (sz : Nat) (B : Nat) (w : World) (v : Value) (l : List α) : Prop := w.ownsRow B e sz v l.length (flat enc l)

section
variable {α : Type} {enc : α → List Value} {sz : Nat} {e : TypeId} {B : Nat} {w w' : World} {v : Value} {l : List α}

theorem OwnK.form (h : OwnK e enc sz B w v l) : (v = .slice none 0 0 ∧ l = []) ∨ ∃ g cap, v = .slice (some ⟨g, 0, none⟩) l.length cap ∧ B ≤ g ∧ g < w.heap.size ∧ l.length ≤ cap ∧ cap ≤ maxLen := by
  rcases h.2 with ⟨hv, hn⟩ | ⟨g, cap, cur, hv, hg, hh, h1, h2, h3, h4⟩
  · exact Or.inl ⟨hv, List.eq_nil_of_length_eq_zero hn⟩
  · exact Or.inr ⟨g, cap, hv, hg, (Array.getElem?_eq_some_iff.1 hh).1, h1, h2⟩
theorem OwnK.holds (h : OwnK e enc sz B w v l) : HoldsK enc sz w v l := by
  rcases h.form with ⟨rfl, rfl⟩ | ⟨g, cap, rfl, h1, h2, h3, h4⟩
  · exact ⟨none, 0, rfl, by simp, Or.inl rfl⟩
  · refine ⟨_, cap, rfl, h3, ?_⟩
    by_cases hl : l = []
    · exact Or.inl hl
    · refine Or.inr ⟨g, 0, rfl, fun j hj => ?_⟩
      have h5 := World.ownsRow.cellAt h j hj
      have h6 : (flat enc l)[j]? = some ((flat enc l)[j]'(by rw [h.1]; exact hj)) := List.getElem?_eq_getElem _
      exact ⟨_, h6, by rw [Nat.zero_add, h5]; exact h6⟩
theorem OwnK.lt (h : OwnK e enc sz B w v l) : ∀ g, v.ownBlock = some g → B ≤ g ∧ g < w.heap.size := World.ownsRow.lt h
theorem OwnK.grown (h : OwnK e enc sz B w v l) {row : Option Nat} (hg : w.grownBy w' row) (hne : v.ownBlock = none ∨ v.ownBlock ≠ row) : OwnK e enc sz B w' v l := World.ownsRow.kept h hg hne
theorem OwnK.on (h : OwnK e enc sz B w v l) (hb : Below w.heap.size w w') : OwnK e enc sz B w' v l := by
  refine World.ownsRow.kept h (grown_of_below hb none) ?_
  cases hv : v.ownBlock <;> simp
theorem OwnK.mono (h : OwnK e enc sz B w v l) {B' : Nat} (hB : B' ≤ B) : OwnK e enc sz B' w v l := by
  refine ⟨h.1, ?_⟩
  rcases h.2 with h2 | ⟨g, cap, cur, hv, hg, r⟩
  · exact Or.inl h2
  · exact Or.inr ⟨g, cap, cur, hv, Nat.le_trans hB hg, r⟩
theorem OwnK.nil (e : TypeId) (enc : α → List Value) (sz B : Nat) (w : World) : OwnK e enc sz B w (.slice none 0 0) [] := World.ownsRow_nil w B e sz
theorem OwnK.len (h : OwnK e enc sz B w v l) : l.length ≤ maxLen := by
  rcases h.form with ⟨rfl, rfl⟩ | ⟨g, cap, rfl, h1, h2, h3, h4⟩
  · simp
  · omega
theorem HoldsK.on (h : HoldsK enc sz w v l) (hb : Below w.heap.size w w') : HoldsK enc sz w' v l := by
  obtain ⟨x, cap, hv, hc, h⟩ := h
  refine ⟨x, cap, hv, hc, ?_⟩
  rcases h with h | ⟨b, off, hx, h⟩
  · exact Or.inl h
  · refine Or.inr ⟨b, off, hx, fun j hj => ?_⟩
    obtain ⟨u, h1, h2⟩ := h j hj
    exact ⟨u, h1, by rw [hb.cell (cell_lt h2)]; exact h2⟩
theorem HoldsK.nil (enc : α → List Value) (sz : Nat) (w : World) : HoldsK enc sz w (.slice none 0 0) [] := ⟨none, 0, rfl, by simp, Or.inl rfl⟩
theorem HoldsK.shape (h : HoldsK enc sz w v l) : ∃ x cap, v = .slice x l.length cap ∧ l.length ≤ cap ∧ HoldsK enc sz w (.slice x l.length cap) l := by
  obtain ⟨x, cap, hv, hc, h⟩ := h
  exact ⟨x, cap, hv, hc, x, cap, rfl, hc, h⟩
theorem OwnK.shape (h : OwnK e enc sz B w v l) : ∃ x cap, v = .slice x l.length cap ∧ l.length ≤ cap ∧ OwnK e enc sz B w (.slice x l.length cap) l := by
  rcases h.form with ⟨rfl, rfl⟩ | ⟨g, cap, rfl, h1, h2, h3, h4⟩
  · exact ⟨none, 0, rfl, by simp, h⟩
  · exact ⟨_, cap, rfl, h3, h⟩
theorem OwnK.shapeN (h : OwnK e enc sz B w v l) : ∃ x n cap, v = .slice x n cap ∧ n = l.length ∧ n ≤ cap ∧ OwnK e enc sz B w (.slice x n cap) l := by
  obtain ⟨x, cap, rfl, hc, ho⟩ := h.shape
  exact ⟨x, _, cap, rfl, rfl, hc, ho⟩
theorem HoldsK.shapeN (h : HoldsK enc sz w v l) : ∃ x n cap, v = .slice x n cap ∧ n = l.length ∧ n ≤ cap ∧ HoldsK enc sz w (.slice x n cap) l := by
  obtain ⟨x, cap, rfl, hc, ho⟩ := h.shape
  exact ⟨x, _, cap, rfl, rfl, hc, ho⟩
theorem HoldsK.lenEq {x : Option Addr} {n cap : Nat} (h : HoldsK enc sz w (.slice x n cap) l) : n = l.length := by
  obtain ⟨x', cap', hv, hc, h⟩ := h
  cases hv; rfl
/-- The cells of element j: the address's block and offset, and what its cells hold. -/
theorem HoldsK.at [Inhabited α] (hs : Sz enc sz) {x : Option Addr} {n cap : Nat} (h : HoldsK enc sz w (.slice x n cap) l) {j : Nat} (hj : j < l.length) :
    ∃ b off, x = some ⟨b, off, none⟩ ∧ ∀ i, i < sz → w.cell? ⟨b, off + (j * sz + i), none⟩ = (enc (nth l j))[i]? := by
  obtain ⟨x', cap', hv, hc, h⟩ := h
  cases hv
  rcases h with rfl | ⟨b, off, hx, h⟩
  · simp at hj
  · refine ⟨b, off, hx, fun i hi => ?_⟩
    have hlt : j * sz + i < l.length * sz := by
      have : (j + 1) * sz ≤ l.length * sz := Nat.mul_le_mul_right _ hj
      rw [Nat.add_mul] at this; omega
    obtain ⟨u, h1, h2⟩ := h _ hlt
    rw [h2, ← flat_at hs l j i hj hi, h1]
theorem HoldsK.cells (hs : Sz enc sz) {ad : Addr} {n cap : Nat} (h : HoldsK enc sz w (.slice (some ad) n cap) l) : ∀ j u, (flat enc l)[j]? = some u → w.cell? (ad.add j) = some u := by
  intro j u hu
  have hj : j < l.length * sz := by have := (List.getElem?_eq_some_iff.1 hu).1; rwa [flat_length hs] at this
  obtain ⟨x', cap', hv, hc, h⟩ := h
  cases hv
  rcases h with rfl | ⟨b, off, hx, h⟩
  · simp [flat] at hu
  · cases hx
    obtain ⟨u', h1, h2⟩ := h j hj
    rw [Go.WideShapes.add_plain, h2, ← h1, hu]
theorem HoldsK.grown (h : HoldsK enc sz w v l) {row : Option Nat} (hg : w.grownBy w' row) (hne : ∀ g, v.ownBlock = some g → some g ≠ row) : HoldsK enc sz w' v l := by
  obtain ⟨x, cap, rfl, hc, h⟩ := h
  refine ⟨x, cap, rfl, hc, ?_⟩
  rcases h with h | ⟨b, off, rfl, h⟩
  · exact Or.inl h
  · refine Or.inr ⟨b, off, rfl, fun j hj => ?_⟩
    obtain ⟨u, h1, h2⟩ := h j hj
    exact ⟨u, h1, hg.cell h2 (hne b rfl)⟩
end

/-! ### append -/
def ElemK (P : Program) (e : TypeId) (z : Value) (sz bytes : Nat) : Prop := (P.info? e).map (fun i => (i.zero, i.size, i.bytes)) = some (some z, sz, bytes)
/-- What is asked of the kind of elements, once for all. -/
structure Kind {α : Type} (P : Program) (e : TypeId) (enc : α → List Value) (z : Value) (sz bytes : Nat) : Prop where
  elem : ElemK P e z sz bytes
  zs : z.cells.size = sz
  pos : 0 < sz
  size : Sz enc sz
  one : ∀ x, ∀ u ∈ enc x, u.oneCell' = true

section
variable {P : Program} {w : World} {ops : Array Oper} {rest : List Oper} {o : Oper} {a : Act} {Q : Exit → Act → World → Prop} {α : Type} {enc : α → List Value} {sz : Nat} {e t : TypeId} {bytes : Nat} {z : Value}

/-- append to a slice of the call's own, whatever is appended. -/
theorem wpList_appK_nn (K : Kind P e enc z sz bytes) (hgd : o.guard = none) (s x : Operand) (ho : o.op = .call { callee := .builtin .append, args := #[s, x], argTypes := #[t, t] }) (ht : P.underlying t = some (.slice e))
    {B : Nat} {v vx : Value} {l m : List α} (hs : a.eval s = v) (hx : a.eval x = vx) (hown : OwnK e enc sz B w v l) (hsrc : HoldsK enc sz w vx m) (hlen : (l.length + m.length) * bytes ≤ 140737488355328) (hmx : l.length + m.length ≤ maxLen) (hB : B ≤ w.heap.size)
    (h : ∀ v' w', OwnK e enc sz B w' v' (l ++ m) → w.grownBy w' v.ownBlock → (v ≠ .slice none 0 0 → v' ≠ .slice none 0 0) → wpList P ops Q rest (a.put o.dst v') w') : wpList P ops Q (o :: rest) a w := by
  obtain ⟨i, h1, h2, h3, h4⟩ := info_parts K.elem
  obtain ⟨ao, cap, rfl, hcap, hc⟩ := hsrc
  have hsrc : HoldsK enc sz w (.slice ao m.length cap) m := ⟨ao, cap, rfl, hcap, hc⟩
  have fin : ∀ v' w', w'.ownsRow B e sz v' (l.length + m.length) (flat enc l ++ flat enc m) → OwnK e enc sz B w' v' (l ++ m) := by
    intro v' w' hh
    unfold OwnK
    rw [List.length_append, flat_append]; exact hh
  cases ao with
  | some ad =>
    exact wpList_append_own w hgd s x t ho B e i z sz bytes ht h1 h2 h3 h4 K.zs K.pos v l.length _ hs hown ad m.length cap (flat enc m) hx (flat_length K.size m) (hsrc.cells K.size) (flat_one' K.one m) hmx hlen hB
      fun v' w' r1 r2 r3 => h v' w' (fin v' w' r1) r2 (fun hn he => hn (r3.1 he).1)
  | none =>
    rcases hc with rfl | ⟨b, off, hc, _⟩
    · refine wpList_plain hgd fun K hK => ?_
      have hrun : (Builtin.append_ #[t, t] o.type #[v, .slice none 0 cap]).run P w = .ok v w := by
        rcases hown.2 with ⟨rfl, hn⟩ | ⟨g, cap', cur, rfl, _, _, hnc, _⟩
        · simp [Builtin.append_, run_underlying ht, sizeOf, typeInfo, h1, Builtin.lenOf, Builtin.firstCells]
        · simp [Builtin.append_, run_underlying ht, sizeOf, typeInfo, h1, Builtin.lenOf, Builtin.firstCells, hnc, storeCells]
      have hx' : a.eval x = .slice none 0 cap := by simpa using hx
      unfold Oper.wp
      simp [execOp, ho, resolve, invoke, builtin, hs, hx', hrun, Result.andThen]
      exact hK _ _ (h v w (by simpa using hown) (World.grownBy.refl _ _) (fun hn => hn))
    · cases hc
theorem wpList_appK (K : Kind P e enc z sz bytes) (hgd : o.guard = none) (s x : Operand) (ho : o.op = .call { callee := .builtin .append, args := #[s, x], argTypes := #[t, t] }) (ht : P.underlying t = some (.slice e))
    {B : Nat} {v vx : Value} {l m : List α} (hs : a.eval s = v) (hx : a.eval x = vx) (hown : OwnK e enc sz B w v l) (hsrc : HoldsK enc sz w vx m) (hlen : (l.length + m.length) * bytes ≤ 140737488355328) (hmx : l.length + m.length ≤ maxLen) (hB : B ≤ w.heap.size)
    (h : ∀ v' w', OwnK e enc sz B w' v' (l ++ m) → w.grownBy w' v.ownBlock → wpList P ops Q rest (a.put o.dst v') w') : wpList P ops Q (o :: rest) a w :=
  wpList_appK_nn K hgd s x ho ht hs hx hown hsrc hlen hmx hB fun v' w' h1 h2 _ => h v' w' h1 h2
end

/-- A new block of one element; a new empty block. -/
theorem holdsK_one {α : Type} {enc : α → List Value} {sz : Nat} (hs : Sz enc sz) (e : TypeId) (w : World) (x : α) : HoldsK enc sz (w.alloc (.cells (enc x).toArray e)) (.slice (some ⟨w.heap.size, 0, none⟩) 1 1) [x] := by
  refine ⟨_, 1, rfl, by simp, Or.inr ⟨_, _, rfl, fun j hj => ?_⟩⟩
  have hj' : j < (enc x).length := by rw [hs x]; simpa using hj
  refine ⟨(enc x)[j], by rw [flat_one]; exact List.getElem?_eq_getElem hj', ?_⟩
  rw [Nat.zero_add, World.cell?_alloc_mark]
  simp [hj']
theorem ownK_empty {α : Type} (enc : α → List Value) (sz : Nat) (e : TypeId) (w : World) : OwnK e enc sz w.heap.size (w.alloc (.cells #[] e)) (.slice (some ⟨w.heap.size, 0, none⟩) 0 0) [] := World.ownsRow_lit w #[] 0 (Nat.le_refl _) (by unfold maxLen; omega) (by simp)

/-! ### make, stores -/
theorem madeK {α : Type} [Inhabited α] {enc : α → List Value} {sz : Nat} (hs : Sz enc sz) (hp : 0 < sz) {z : Value} (hz : z.cells.toList = enc default) (n : Nat) : (madeCells z.cells (n * sz)).toList = flat enc (List.replicate n default) := by
  have hzs : z.cells.size = sz := by rw [← Array.length_toList, hz, hs]
  apply List.ext_getElem?
  intro j
  by_cases hj : j < n * sz
  · have e1 : j = j / sz * sz + j % sz := by rw [Nat.mul_comm]; exact (Nat.div_add_mod j sz).symm
    have h1 : j / sz < n := (Nat.div_lt_iff_lt_mul hp).2 hj
    have h2 : j % sz < sz := Nat.mod_lt _ hp
    have hL : (madeCells z.cells (n * sz)).toList[j]? = some (z.cells[j % z.cells.size]!) := by simp [madeCells, hj]
    rw [hL]
    conv => rhs; rw [e1]
    rw [flat_at hs _ _ _ (by simpa using h1) h2]
    have : nth (List.replicate n (default : α)) (j / sz) = default := by simp [nth, List.getD, h1]
    rw [this, ← hz, hzs, getElem!_pos z.cells (j % sz) (by omega)]
    simp [Array.getElem?_toList, getElem?_pos z.cells (j % sz) (by omega)]
  · rw [List.getElem?_eq_none (by simp [madeCells]; omega), List.getElem?_eq_none (by rw [flat_length hs]; simp; omega)]

section
variable {α : Type} [Inhabited α] {enc : α → List Value} {sz : Nat}
theorem ownK_store (hs : Sz enc sz) {e : TypeId} {B : Nat} {w : World} {g n cap : Nat} {l : List α} (h : OwnK e enc sz B w (.slice (some ⟨g, 0, none⟩) n cap) l) (hn : n = l.length) {j i : Nat} (hj : j < l.length) (hi : i < sz) {y : α} {u : Value} (hy : enc y = (enc (nth l j)).set i u) :
    OwnK e enc sz B (w.setCell ⟨g, j * sz + i, none⟩ u) (.slice (some ⟨g, 0, none⟩) n cap) (l.set j y) ∧ w.grownBy (w.setCell ⟨g, j * sz + i, none⟩ u) (some g) := by
  subst hn
  have := World.ownsRow.stored h (j * sz + i) u
  refine ⟨?_, this.2⟩
  unfold OwnK
  rw [List.length_set, ← flat_set hs hi l j hj hy]
  exact this.1
theorem ownK_cell (hs : Sz enc sz) {e : TypeId} {B : Nat} {w : World} {g n cap : Nat} {l : List α} (h : OwnK e enc sz B w (.slice (some ⟨g, 0, none⟩) n cap) l) (hn : n = l.length) {j i : Nat} (hj : j < l.length) (hi : i < sz) :
    w.cell? ⟨g, j * sz + i, none⟩ = (enc (nth l j))[i]? ∧ w.frozen? ⟨g, j * sz + i, none⟩ = false := by
  subst hn
  have hlt : j * sz + i < l.length * sz := by
    have : (j + 1) * sz ≤ l.length * sz := Nat.mul_le_mul_right _ hj
    rw [Nat.add_mul] at this; omega
  exact ⟨by rw [World.ownsRow.cellAt h _ hlt, flat_at hs l j i hj hi], World.ownsRow.frozenAt h _⟩
end
theorem nth_set {α : Type} [Inhabited α] {l : List α} {k : Nat} (h : k < l.length) (x : α) : nth (l.set k x) k = x := by simp [nth, List.getD, h]
/-- The list behind the first k stores of a copy. -/
def filledK {α : Type} [Inhabited α] (l : List α) (k : Nat) : List α := l.take k ++ List.replicate (l.length - k) default
section
variable {α : Type} [Inhabited α]
theorem filledK_length (l : List α) {k : Nat} (h : k ≤ l.length) : (filledK l k).length = l.length := by simp [filledK]; omega
theorem filledK_zero (l : List α) : filledK l 0 = List.replicate l.length default := by simp [filledK]
theorem filledK_all (l : List α) : filledK l l.length = l := by simp [filledK]
theorem filledK_step (l : List α) {k : Nat} (h : k < l.length) : (filledK l k).set k (nth l k) = filledK l (k + 1) := by
  have hl : (l.take k).length = k := by simp; omega
  unfold filledK
  rw [List.set_append_right _ _ (by omega), hl, Nat.sub_self, show l.length - k = (l.length - (k + 1)) + 1 by omega, List.replicate_succ, List.set_cons_zero, nth_eq h]
  have := List.take_succ_eq_append_getElem h
  rw [this, List.append_assoc]; rfl
end
/-- append to a slice of structs of the call's own, as a step of a statement that draws its order. -/
theorem step_appK {P : Program} {ops : Array Oper} {o : Oper} {a : Act} {w : World} {K : Act → World → Prop} {Q : Exit → Act → World → Prop} {E : Prop} {α : Type} {enc : α → List Value} {sz : Nat} {e t : TypeId} {bytes : Nat} {z : Value}
    (KD : Kind P e enc z sz bytes) (hg : o.guard = none) (s x : Operand) (hop : o.op = Op.call { callee := Callee.builtin Builtin.append, args := #[s, x], argTypes := #[t, t] }) (ht : P.underlying t = some (.slice e))
    {B : Nat} {v : Value} {ad : Addr} {n c : Nat} {l m : List α} (hs : a.eval s = v) (hx : a.eval x = .slice (some ad) n c) (hown : OwnK e enc sz B w v l) (hsrc : HoldsK enc sz w (.slice (some ad) n c) m) (hlen : (l.length + m.length) * bytes ≤ 140737488355328) (hmx : l.length + m.length ≤ maxLen) (hB : B ≤ w.heap.size)
    (hK : ∀ v' w', OwnK e enc sz B w' v' (l ++ m) → w.grownBy w' v.ownBlock → K (a.put o.dst v') w') :
    if Region.wanted o (yielded ops a.tmps) = true then Oper.wp P o a w K Q else E := by
  have hw : Region.wanted o (yielded ops a.tmps) = true := by simp [Region.wanted, hg]
  rw [if_pos hw]
  obtain ⟨i, h1, h2, h3, h4⟩ := info_parts KD.elem
  obtain rfl := hsrc.lenEq
  obtain ⟨v', w', hrun, r1, r2, _⟩ := run_append_own (P := P) w B t o.type e i z sz bytes ht h1 h2 h3 h4 KD.zs KD.pos v l.length (flat enc l) hown ad m.length c (flat enc m) (flat_length KD.size m) (hsrc.cells KD.size) (flat_one' KD.one m) hmx hlen hB
  unfold Oper.wp
  simp [execOp, hop, resolve, invoke, builtin, hs, hx, hrun, Result.andThen]
  refine hK v' w' ?_ r2
  unfold OwnK
  rw [List.length_append, flat_append]; exact r1
end Go.Proofs.Ytkojeajjappchaa.Row
