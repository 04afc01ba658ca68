/- Contracts and mathematics, joined: Ring, RingLaw, RingSame, RingMark, RingOpen, RingV, RingCopy, RingFind. No conditions but those that each states. -/
import Derived.Test.YtnblopilgfdjkaaGreatB2
import Derived.Test.YtnblopilgfdjkaaGreatB1
import Derived.Test.YtnblopilgfdjkaaGreatB3
import Derived.Deep.Slices
import Derived.Deep.Strs
import Derived.ChangeSame
import Derived.ChangeArms
import Derived.Test.YtnblopilgfdjkaaGreatB4
import Derived.Test.YtnblopilgfdjkaaGreatB5
import Derived.Deep.RegionLaw
/- Lists of keys (slices of a name and a number each) in memory: a slice that holds a list of entries, each of which holds its name; one whose blocks are all the call's own and all differ. No conditions. -/
namespace Go.Proofs.YtnblopilgfdjkaaGreat.Row.Ring
open Go.ChangeShapes Go.WideShapes Go.ChangeAt Go.RowKit Go.Instr
set_option linter.unusedVariables false
set_option maxRecDepth 100000

/-- An entry as it lies in memory: where its name's parts lie, what they are, and its number. -/
structure Ent where
  ad : Option Addr
  n : Nat
  cap : Nat
  ps : List ByteArray
  val : Int
instance : Inhabited Ent := ⟨⟨none, 0, 0, [], 0⟩⟩
def Ent.v (x : Ent) : Value := .slice x.ad x.n x.cap
/-- An entry as it is read. -/
def Ent.t (x : Ent) : List ByteArray × Int := (x.ps, x.val)
def Ent.whole (x : Ent) : Value := .agg #[x.v, .int .i64 x.val]
def strip (L : List Ent) : List (List ByteArray × Int) := L.map Ent.t
theorem strip_length (L : List Ent) : (strip L).length = L.length := by simp [strip]
theorem strip_nth {L : List Ent} {k : Nat} (h : k < L.length) : nth (strip L) k = (nth L k).t := by simp [strip, nth, List.getD, h]
theorem strip_append (L M : List Ent) : strip (L ++ M) = strip L ++ strip M := by simp [strip]
theorem strip_take (L : List Ent) (k : Nat) : strip (L.take k) = (strip L).take k := by simp [strip, List.map_take]
theorem strip_mem {L : List Ent} {x : Ent} (h : x ∈ L) : x.t ∈ strip L := List.mem_map_of_mem h
def encE (x : Ent) : List Value := [x.v, .int .i64 x.val]
theorem szE : Sz encE 2 := fun _ => rfl
theorem kindE : Kind Tryz.prog 37 encE (.agg #[.slice none 0 0, .int .i64 0]) 2 32 where
  elem := by unfold ElemK; kernel_rfl
  zs := rfl
  pos := by decide
  size := szE
  one := by intro x u hu; simp [encE, Ent.v] at hu; rcases hu with rfl | rfl <;> rfl

/-- v is a slice of the entries L, whose names are there. -/
def TabH (w : World) (v : Value) (L : List Ent) : Prop := HoldsK encE 2 w v L ∧ ∀ x ∈ L, Holds Value.string w x.v x.ps
/-- v is a slice of the entries L, all of whose blocks are from B on, and no two the same. -/
def TabO (B : Nat) (w : World) (v : Value) (L : List Ent) : Prop := OwnK 37 encE 2 B w v L ∧ (∀ x ∈ L, Own 9 Value.string B w x.v x.ps) ∧ L.Pairwise (fun a b => Apart a.v b.v)
section
variable {B : Nat} {w w' : World} {v : Value} {L : List Ent}
theorem TabO.holds (h : TabO B w v L) : TabH w v L := ⟨h.1.holds, fun x hx => (h.2.1 x hx).holds⟩
theorem TabH.on (h : TabH w v L) (hb : Below w.heap.size w w') : TabH w' v L := ⟨h.1.on hb, fun x hx => (h.2 x hx).on hb⟩
theorem TabO.on (h : TabO B w v L) (hb : Below w.heap.size w w') : TabO B w' v L := ⟨h.1.on hb, fun x hx => (h.2.1 x hx).on hb, h.2.2⟩
theorem TabO.mono (h : TabO B w v L) {B' : Nat} (hB : B' ≤ B) : TabO B' w v L := ⟨h.1.mono hB, fun x hx => (h.2.1 x hx).mono hB, h.2.2⟩
theorem TabO.nil (B : Nat) (w : World) : TabO B w (.slice none 0 0) [] := ⟨OwnK.nil _ _ _ _ _, by simp, by simp⟩
theorem TabO.empty (w : World) : TabO w.heap.size (w.alloc (.cells #[] 37)) (.slice (some ⟨w.heap.size, 0, none⟩) 0 0) [] := ⟨ownK_empty _ _ _ _, by simp, by simp⟩
theorem TabH.nil (w : World) : TabH w (.slice none 0 0) [] := ⟨HoldsK.nil _ _ _, by simp⟩
theorem TabH.shapeN (h : TabH w v L) : ∃ x n cap, v = .slice x n cap ∧ n = L.length ∧ n ≤ cap ∧ TabH w (.slice x n cap) L := by
  obtain ⟨x, n, cap, rfl, hn, hc, ho⟩ := h.1.shapeN
  exact ⟨x, n, cap, rfl, hn, hc, ho, h.2⟩
theorem TabO.shapeN (h : TabO B w v L) : ∃ x n cap, v = .slice x n cap ∧ n = L.length ∧ n ≤ cap ∧ TabO B w (.slice x n cap) L := by
  obtain ⟨x, n, cap, rfl, hn, hc, ho⟩ := h.1.shapeN
  exact ⟨x, n, cap, rfl, hn, hc, ho, h.2⟩
/-- Entry k's two cells, and its name. -/
theorem TabH.at {x : Option Addr} {n cap : Nat} (h : TabH w (.slice x n cap) L) {k : Nat} (hk : k < L.length) :
    ∃ b off, x = some ⟨b, off, none⟩ ∧ w.cell? ⟨b, off + k * 2, none⟩ = some (.slice (nth L k).ad (nth L k).n (nth L k).cap) ∧ w.cell? ⟨b, off + k * 2 + 1, none⟩ = some (.int .i64 (nth L k).val) ∧ Holds Value.string w (.slice (nth L k).ad (nth L k).n (nth L k).cap) (nth L k).ps := by
  obtain ⟨b, off, hx, hc⟩ := h.1.at szE hk
  exact ⟨b, off, hx, by have := hc 0 (by decide); simpa [encE, Ent.v] using this, by have := hc 1 (by decide); simpa [encE, Nat.add_assoc] using this, h.2 _ (nth_mem hk)⟩
theorem TabO.cells {g n cap : Nat} (h : TabO B w (.slice (some ⟨g, 0, none⟩) n cap) L) (hn : n = L.length) {k : Nat} (hk : k < L.length) :
    (w.cell? ⟨g, k * 2, none⟩ = some (.slice (nth L k).ad (nth L k).n (nth L k).cap) ∧ w.frozen? ⟨g, k * 2, none⟩ = false) ∧ (w.cell? ⟨g, k * 2 + 1, none⟩ = some (.int .i64 (nth L k).val) ∧ w.frozen? ⟨g, k * 2 + 1, none⟩ = false) ∧ Own 9 Value.string B w (.slice (nth L k).ad (nth L k).n (nth L k).cap) (nth L k).ps :=
  ⟨by simpa [encE, Ent.v] using ownK_cell szE h.1 hn hk (i := 0) (by decide), by simpa [encE] using ownK_cell szE h.1 hn hk (i := 1) (by decide), h.2.1 _ (nth_mem hk)⟩
/-- A slice of strings and a slice of entries never share a block. -/
theorem name_row {u : Value} {ps : List ByteArray} {B' : Nat} (h : Own 9 Value.string B w u ps) (g : OwnK 37 encE 2 B' w v L) : Apart u v := by
  intro k h1 h2
  rcases h.2 with ⟨rfl, _⟩ | ⟨b, cap, cur, rfl, _, hb, _⟩
  · cases h1
  · rcases g.2 with ⟨rfl, _⟩ | ⟨b', cap', cur', rfl, _, hb', _⟩
    · cases h2
    · have e1 : b = k := by simpa [Value.ownBlock] using h1
      have e2 : b' = k := by simpa [Value.ownBlock] using h2
      rw [e1] at hb; rw [e2, hb] at hb'
      cases hb'
/-- What writes into the entries' own row alone leaves the names. -/
theorem TabO.names (h : TabO B w v L) (hg : w.grownBy w' v.ownBlock) : ∀ x ∈ L, Own 9 Value.string B w' x.v x.ps := fun x hx => (h.2.1 x hx).grown hg (apart_or (name_row (h.2.1 x hx) h.1))
theorem TabO.row (h : TabO B w v L) {v' : Value} {L' : List Ent} (ho : OwnK 37 encE 2 B w' v' L') (hg : w.grownBy w' v.ownBlock) (hm : ∀ x ∈ L', ∃ y ∈ L, x.v = y.v ∧ x.ps = y.ps) (hp : L'.Pairwise (fun a b => Apart a.v b.v)) : TabO B w' v' L' := by
  refine ⟨ho, fun x hx => ?_, hp⟩
  obtain ⟨y, hy, e1, e2⟩ := hm x hx
  rw [e1, e2]
  exact h.names hg y hy
theorem TabO.lt (h : TabO B w v L) : (∀ g, v.ownBlock = some g → B ≤ g ∧ g < w.heap.size) ∧ ∀ x ∈ L, ∀ g, x.v.ownBlock = some g → B ≤ g ∧ g < w.heap.size := ⟨h.1.lt, fun x hx => (h.2.1 x hx).lt⟩
/-- A name in new memory is apart from all names that were there. -/
theorem TabO.fresh (h : TabO B w v L) {u : Value} (hu : ∀ g, u.ownBlock = some g → w.heap.size ≤ g) : ∀ y ∈ L, Apart y.v u := fun y hy g h1 h2 => by
  have := h.lt.2 y hy g h1
  have := hu g h2
  omega
/-- One entry more. -/
theorem TabO.push (h : TabO B w v L) {x : Ent} (hx : Own 9 Value.string B w x.v x.ps) (hap : ∀ y ∈ L, Apart y.v x.v) {v' : Value} (ho : OwnK 37 encE 2 B w' v' (L ++ [x])) (hg : w.grownBy w' v.ownBlock) : TabO B w' v' (L ++ [x]) := by
  refine ⟨ho, fun y hy => ?_, ?_⟩
  · rcases List.mem_append.1 hy with hy | hy
    · exact h.names hg y hy
    · rw [List.mem_singleton.1 hy]; exact hx.grown hg (apart_or (name_row hx h.1))
  · rw [List.pairwise_append]
    exact ⟨h.2.2, by simp, fun a ha b hb => by rw [List.mem_singleton.1 hb]; exact hap a ha⟩
theorem TabO.len (h : TabO B w v L) : L.length ≤ maxLen := h.1.len
end

/-! ### as they are read -/
def TabHolds (w : World) (v : Value) (T : List (List ByteArray × Int)) : Prop := ∃ L, strip L = T ∧ TabH w v L
def TabOwn (B : Nat) (w : World) (v : Value) (T : List (List ByteArray × Int)) : Prop := ∃ L, strip L = T ∧ TabO B w v L
def TabIn (B E : Nat) (w : World) (v : Value) (T : List (List ByteArray × Int)) : Prop := ∃ L, strip L = T ∧ TabO B w v L ∧ (∀ g, v.ownBlock = some g → g < E) ∧ ∀ x ∈ L, ∀ g, x.v.ownBlock = some g → g < E
section
variable {B E B' E' : Nat} {w w' : World} {v : Value} {l : List ByteArray} {T : List (List ByteArray × Int)}
theorem TabIn.of (h : TabOwn B w v T) : TabIn B w.heap.size w v T := by
  obtain ⟨L, e, h⟩ := h
  exact ⟨L, e, h, fun g hg => (h.lt.1 g hg).2, fun x hx g hg => (h.lt.2 x hx g hg).2⟩
theorem TabIn.on (h : TabIn B E w v T) (hb : Below w.heap.size w w') : TabIn B E w' v T := by
  obtain ⟨L, e, h, h1, h2⟩ := h
  exact ⟨L, e, h.on hb, h1, h2⟩
theorem TabIn.own (h : TabIn B E w v T) : TabOwn B w v T := by
  obtain ⟨L, e, h, -, -⟩ := h
  exact ⟨L, e, h⟩
theorem TabOwn.holds (h : TabOwn B w v T) : TabHolds w v T := by
  obtain ⟨L, e, h⟩ := h
  exact ⟨L, e, h.holds⟩
theorem TabIn.holds (h : TabIn B E w v T) : TabHolds w v T := h.own.holds
theorem TabOwn.mono (h : TabOwn B w v T) (hB : B' ≤ B) : TabOwn B' w v T := by
  obtain ⟨L, e, h⟩ := h
  exact ⟨L, e, h.mono hB⟩
theorem TabOwn.on (h : TabOwn B w v T) (hb : Below w.heap.size w w') : TabOwn B w' v T := by
  obtain ⟨L, e, h⟩ := h
  exact ⟨L, e, h.on hb⟩
theorem TabHolds.on (h : TabHolds w v T) (hb : Below w.heap.size w w') : TabHolds w' v T := by
  obtain ⟨L, e, h⟩ := h
  exact ⟨L, e, h.on hb⟩
theorem TabHolds.shapeN (h : TabHolds w v T) : ∃ x n cap, v = .slice x n cap ∧ n = T.length ∧ n ≤ cap ∧ TabHolds w (.slice x n cap) T := by
  obtain ⟨L, e, h⟩ := h
  obtain ⟨x, n, cap, rfl, hn, hc, ho⟩ := h.shapeN
  exact ⟨x, n, cap, rfl, by rw [hn, ← e, strip_length], hc, L, e, ho⟩
theorem TabOwn.shapeN (h : TabOwn B w v T) : ∃ x n cap, v = .slice x n cap ∧ n = T.length ∧ n ≤ cap ∧ TabOwn B w (.slice x n cap) T := by
  obtain ⟨L, e, h⟩ := h
  obtain ⟨x, n, cap, rfl, hn, hc, ho⟩ := h.shapeN
  exact ⟨x, n, cap, rfl, by rw [hn, ← e, strip_length], hc, L, e, ho⟩
end
end Go.Proofs.YtnblopilgfdjkaaGreat.Row.Ring
/- Contracts of the helpers by which the laws measure, copy, compare, mark and look at lists of keys. No conditions but that lengths fit. -/
namespace Go.Proofs.YtnblopilgfdjkaaGreat.Row.Ring
open Go.ChangeShapes Go.WideShapes Go.ChangeAt Go.RowKit Go.Instr
set_option linter.unusedVariables false
set_option maxRecDepth 100000

/-- Length and sizes of a table together, up to place k. -/
def bulkTTo (l : List (List ByteArray × Int)) (k : Nat) : Nat := l.length + ((l.take k).map (fun x => bulk x.1)).sum
def bulkT (l : List (List ByteArray × Int)) : Nat := bulkTTo l l.length
theorem bulkTTo_zero (l : List (List ByteArray × Int)) : bulkTTo l 0 = l.length := by simp [bulkTTo]
theorem bulkTTo_succ (l : List (List ByteArray × Int)) {k : Nat} (h : k < l.length) : bulkTTo l (k + 1) = bulkTTo l k + bulk (nth l k).1 := by
  unfold bulkTTo
  rw [List.take_succ_eq_append_getElem h, nth_eq h, List.map_append, List.sum_append]
  simp only [List.map_cons, List.map_nil, List.sum_cons, List.sum_nil]
  omega
theorem bulkTTo_le (l : List (List ByteArray × Int)) (k : Nat) : bulkTTo l k ≤ bulkT l := by
  unfold bulkT bulkTTo
  have := sum_take_le (l.map (fun x => bulk x.1)) k
  rw [List.take_length, List.map_take]; omega
theorem bulkT_len (l : List (List ByteArray × Int)) : l.length ≤ bulkT l := by unfold bulkT bulkTTo; omega
theorem bulkT_mem {l : List (List ByteArray × Int)} {x : List ByteArray × Int} (h : x ∈ l) : bulk x.1 ≤ bulkT l := by
  obtain ⟨k, hk, rfl⟩ := List.getElem_of_mem h
  have h1 := bulkTTo_succ l hk
  have h2 := bulkTTo_le l (k + 1)
  rw [nth_eq hk] at h1
  omega
def szLT (l : List (List ByteArray × Int)) (left : Int) : Int := if (bulkT l : Int) ≤ left then left - bulkT l else -1
/-! ### a table's copy -/
theorem pairwise_set {α : Type} {R : α → α → Prop} {x : α} : ∀ {L : List α} (k : Nat), L.Pairwise R → (∀ y ∈ L, R y x ∧ R x y) → (L.set k x).Pairwise R
  | [], _, _, _ => by simp
  | a :: r, 0, h, g => by
    rw [List.set_cons_zero, List.pairwise_cons]
    rw [List.pairwise_cons] at h
    exact ⟨fun y hy => (g y (by simp [hy])).2, h.2⟩
  | a :: r, k + 1, h, g => by
    rw [List.set_cons_succ, List.pairwise_cons]
    rw [List.pairwise_cons] at h
    refine ⟨fun y hy => ?_, pairwise_set k h.2 (fun y hy => g y (by simp [hy]))⟩
    rcases List.mem_or_eq_of_mem_set hy with hy | hy
    · exact h.1 y hy
    · rw [hy]; exact (g a (by simp)).1
theorem ent_store {B : Nat} {w : World} {g n cap : Nat} {L : List Ent} (h : OwnK 37 encE 2 B w (.slice (some ⟨g, 0, none⟩) n cap) L) (hn : n = L.length) {k : Nat} (hk : k < L.length) (x : Ent) :
    OwnK 37 encE 2 B ((w.setCell ⟨g, k * 2, none⟩ x.v).setCell ⟨g, k * 2 + 1, none⟩ (.int .i64 x.val)) (.slice (some ⟨g, 0, none⟩) n cap) (L.set k x) ∧ w.grownBy ((w.setCell ⟨g, k * 2, none⟩ x.v).setCell ⟨g, k * 2 + 1, none⟩ (.int .i64 x.val)) (some g) := by
  obtain ⟨a1, a2⟩ := ownK_store szE h hn hk (i := 0) (by decide) (y := ⟨x.ad, x.n, x.cap, x.ps, (nth L k).val⟩) (u := x.v) rfl
  obtain ⟨b1, b2⟩ := ownK_store szE a1 (by simpa using hn) (j := k) (by simpa using hk) (i := 1) (by decide) (y := x) (u := .int .i64 x.val) (by rw [nth_set hk]; rfl)
  rw [List.set_set] at b1
  exact ⟨b1, Go.World.grownBy.trans a2 b2⟩
/-- An entry of its own is stored. -/
theorem TabO.put {B : Nat} {w : World} {g n cap : Nat} {L : List Ent} (h : TabO B w (.slice (some ⟨g, 0, none⟩) n cap) L) (hn : n = L.length) {k : Nat} (hk : k < L.length) {x : Ent} (hx : Own 9 Value.string B w x.v x.ps) (hap : ∀ y ∈ L, Apart y.v x.v) :
    TabO B ((w.setCell ⟨g, k * 2, none⟩ x.v).setCell ⟨g, k * 2 + 1, none⟩ (.int .i64 x.val)) (.slice (some ⟨g, 0, none⟩) n cap) (L.set k x) ∧ w.grownBy ((w.setCell ⟨g, k * 2, none⟩ x.v).setCell ⟨g, k * 2 + 1, none⟩ (.int .i64 x.val)) (some g) := by
  obtain ⟨a1, a2⟩ := ent_store h.1 hn hk x
  refine ⟨⟨a1, fun y hy => ?_, pairwise_set k h.2.2 (fun y hy => ⟨hap y hy, (hap y hy).symm⟩)⟩, a2⟩
  rcases List.mem_or_eq_of_mem_set hy with hy | hy
  · exact h.names a2 y hy
  · rw [hy]; exact hx.grown a2 (apart_or (name_row hx h.1))
/-- The list behind j stores of a copy: j entries made, the others empty. -/
def madeTo (M : List Ent) (n : Nat) : List Ent := M ++ List.replicate (n - M.length) default
/-- All names have parts few and small enough for the contracts. -/
def smT (T : List (List ByteArray × Int)) : Prop := ∀ t ∈ T, bulk t.1 ≤ 9000000
theorem smT_of {T : List (List ByteArray × Int)} (h : bulkT T ≤ 9000000) : smT T := fun t ht => Nat.le_trans (bulkT_mem ht) h
theorem smT_ps {L : List Ent} (h : smT (strip L)) {k : Nat} (hk : k < L.length) : bulk (nth L k).ps ≤ 9000000 := h _ (strip_mem (nth_mem hk))
theorem smT_psl {L : List Ent} (h : smT (strip L)) {k : Nat} (hk : k < L.length) : (nth L k).ps.length ≤ 9000000 := Nat.le_trans (bulk_len _) (smT_ps h hk)
def eqT (l m : List (List ByteArray × Int)) : Bool := decide (l = m)
theorem eqT_self (l : List (List ByteArray × Int)) : eqT l l = true := by simp [eqT]
theorem eqT_true {l m : List (List ByteArray × Int)} (h : l = m) : eqT l m = true := by simp [eqT, h]
theorem eqT_false {l m : List (List ByteArray × Int)} (h : l ≠ m) : eqT l m = false := by simp [eqT, h]

/-- All names are of lengths for the contracts. -/
def lnT (T : List (List ByteArray × Int)) : Prop := ∀ t ∈ T, t.1.length ≤ 9000000
end Go.Proofs.YtnblopilgfdjkaaGreat.Row.Ring
/- The contract of sameKeys. No conditions but that lengths fit. -/
namespace Go.Proofs.YtnblopilgfdjkaaGreat.Row.Ring
open Go.ChangeShapes Go.WideShapes Go.ChangeAt Go.RowKit Go.Instr
set_option linter.unusedVariables false
set_option maxRecDepth 100000

theorem sameKeys_len (x y : Option Addr) (n m cx cy : Nat) (w : World) (h : (((n : Nat) : Int) != ((m : Nat) : Int)) = true) :
    Calls Tryz.prog 19 #[.slice x n cx, .slice y m cy] w fun e w' => e = .returned (.bool false) ∧ w = w' := by
  go_enter Tryz.func19, Tryz.ntmps19
  go_wp2
  go_ret
  exact ⟨rfl, rfl⟩
theorem sameNameW (v u : Value) (l m : List ByteArray) (w : World) (q : Bool) (hq : eqB l m = q) (h : Holds Value.string w v l) (g : Holds Value.string w u m) (hl : l.length ≤ 140737488351232) (hm : m.length ≤ 140737488351232) :
    Calls Tryz.prog 44 #[.agg #[v], .agg #[u]] w fun e w' => e = .returned (.bool q) ∧ Below w.heap.size w w' := hq ▸ sameName v u l m w h g hl hm

set_option maxHeartbeats 2000000 in
theorem sameKeys (v u : Value) (T U : List (List ByteArray × Int)) (w : World) (h : TabHolds w v T) (g : TabHolds w u U) (hl : T.length ≤ 140737488351232) (hm : U.length ≤ 140737488351232) (hT : smT T) (hU : smT U) :
    Calls Tryz.prog 19 #[v, u] w fun e w' => e = .returned (.bool (eqT T U)) ∧ Below w.heap.size w w' := by
  obtain ⟨L, rfl, h⟩ := h
  obtain ⟨M, rfl, g⟩ := g
  obtain ⟨x, n, cx, rfl, hn, hcx, hh⟩ := h.shapeN
  obtain ⟨y, m, cy, rfl, hm2, hcy, hg⟩ := g.shapeN
  rw [strip_length, ← hn] at hl
  rw [strip_length, ← hm2] at hm
  by_cases he : n = m
  · subst he
    have HN := Lib.hid hn
    have HM := Lib.hid hm2
    have HH := Lib.hid hh
    have HG := Lib.hid hg
    have HT := Lib.hid hT
    have HU := Lib.hid hU
    have htest : (((n : Nat) : Int) != ((n : Nat) : Int)) = false := by simp
    clear hn h hh g hg hm2 hT hU hm
    go_enter Tryz.func19, Tryz.ntmps19
    go_wp2
    go_loopw [5] (fun i wr => ∃ k : Nat, k ≤ n ∧ i = .int .i64 k ∧ Hid (agree (strip L) (strip M) k) ∧ Hid (Below w.heap.size w wr)) (fun i _ => n - (intOf i).toNat)
    case atStart => exact ⟨0, Nat.zero_le _, rfl, Lib.hid (agree_zero _ _), Lib.hid (Below.refl _ _)⟩
    case round =>
      obtain ⟨k, hk, rfl, ha, hb⟩ := hrel
      by_cases hlt : k < n
      · have hlen := HN.out
        have hlen2 := HM.out
        obtain ⟨b, off, rfl, hc, hd, hnm⟩ := (HH.out.on hb.out).at (k := k) (by omega)
        obtain ⟨b', off', rfl, hc', hd', hnm'⟩ := (HG.out.on hb.out).at (k := k) (by omega)
        have HL := Lib.hid (smT_psl HT.out (k := k) (by omega)); have HL' := Lib.hid (smT_psl HU.out (k := k) (by omega))
        have e1 := strip_nth (L := L) (k := k) (by omega)
        have e2 := strip_nth (L := M) (k := k) (by omega)
        have HC := Lib.hid hc; have HD := Lib.hid hd; have HC' := Lib.hid hc'; have HD' := Lib.hid hd'
        have HNM := Lib.hid hnm; have HNM' := Lib.hid hnm'
        by_cases hval : (nth L k).val = (nth M k).val
        · have hv : ((nth L k).val != (nth M k).val) = false := by simp [hval]
          by_cases hq : (nth L k).ps = (nth M k).ps
          · have HE1 := Lib.hid (eqB_true hq)
            have HA := Lib.hid (agree_succ ha.out (by rw [e1, e2]; exact Prod.ext hq hval))
            clear hq hval hlen hlen2 e1 e2 hc hd hc' hd' hnm hnm'
            go_wp2_with fail
            (first | go_region_held3 (fun w' => w'.cell? ⟨b, off + k * 2, none⟩ = some (.slice (nth L k).ad (nth L k).n (nth L k).cap) ∧ w'.cell? ⟨b, off + k * 2 + 1, none⟩ = some (.int .i64 (nth L k).val) ∧ w'.cell? ⟨b', off' + k * 2, none⟩ = some (.slice (nth M k).ad (nth M k).n (nth M k).cap) ∧ w'.cell? ⟨b', off' + k * 2 + 1, none⟩ = some (.int .i64 (nth M k).val) ∧ Below w.heap.size w w') (first | exact keep4 HC.out HD.out HC'.out HD'.out hb.out (Below.refl _ _).drew | exact keep4 HC.out HD.out HC'.out HD'.out hb.out (hb1.mono (Nat.le_refl _)) | exact keep4 HC.out HD.out HC'.out HD'.out hb.out ((Below.refl _ _).drew.trans (hb1.mono (Nat.le_refl _)))) ((go_at_call 44; refine (sameNameW _ _ (nth L k).ps (nth M k).ps _ _ HE1.out (HNM.out.on (Below.refl _ _).drew) (HNM'.out.on (Below.refl _ _).drew) (Nat.le_trans HL.out (by decide)) (Nat.le_trans HL'.out (by decide))).mono ?_; rintro e w1 ⟨rfl, hb1⟩)) | fail)
            all_goals
              have HB2 := Lib.hid (hb.out.drew.trans (hb1.mono hb.out.size))
              clear hb1
              go_wp2_with fail
              go_roundw
              case rel => exact ⟨k + 1, by omega, by go_num, HA, HB2⟩
              case measure => simp [intOf]; omega
          · have HE1 := Lib.hid (eqB_false hq)
            have HA := Lib.hid (eqT_false (differ_at (k := k) (a := strip L) (b := strip M) (by rw [e1, e2]; exact fun e => hq (congrArg Prod.fst e))))
            clear hq hval hlen hlen2 e1 e2 hc hd hc' hd' hnm hnm'
            go_wp2_with fail
            (first | go_region_held3 (fun w' => w'.cell? ⟨b, off + k * 2, none⟩ = some (.slice (nth L k).ad (nth L k).n (nth L k).cap) ∧ w'.cell? ⟨b, off + k * 2 + 1, none⟩ = some (.int .i64 (nth L k).val) ∧ w'.cell? ⟨b', off' + k * 2, none⟩ = some (.slice (nth M k).ad (nth M k).n (nth M k).cap) ∧ w'.cell? ⟨b', off' + k * 2 + 1, none⟩ = some (.int .i64 (nth M k).val) ∧ Below w.heap.size w w') (first | exact keep4 HC.out HD.out HC'.out HD'.out hb.out (Below.refl _ _).drew | exact keep4 HC.out HD.out HC'.out HD'.out hb.out (hb1.mono (Nat.le_refl _)) | exact keep4 HC.out HD.out HC'.out HD'.out hb.out ((Below.refl _ _).drew.trans (hb1.mono (Nat.le_refl _)))) ((go_at_call 44; refine (sameNameW _ _ (nth L k).ps (nth M k).ps _ _ HE1.out (HNM.out.on (Below.refl _ _).drew) (HNM'.out.on (Below.refl _ _).drew) (Nat.le_trans HL.out (by decide)) (Nat.le_trans HL'.out (by decide))).mono ?_; rintro e w1 ⟨rfl, hb1⟩)) | fail)
            all_goals
              have HB2 := Lib.hid (hb.out.drew.trans (hb1.mono hb.out.size))
              clear hb1
              go_wp2_with fail
              go_ret
              exact ⟨ret_bool HA.out.symm, HB2.out⟩
        · have hv : ((nth L k).val != (nth M k).val) = true := by simpa using hval
          have HA := Lib.hid (eqT_false (differ_at (k := k) (a := strip L) (b := strip M) (by rw [e1, e2]; exact fun e => hval (congrArg Prod.snd e))))
          clear hval hlen hlen2 e1 e2 hnm hnm' HC HD HC' HD'
          go_wp2_with (go_quiet (fail))
          all_goals
            go_ret
            exact ⟨ret_bool HA.out.symm, below_drewN hb.out _⟩
      · obtain rfl : k = n := by omega
        have HD := Lib.hid (eqT_true (agree_all (a := strip L) (b := strip M) (by rw [strip_length, strip_length, ← HN.out, ← HM.out]) (by rw [strip_length, ← HN.out]; exact ha.out)))
        clear hlt
        go_wp2
        go_ret
        exact ⟨ret_bool HD.out.symm, hb.out⟩
  · have htest : (((n : Nat) : Int) != ((m : Nat) : Int)) = true := by
      rw [bne_iff_ne]; omega
    rw [eqT_false (fun e => he (by have := congrArg List.length e; rw [strip_length, strip_length] at this; omega))]
    exact (sameKeys_len x y _ _ cx cy w htest).mono fun e w' ⟨h1, h2⟩ => ⟨h1, by subst h2; exact Below.refl _ _⟩
end Go.Proofs.YtnblopilgfdjkaaGreat.Row.Ring
/- Contracts of the helpers by which the laws mark tables and look at the marks. No conditions but that lengths fit. -/
namespace Go.Proofs.YtnblopilgfdjkaaGreat.Row.Ring
open Go.ChangeShapes Go.WideShapes Go.ChangeAt Go.RowKit Go.Instr
set_option linter.unusedVariables false
set_option maxRecDepth 100000

/-- How many numbers a marking takes: one a part, one an entry. -/
def adv : List (List ByteArray × Int) → Nat
  | [] => 0
  | x :: r => x.1.length + 1 + adv r
/-- A table as a marking from k on leaves it. -/
def markTb (k : Int) : List (List ByteArray × Int) → List (List ByteArray × Int)
  | [] => []
  | x :: r => (marks markT k x.1.length, k + x.1.length) :: markTb (k + x.1.length + 1) r
def Ent.setPs (x : Ent) (ps : List ByteArray) : Ent := ⟨x.ad, x.n, x.cap, ps, x.val⟩
def Ent.setVal (x : Ent) (a : Int) : Ent := ⟨x.ad, x.n, x.cap, x.ps, a⟩
/-- An entry as it lies, marked. -/
def Ent.marked (x : Ent) (k : Int) : Ent := ⟨x.ad, x.n, x.cap, marks markT k x.ps.length, k + x.ps.length⟩

theorem pairwise_same {L M : List Ent} (h : L.Pairwise (fun a b => Apart a.v b.v)) (e : M.map Ent.v = L.map Ent.v) : M.Pairwise (fun a b => Apart a.v b.v) := by
  have h1 : (L.map Ent.v).Pairwise Apart := by rw [List.pairwise_map]; exact h
  rw [← e, List.pairwise_map] at h1
  exact h1
/-- Writing one name leaves the others and the row. -/
theorem TabO.named {B : Nat} {w w' : World} {v : Value} {L : List Ent} (h : TabO B w v L) {k : Nat} (hk : k < L.length) {ps : List ByteArray} (ho : Own 9 Value.string B w' (nth L k).v ps) (hg : w.grownBy w' (nth L k).v.ownBlock) :
    TabO B w' v (L.set k ((nth L k).setPs ps)) := by
  have hrow : OwnK 37 encE 2 B w' v L := h.1.grown hg (by
    cases hv : v.ownBlock with
    | none => exact Or.inl rfl
    | some g => exact Or.inr fun e => name_row (h.2.1 _ (nth_mem hk)) h.1 g e.symm hv)
  have henc : flat encE (L.set k ((nth L k).setPs ps)) = flat encE L := by
    unfold flat
    rw [List.flatMap_def, List.flatMap_def, List.map_set]
    congr 1
    have : encE ((nth L k).setPs ps) = (L.map encE)[k]'(by simpa using hk) := by simp [encE, Ent.v, Ent.setPs, nth_eq hk]
    rw [this, List.set_getElem_self]
  refine ⟨?_, fun y hy => ?_, ?_⟩
  · unfold OwnK at *
    rw [List.length_set, henc]; exact hrow
  · obtain ⟨i, hi, rfl⟩ := List.getElem_of_mem hy
    rw [List.length_set] at hi
    by_cases e : k = i
    · subst e
      rw [List.getElem_set_self]
      exact ho
    · rw [List.getElem_set_ne e]
      refine (h.2.1 _ (List.getElem_mem _)).grown hg (apart_or ?_)
      have := List.pairwise_iff_getElem.1 h.2.2
      have hkk := nth_eq hk
      generalize nth L k = z at *
      subst hkk
      have hi : i < L.length := by simpa using hi
      show Apart (L[i]'hi).v (L[k]'hk).v
      rcases Nat.lt_or_gt_of_ne e with e | e
      · exact (this k i hk hi e).symm
      · exact this i k hi hk e
  · refine pairwise_same h.2.2 ?_
    rw [List.map_set]
    have : Ent.v ((nth L k).setPs ps) = (L.map Ent.v)[k]'(by simpa using hk) := by simp [Ent.v, Ent.setPs, nth_eq hk]
    rw [this, List.set_getElem_self]
end Go.Proofs.YtnblopilgfdjkaaGreat.Row.Ring
/- What the exact laws on tables use besides the contracts: a table that came in as an argument; equal ones compared; marks in a range of blocks. No conditions. -/
namespace Go.Proofs.YtnblopilgfdjkaaGreat.Row.Ring
open Go.ChangeShapes Go.WideShapes Go.ChangeAt Go.RowKit Go.Instr
set_option linter.unusedVariables false
set_option maxRecDepth 100000

end Go.Proofs.YtnblopilgfdjkaaGreat.Row.Ring
/- The names' contracts with their answers as letters. No conditions but that lengths fit. -/
namespace Go.Proofs.YtnblopilgfdjkaaGreat.Row.Ring
open Go.ChangeShapes Go.WideShapes Go.ChangeAt Go.RowKit Go.Instr
set_option linter.unusedVariables false
set_option maxRecDepth 100000
section
variable {v u : Value} {l m : List ByteArray} {w : World}
theorem sEqV (b : Bool) (hb : eqB l m = b) (h : Holds Value.string w v l) (g : Holds Value.string w u m) (hl : l.length ≤ 9000000) (hm : m.length ≤ 9000000) :
    Calls Tryz.prog 77 #[.agg #[v], .agg #[u]] w fun e w' => e = .returned (.bool b) ∧ Below w.heap.size w w' := hb ▸ specEqualNames _ _ l m _ h g (by omega) (by omega)
theorem iValV (b : Bool) (hb : validN l = b) (h : Holds Value.string w v l) (hl : bulk l ≤ 9000000) :
    Calls Tryz.prog 56 #[.agg #[v]] w fun e w' => e = .returned (.bool b) ∧ Below w.heap.size w w' := hb ▸ implValidName _ l _ h (by omega)
theorem sValV (b : Bool) (hb : validN l = b) (h : Holds Value.string w v l) (hl : bulk l ≤ 9000000) :
    Calls Tryz.prog 51 #[.agg #[v]] w fun e w' => e = .returned (.bool b) ∧ Below w.heap.size w w' := hb ▸ specValidName _ l _ h (by omega)
end
end Go.Proofs.YtnblopilgfdjkaaGreat.Row.Ring
/- Contracts of the copies of lists of keys, the program's and the model's. No conditions but that lengths fit. -/
namespace Go.Proofs.YtnblopilgfdjkaaGreat.Row.Ring
open Go.ChangeShapes Go.WideShapes Go.ChangeAt Go.RowKit Go.Instr
set_option linter.unusedVariables false
set_option maxRecDepth 100000

/-- A result that is a table of the call's own. -/
def GivesT (w : World) (T : List (List ByteArray × Int)) (e : Ending) (w' : World) : Prop := ∃ v, e = .returned v ∧ TabOwn w.heap.size w' v T ∧ Below w.heap.size w w'
/-- A table grows by one entry whose name is new. -/
theorem TabO.grow {B : Nat} {w wd w3 w4 : World} {v v4 : Value} {M : List Ent} {x : Ent} {o : Obj} (hT : TabO B wd v M) (hW : Below B w wd) (hB : B ≤ wd.heap.size) (hb3 : Below wd.heap.size wd w3) (ho3 : Own 9 Value.string wd.heap.size w3 x.v x.ps)
    (ho4 : OwnK 37 encE 2 B w4 v4 (M ++ [x])) (hg4 : (w3.alloc o).grownBy w4 v.ownBlock) : TabO B w4 v4 (M ++ [x]) ∧ Below B w w4 := by
  have ha := (Below.refl w3.heap.size w3).alloc (Nat.le_refl _) o
  refine ⟨((hT.on hb3).on ha).push ((ho3.on ha).mono hB) (hT.fresh fun g hg => (ho3.lt g hg).1) ho4 hg4, ?_⟩
  have h1 := (hW.trans (hb3.mono hB)).alloc (Nat.le_trans hB hb3.size) o
  exact h1.grown hg4 (by have := hb3.size; simp; omega) (fun g hg => (hT.lt.1 g hg).1)
theorem take_next {T : List (List ByteArray × Int)} {k : Nat} (h : k < T.length) : T.take (k + 1) = T.take k ++ [nth T k] := by rw [List.take_succ_eq_append_getElem h, nth_eq h]
theorem strip_next {M L : List Ent} {k : Nat} {x : Ent} (h : k < L.length) (hM : strip M = (strip L).take k) (hx : x.t = (nth L k).t) : strip (M ++ [x]) = (strip L).take (k + 1) := by
  rw [strip_append, hM, take_next (by rw [strip_length]; exact h), strip_nth h, ← hx]; rfl

set_option maxHeartbeats 4000000 in
theorem cloneKeys (v : Value) (T : List (List ByteArray × Int)) (w : World) (h : TabHolds w v T) (hl : T.length ≤ 4000000) (hT : smT T) :
    Calls Tryz.prog 40 #[v] w (GivesT w T) := by
  obtain ⟨L, rfl, h⟩ := h
  obtain ⟨x, n, cx, rfl, hn, hcx, hh⟩ := h.shapeN
  obtain ⟨i0, hi, hz0, hz1, hz2⟩ := info_parts kindE.elem
  rw [strip_length, ← hn] at hl
  have HN := Lib.hid hn
  have HH := Lib.hid hh
  have HT := Lib.hid hT
  have HI := Lib.hid hi; have HZ0 := Lib.hid hz0; have HZ1 := Lib.hid hz1; have HZ2 := Lib.hid hz2
  clear hn h hh hT hi hz0 hz1 hz2
  go_enter Tryz.func40, Tryz.ntmps40
  go_wp2_with (at_make; refine wpList_make_own _ rfl _ _ 24 rfl w.heap.size 37 i0 (.agg #[.slice none 0 0, .int .i64 0]) 2 Tryz.underlying24 HI.out HZ0.out HZ1.out _ _ _ n rfl rfl rfl (by rw [HZ2.out]; omega) (by unfold maxLen; omega) (Nat.le_refl _) ?_)
  intro w1 hown hgrow
  have HO := Lib.hid (show TabO w.heap.size w1 (.slice (some ⟨w.heap.size, 0, none⟩) 0 n) [] from ⟨hown, by simp, by simp⟩)
  have HB := Lib.hid ((Below.refl w.heap.size w).grown hgrow (Nat.le_refl _) (fun g hg => by cases hg))
  clear hown hgrow HI HZ0 HZ1 HZ2
  go_wp2
  go_loopw [3, 11] (fun u i wr => ∃ k : Nat, k ≤ n ∧ i = .int .i64 k ∧ ∃ M : List Ent, Hid (M.length = k) ∧ Hid (strip M = (strip L).take k) ∧ Hid (TabO w.heap.size wr u M) ∧ Hid (Below w.heap.size w wr)) (fun _ i _ => n - (intOf i).toNat)
  case atStart => exact ⟨0, Nat.zero_le _, rfl, [], Lib.hid rfl, Lib.hid (by simp [strip]), HO, HB⟩
  case round =>
    obtain ⟨k, hk, rfl, M, hM, hst, ho, hb⟩ := hrel
    obtain ⟨xu, nu, cu, rfl, -, -, ho⟩ := ho.out.shapeN
    have ho := Lib.hid ho
    by_cases hlt : k < n
    · have hlen := HN.out
      obtain ⟨b, off, rfl, hc, hd, hnm⟩ := (HH.out.on hb.out).at (k := k) (by omega)
      have HL := Lib.hid (smT_psl HT.out (k := k) (by omega))
      have hal := ((Below.refl wr.heap.size wr).alloc (Nat.le_refl _) (.cells #[.slice (nth L k).ad (nth L k).n (nth L k).cap, .int .i64 (nth L k).val] 37)).drew
      have HOd := Lib.hid (ho.out.on hal)
      have HNM := Lib.hid (hnm.on hal)
      have HBd := Lib.hid (hb.out.trans (hal.mono hb.out.size))
      have hq1 : (wr.alloc (.cells #[.slice (nth L k).ad (nth L k).n (nth L k).cap, .int .i64 (nth L k).val] 37)).drew.cell? ⟨wr.heap.size, 1, none⟩ = some (.int .i64 (nth L k).val) := by
        rw [show (wr.alloc (.cells #[.slice (nth L k).ad (nth L k).n (nth L k).cap, .int .i64 (nth L k).val] 37)).drew.cell? ⟨wr.heap.size, 1, none⟩ = (wr.alloc (.cells #[.slice (nth L k).ad (nth L k).n (nth L k).cap, .int .i64 (nth L k).val] 37)).cell? ⟨wr.heap.size, 1, none⟩ from rfl, World.cell?_alloc_at _ _ _ _ rfl]; rfl
      have HLM := Lib.hid (show (M.length + 1) * 32 ≤ 140737488355328 by have := hM.out; omega)
      have HLX := Lib.hid (show M.length + 1 ≤ maxLen by have := hM.out; unfold maxLen; omega)
      have HKL := Lib.hid (show k < L.length by omega)
      clear hlen hnm hal
      go_wp2_with fail
      go_region_law (first | (refine step_appK kindE (B := w.heap.size) (l := M) (m := [⟨x3, n3, c3, (nth L k).ps, (nth L k).val⟩]) rfl _ _ (by rfl) Tryz.underlying24 (by rfl) (by rfl) HOA.out (holdsK_one szE 37 w3 ⟨x3, n3, c3, (nth L k).ps, (nth L k).val⟩) HLM.out HLX.out hB3 ?_; intro v4 w4 ho4 hg4; obtain ⟨x4, n4, c4, rfl, -, -, ho4⟩ := ho4.shapeN; have HQ := Lib.hid (TabO.grow HOd.out HBd.out HBd.out.size HB3.out HO3.out ho4 hg4); clear ho4 hg4) | (go_simp; go_at_call 71; refine (cloneName _ (nth L k).ps _ HNM.out HL.out).mono ?_; rintro e w3 ⟨v3, rfl, ho3, hb3⟩; obtain ⟨x3, n3, c3, rfl, -, -, ho3⟩ := ho3.shapeN; have HO3 := Lib.hid (show Own 9 Value.string _ w3 (Ent.v ⟨x3, n3, c3, (nth L k).ps, (nth L k).val⟩) (nth L k).ps from ho3); have HB3 := Lib.hid hb3; have hq3 : w3.cell? ⟨wr.heap.size, 1, none⟩ = some (.int .i64 (nth L k).val) := (hb3.cell (cell_lt hq1)).trans hq1; have HOA := Lib.hid ((HOd.out.1.on hb3).on ((Below.refl _ _).alloc (Nat.le_refl _) (.cells #[.slice x3 n3 c3, .int .i64 (nth L k).val] 37))); have hB3 : w.heap.size ≤ (w3.alloc (.cells #[.slice x3 n3 c3, .int .i64 (nth L k).val] 37)).heap.size := (by have := Nat.le_trans HBd.out.size hb3.size; simp; omega); clear ho3 hb3))
      all_goals
        have HST := Lib.hid (strip_next (x := ⟨x3, n3, c3, (nth L k).ps, (nth L k).val⟩) HKL.out hst.out rfl)
        clear hq3 hc hd
        go_wp2_with fail
        go_roundw
        case rel => exact ⟨k + 1, by omega, by go_num, _, Lib.hid (by simp [hM.out]), HST, Lib.hid HQ.out.1, Lib.hid HQ.out.2⟩
        case measure => simp [intOf]; omega
    · obtain rfl : k = n := by omega
      clear hlt
      go_wp2
      go_ret
      refine ⟨_, rfl, ⟨M, ?_, ho.out⟩, hb.out⟩
      rw [hst.out, List.take_of_length_le (by rw [strip_length, ← HN.out]; exact Nat.le_refl _)]


theorem ownK_some {α : Type} {enc : α → List Value} {e : TypeId} {sz B : Nat} {w : World} {v : Value} {l : List α} (h : OwnK e enc sz B w v l) (hl : l ≠ []) : v.ownBlock ≠ none := by
  rcases h.form with ⟨_, h0⟩ | ⟨g, cap, rfl, _⟩
  · exact absurd h0 hl
  · simp [Value.ownBlock]
set_option maxHeartbeats 4000000 in
theorem l9CopyB (v : Value) (T : List (List ByteArray × Int)) (w : World) (h : TabHolds w v T) (hl : T.length ≤ 4000000) (hT : smT T) :
    Calls Tryz.prog 42 #[v] w fun e w' => ∃ v, e = .returned v ∧ TabOwn w.heap.size w' v T ∧ Below w.heap.size w w' ∧ v.ownBlock ≠ none := by
  obtain ⟨L, rfl, h⟩ := h
  obtain ⟨x, n, cx, rfl, hn, hcx, hh⟩ := h.shapeN
  rw [strip_length, ← hn] at hl
  have HN := Lib.hid hn
  have HH := Lib.hid hh
  have HT := Lib.hid hT
  have HO := Lib.hid (TabO.empty w)
  have HB := Lib.hid ((Below.refl w.heap.size w).alloc (Nat.le_refl _) (.cells #[] 37))
  clear hn h hh hT
  go_enter Tryz.func42, Tryz.ntmps42
  go_wp2
  go_loopw [3, 4] (fun u i wr => ∃ k : Nat, k ≤ n ∧ i = .int .i64 k ∧ ∃ M : List Ent, Hid (M.length = k) ∧ Hid (strip M = (strip L).take k) ∧ Hid (TabO w.heap.size wr u M) ∧ Hid (Below w.heap.size w wr) ∧ Hid (u.ownBlock ≠ none)) (fun _ i _ => n - (intOf i).toNat)
  case atStart => exact ⟨0, Nat.zero_le _, rfl, [], Lib.hid rfl, Lib.hid (by simp [strip]), HO, HB, Lib.hid (by simp [Value.ownBlock])⟩
  case round =>
    obtain ⟨k, hk, rfl, M, hM, hst, ho, hb, hob⟩ := hrel
    obtain ⟨xu, nu, cu, rfl, -, -, ho⟩ := ho.out.shapeN
    have ho := Lib.hid ho
    by_cases hlt : k < n
    · have hlen := HN.out
      obtain ⟨b, off, rfl, hc, hd, hnm⟩ := (HH.out.on hb.out).at (k := k) (by omega)
      have HL := Lib.hid (smT_psl HT.out (k := k) (by omega))
      have HNM := Lib.hid hnm
      have HLM := Lib.hid (show (M.length + 1) * 32 ≤ 140737488355328 by have := hM.out; omega)
      have HLX := Lib.hid (show M.length + 1 ≤ maxLen by have := hM.out; unfold maxLen; omega)
      have HKL := Lib.hid (show k < L.length by omega)
      clear hlen hnm
      go_wp2_with fail
      refine (l4Copy _ (nth L k).ps _ HNM.out (Nat.le_trans HL.out (by decide))).mono ?_
      rintro e w3 ⟨v3, rfl, ho3, hb3⟩
      obtain ⟨x3, n3, c3, rfl, -, -, ho3⟩ := ho3.shapeN
      have ha := (Below.refl w3.heap.size w3).alloc (Nat.le_refl _) (.cells #[.slice x3 n3 c3] 27)
      have hq0 : ((w3.alloc (.cells #[.slice x3 n3 c3] 27))).cell? ⟨w3.heap.size, 0, none⟩ = some (.slice x3 n3 c3) := Ret.cell_at rfl
      have hq1 : ((w3.alloc (.cells #[.slice x3 n3 c3] 27))).cell? ⟨b, off + k * 2 + 1, none⟩ = some (.int .i64 (nth L k).val) := (ha.cell (Nat.lt_of_lt_of_le (cell_lt hd) hb3.size)).trans ((hb3.cell (cell_lt hd)).trans hd)
      have hq0d : ((w3.alloc (.cells #[.slice x3 n3 c3] 27))).drew.cell? ⟨w3.heap.size, 0, none⟩ = some (.slice x3 n3 c3) := hq0
      have hq1d : ((w3.alloc (.cells #[.slice x3 n3 c3] 27))).drew.cell? ⟨b, off + k * 2 + 1, none⟩ = some (.int .i64 (nth L k).val) := hq1
      have HO3 := Lib.hid (show Own 9 Value.string wr.heap.size ((w3.alloc (.cells #[.slice x3 n3 c3] 27)).drew) (Ent.v ⟨x3, n3, c3, (nth L k).ps, (nth L k).val⟩) (nth L k).ps from (ho3.on ha).on (Below.refl _ _).drew)
      have hbd := ((hb3.trans (ha.mono hb3.size))).drew
      have HB3 := Lib.hid hbd
      have HOA := Lib.hid ((ho.out.1.on hbd).on ((Below.refl _ _).alloc (Nat.le_refl _) (.cells #[.slice x3 n3 c3, .int .i64 (nth L k).val] 37)))
      have hB3 : w.heap.size ≤ (((w3.alloc (.cells #[.slice x3 n3 c3] 27)).drew).alloc (.cells #[.slice x3 n3 c3, .int .i64 (nth L k).val] 37)).heap.size := by have := Nat.le_trans hb.out.size hbd.size; rw [World.size_alloc]; omega
      have hs1 := holdsK_one szE 37 ((w3.alloc (.cells #[.slice x3 n3 c3] 27)).drew) ⟨x3, n3, c3, (nth L k).ps, (nth L k).val⟩
      rw [show ((w3.alloc (.cells #[.slice x3 n3 c3] 27)).drew).heap.size = w3.heap.size + 1 by simp] at hs1
      have HS1 := Lib.hid hs1
      clear hc hd ho3 hb3 ha hbd hs1
      go_wp2_with fail
      go_region_law (refine step_appK kindE (B := w.heap.size) (l := M) (m := [⟨x3, n3, c3, (nth L k).ps, (nth L k).val⟩]) rfl _ _ (by rfl) Tryz.underlying24 (by rfl) (by rfl) HOA.out HS1.out HLM.out HLX.out hB3 ?_; intro v4 w4 ho4 hg4; obtain ⟨x4, n4, c4, rfl, -, -, ho4⟩ := ho4.shapeN; have HQ := Lib.hid (TabO.grow ho.out hb.out hb.out.size HB3.out HO3.out ho4 hg4); clear ho4 hg4)
      all_goals
        have HST := Lib.hid (strip_next (x := ⟨x3, n3, c3, (nth L k).ps, (nth L k).val⟩) HKL.out hst.out rfl)
        clear hq0 hq1 hq0d hq1d
        go_wp2_with fail
        go_roundw
        case rel => exact ⟨k + 1, by omega, by go_num, _, Lib.hid (by simp [hM.out]), HST, Lib.hid HQ.out.1, Lib.hid HQ.out.2, Lib.hid (ownK_some HQ.out.1.1 (by simp))⟩
        case measure => simp [intOf]; omega
    · obtain rfl : k = n := by omega
      clear hlt
      go_wp2
      go_ret
      refine ⟨_, rfl, ⟨M, ?_, ho.out⟩, hb.out, hob.out⟩
      rw [hst.out, List.take_of_length_le (by rw [strip_length, ← HN.out]; exact Nat.le_refl _)]

theorem l9Copy (v : Value) (T : List (List ByteArray × Int)) (w : World) (h : TabHolds w v T) (hl : T.length ≤ 4000000) (hT : smT T) :
    Calls Tryz.prog 42 #[v] w (GivesT w T) :=
  (l9CopyB v T w h hl hT).mono fun e w' ⟨v', h1, h2, h3, _⟩ => ⟨v', h1, h2, h3⟩

end Go.Proofs.YtnblopilgfdjkaaGreat.Row.Ring
/- Contracts of the model's search for a key. No conditions but that lengths fit. -/
namespace Go.Proofs.YtnblopilgfdjkaaGreat.Row.Ring
open Go.ChangeShapes Go.WideShapes Go.ChangeAt Go.RowKit Go.Instr
set_option linter.unusedVariables false
set_option maxRecDepth 100000

/-- The place of the first entry of which p is true; -1 if there is none. -/
def ixT (p : List ByteArray × Int → Bool) (T : List (List ByteArray × Int)) : Int := if T.findIdx p < T.length then (T.findIdx p : Int) else -1
def noP (p : List ByteArray × Int → Bool) (T : List (List ByteArray × Int)) (i : Nat) : Prop := ∀ j, j < i → p (nth T j) = false
section
variable {p : List ByteArray × Int → Bool} {T : List (List ByteArray × Int)} {i : Nat}
theorem noP_zero (p : List ByteArray × Int → Bool) (T : List (List ByteArray × Int)) : noP p T 0 := fun j h => absurd h (by omega)
theorem noP_succ (h : noP p T i) (hc : p (nth T i) = false) : noP p T (i + 1) := fun j h1 => by
  by_cases e : j = i
  · subst e; exact hc
  · exact h j (by omega)
theorem fp_at (hi : i < T.length) (h : noP p T i) (hc : p (nth T i) = true) : T.findIdx p = i := by
  rw [List.findIdx_eq hi]
  exact ⟨by rw [← nth_eq hi]; exact hc, fun j hj => by rw [← nth_eq (Nat.lt_trans hj hi)]; exact h j hj⟩
theorem fp_none (h : noP p T T.length) : T.findIdx p = T.length := by
  rw [List.findIdx_eq_length]
  intro x hx
  obtain ⟨j, hj, rfl⟩ := List.getElem_of_mem hx
  rw [← nth_eq hj]; exact h j hj
theorem ixT_at (hi : i < T.length) (h : noP p T i) (hc : p (nth T i) = true) : ixT p T = i := by
  unfold ixT; rw [fp_at hi h hc, if_pos hi]
theorem ixT_none (h : noP p T T.length) : ixT p T = -1 := by
  unfold ixT; rw [fp_none h, if_neg (by omega)]
/-- There is none, or there is a place. -/
theorem ixT_cases (p : List ByteArray × Int → Bool) (T : List (List ByteArray × Int)) : (ixT p T = -1 ∧ T.findIdx p = T.length ∧ noP p T T.length) ∨ ∃ i, i < T.length ∧ ixT p T = (i : Int) ∧ T.findIdx p = i ∧ p (nth T i) = true ∧ noP p T i := by
  by_cases h : T.findIdx p < T.length
  · refine Or.inr ⟨T.findIdx p, h, by unfold ixT; rw [if_pos h], rfl, ?_, ?_⟩
    · rw [nth_eq h]; exact List.findIdx_getElem
    · intro j hj
      rw [nth_eq (Nat.lt_trans hj h)]
      have := List.not_of_lt_findIdx hj
      simpa using this
  · have e : T.findIdx p = T.length := Nat.le_antisymm List.findIdx_le_length (by omega)
    refine Or.inl ⟨by unfold ixT; rw [if_neg h], e, fun j hj => ?_⟩
    rw [nth_eq hj]
    have := List.not_of_lt_findIdx (p := p) (xs := T) (i := j) (by omega)
    simpa using this
end
/-- The entry has this name. -/
def isN (n : List ByteArray) (x : List ByteArray × Int) : Bool := eqB x.1 n
def lkN (T : List (List ByteArray × Int)) (n : List ByteArray) : Int := if T.findIdx (isN n) < T.length then (nth T (T.findIdx (isN n))).2 else 0
set_option maxHeartbeats 2000000 in
theorem l9Find (v u : Value) (T : List (List ByteArray × Int)) (m : List ByteArray) (w : World) (h : TabHolds w v T) (g : Holds Value.string w u m) (hl : T.length ≤ 100000000) (hT : smT T) (hm : m.length ≤ 9000000) :
    Calls Tryz.prog 49 #[v, .agg #[u]] w fun e w' => e = .returned (.int .i64 (ixT (isN m) T)) ∧ Below w.heap.size w w' := by
  obtain ⟨L, rfl, h⟩ := h
  obtain ⟨x, n, cx, rfl, hn, hcx, hh⟩ := h.shapeN
  obtain ⟨y, q, cy, rfl, -, hcy, hg⟩ := g.shapeN
  rw [strip_length, ← hn] at hl
  have HB0 := Lib.hid ((Below.refl w.heap.size w).alloc (Nat.le_refl _) (.cells #[.slice y q cy] 27))
  have HC0 := Lib.hid (Ret.Box.new w (.slice y q cy) 27)
  have HN := Lib.hid hn
  have HH := Lib.hid (hh.on HB0.out)
  have HG := Lib.hid (hg.on HB0.out)
  have HT := Lib.hid hT
  clear hn h hh hT g hg
  go_enter Tryz.func49, Tryz.ntmps49
  go_wp2
  go_loopw [5] (fun i wr => ∃ k : Nat, k ≤ n ∧ i = .int .i64 k ∧ Hid (noP (isN m) (strip L) k) ∧ Hid (Below (w.alloc (.cells #[.slice y q cy] 27)).heap.size (w.alloc (.cells #[.slice y q cy] 27)) wr)) (fun i _ => n - (intOf i).toNat)
  case atStart => exact ⟨0, Nat.zero_le _, rfl, Lib.hid (noP_zero _ _), Lib.hid (Below.refl _ _)⟩
  case round =>
    obtain ⟨k, hk, rfl, ha, hb⟩ := hrel
    by_cases hlt : k < n
    · have hlen := HN.out
      obtain ⟨b, off, rfl, hc, hd, hnm⟩ := (HH.out.on hb.out).at (k := k) (by omega)
      have HL := Lib.hid (smT_psl HT.out (k := k) (by omega))
      have HE := Lib.hid (strip_nth (L := L) (k := k) (by omega))
      have hc0 := (HC0.out.on hb.out).cell
      have HNM := Lib.hid (hnm.on (Below.refl wr.heap.size wr).drew)
      have HGM := Lib.hid ((HG.out.on hb.out).on (Below.refl wr.heap.size wr).drew)
      have hk0 : (0 : Int) ≤ (k : Int) := by omega
      have hk1 : (k : Int) < (n : Int) := by omega
      have KS := Lib.hid (show wr.drew.cell? ⟨b, off + k * 2, none⟩ = some (.slice (nth L k).ad (nth L k).n (nth L k).cap) ∧ wr.drew.cell? ⟨w.heap.size, 0, none⟩ = some (.slice y q cy) ∧ Below (w.alloc (.cells #[.slice y q cy] 27)).heap.size (w.alloc (.cells #[.slice y q cy] 27)) wr.drew from ⟨hc, hc0, hb.out.drew⟩)
      by_cases he : isN m (nth L k).t = true
      · have HEQ := Lib.hid (show eqB (nth L k).ps m = true from he)
        have HA := Lib.hid (ixT_at (T := strip L) (by rw [strip_length]; omega) ha.out (by rw [HE.out]; exact he))
        clear hlen he hnm hc hd hc0
        go_wp2_with fail
        go_region_held3 (fun w' => w'.cell? ⟨b, off + k * 2, none⟩ = some (.slice (nth L k).ad (nth L k).n (nth L k).cap) ∧ w'.cell? ⟨w.heap.size, 0, none⟩ = some (.slice y q cy) ∧ Below (w.alloc (.cells #[.slice y q cy] 27)).heap.size (w.alloc (.cells #[.slice y q cy] 27)) w') (first | exact KS.out | exact keepN2 KS.out hb1) ((go_at_call 77; refine (sEqV true HEQ.out HNM.out HGM.out HL.out hm).mono ?_; rintro e w1 ⟨rfl, hb1⟩))
        all_goals
          have HB3 := Lib.hid (keepN2 KS.out hb1).2.2
          clear hb1
          go_wp2_with fail
          go_ret
          exact ⟨ret_int HA.out.symm, HB0.out.trans (HB3.out.mono (by simp))⟩
      · have he : isN m (nth L k).t = false := by simpa using he
        have HEQ := Lib.hid (show eqB (nth L k).ps m = false from he)
        have HA := Lib.hid (noP_succ ha.out (by rw [HE.out]; exact he))
        clear hlen he hnm hc hd hc0
        go_wp2_with fail
        go_region_held3 (fun w' => w'.cell? ⟨b, off + k * 2, none⟩ = some (.slice (nth L k).ad (nth L k).n (nth L k).cap) ∧ w'.cell? ⟨w.heap.size, 0, none⟩ = some (.slice y q cy) ∧ Below (w.alloc (.cells #[.slice y q cy] 27)).heap.size (w.alloc (.cells #[.slice y q cy] 27)) w') (first | exact KS.out | exact keepN2 KS.out hb1) ((go_at_call 77; refine (sEqV false HEQ.out HNM.out HGM.out HL.out hm).mono ?_; rintro e w1 ⟨rfl, hb1⟩))
        all_goals
          have HB3 := Lib.hid (keepN2 KS.out hb1).2.2
          clear hb1
          go_wp2_with fail
          go_roundw
          case rel => exact ⟨k + 1, by omega, by go_num, HA, HB3⟩
          case measure => simp [intOf]; omega
    · obtain rfl : k = n := by omega
      have HV := Lib.hid (ixT_none (T := strip L) (p := isN m) (by rw [strip_length, ← HN.out]; exact ha.out))
      clear hlt
      go_wp2
      go_ret
      exact ⟨ret_int HV.out.symm, HB0.out.trans (hb.out.mono (by simp))⟩

end Go.Proofs.YtnblopilgfdjkaaGreat.Row.Ring
