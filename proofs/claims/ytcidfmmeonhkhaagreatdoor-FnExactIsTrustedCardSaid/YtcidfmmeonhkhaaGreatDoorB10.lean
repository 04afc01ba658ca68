/- Contracts and mathematics, joined: Ring, RingLaw, RingMark, RingOpen, Part, Valid, AppP, RingV, Clone, RingCopy, RingFind, Want, Gives, Conv, VarMath. No conditions but those that each states. -/
import Derived.Test.YtcidfmmeonhkhaaGreatDoorB2
import Derived.Deep.Slices
import Derived.Deep.Strs
import Derived.ChangeSame
import Derived.ChangeArms
import Derived.Test.YtcidfmmeonhkhaaGreatDoorB1
import Derived.Laws.RangeAny
import Derived.Deep.RegionLaw
import Derived.Test.YtcidfmmeonhkhaaGreatDoorB3
import Derived.LoopTactic
import Derived.Lib.ConvBytes
import Derived.Laws.BitsLemmas
import Derived.Laws.Bits128
/- Lists of keys (slices of a name and a number each) in memory: a slice that holds a list of entries, each of which holds its name; one whose blocks are all the call's own and all differ. No conditions. -/
namespace Go.Proofs.YtcidfmmeonhkhaaGreatDoor.Row.Ring
open Go.ChangeShapes Go.WideShapes Go.ChangeAt Go.RowKit Go.Instr
set_option linter.unusedVariables false
set_option maxRecDepth 100000

/-- An entry as it lies in memory: where its name's parts lie, what they are, and its number. -/
structure Ent where
  ad : Option Addr
  n : Nat
  cap : Nat
  ps : List ByteArray
  val : Int
instance : Inhabited Ent := ⟨⟨none, 0, 0, [], 0⟩⟩
def Ent.v (x : Ent) : Value := .slice x.ad x.n x.cap
/-- An entry as it is read. -/
def Ent.t (x : Ent) : List ByteArray × Int := (x.ps, x.val)
def Ent.whole (x : Ent) : Value := .agg #[x.v, .int .i64 x.val]
def strip (L : List Ent) : List (List ByteArray × Int) := L.map Ent.t
theorem strip_length (L : List Ent) : (strip L).length = L.length := by simp [strip]
theorem strip_nth {L : List Ent} {k : Nat} (h : k < L.length) : nth (strip L) k = (nth L k).t := by simp [strip, nth, List.getD, h]
theorem strip_take (L : List Ent) (k : Nat) : strip (L.take k) = (strip L).take k := by simp [strip, List.map_take]
theorem strip_mem {L : List Ent} {x : Ent} (h : x ∈ L) : x.t ∈ strip L := List.mem_map_of_mem h
def encE (x : Ent) : List Value := [x.v, .int .i64 x.val]
theorem szE : Sz encE 2 := fun _ => rfl
/-- v is a slice of the entries L, whose names are there. -/
def TabH (w : World) (v : Value) (L : List Ent) : Prop := HoldsK encE 2 w v L ∧ ∀ x ∈ L, Holds Value.string w x.v x.ps
/-- v is a slice of the entries L, all of whose blocks are from B on, and no two the same. -/
def TabO (B : Nat) (w : World) (v : Value) (L : List Ent) : Prop := OwnK 156 encE 2 B w v L ∧ (∀ x ∈ L, Own 9 Value.string B w x.v x.ps) ∧ L.Pairwise (fun a b => Apart a.v b.v)
section
variable {B : Nat} {w w' : World} {v : Value} {L : List Ent}
theorem TabO.holds (h : TabO B w v L) : TabH w v L := ⟨h.1.holds, fun x hx => (h.2.1 x hx).holds⟩
theorem TabH.on (h : TabH w v L) (hb : Below w.heap.size w w') : TabH w' v L := ⟨h.1.on hb, fun x hx => (h.2 x hx).on hb⟩
theorem TabO.on (h : TabO B w v L) (hb : Below w.heap.size w w') : TabO B w' v L := ⟨h.1.on hb, fun x hx => (h.2.1 x hx).on hb, h.2.2⟩
theorem TabO.mono (h : TabO B w v L) {B' : Nat} (hB : B' ≤ B) : TabO B' w v L := ⟨h.1.mono hB, fun x hx => (h.2.1 x hx).mono hB, h.2.2⟩
theorem TabO.nil (B : Nat) (w : World) : TabO B w (.slice none 0 0) [] := ⟨OwnK.nil _ _ _ _ _, by simp, by simp⟩
theorem TabO.empty (w : World) : TabO w.heap.size (w.alloc (.cells #[] 156)) (.slice (some ⟨w.heap.size, 0, none⟩) 0 0) [] := ⟨ownK_empty _ _ _ _, by simp, by simp⟩
theorem TabH.nil (w : World) : TabH w (.slice none 0 0) [] := ⟨HoldsK.nil _ _ _, by simp⟩
theorem TabH.shapeN (h : TabH w v L) : ∃ x n cap, v = .slice x n cap ∧ n = L.length ∧ n ≤ cap ∧ TabH w (.slice x n cap) L := by
  obtain ⟨x, n, cap, rfl, hn, hc, ho⟩ := h.1.shapeN
  exact ⟨x, n, cap, rfl, hn, hc, ho, h.2⟩
theorem TabO.shapeN (h : TabO B w v L) : ∃ x n cap, v = .slice x n cap ∧ n = L.length ∧ n ≤ cap ∧ TabO B w (.slice x n cap) L := by
  obtain ⟨x, n, cap, rfl, hn, hc, ho⟩ := h.1.shapeN
  exact ⟨x, n, cap, rfl, hn, hc, ho, h.2⟩
/-- Entry k's two cells, and its name. -/
theorem TabH.at {x : Option Addr} {n cap : Nat} (h : TabH w (.slice x n cap) L) {k : Nat} (hk : k < L.length) :
    ∃ b off, x = some ⟨b, off, none⟩ ∧ w.cell? ⟨b, off + k * 2, none⟩ = some (.slice (nth L k).ad (nth L k).n (nth L k).cap) ∧ w.cell? ⟨b, off + k * 2 + 1, none⟩ = some (.int .i64 (nth L k).val) ∧ Holds Value.string w (.slice (nth L k).ad (nth L k).n (nth L k).cap) (nth L k).ps := by
  obtain ⟨b, off, hx, hc⟩ := h.1.at szE hk
  exact ⟨b, off, hx, by have := hc 0 (by decide); simpa [encE, Ent.v] using this, by have := hc 1 (by decide); simpa [encE, Nat.add_assoc] using this, h.2 _ (nth_mem hk)⟩
theorem TabO.cells {g n cap : Nat} (h : TabO B w (.slice (some ⟨g, 0, none⟩) n cap) L) (hn : n = L.length) {k : Nat} (hk : k < L.length) :
    (w.cell? ⟨g, k * 2, none⟩ = some (.slice (nth L k).ad (nth L k).n (nth L k).cap) ∧ w.frozen? ⟨g, k * 2, none⟩ = false) ∧ (w.cell? ⟨g, k * 2 + 1, none⟩ = some (.int .i64 (nth L k).val) ∧ w.frozen? ⟨g, k * 2 + 1, none⟩ = false) ∧ Own 9 Value.string B w (.slice (nth L k).ad (nth L k).n (nth L k).cap) (nth L k).ps :=
  ⟨by simpa [encE, Ent.v] using ownK_cell szE h.1 hn hk (i := 0) (by decide), by simpa [encE] using ownK_cell szE h.1 hn hk (i := 1) (by decide), h.2.1 _ (nth_mem hk)⟩
/-- A slice of strings and a slice of entries never share a block. -/
theorem name_row {u : Value} {ps : List ByteArray} {B' : Nat} (h : Own 9 Value.string B w u ps) (g : OwnK 156 encE 2 B' w v L) : Apart u v := by
  intro k h1 h2
  rcases h.2 with ⟨rfl, _⟩ | ⟨b, cap, cur, rfl, _, hb, _⟩
  · cases h1
  · rcases g.2 with ⟨rfl, _⟩ | ⟨b', cap', cur', rfl, _, hb', _⟩
    · cases h2
    · have e1 : b = k := by simpa [Value.ownBlock] using h1
      have e2 : b' = k := by simpa [Value.ownBlock] using h2
      rw [e1] at hb; rw [e2, hb] at hb'
      cases hb'
/-- What writes into the entries' own row alone leaves the names. -/
theorem TabO.names (h : TabO B w v L) (hg : w.grownBy w' v.ownBlock) : ∀ x ∈ L, Own 9 Value.string B w' x.v x.ps := fun x hx => (h.2.1 x hx).grown hg (apart_or (name_row (h.2.1 x hx) h.1))
theorem TabO.row (h : TabO B w v L) {v' : Value} {L' : List Ent} (ho : OwnK 156 encE 2 B w' v' L') (hg : w.grownBy w' v.ownBlock) (hm : ∀ x ∈ L', ∃ y ∈ L, x.v = y.v ∧ x.ps = y.ps) (hp : L'.Pairwise (fun a b => Apart a.v b.v)) : TabO B w' v' L' := by
  refine ⟨ho, fun x hx => ?_, hp⟩
  obtain ⟨y, hy, e1, e2⟩ := hm x hx
  rw [e1, e2]
  exact h.names hg y hy
theorem TabO.lt (h : TabO B w v L) : (∀ g, v.ownBlock = some g → B ≤ g ∧ g < w.heap.size) ∧ ∀ x ∈ L, ∀ g, x.v.ownBlock = some g → B ≤ g ∧ g < w.heap.size := ⟨h.1.lt, fun x hx => (h.2.1 x hx).lt⟩
/-- One entry more. -/
theorem TabO.push (h : TabO B w v L) {x : Ent} (hx : Own 9 Value.string B w x.v x.ps) (hap : ∀ y ∈ L, Apart y.v x.v) {v' : Value} (ho : OwnK 156 encE 2 B w' v' (L ++ [x])) (hg : w.grownBy w' v.ownBlock) : TabO B w' v' (L ++ [x]) := by
  refine ⟨ho, fun y hy => ?_, ?_⟩
  · rcases List.mem_append.1 hy with hy | hy
    · exact h.names hg y hy
    · rw [List.mem_singleton.1 hy]; exact hx.grown hg (apart_or (name_row hx h.1))
  · rw [List.pairwise_append]
    exact ⟨h.2.2, by simp, fun a ha b hb => by rw [List.mem_singleton.1 hb]; exact hap a ha⟩
theorem TabO.len (h : TabO B w v L) : L.length ≤ maxLen := h.1.len
end

/-! ### as they are read -/
def TabHolds (w : World) (v : Value) (T : List (List ByteArray × Int)) : Prop := ∃ L, strip L = T ∧ TabH w v L
def TabOwn (B : Nat) (w : World) (v : Value) (T : List (List ByteArray × Int)) : Prop := ∃ L, strip L = T ∧ TabO B w v L
def TabIn (B E : Nat) (w : World) (v : Value) (T : List (List ByteArray × Int)) : Prop := ∃ L, strip L = T ∧ TabO B w v L ∧ (∀ g, v.ownBlock = some g → g < E) ∧ ∀ x ∈ L, ∀ g, x.v.ownBlock = some g → g < E
section
variable {B E B' E' : Nat} {w w' : World} {v : Value} {l : List ByteArray} {T : List (List ByteArray × Int)}
theorem TabIn.of (h : TabOwn B w v T) : TabIn B w.heap.size w v T := by
  obtain ⟨L, e, h⟩ := h
  exact ⟨L, e, h, fun g hg => (h.lt.1 g hg).2, fun x hx g hg => (h.lt.2 x hx g hg).2⟩
theorem TabIn.on (h : TabIn B E w v T) (hb : Below w.heap.size w w') : TabIn B E w' v T := by
  obtain ⟨L, e, h, h1, h2⟩ := h
  exact ⟨L, e, h.on hb, h1, h2⟩
theorem TabIn.own (h : TabIn B E w v T) : TabOwn B w v T := by
  obtain ⟨L, e, h, -, -⟩ := h
  exact ⟨L, e, h⟩
theorem TabOwn.holds (h : TabOwn B w v T) : TabHolds w v T := by
  obtain ⟨L, e, h⟩ := h
  exact ⟨L, e, h.holds⟩
theorem TabIn.holds (h : TabIn B E w v T) : TabHolds w v T := h.own.holds
theorem TabOwn.mono (h : TabOwn B w v T) (hB : B' ≤ B) : TabOwn B' w v T := by
  obtain ⟨L, e, h⟩ := h
  exact ⟨L, e, h.mono hB⟩
theorem TabOwn.on (h : TabOwn B w v T) (hb : Below w.heap.size w w') : TabOwn B w' v T := by
  obtain ⟨L, e, h⟩ := h
  exact ⟨L, e, h.on hb⟩
theorem TabHolds.on (h : TabHolds w v T) (hb : Below w.heap.size w w') : TabHolds w' v T := by
  obtain ⟨L, e, h⟩ := h
  exact ⟨L, e, h.on hb⟩
theorem TabHolds.shapeN (h : TabHolds w v T) : ∃ x n cap, v = .slice x n cap ∧ n = T.length ∧ n ≤ cap ∧ TabHolds w (.slice x n cap) T := by
  obtain ⟨L, e, h⟩ := h
  obtain ⟨x, n, cap, rfl, hn, hc, ho⟩ := h.shapeN
  exact ⟨x, n, cap, rfl, by rw [hn, ← e, strip_length], hc, L, e, ho⟩
theorem TabOwn.shapeN (h : TabOwn B w v T) : ∃ x n cap, v = .slice x n cap ∧ n = T.length ∧ n ≤ cap ∧ TabOwn B w (.slice x n cap) T := by
  obtain ⟨L, e, h⟩ := h
  obtain ⟨x, n, cap, rfl, hn, hc, ho⟩ := h.shapeN
  exact ⟨x, n, cap, rfl, by rw [hn, ← e, strip_length], hc, L, e, ho⟩
end
end Go.Proofs.YtcidfmmeonhkhaaGreatDoor.Row.Ring
/- Contracts of the helpers by which the laws measure, copy, compare, mark and look at lists of keys. No conditions but that lengths fit. -/
namespace Go.Proofs.YtcidfmmeonhkhaaGreatDoor.Row.Ring
open Go.ChangeShapes Go.WideShapes Go.ChangeAt Go.RowKit Go.Instr
set_option linter.unusedVariables false
set_option maxRecDepth 100000

/-- Length and sizes of a table together, up to place k. -/
def bulkTTo (l : List (List ByteArray × Int)) (k : Nat) : Nat := l.length + ((l.take k).map (fun x => bulk x.1)).sum
def bulkT (l : List (List ByteArray × Int)) : Nat := bulkTTo l l.length
theorem bulkTTo_succ (l : List (List ByteArray × Int)) {k : Nat} (h : k < l.length) : bulkTTo l (k + 1) = bulkTTo l k + bulk (nth l k).1 := by
  unfold bulkTTo
  rw [List.take_succ_eq_append_getElem h, nth_eq h, List.map_append, List.sum_append]
  simp only [List.map_cons, List.map_nil, List.sum_cons, List.sum_nil]
  omega
theorem bulkTTo_le (l : List (List ByteArray × Int)) (k : Nat) : bulkTTo l k ≤ bulkT l := by
  unfold bulkT bulkTTo
  have := sum_take_le (l.map (fun x => bulk x.1)) k
  rw [List.take_length, List.map_take]; omega
theorem bulkT_len (l : List (List ByteArray × Int)) : l.length ≤ bulkT l := by unfold bulkT bulkTTo; omega
theorem bulkT_mem {l : List (List ByteArray × Int)} {x : List ByteArray × Int} (h : x ∈ l) : bulk x.1 ≤ bulkT l := by
  obtain ⟨k, hk, rfl⟩ := List.getElem_of_mem h
  have h1 := bulkTTo_succ l hk
  have h2 := bulkTTo_le l (k + 1)
  rw [nth_eq hk] at h1
  omega
def szLT (l : List (List ByteArray × Int)) (left : Int) : Int := if (bulkT l : Int) ≤ left then left - bulkT l else -1
/-! ### a table's copy -/
theorem pairwise_set {α : Type} {R : α → α → Prop} {x : α} : ∀ {L : List α} (k : Nat), L.Pairwise R → (∀ y ∈ L, R y x ∧ R x y) → (L.set k x).Pairwise R
  | [], _, _, _ => by simp
  | a :: r, 0, h, g => by
    rw [List.set_cons_zero, List.pairwise_cons]
    rw [List.pairwise_cons] at h
    exact ⟨fun y hy => (g y (by simp [hy])).2, h.2⟩
  | a :: r, k + 1, h, g => by
    rw [List.set_cons_succ, List.pairwise_cons]
    rw [List.pairwise_cons] at h
    refine ⟨fun y hy => ?_, pairwise_set k h.2 (fun y hy => g y (by simp [hy]))⟩
    rcases List.mem_or_eq_of_mem_set hy with hy | hy
    · exact h.1 y hy
    · rw [hy]; exact (g a (by simp)).1
theorem ent_store {B : Nat} {w : World} {g n cap : Nat} {L : List Ent} (h : OwnK 156 encE 2 B w (.slice (some ⟨g, 0, none⟩) n cap) L) (hn : n = L.length) {k : Nat} (hk : k < L.length) (x : Ent) :
    OwnK 156 encE 2 B ((w.setCell ⟨g, k * 2, none⟩ x.v).setCell ⟨g, k * 2 + 1, none⟩ (.int .i64 x.val)) (.slice (some ⟨g, 0, none⟩) n cap) (L.set k x) ∧ w.grownBy ((w.setCell ⟨g, k * 2, none⟩ x.v).setCell ⟨g, k * 2 + 1, none⟩ (.int .i64 x.val)) (some g) := by
  obtain ⟨a1, a2⟩ := ownK_store szE h hn hk (i := 0) (by decide) (y := ⟨x.ad, x.n, x.cap, x.ps, (nth L k).val⟩) (u := x.v) rfl
  obtain ⟨b1, b2⟩ := ownK_store szE a1 (by simpa using hn) (j := k) (by simpa using hk) (i := 1) (by decide) (y := x) (u := .int .i64 x.val) (by rw [nth_set hk]; rfl)
  rw [List.set_set] at b1
  exact ⟨b1, Go.World.grownBy.trans a2 b2⟩
/-- An entry of its own is stored. -/
theorem TabO.put {B : Nat} {w : World} {g n cap : Nat} {L : List Ent} (h : TabO B w (.slice (some ⟨g, 0, none⟩) n cap) L) (hn : n = L.length) {k : Nat} (hk : k < L.length) {x : Ent} (hx : Own 9 Value.string B w x.v x.ps) (hap : ∀ y ∈ L, Apart y.v x.v) :
    TabO B ((w.setCell ⟨g, k * 2, none⟩ x.v).setCell ⟨g, k * 2 + 1, none⟩ (.int .i64 x.val)) (.slice (some ⟨g, 0, none⟩) n cap) (L.set k x) ∧ w.grownBy ((w.setCell ⟨g, k * 2, none⟩ x.v).setCell ⟨g, k * 2 + 1, none⟩ (.int .i64 x.val)) (some g) := by
  obtain ⟨a1, a2⟩ := ent_store h.1 hn hk x
  refine ⟨⟨a1, fun y hy => ?_, pairwise_set k h.2.2 (fun y hy => ⟨hap y hy, (hap y hy).symm⟩)⟩, a2⟩
  rcases List.mem_or_eq_of_mem_set hy with hy | hy
  · exact h.names a2 y hy
  · rw [hy]; exact hx.grown a2 (apart_or (name_row hx h.1))
/-- The list behind j stores of a copy: j entries made, the others empty. -/
def madeTo (M : List Ent) (n : Nat) : List Ent := M ++ List.replicate (n - M.length) default
/-- All names have parts few and small enough for the contracts. -/
def smT (T : List (List ByteArray × Int)) : Prop := ∀ t ∈ T, bulk t.1 ≤ 9000000
theorem smT_of {T : List (List ByteArray × Int)} (h : bulkT T ≤ 9000000) : smT T := fun t ht => Nat.le_trans (bulkT_mem ht) h
theorem smT_ps {L : List Ent} (h : smT (strip L)) {k : Nat} (hk : k < L.length) : bulk (nth L k).ps ≤ 9000000 := h _ (strip_mem (nth_mem hk))
theorem smT_psl {L : List Ent} (h : smT (strip L)) {k : Nat} (hk : k < L.length) : (nth L k).ps.length ≤ 9000000 := Nat.le_trans (bulk_len _) (smT_ps h hk)
def eqT (l m : List (List ByteArray × Int)) : Bool := decide (l = m)
/-- All names are of lengths for the contracts. -/
def lnT (T : List (List ByteArray × Int)) : Prop := ∀ t ∈ T, t.1.length ≤ 9000000
end Go.Proofs.YtcidfmmeonhkhaaGreatDoor.Row.Ring
/- Contracts of the helpers by which the laws mark tables and look at the marks. No conditions but that lengths fit. -/
namespace Go.Proofs.YtcidfmmeonhkhaaGreatDoor.Row.Ring
open Go.ChangeShapes Go.WideShapes Go.ChangeAt Go.RowKit Go.Instr
set_option linter.unusedVariables false
set_option maxRecDepth 100000

/-- How many numbers a marking takes: one a part, one an entry. -/
def adv : List (List ByteArray × Int) → Nat
  | [] => 0
  | x :: r => x.1.length + 1 + adv r
/-- A table as a marking from k on leaves it. -/
def markTb (k : Int) : List (List ByteArray × Int) → List (List ByteArray × Int)
  | [] => []
  | x :: r => (marks markT k x.1.length, k + x.1.length) :: markTb (k + x.1.length + 1) r
def Ent.setPs (x : Ent) (ps : List ByteArray) : Ent := ⟨x.ad, x.n, x.cap, ps, x.val⟩
def Ent.setVal (x : Ent) (a : Int) : Ent := ⟨x.ad, x.n, x.cap, x.ps, a⟩
/-- An entry as it lies, marked. -/
def Ent.marked (x : Ent) (k : Int) : Ent := ⟨x.ad, x.n, x.cap, marks markT k x.ps.length, k + x.ps.length⟩

end Go.Proofs.YtcidfmmeonhkhaaGreatDoor.Row.Ring
/- What the exact laws on tables use besides the contracts: a table that came in as an argument; equal ones compared; marks in a range of blocks. No conditions. -/
namespace Go.Proofs.YtcidfmmeonhkhaaGreatDoor.Row.Ring
open Go.ChangeShapes Go.WideShapes Go.ChangeAt Go.RowKit Go.Instr
set_option linter.unusedVariables false
set_option maxRecDepth 100000

end Go.Proofs.YtcidfmmeonhkhaaGreatDoor.Row.Ring
/- Contracts of ValidPart and ValidName, the program's and the reference model's: a part is right where its size is 1 to 8 and each byte is a small letter, a digit or a minus; a name where each part is and there are at most 6. No conditions but that lengths fit. -/
namespace Go.Proofs.YtcidfmmeonhkhaaGreatDoor.Row
open Go.ChangeShapes Go.WideShapes Go.ChangeAt Go.RowKit Go.Instr
set_option linter.unusedVariables false
set_option maxRecDepth 100000

def okR (r : Int) : Prop := (97 ≤ r ∧ r ≤ 122) ∨ (48 ≤ r ∧ r ≤ 57) ∨ r = 45
instance (r : Int) : Decidable (okR r) := by unfold okR; infer_instance
def okTo (s : ByteArray) (k : Nat) : Prop := ∀ j (h : j < s.size), j < k → okR ((s[j]'h).toNat : Int)
instance (s : ByteArray) (k : Nat) : Decidable (okTo s k) := by unfold okTo; infer_instance
def validP (s : ByteArray) : Bool := decide (1 ≤ s.size ∧ s.size ≤ 8 ∧ okTo s s.size)
theorem okTo_zero (s : ByteArray) : okTo s 0 := fun j h h2 => absurd h2 (by omega)
theorem okTo_succ {s : ByteArray} {k : Nat} (h : okTo s k) (hk : k < s.size) (hc : okR ((s[k]'hk).toNat : Int)) : okTo s (k + 1) := fun j h1 h2 => by
  by_cases e : j = k
  · subst e; exact hc
  · exact h j h1 (by omega)
theorem validP_true {s : ByteArray} (h1 : 1 ≤ s.size) (h2 : s.size ≤ 8) (h : okTo s s.size) : validP s = true := by simp [validP, h1, h2, h]
theorem validP_size {s : ByteArray} (h : ¬ (1 ≤ s.size ∧ s.size ≤ 8)) : validP s = false := by
  unfold validP; exact decide_eq_false (fun e => h ⟨e.1, e.2.1⟩)
theorem validP_byte {s : ByteArray} {k : Nat} (hk : k < s.size) (hc : ¬ okR ((s[k]'hk).toNat : Int)) : validP s = false := by
  unfold validP; exact decide_eq_false (fun e => hc (e.2.2 k hk hk))
theorem validP_iff {s : ByteArray} : validP s = true ↔ 1 ≤ s.size ∧ s.size ≤ 8 ∧ okTo s s.size := by unfold validP; exact decide_eq_true_iff

theorem rune_ok {s : ByteArray} {pos : Nat} (h : pos < s.size) (hr : okR ((Utf8.decode s pos).1 : Int)) : okR ((s[pos]'h).toNat : Int) ∧ (Utf8.decode s pos).2 = 1 := by
  by_cases ha : (s[pos]'h).toNat < 128
  · rw [decode_ascii s pos h ha] at hr ⊢
    exact ⟨hr, rfl⟩
  · have := (decode_high s pos h (by omega)).1
    unfold okR at hr; omega
theorem rune_not {s : ByteArray} {pos : Nat} (h : pos < s.size) (hr : ¬ okR ((Utf8.decode s pos).1 : Int)) : ¬ okR ((s[pos]'h).toNat : Int) := by
  by_cases ha : (s[pos]'h).toNat < 128
  · rwa [decode_ascii s pos h ha] at hr
  · unfold okR; omega

set_option maxHeartbeats 1000000 in
theorem isPartRune (r : Int) (w : World) : Calls Tryz.prog 212 #[.int .i32 r] w fun e w' => e = .returned (.bool (decide (okR r))) ∧ w = w' := by
  have HT := fun (h : okR r) => (decide_eq_true h).symm
  have HF := fun (h : ¬ okR r) => (decide_eq_false h).symm
  have HT := Lib.hid HT; have HF := Lib.hid HF
  by_cases h1 : 97 ≤ r ∧ r ≤ 122
  · obtain ⟨h1a, h1b⟩ := h1
    go_enter Tryz.func212, Tryz.ntmps212
    go_wp2
    go_ret
    exact ⟨ret_bool (HT.out (by unfold okR; omega)), rfl⟩
  · by_cases h2 : 48 ≤ r ∧ r ≤ 57
    · obtain ⟨h2a, h2b⟩ := h2
      have h1a : ¬ 97 ≤ r := by omega
      go_enter Tryz.func212, Tryz.ntmps212
      go_wp2
      go_ret
      exact ⟨ret_bool (HT.out (by unfold okR; omega)), rfl⟩
    · by_cases h3 : r = 45
      · subst h3
        go_enter Tryz.func212, Tryz.ntmps212
        go_wp2
        go_ret
        exact ⟨ret_bool (HT.out (by unfold okR; omega)), rfl⟩
      · have HF2 := Lib.hid (HF.out (by unfold okR; omega))
        have h3b : (r == 45) = false := by simpa using h3
        clear h3 HF HT
        by_cases h1a : 97 ≤ r
        · have h1b : ¬ r ≤ 122 := by omega
          have h2b : ¬ r ≤ 57 := by omega
          clear h1 h2
          go_enter Tryz.func212, Tryz.ntmps212
          go_wp2
          go_ret
          exact ⟨ret_bool HF2.out, rfl⟩
        · clear h1
          by_cases h2a : 48 ≤ r
          · have h2b : ¬ r ≤ 57 := by omega
            clear h2
            go_enter Tryz.func212, Tryz.ntmps212
            go_wp2
            go_ret
            exact ⟨ret_bool HF2.out, rfl⟩
          · clear h2
            go_enter Tryz.func212, Tryz.ntmps212
            go_wp2
            go_ret
            exact ⟨ret_bool HF2.out, rfl⟩

set_option maxHeartbeats 1000000 in
theorem implValidPart (s : ByteArray) (w : World) (hl : s.size ≤ 140737488351232) :
    Calls Tryz.prog 189 #[.string s] w fun e w' => e = .returned (.bool (validP s)) ∧ Below w.heap.size w w' := by
  go_enter Tryz.func189, Tryz.ntmps189
  go_wp2
  go_loopw [] (fun w' => ∃ pos : Nat, pos ≤ s.size ∧ w' = w.iter s pos ∧ Hid (okTo s pos)) (fun w' => s.size - w'.iterPos w.heap.size)
  case atStart => exact ⟨0, by omega, rfl, Lib.hid (okTo_zero s)⟩
  case round =>
    obtain ⟨pos, hpl, rfl, ho⟩ := hrel
    by_cases hp : pos < s.size
    · have hnx : ∀ ty, (Instr.next (.pointer (some ⟨w.heap.size, 0, none⟩)) true ty).run Tryz.prog (w.iter s pos) = _ := fun ty => run_next_any w s pos ty hp
      by_cases hr : okR ((Utf8.decode s pos).1 : Int)
      · obtain ⟨h1, h2⟩ := rune_ok hp hr
        have HO := Lib.hid (okTo_succ ho.out hp h1)
        have HR := Lib.hid (decide_eq_true hr)
        rw [h2] at hnx
        clear hr h1 h2
        go_wp2_with fail
        refine (isPartRune _ _).mono ?_
        rintro e w2 ⟨rfl, rfl⟩
        rw [HR.out]
        go_wp2
        go_roundw
        case rel => exact ⟨pos + 1, by omega, rfl, HO⟩
        case measure => simp; omega
      · have HV := Lib.hid (validP_byte hp (rune_not hp hr))
        have HR := Lib.hid (decide_eq_false hr)
        clear hr
        go_wp2_with fail
        refine (isPartRune _ _).mono ?_
        rintro e w2 ⟨rfl, rfl⟩
        rw [HR.out]
        go_wp2
        go_ret
        exact ⟨ret_bool HV.out.symm, (Below.refl _ _).alloc (Nat.le_refl _) _⟩
    · obtain rfl : pos = s.size := by omega
      have hnx : ∀ ty, (Instr.next (.pointer (some ⟨w.heap.size, 0, none⟩)) true ty).run Tryz.prog (w.iter s s.size) = _ := fun ty => run_next_end w s s.size ty hp
      go_wp2_with fail
      refine (Num.implInRange _ _ _ _).mono ?_
      rintro e w2 ⟨rfl, rfl⟩
      go_wp2
      go_ret
      refine ⟨ret_bool ?_, (Below.refl _ _).alloc (Nat.le_refl _) _⟩
      have := ho.out
      simp only [Num.inB, validP, this, and_true]
      congr 1
      apply propext
      omega

set_option maxHeartbeats 1000000 in
theorem specValidPart (s : ByteArray) (w : World) (hl : s.size ≤ 140737488351232) :
    Calls Tryz.prog 190 #[.string s] w fun e w' => e = .returned (.bool (validP s)) ∧ w = w' := by
  by_cases hsz : 1 ≤ s.size ∧ s.size ≤ 8
  · obtain ⟨hs1, hs8⟩ := hsz
    go_enter Tryz.func190, Tryz.ntmps190
    go_wp2_with fail
    refine (Num.specIn_true (by omega) (by omega) _).mono ?_
    rintro e w2 ⟨rfl, rfl⟩
    go_wp2
    go_loop [3] (fun iv => ∃ k : Nat, k ≤ s.size ∧ iv = .int .i64 k ∧ Hid (okTo s k)) (fun iv => s.size - (intOf iv).toNat)
    case atStart => exact ⟨0, by omega, rfl, Lib.hid (okTo_zero s)⟩
    case round =>
      obtain ⟨k, hk, rfl, ho⟩ := hrel
      by_cases hlt : k < s.size
      · have hb := (s[k]'hlt).toNat_lt
        have hb0 : (0 : Int) ≤ ((s[k]'hlt).toNat : Int) := by omega
        have hb1 : ((s[k]'hlt).toNat : Int) ≤ 255 := by omega
        have HOK := Lib.hid (fun hc => okTo_succ ho.out hlt hc)
        have HNO := Lib.hid (fun hc => validP_byte hlt hc)
        clear hb
        go_wp2_with fail
        by_cases h1 : 97 ≤ ((s[k]'hlt).toNat : Int) ∧ ((s[k]'hlt).toNat : Int) ≤ 122
        · refine (Num.specIn_true h1.1 h1.2 _).mono ?_
          rintro e w2 ⟨rfl, rfl⟩
          have HO2 := Lib.hid (HOK.out (by unfold okR; omega))
          clear HOK HNO h1
          go_wp2
          go_round
          case rel => exact ⟨k + 1, by omega, by go_num, HO2⟩
          case measure => simp [intOf]; omega
        · refine (Num.specIn_false h1 _).mono ?_
          rintro e w2 ⟨rfl, rfl⟩
          go_wp2_with fail
          by_cases h2 : 48 ≤ ((s[k]'hlt).toNat : Int) ∧ ((s[k]'hlt).toNat : Int) ≤ 57
          · refine (Num.specIn_true h2.1 h2.2 _).mono ?_
            rintro e w2 ⟨rfl, rfl⟩
            have HO2 := Lib.hid (HOK.out (by unfold okR; omega))
            clear HOK HNO h1 h2
            go_wp2
            go_round
            case rel => exact ⟨k + 1, by omega, by go_num, HO2⟩
            case measure => simp [intOf]; omega
          · refine (Num.specIn_false h2 _).mono ?_
            rintro e w2 ⟨rfl, rfl⟩
            by_cases h3 : (s[k]'hlt).toNat = 45
            · have h3b : (((s[k]'hlt).toNat : Int) != 45) = false := by simp [h3]
              have HO2 := Lib.hid (HOK.out (by unfold okR; omega))
              clear HOK HNO h1 h2
              go_wp2
              go_round
              case rel => exact ⟨k + 1, by omega, by go_num, HO2⟩
              case measure => simp [intOf]; omega
            · have h3b : (((s[k]'hlt).toNat : Int) != 45) = true := by simp; omega
              have HV := Lib.hid (HNO.out (by unfold okR; omega))
              clear HOK HNO h1 h2 h3
              go_wp2
              go_ret
              exact ⟨ret_bool HV.out.symm, rfl⟩
      · obtain rfl : k = s.size := by omega
        have HV := Lib.hid (validP_true hs1 hs8 ho.out)
        go_wp2
        go_ret
        exact ⟨ret_bool HV.out.symm, rfl⟩
  · have HV := Lib.hid (validP_size hsz)
    go_enter Tryz.func190, Tryz.ntmps190
    go_wp2_with fail
    refine (Num.specIn_false (by omega) _).mono ?_
    rintro e w2 ⟨rfl, rfl⟩
    go_wp2
    go_ret
    exact ⟨ret_bool HV.out.symm, rfl⟩

end Go.Proofs.YtcidfmmeonhkhaaGreatDoor.Row
/- Contracts of ValidName, the program's and the reference model's: a name is right where each part is and there are at most 6. No conditions but that lengths fit. -/
namespace Go.Proofs.YtcidfmmeonhkhaaGreatDoor.Row
open Go.ChangeShapes Go.WideShapes Go.ChangeAt Go.RowKit Go.Instr
set_option linter.unusedVariables false
set_option maxRecDepth 100000

def validN (l : List ByteArray) : Bool := decide (l.length ≤ 6 ∧ ∀ x ∈ l, validP x = true)
def allV (l : List ByteArray) (k : Nat) : Prop := ∀ j, j < k → validP (nth l j) = true
theorem allV_zero (l : List ByteArray) : allV l 0 := fun j h => absurd h (by omega)
theorem allV_succ {l : List ByteArray} {k : Nat} (h : allV l k) (hc : validP (nth l k) = true) : allV l (k + 1) := fun j h1 => by
  by_cases e : j = k
  · subst e; exact hc
  · exact h j (by omega)
theorem validN_not {l : List ByteArray} {k : Nat} (hk : k < l.length) (hc : validP (nth l k) = false) : validN l = false := by
  unfold validN
  refine decide_eq_false (fun e => ?_)
  have := e.2 (nth l k) (by rw [nth_eq hk]; exact List.getElem_mem _)
  rw [hc] at this; cases this
theorem validN_all {l : List ByteArray} (h : allV l l.length) : validN l = decide (l.length ≤ 6) := by
  have : ∀ x ∈ l, validP x = true := by
    intro x hx
    obtain ⟨j, hj, rfl⟩ := List.getElem_of_mem hx
    have := h j hj
    rwa [nth_eq hj] at this
  unfold validN
  congr 1
  exact propext ⟨fun e => e.1, fun e => ⟨e, this⟩⟩
theorem validN_iff {l : List ByteArray} : validN l = true ↔ l.length ≤ 6 ∧ ∀ x ∈ l, validP x = true := by unfold validN; exact decide_eq_true_iff
theorem size_nth {l : List ByteArray} {m : Nat} (h : bulk l ≤ m) {k : Nat} (hk : k < l.length) : (nth l k).size ≤ m := by
  have h1 := bulkTo_succ l hk
  have h2 := bulkTo_le l (k + 1)
  omega

set_option maxHeartbeats 1000000 in
theorem implValidName (v : Value) (l : List ByteArray) (w : World) (h : Holds Value.string w v l) (hl : bulk l ≤ 100000000) :
    Calls Tryz.prog 133 #[.agg #[v]] w fun e w' => e = .returned (.bool (validN l)) ∧ Below w.heap.size w w' := by
  obtain ⟨x, cap, rfl, hcap, hh⟩ := h.shape
  have hll := bigLen hl
  have HS := Lib.hid (fun k (hk : k < l.length) => size_nth hl hk)
  obtain ⟨n, hn⟩ : ∃ n, n = l.length := ⟨_, rfl⟩
  rw [← hn] at hcap hh hll ⊢
  have HN := Lib.hid hn
  have HH := Lib.hid hh
  have HB0 := Lib.hid ((Below.refl w.heap.size w).alloc (Nat.le_refl _) (.cells #[.slice x n cap] 32))
  have HC0 := Lib.hid (Ret.cell_at (w := w) (u := .slice x n cap) (t := 32) (n := w.heap.size) rfl)
  clear hn h hh hl
  go_enter Tryz.func133, Tryz.ntmps133
  go_wp2_with fail
  go_loopw [8] (fun i wr => ∃ k : Nat, k ≤ n ∧ i = .int .i64 k ∧ Hid (allV l k) ∧ Hid (Below w.heap.size w wr) ∧ Hid (wr.cell? ⟨w.heap.size, 0, none⟩ = some (.slice x n cap))) (fun i _ => n - (intOf i).toNat)
  case atStart => exact ⟨0, Nat.zero_le _, rfl, Lib.hid (allV_zero _), HB0, HC0⟩
  case round =>
    obtain ⟨k, hk, rfl, ha, hb, hc0⟩ := hrel
    by_cases hlt : k < n
    · have hlen := HN.out
      obtain ⟨b, off, rfl, hc⟩ := (HH.out.on hb.out).at (j := k) (by omega)
      have hsz := HS.out k (by omega)
      clear hlen
      go_wp2_with fail
      refine (implValidPart _ _ (by omega)).mono ?_
      rintro e w2 ⟨rfl, hb2⟩
      have HB2 := Lib.hid (hb.out.trans (hb2.mono hb.out.size))
      have HC2 := Lib.hid ((hb2.cell (cell_lt hc0.out)).trans hc0.out)
      clear hb2 hc
      by_cases hv : validP (nth l k) = true
      · rw [hv]
        have HA2 := Lib.hid (allV_succ ha.out hv)
        clear hv
        go_wp2
        go_roundw
        case rel => exact ⟨k + 1, by omega, by go_num, HA2, HB2, HC2⟩
        case measure => simp [intOf]; omega
      · have hv2 : validP (nth l k) = false := by simpa using hv
        rw [hv2]
        have HV := Lib.hid (validN_not (by have := HN.out; omega) hv2)
        clear hv hv2
        go_wp2
        go_ret
        exact ⟨ret_bool HV.out.symm, HB2.out⟩
    · obtain rfl : k = n := by omega
      have HV := Lib.hid (validN_all (HN.out ▸ ha.out))
      have hc0 := hc0.out
      clear hlt
      go_wp2
      go_ret
      refine ⟨ret_bool ?_, hb.out⟩
      rw [HV.out, ← HN.out]
      simp
      omega

set_option maxHeartbeats 1000000 in
theorem specValidName (v : Value) (l : List ByteArray) (w : World) (h : Holds Value.string w v l) (hl : bulk l ≤ 100000000) :
    Calls Tryz.prog 135 #[.agg #[v]] w fun e w' => e = .returned (.bool (validN l)) ∧ Below w.heap.size w w' := by
  obtain ⟨x, cap, rfl, hcap, hh⟩ := h.shape
  have hll := bigLen hl
  have HS := Lib.hid (fun k (hk : k < l.length) => size_nth hl hk)
  obtain ⟨n, hn⟩ : ∃ n, n = l.length := ⟨_, rfl⟩
  rw [← hn] at hcap hh hll ⊢
  have HN := Lib.hid hn
  have HH := Lib.hid hh
  have HB0 := Lib.hid ((Below.refl w.heap.size w).alloc (Nat.le_refl _) (.cells #[.slice x n cap] 32))
  have HC0 := Lib.hid (Ret.cell_at (w := w) (u := .slice x n cap) (t := 32) (n := w.heap.size) rfl)
  clear hn h hh hl
  go_enter Tryz.func135, Tryz.ntmps135
  go_wp2_with fail
  go_loopw [3] (fun i wr => ∃ k : Nat, k ≤ n ∧ i = .int .i64 k ∧ Hid (allV l k) ∧ Hid (Below w.heap.size w wr) ∧ Hid (wr.cell? ⟨w.heap.size, 0, none⟩ = some (.slice x n cap))) (fun i _ => n - (intOf i).toNat)
  case atStart => exact ⟨0, Nat.zero_le _, rfl, Lib.hid (allV_zero _), HB0, HC0⟩
  case round =>
    obtain ⟨k, hk, rfl, ha, hb, hc0⟩ := hrel
    by_cases hlt : k < n
    · have hlen := HN.out
      obtain ⟨b, off, rfl, hc⟩ := (HH.out.on hb.out).at (j := k) (by omega)
      have hsz := HS.out k (by omega)
      have hc1 := hc0.out
      clear hlen
      go_wp2_with fail
      refine (specValidPart _ _ (by omega)).mono ?_
      rintro e w2 ⟨rfl, rfl⟩
      clear hc
      by_cases hv : validP (nth l k) = true
      · rw [hv]
        have HA2 := Lib.hid (allV_succ ha.out hv)
        clear hv
        go_wp2
        go_roundw
        case rel => exact ⟨k + 1, by omega, by go_num, HA2, hb, hc0⟩
        case measure => simp [intOf]; omega
      · have hv2 : validP (nth l k) = false := by simpa using hv
        rw [hv2]
        have HV := Lib.hid (validN_not (by have := HN.out; omega) hv2)
        clear hv hv2
        go_wp2
        go_ret
        exact ⟨ret_bool HV.out.symm, hb.out⟩
    · obtain rfl : k = n := by omega
      have HV := Lib.hid (validN_all (HN.out ▸ ha.out))
      have hc0 := hc0.out
      clear hlt
      go_wp2
      go_ret
      refine ⟨ret_bool ?_, hb.out⟩
      rw [HV.out, ← HN.out]
      simp
      omega

end Go.Proofs.YtcidfmmeonhkhaaGreatDoor.Row
/- Contracts of AppendPart, the program's and the reference model's. No conditions but that lengths fit. -/
namespace Go.Proofs.YtcidfmmeonhkhaaGreatDoor.Row
open Go.ChangeShapes Go.WideShapes Go.ChangeAt Go.RowKit Go.Instr
set_option linter.unusedVariables false
set_option maxRecDepth 100000

theorem bulk_append (l m : List ByteArray) : bulk (l ++ m) = bulk l + bulk m := by
  unfold bulk bulkTo
  rw [List.take_length, List.take_length, List.take_length, List.map_append, List.sum_append, List.length_append]
  omega
theorem bulk_one (s : ByteArray) : bulk [s] = 1 + s.size := by simp [bulk, bulkTo]
theorem bulk_cons (x : ByteArray) (l : List ByteArray) : bulk (x :: l) = 1 + x.size + bulk l := by
  have := bulk_append [x] l
  rw [bulk_one] at this
  exact this
def appN (l : List ByteArray) (s : ByteArray) : List ByteArray := if validN (l ++ [s]) = true then l ++ [s] else l
def vs2 (a b : Value) (j : Nat) : Value := if j = 0 then a else b
def ls2 (a b : List ByteArray) (j : Nat) : List ByteArray := if j = 0 then a else b
set_option maxHeartbeats 1000000 in
theorem l4Copy (v : Value) (l : List ByteArray) (w : World) (h : Holds Value.string w v l) (hl : l.length ≤ 10000000) :
    Calls Tryz.prog 53 #[.agg #[v]] w (GivesN w l) := by
  obtain ⟨x, n, cap, rfl, hn, hcap, hh⟩ := h.shapeN
  rw [← hn] at hl
  have HB0 := Lib.hid ((((Below.refl w.heap.size w).alloc (Nat.le_refl _) (.cells #[.slice x n cap] 32)).alloc (by simp) (.cells #[.slice none 0 0] 32)).alloc (by simp; omega) (.cells #[] 9))
  have HN := Lib.hid hn
  have HT2 := Lib.hid (hh.on HB0.out)
  have HO := Lib.hid (own_empty Value.string 9 ((w.alloc (.cells #[.slice x n cap] 32)).alloc (.cells #[.slice none 0 0] 32)))
  simp only [World.size_alloc] at HO
  have HR := Lib.hid ((Ret.NC.new' (.slice none 0 0) 32 (w := w.alloc (.cells #[.slice x n cap] 32)) (n := w.heap.size + 1) (by simp)).alloc (.cells #[] 9))
  clear hh h hn
  go_enter Tryz.func53, Tryz.ntmps53
  go_wp2_with (at_builtin; refine wpList_app (enc := Value.string) (B := w.heap.size + 1 + 1) (l := []) (m := l) rfl _ _ rfl Tryz.underlying30 elemSTR rfl rfl rfl HO.out HT2.out oneStr (by rw [← HN.out]; simp; omega) (by rw [← HN.out]; unfold maxLen; simp; omega) (by simp) ?_)
  intro v3 w3 ho3 hg3
  obtain ⟨x3, n3, c3, rfl, hn3, hc3, ho3⟩ := ho3.shapeN
  clear hn3
  have HB4 := Lib.hid (HB0.out.grown hg3 (by simp; omega) (fun g hh => by have := (HO.out.lt g hh).1; omega))
  obtain ⟨hk2, hf2⟩ := HR.out.grown hg3 (by simp [Value.ownBlock])
  obtain ⟨q1, q2, q3⟩ := endN (w := w) (g := w.heap.size + 1) (by omega) (by omega) ho3 hk2 HB4.out
  have HQ1 := Lib.hid q1; have HQ2 := Lib.hid q2; have HQ3 := Lib.hid q3
  clear q1 q2 q3 ho3 hg3
  go_wp2
  refine bodyPost_ret (Ret.results_c rfl _ _ (w.heap.size + 1) [_] rfl aggN (Ret.one HQ1.out)) rfl ?_
  exact ⟨_, rfl, HQ2.out, HQ3.out⟩

end Go.Proofs.YtcidfmmeonhkhaaGreatDoor.Row
/- The names' contracts with their answers as letters. No conditions but that lengths fit. -/
namespace Go.Proofs.YtcidfmmeonhkhaaGreatDoor.Row.Ring
open Go.ChangeShapes Go.WideShapes Go.ChangeAt Go.RowKit Go.Instr
set_option linter.unusedVariables false
set_option maxRecDepth 100000
section
variable {v u : Value} {l m : List ByteArray} {w : World}
theorem sEqV (b : Bool) (hb : eqB l m = b) (h : Holds Value.string w v l) (g : Holds Value.string w u m) (hl : l.length ≤ 9000000) (hm : m.length ≤ 9000000) :
    Calls Tryz.prog 70 #[.agg #[v], .agg #[u]] w fun e w' => e = .returned (.bool b) ∧ Below w.heap.size w w' := hb ▸ specEqualNames _ _ l m _ h g (by omega) (by omega)
end
end Go.Proofs.YtcidfmmeonhkhaaGreatDoor.Row.Ring
/- Contract of the program's copy of a name. No conditions but that lengths fit. -/
namespace Go.Proofs.YtcidfmmeonhkhaaGreatDoor.Row
open Go.ChangeShapes Go.WideShapes Go.ChangeAt Go.RowKit Go.Instr
set_option linter.unusedVariables false
set_option maxRecDepth 100000

set_option maxHeartbeats 4000000 in
theorem cloneName (v : Value) (l : List ByteArray) (w : World) (h : Holds Value.string w v l) (hl : l.length ≤ 9000000) :
    Calls Tryz.prog 118 #[.agg #[v]] w (GivesN w l) := by
  obtain ⟨x, n, cap, rfl, hn, hcap, hh⟩ := h.shapeN
  have HB0 := Lib.hid (((Below.refl w.heap.size w).alloc (Nat.le_refl _) (.cells #[.slice x n cap] 32)).alloc (by simp) (.cells #[.slice none 0 0] 32))
  have HH := Lib.hid (hh.on HB0.out)
  have HR := Lib.hid (Ret.NC.new' (.slice none 0 0) 32 (w := w.alloc (.cells #[.slice x n cap] 32)) (n := w.heap.size + 1) (by simp))
  clear hh h hn
  go_enter Tryz.func118, Tryz.ntmps118
  go_wp2_with fail
  refine (cloneS _ l _ HH.out (by omega)).mono ?_
  rintro e w1 ⟨v1, rfl, ho, hb⟩
  obtain ⟨x1, n1, c1, rfl, -, -, ho1⟩ := ho.shapeN
  have HR1 := Lib.hid (HR.out.on hb)
  obtain ⟨hk, hf⟩ := HR1.out
  have HB1 := HB0.out.trans (hb.mono HB0.out.size)
  obtain ⟨q1, q2, q3⟩ := endN (w := w) (g := w.heap.size + 1) (by omega) (by simp) ho1 hk HB1
  have HQ1 := Lib.hid q1; have HQ2 := Lib.hid q2; have HQ3 := Lib.hid q3
  clear q1 q2 q3 ho ho1 hb HB1
  go_wp2
  refine bodyPost_ret (Ret.results_c rfl _ _ (w.heap.size + 1) [_] rfl aggN (Ret.one HQ1.out)) rfl ?_
  exact ⟨_, rfl, HQ2.out, HQ3.out⟩
end Go.Proofs.YtcidfmmeonhkhaaGreatDoor.Row
/- Contracts of the copies of lists of keys, the program's and the model's. No conditions but that lengths fit. -/
namespace Go.Proofs.YtcidfmmeonhkhaaGreatDoor.Row.Ring
open Go.ChangeShapes Go.WideShapes Go.ChangeAt Go.RowKit Go.Instr
set_option linter.unusedVariables false
set_option maxRecDepth 100000

/-- A result that is a table of the call's own. -/
def GivesT (w : World) (T : List (List ByteArray × Int)) (e : Ending) (w' : World) : Prop := ∃ v, e = .returned v ∧ TabOwn w.heap.size w' v T ∧ Below w.heap.size w w'
end Go.Proofs.YtcidfmmeonhkhaaGreatDoor.Row.Ring
/- Contracts of the model's search for a key. No conditions but that lengths fit. -/
namespace Go.Proofs.YtcidfmmeonhkhaaGreatDoor.Row.Ring
open Go.ChangeShapes Go.WideShapes Go.ChangeAt Go.RowKit Go.Instr
set_option linter.unusedVariables false
set_option maxRecDepth 100000

/-- The place of the first entry of which p is true; -1 if there is none. -/
def ixT (p : List ByteArray × Int → Bool) (T : List (List ByteArray × Int)) : Int := if T.findIdx p < T.length then (T.findIdx p : Int) else -1
def noP (p : List ByteArray × Int → Bool) (T : List (List ByteArray × Int)) (i : Nat) : Prop := ∀ j, j < i → p (nth T j) = false
section
variable {p : List ByteArray × Int → Bool} {T : List (List ByteArray × Int)} {i : Nat}
theorem noP_zero (p : List ByteArray × Int → Bool) (T : List (List ByteArray × Int)) : noP p T 0 := fun j h => absurd h (by omega)
theorem noP_succ (h : noP p T i) (hc : p (nth T i) = false) : noP p T (i + 1) := fun j h1 => by
  by_cases e : j = i
  · subst e; exact hc
  · exact h j (by omega)
theorem fp_at (hi : i < T.length) (h : noP p T i) (hc : p (nth T i) = true) : T.findIdx p = i := by
  rw [List.findIdx_eq hi]
  exact ⟨by rw [← nth_eq hi]; exact hc, fun j hj => by rw [← nth_eq (Nat.lt_trans hj hi)]; exact h j hj⟩
theorem fp_none (h : noP p T T.length) : T.findIdx p = T.length := by
  rw [List.findIdx_eq_length]
  intro x hx
  obtain ⟨j, hj, rfl⟩ := List.getElem_of_mem hx
  rw [← nth_eq hj]; exact h j hj
theorem ixT_at (hi : i < T.length) (h : noP p T i) (hc : p (nth T i) = true) : ixT p T = i := by
  unfold ixT; rw [fp_at hi h hc, if_pos hi]
theorem ixT_none (h : noP p T T.length) : ixT p T = -1 := by
  unfold ixT; rw [fp_none h, if_neg (by omega)]
/-- There is none, or there is a place. -/
theorem ixT_cases (p : List ByteArray × Int → Bool) (T : List (List ByteArray × Int)) : (ixT p T = -1 ∧ T.findIdx p = T.length ∧ noP p T T.length) ∨ ∃ i, i < T.length ∧ ixT p T = (i : Int) ∧ T.findIdx p = i ∧ p (nth T i) = true ∧ noP p T i := by
  by_cases h : T.findIdx p < T.length
  · refine Or.inr ⟨T.findIdx p, h, by unfold ixT; rw [if_pos h], rfl, ?_, ?_⟩
    · rw [nth_eq h]; exact List.findIdx_getElem
    · intro j hj
      rw [nth_eq (Nat.lt_trans hj h)]
      have := List.not_of_lt_findIdx hj
      simpa using this
  · have e : T.findIdx p = T.length := Nat.le_antisymm List.findIdx_le_length (by omega)
    refine Or.inl ⟨by unfold ixT; rw [if_neg h], e, fun j hj => ?_⟩
    rw [nth_eq hj]
    have := List.not_of_lt_findIdx (p := p) (xs := T) (i := j) (by omega)
    simpa using this
end
/-- The entry has this name. -/
def isN (n : List ByteArray) (x : List ByteArray × Int) : Bool := eqB x.1 n
def lkN (T : List (List ByteArray × Int)) (n : List ByteArray) : Int := if T.findIdx (isN n) < T.length then (nth T (T.findIdx (isN n))).2 else 0
set_option maxHeartbeats 2000000 in
theorem l9Find (v u : Value) (T : List (List ByteArray × Int)) (m : List ByteArray) (w : World) (h : TabHolds w v T) (g : Holds Value.string w u m) (hl : T.length ≤ 100000000) (hT : smT T) (hm : m.length ≤ 9000000) :
    Calls Tryz.prog 79 #[v, .agg #[u]] w fun e w' => e = .returned (.int .i64 (ixT (isN m) T)) ∧ Below w.heap.size w w' := by
  obtain ⟨L, rfl, h⟩ := h
  obtain ⟨x, n, cx, rfl, hn, hcx, hh⟩ := h.shapeN
  obtain ⟨y, q, cy, rfl, -, hcy, hg⟩ := g.shapeN
  rw [strip_length, ← hn] at hl
  have HB0 := Lib.hid ((Below.refl w.heap.size w).alloc (Nat.le_refl _) (.cells #[.slice y q cy] 32))
  have HC0 := Lib.hid (Ret.Box.new w (.slice y q cy) 32)
  have HN := Lib.hid hn
  have HH := Lib.hid (hh.on HB0.out)
  have HG := Lib.hid (hg.on HB0.out)
  have HT := Lib.hid hT
  clear hn h hh hT g hg
  go_enter Tryz.func79, Tryz.ntmps79
  go_wp2
  go_loopw [5] (fun i wr => ∃ k : Nat, k ≤ n ∧ i = .int .i64 k ∧ Hid (noP (isN m) (strip L) k) ∧ Hid (Below (w.alloc (.cells #[.slice y q cy] 32)).heap.size (w.alloc (.cells #[.slice y q cy] 32)) wr)) (fun i _ => n - (intOf i).toNat)
  case atStart => exact ⟨0, Nat.zero_le _, rfl, Lib.hid (noP_zero _ _), Lib.hid (Below.refl _ _)⟩
  case round =>
    obtain ⟨k, hk, rfl, ha, hb⟩ := hrel
    by_cases hlt : k < n
    · have hlen := HN.out
      obtain ⟨b, off, rfl, hc, hd, hnm⟩ := (HH.out.on hb.out).at (k := k) (by omega)
      have HL := Lib.hid (smT_psl HT.out (k := k) (by omega))
      have HE := Lib.hid (strip_nth (L := L) (k := k) (by omega))
      have hc0 := (HC0.out.on hb.out).cell
      have HNM := Lib.hid (hnm.on (Below.refl wr.heap.size wr).drew)
      have HGM := Lib.hid ((HG.out.on hb.out).on (Below.refl wr.heap.size wr).drew)
      have hk0 : (0 : Int) ≤ (k : Int) := by omega
      have hk1 : (k : Int) < (n : Int) := by omega
      have KS := Lib.hid (show wr.drew.cell? ⟨b, off + k * 2, none⟩ = some (.slice (nth L k).ad (nth L k).n (nth L k).cap) ∧ wr.drew.cell? ⟨w.heap.size, 0, none⟩ = some (.slice y q cy) ∧ Below (w.alloc (.cells #[.slice y q cy] 32)).heap.size (w.alloc (.cells #[.slice y q cy] 32)) wr.drew from ⟨hc, hc0, hb.out.drew⟩)
      by_cases he : isN m (nth L k).t = true
      · have HEQ := Lib.hid (show eqB (nth L k).ps m = true from he)
        have HA := Lib.hid (ixT_at (T := strip L) (by rw [strip_length]; omega) ha.out (by rw [HE.out]; exact he))
        clear hlen he hnm hc hd hc0
        go_wp2_with fail
        go_region_held3 (fun w' => w'.cell? ⟨b, off + k * 2, none⟩ = some (.slice (nth L k).ad (nth L k).n (nth L k).cap) ∧ w'.cell? ⟨w.heap.size, 0, none⟩ = some (.slice y q cy) ∧ Below (w.alloc (.cells #[.slice y q cy] 32)).heap.size (w.alloc (.cells #[.slice y q cy] 32)) w') (first | exact KS.out | exact keepN2 KS.out hb1) ((go_at_call 70; refine (sEqV true HEQ.out HNM.out HGM.out HL.out hm).mono ?_; rintro e w1 ⟨rfl, hb1⟩))
        all_goals
          have HB3 := Lib.hid (keepN2 KS.out hb1).2.2
          clear hb1
          go_wp2_with fail
          go_ret
          exact ⟨ret_int HA.out.symm, HB0.out.trans (HB3.out.mono (by simp))⟩
      · have he : isN m (nth L k).t = false := by simpa using he
        have HEQ := Lib.hid (show eqB (nth L k).ps m = false from he)
        have HA := Lib.hid (noP_succ ha.out (by rw [HE.out]; exact he))
        clear hlen he hnm hc hd hc0
        go_wp2_with fail
        go_region_held3 (fun w' => w'.cell? ⟨b, off + k * 2, none⟩ = some (.slice (nth L k).ad (nth L k).n (nth L k).cap) ∧ w'.cell? ⟨w.heap.size, 0, none⟩ = some (.slice y q cy) ∧ Below (w.alloc (.cells #[.slice y q cy] 32)).heap.size (w.alloc (.cells #[.slice y q cy] 32)) w') (first | exact KS.out | exact keepN2 KS.out hb1) ((go_at_call 70; refine (sEqV false HEQ.out HNM.out HGM.out HL.out hm).mono ?_; rintro e w1 ⟨rfl, hb1⟩))
        all_goals
          have HB3 := Lib.hid (keepN2 KS.out hb1).2.2
          clear hb1
          go_wp2_with fail
          go_roundw
          case rel => exact ⟨k + 1, by omega, by go_num, HA, HB3⟩
          case measure => simp [intOf]; omega
    · obtain rfl : k = n := by omega
      have HV := Lib.hid (ixT_none (T := strip L) (p := isN m) (by rw [strip_length, ← HN.out]; exact ha.out))
      clear hlt
      go_wp2
      go_ret
      exact ⟨ret_int HV.out.symm, HB0.out.trans (hb.out.mono (by simp))⟩

end Go.Proofs.YtcidfmmeonhkhaaGreatDoor.Row.Ring
/- Contracts of the helpers by which the laws measure, copy, compare, mark and look at interests (a name and three numbers). No conditions but that lengths fit. -/
namespace Go.Proofs.YtcidfmmeonhkhaaGreatDoor.Row
open Go.ChangeShapes Go.WideShapes Go.ChangeAt Go.RowKit Go.Instr
set_option linter.unusedVariables false
set_option maxRecDepth 100000

/-- An interest's cells. -/
abbrev wc (v : Value) (a b c : Int) : Array Value := #[v, .int .i64 a, .int .i64 b, .int .i64 c]
theorem own_set {α : Type} [Inhabited α] {enc : α → Value} {e : TypeId} {B g i : Nat} {w : World} {v u : Value} {l : List α} (h : Own e enc B w v l) (hg : g < B) : Own e enc B (w.setCell ⟨g, i, none⟩ u) v l := h.grown (Ret.grownBy_set w ⟨g, i, none⟩ u) (nb h hg)
end Go.Proofs.YtcidfmmeonhkhaaGreatDoor.Row
/- What calls leave that give a slice of the call's own; lists of bytes. No conditions. -/
namespace Go.Proofs.YtcidfmmeonhkhaaGreatDoor.Sl
open Go.ChangeShapes Go.WideShapes Go.ChangeAt Go.RowKit Go.Instr
set_option linter.unusedVariables false
set_option maxRecDepth 100000

/-- What a call of a function that returns a slice of the call's own leaves. -/
def GivesB (w : World) (l : List Int) (e : Ending) (w' : World) : Prop := ∃ v, e = .returned v ∧ Own 5 .u8 w.heap.size w' v l ∧ Below w.heap.size w w'
def GivesI (w : World) (l : List Int) (e : Ending) (w' : World) : Prop := ∃ v, e = .returned v ∧ Own 3 .i64 w.heap.size w' v l ∧ Below w.heap.size w w'

theorem GivesB.to {w w' : World} {l m : List Int} {e : Ending} (h : GivesB w l e w') (hl : l = m) : GivesB w m e w' := hl ▸ h

/-- Every element is a byte. -/
def Byt (l : List Int) : Prop := ∀ x ∈ l, 0 ≤ x ∧ x ≤ 255
theorem Byt.at {l : List Int} (h : Byt l) {j : Nat} (hj : j < l.length) : 0 ≤ nth l j ∧ nth l j ≤ 255 := by rw [nth_eq hj]; exact h _ (List.getElem_mem hj)
theorem byt_of_wf {l : List Int} (h : ∀ x ∈ l, (Lit.int .u8 x).wf = true) : Byt l := fun x hx => by
  have e1 : IntKind.u8.min = 0 := rfl
  have e2 : IntKind.u8.max = 255 := rfl
  simpa [Lit.wf, e1, e2] using h x hx
end Go.Proofs.YtcidfmmeonhkhaaGreatDoor.Sl
/- A string turned into a slice of bytes: where they lie, what they are. No conditions. -/
namespace Go.Proofs.YtcidfmmeonhkhaaGreatDoor.Sl
open Go.ChangeShapes Go.WideShapes Go.ChangeAt Go.RowKit Go.Instr
set_option linter.unusedVariables false
set_option maxRecDepth 100000

/-- A string's bytes, as numbers. -/
def bytesOf (t : ByteArray) : List Int := t.data.toList.map fun c => (c.toNat : Int)
theorem bytesOf_length (t : ByteArray) : (bytesOf t).length = t.size := by unfold bytesOf; rw [List.length_map, Array.length_toList]; rfl
theorem bytesOf_byt (t : ByteArray) : Byt (bytesOf t) := fun x hx => by
  unfold bytesOf at hx
  obtain ⟨c, _, rfl⟩ := List.mem_map.1 hx
  have := c.toNat_lt
  omega
theorem bytesOf_nth (t : ByteArray) {j : Nat} (hj : j < t.size) : nth (bytesOf t) j = (t.data.toList.getD j 0).toNat := by
  have h : j < t.data.toList.length := by rw [Array.length_toList]; exact hj
  rw [nth_eq (by rw [bytesOf_length]; exact hj)]
  simp only [bytesOf, List.getElem_map, List.getD, List.getElem?_eq_getElem h, Option.getD_some]

theorem conv_bytes (w : World) (t : ByteArray) :
    ∃ cap w', (convert 9 22 (.string t)).run Tryz.prog w = .ok (.slice (some ⟨w.heap.size, 0, none⟩) t.size cap) w' ∧ Holds .u8 w' (.slice (some ⟨w.heap.size, 0, none⟩) t.size cap) (bytesOf t) ∧ Below w.heap.size w w' := by
  refine ⟨_, _, Lib.run_convert_string_bytes w 9 22 5 t Tryz.underlying9 Tryz.underlying22 Tryz.underlying5, ?_, ?_⟩
  · refine ⟨_, _, by rw [bytesOf_length], by rw [bytesOf_length]; exact grownCap_ge w _ _ _, Or.inr ⟨_, _, rfl, fun j hj => ?_⟩⟩
    rw [bytesOf_length] at hj
    rw [Nat.zero_add, Lib.bytesWorld_cell w _ t j hj, bytesOf_nth t hj]
  · exact ⟨rfl, rfl, rfl, by rw [Lib.bytesWorld_size]; omega, fun k hk => Lib.bytesWorld_at_old w _ t k hk⟩
end Go.Proofs.YtcidfmmeonhkhaaGreatDoor.Sl
/- Plain mathematics of the base-128 encoding, no program in sight: the encoding's bytes, how they are read back, how long they are. No conditions. -/
namespace Go.Proofs.YtcidfmmeonhkhaaGreatDoor.Var

/-- The bytes of a number: groups of seven bits, the least one first, 128 added to all but the last. -/
def enc (n : Nat) : List Int := if h : n < 128 then [(n : Int)] else (((n % 128 : Nat) : Int) + 128) :: enc (n / 128)
  termination_by n
  decreasing_by omega

theorem enc_small {n : Nat} (h : n < 128) : enc n = [(n : Int)] := by rw [enc, dif_pos h]
theorem enc_big {n : Nat} (h : ¬ n < 128) : enc n = (((n % 128 : Nat) : Int) + 128) :: enc (n / 128) := by rw [enc, dif_neg h]
theorem enc_len : ∀ (k n : Nat), n < 128 ^ (k + 1) → (enc n).length ≤ k + 1
  | 0, n, h => by rw [enc_small (by simpa using h)]; simp
  | k + 1, n, h => by
    by_cases hn : n < 128
    · rw [enc_small hn]; simp
    · rw [enc_big hn]
      have := enc_len k (n / 128) (by rw [Nat.pow_succ] at h; omega)
      simp; omega
theorem enc_len6 {n : Nat} (h : n ≤ 1000000000000) : (enc n).length ≤ 6 :=
  enc_len 5 n (by have e : (128 : Nat) ^ (5 + 1) = 4398046511104 := by decide
                  omega)
theorem enc_ne (n : Nat) : enc n ≠ [] := by
  rw [enc]; split <;> simp
theorem enc_pos (n : Nat) : 1 ≤ (enc n).length := by
  have := enc_ne n
  cases h : enc n with
  | nil => exact absurd h this
  | cons _ _ => simp
theorem enc_byte : ∀ (n : Nat), ∀ x ∈ enc n, 0 ≤ x ∧ x ≤ 255 := by
  intro n
  induction n using Nat.strongRecOn with
  | ind n ih =>
    intro x hx
    by_cases h : n < 128
    · rw [enc_small h] at hx
      simp only [List.mem_singleton] at hx
      omega
    · rw [enc_big h] at hx
      rcases List.mem_cons.1 hx with h1 | h1
      · omega
      · exact ih (n / 128) (by omega) x h1

/-- What AppendVarint appends. -/
def var (n : Int) : List Int := if 0 ≤ n ∧ n ≤ 1000000000000 then enc n.toNat else []
theorem var_in {n : Int} (h0 : 0 ≤ n) (h1 : n ≤ 1000000000000) : var n = enc n.toNat := by simp [var, h0, h1]
theorem var_out {n : Int} (h : ¬ (0 ≤ n ∧ n ≤ 1000000000000)) : var n = [] := by simp [var, h]
theorem var_len (n : Int) : (var n).length ≤ 6 := by
  unfold var
  split
  · exact enc_len6 (by omega)
  · simp

/-- One step of the encoding, in the integers of the walk. -/
theorem enc_step {n : Int} (h : 128 ≤ n) : enc n.toNat = (n % 128 + 128) :: enc (n / 128).toNat := by
  rw [enc_big (by omega)]
  congr 1
  · omega
  · congr 1; omega
theorem enc_last {n : Int} (h0 : 0 ≤ n) (h : n < 128) : enc n.toNat = [n] := by
  rw [enc_small (by omega)]
  congr 1; omega

/-- Reading: the groups that are left, how many have been read, what they make. -/
def dec : Nat → List Int → Nat → Int → Option (Int × Nat)
  | 0, _, _, _ => none
  | _ + 1, [], _, _ => none
  | f + 1, x :: r, k, n =>
    if x < 128 then (if (x = 0 ∧ 0 < k) ∨ 1000000000000 < n + x * 128 ^ k then none else some (n + x * 128 ^ k, k + 1))
    else dec f r (k + 1) (n + x % 128 * 128 ^ k)

def okAt (l : List Int) (i : Int) : Prop := 0 ≤ i ∧ i ≤ l.length
def res (i : Int) : Option (Int × Nat) → Int × Int × Bool
  | none => (0, 0, false)
  | some (n, c) => (n, i + c, true)
/-- What ReadVarint returns. -/
def readV (l : List Int) (i : Int) : Int × Int × Bool := if 0 ≤ i ∧ i ≤ l.length then res i (dec 6 (l.drop i.toNat) 0 0) else (0, 0, false)

end Go.Proofs.YtcidfmmeonhkhaaGreatDoor.Var
