/- Contracts of the helpers by which the laws measure, copy, compare, mark and look at slices of bindings (two strings each). No conditions but that lengths fit. -/
import Derived.Test.YtkojeajjappchaaMany
import Derived.Test.YtkojeajjappchaaKeep
namespace Go.Proofs.Ytkojeajjappchaa.Row
open Go.ChangeShapes Go.WideShapes Go.ChangeAt Go.RowKit Go.Instr
set_option linter.unusedVariables false
set_option maxRecDepth 100000

/-- A binding: its letter and its value. -/
def encBd (x : ByteArray × ByteArray) : List Value := [.string x.1, .string x.2]
theorem szBd : Sz encBd 2 := fun _ => rfl
theorem kindBd : Kind Try.prog 92 encBd (.agg #[.string ByteArray.empty, .string ByteArray.empty]) 2 32 where
  elem := by unfold ElemK; kernel_rfl
  zs := rfl
  pos := by decide
  size := szBd
  one := by intro x u hu; simp [encBd] at hu; rcases hu with rfl | rfl <;> rfl
theorem bdAt {w : World} {x : Option Addr} {n cap : Nat} {l : List (ByteArray × ByteArray)} (h : HoldsK encBd 2 w (.slice x n cap) l) {k : Nat} (hk : k < l.length) :
    ∃ b off, x = some ⟨b, off, none⟩ ∧ w.cell? ⟨b, off + k * 2, none⟩ = some (.string (nth l k).1) ∧ w.cell? ⟨b, off + k * 2 + 1, none⟩ = some (.string (nth l k).2) := by
  obtain ⟨b, off, hx, hc⟩ := h.at szBd hk
  exact ⟨b, off, hx, by have := hc 0 (by decide); simpa [encBd] using this, by have := hc 1 (by decide); simpa [encBd, Nat.add_assoc] using this⟩

theorem bdCell {e : TypeId} {B : Nat} {w : World} {g n cap : Nat} {l : List (ByteArray × ByteArray)} (h : OwnK e encBd 2 B w (.slice (some ⟨g, 0, none⟩) n cap) l) (hn : n = l.length) {k : Nat} (hk : k < l.length) :
    (w.cell? ⟨g, k * 2, none⟩ = some (.string (nth l k).1) ∧ w.frozen? ⟨g, k * 2, none⟩ = false) ∧ (w.cell? ⟨g, k * 2 + 1, none⟩ = some (.string (nth l k).2) ∧ w.frozen? ⟨g, k * 2 + 1, none⟩ = false) :=
  ⟨by simpa [encBd] using ownK_cell szBd h hn hk (i := 0) (by decide), by simpa [encBd] using ownK_cell szBd h hn hk (i := 1) (by decide)⟩
theorem bdStore0 {e : TypeId} {B : Nat} {w : World} {g n cap : Nat} {l : List (ByteArray × ByteArray)} (h : OwnK e encBd 2 B w (.slice (some ⟨g, 0, none⟩) n cap) l) (hn : n = l.length) {k : Nat} (hk : k < l.length) (a : ByteArray) :
    OwnK e encBd 2 B (w.setCell ⟨g, k * 2, none⟩ (.string a)) (.slice (some ⟨g, 0, none⟩) n cap) (l.set k (a, (nth l k).2)) ∧ w.grownBy (w.setCell ⟨g, k * 2, none⟩ (.string a)) (some g) := by
  simpa using ownK_store szBd h hn hk (i := 0) (by decide) (y := (a, (nth l k).2)) (u := .string a) rfl
theorem bdStore1 {e : TypeId} {B : Nat} {w : World} {g n cap : Nat} {l : List (ByteArray × ByteArray)} (h : OwnK e encBd 2 B w (.slice (some ⟨g, 0, none⟩) n cap) l) (hn : n = l.length) {k : Nat} (hk : k < l.length) (b : ByteArray) :
    OwnK e encBd 2 B (w.setCell ⟨g, k * 2 + 1, none⟩ (.string b)) (.slice (some ⟨g, 0, none⟩) n cap) (l.set k ((nth l k).1, b)) ∧ w.grownBy (w.setCell ⟨g, k * 2 + 1, none⟩ (.string b)) (some g) :=
  ownK_store szBd h hn hk (i := 1) (by decide) (y := ((nth l k).1, b)) (u := .string b) rfl
theorem bdStore {e : TypeId} {B : Nat} {w : World} {g n cap : Nat} {l : List (ByteArray × ByteArray)} (h : OwnK e encBd 2 B w (.slice (some ⟨g, 0, none⟩) n cap) l) (hn : n = l.length) {k : Nat} (hk : k < l.length) (x : ByteArray × ByteArray) :
    OwnK e encBd 2 B ((w.setCell ⟨g, k * 2, none⟩ (.string x.1)).setCell ⟨g, k * 2 + 1, none⟩ (.string x.2)) (.slice (some ⟨g, 0, none⟩) n cap) (l.set k x) ∧ w.grownBy ((w.setCell ⟨g, k * 2, none⟩ (.string x.1)).setCell ⟨g, k * 2 + 1, none⟩ (.string x.2)) (some g) := by
  obtain ⟨a1, a2⟩ := bdStore0 h hn hk x.1
  obtain ⟨b1, b2⟩ := bdStore1 a1 (by simpa using hn) (k := k) (by simpa using hk) x.2
  rw [nth_set hk, List.set_set] at b1
  exact ⟨b1, Go.World.grownBy.trans a2 b2⟩

/-- Length and sizes of a list of bindings together, up to place k. -/
def bulk2To (l : List (ByteArray × ByteArray)) (k : Nat) : Nat := l.length + ((l.take k).map (fun x => x.1.size + x.2.size)).sum
def bulk2 (l : List (ByteArray × ByteArray)) : Nat := bulk2To l l.length
theorem bulk2To_zero (l : List (ByteArray × ByteArray)) : bulk2To l 0 = l.length := by simp [bulk2To]
theorem bulk2To_succ (l : List (ByteArray × ByteArray)) {k : Nat} (h : k < l.length) : bulk2To l (k + 1) = bulk2To l k + ((nth l k).1.size + (nth l k).2.size) := by
  unfold bulk2To
  rw [List.take_succ_eq_append_getElem h, nth_eq h, List.map_append, List.sum_append]
  simp only [List.map_cons, List.map_nil, List.sum_cons, List.sum_nil]
  omega
theorem bulk2To_le (l : List (ByteArray × ByteArray)) (k : Nat) : bulk2To l k ≤ bulk2 l := by
  unfold bulk2 bulk2To
  have := sum_take_le (l.map (fun x => x.1.size + x.2.size)) k
  rw [List.take_length, List.map_take]; omega
theorem bulk2_len (l : List (ByteArray × ByteArray)) : l.length ≤ bulk2 l := by unfold bulk2 bulk2To; omega
def szL2 (l : List (ByteArray × ByteArray)) (left : Int) : Int := if (bulk2 l : Int) ≤ left then left - bulk2 l else -1
theorem szL2_fit {l : List (ByteArray × ByteArray)} {left : Int} (h : (bulk2 l : Int) ≤ left) : szL2 l left = left - bulk2 l := if_pos h
theorem szL2_not {l : List (ByteArray × ByteArray)} {left : Int} (h : left < (bulk2 l : Int)) : szL2 l left = -1 := if_neg (by omega)

/-! ### comparing -/
def eqBd (l m : List (ByteArray × ByteArray)) : Bool := decide (l = m)
theorem eqBd_self (l : List (ByteArray × ByteArray)) : eqBd l l = true := by simp [eqBd]
theorem eqBd_true {l m : List (ByteArray × ByteArray)} (h : l = m) : eqBd l m = true := by simp [eqBd, h]
theorem eqBd_false {l m : List (ByteArray × ByteArray)} (h : l ≠ m) : eqBd l m = false := by simp [eqBd, h]
theorem tl_dec (a b : ByteArray) : (!(a.toList == b.toList)) = !(decide (a = b)) := by
  by_cases h : a = b
  · rw [tl_eq h]; simp [h]
  · rw [tl_ne h]; simp [h]

/-! ### marking -/
/-- The elements that a marking writes: from k on, two numbers an element. -/
def mark2 (k : Int) : Nat → List (ByteArray × ByteArray)
  | 0 => []
  | n + 1 => mark2 k n ++ [(markT (k + 2 * n), markT (k + 2 * n + 1))]
theorem mark2_length (k : Int) : ∀ n, (mark2 k n).length = n
  | 0 => rfl
  | n + 1 => by simp [mark2, mark2_length k n]
theorem mark2_at (k : Int) : ∀ n j, j < n → nth (mark2 k n) j = (markT (k + 2 * j), markT (k + 2 * j + 1))
  | n + 1, j, h => by
    simp only [mark2]
    by_cases hj : j < n
    · have := mark2_at k n j hj
      simp only [nth, List.getD, List.getElem?_append, mark2_length] at *
      rw [if_pos hj]; exact this
    · obtain rfl : j = n := by omega
      simp [nth, List.getD, mark2_length]
def marked2 (k : Int) (l : List (ByteArray × ByteArray)) (j : Nat) : List (ByteArray × ByteArray) := mark2 k j ++ l.drop j
theorem marked2_length (k : Int) (l : List (ByteArray × ByteArray)) {j : Nat} (h : j ≤ l.length) : (marked2 k l j).length = l.length := by simp [marked2, mark2_length]; omega
theorem marked2_zero (k : Int) (l : List (ByteArray × ByteArray)) : marked2 k l 0 = l := by simp [marked2, mark2]
theorem marked2_all (k : Int) (l : List (ByteArray × ByteArray)) : marked2 k l l.length = mark2 k l.length := by simp [marked2]
theorem marked2_step (k : Int) (l : List (ByteArray × ByteArray)) {j : Nat} (h : j < l.length) : (marked2 k l j).set j (markT (k + 2 * j), markT (k + 2 * j + 1)) = marked2 k l (j + 1) := by
  simp only [marked2, mark2]
  rw [List.set_append_right _ _ (by rw [mark2_length]; omega), mark2_length, Nat.sub_self, List.append_assoc]
  congr 1
  cases hd : l.drop j with
  | nil => have := congrArg List.length hd; simp at this; omega
  | cons x r =>
    have : l.drop (j + 1) = r := by rw [← List.drop_drop, hd]; rfl
    simp [this]

end Go.Proofs.Ytkojeajjappchaa.Row
