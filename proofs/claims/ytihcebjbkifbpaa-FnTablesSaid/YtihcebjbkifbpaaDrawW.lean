/- Draws over the cursor that make memory: what keeps the cursor; texts out of a list. -/
import Derived.Test.YtihcebjbkifbpaaDrawOne
import Derived.OwnWalk
namespace Go.Proofs.Ytihcebjbkifbpaa.Draw
open Go.ChangeShapes Go.WideShapes Go.ChangeAt Go.RowKit Go.Instr
set_option linter.unusedVariables false
set_option maxRecDepth 100000

/-- What a draw of something in memory gives. -/
def DrawnW (w0 : World) (p : Nat) (v : Value) (l : List UInt8) (w : World) (Q : Value → World → Prop) (e : Ending) (w' : World) : Prop :=
  ∃ x, e = .returned x ∧ Q x w' ∧ Cur w0 p v l w' ∧ Keep p w w'

theorem Keep.grown {p : Nat} {w w1 w2 : World} {row : Option Nat} (h : Keep p w w1) (hg : w1.grownBy w2 row) (hr : ∀ g, row = some g → w.heap.size ≤ g) : Keep p w w2 :=
  ⟨hg.os.trans h.os, hg.tape.trans h.tape, hg.output.trans h.output, Nat.le_trans h.size hg.size, fun k hk hp => (hg.block k (Nat.lt_of_lt_of_le hk h.size) (fun e => by have := hr k e.symm; omega)).trans (h.block k hk hp)⟩
theorem Cur.grown {w0 : World} {p : Nat} {v : Value} {l : List UInt8} {w w' : World} {row : Option Nat} (hc : Cur w0 p v l w) (hg : w.grownBy w' row) (hr : ∀ g, row = some g → w0.heap.size ≤ g ∧ g ≠ p) : Cur w0 p v l w' := by
  obtain ⟨i, h, h0, h1, hrow⟩ := hc.row
  refine ⟨hc.bytes, hc.below.grown hg hc.below.size (fun g hk => (hr g hk).1), hc.place, i, h, h0, h1, ?_⟩
  rw [hg.block p (Array.getElem?_eq_some_iff.1 hrow).1 (fun e => (hr p e.symm).2 rfl)]
  exact hrow
theorem Cur.on {w0 : World} {p : Nat} {v : Value} {l : List UInt8} {w w' : World} (hc : Cur w0 p v l w) (hb : Below w.heap.size w w') : Cur w0 p v l w' :=
  hc.grown (row := none) ⟨hb.os, hb.tape, hb.output, hb.size, fun i hi _ => hb.block i hi⟩ (fun g h => by cases h)
/-- A text of at most so many bytes. -/
def StrUpto (k : Nat) (x : Value) : Prop := ∃ t : ByteArray, x = .string t ∧ t.size ≤ k
theorem strLit2 (w0 : World) (p : Nat) (v : Value) (l : List UInt8) (w : World) (hc : Cur w0 p v l w) (xs : List ByteArray) (C : Array Value) (hC : C = (xs.map Value.string).toArray) (n : Nat) (hn : xs.length = n) (h0 : 0 < n) (h1 : n < 1000) (k : Nat) (hk : (xs.all fun t => decide (t.size ≤ k)) = true) :
    Calls Try.prog 83 #[.pointer (some ⟨p, 0, none⟩), .slice (some ⟨w.heap.size, 0, none⟩) n n] (w.alloc (.cells C 9)) (Drawn w0 p v l w (StrUpto k)) :=
  strLit w0 p v l w hc xs C hC n hn h0 h1 (StrUpto k) (fun x hx => ⟨x, rfl, by have := List.all_eq_true.1 hk x hx; simpa using this⟩)


/-- A text out of a list that lies in block q, in whatever world. -/
theorem strAt (w0 : World) (p : Nat) (v : Value) (l : List UInt8) (W : World) (hc : Cur w0 p v l W) (q : Nat) (hq : q ≠ p) (xs : List ByteArray) (n : Nat) (hn : xs.length = n) (h0 : 0 < n) (h1 : n < 1000) (k : Nat) (hk : (xs.all fun t => decide (t.size ≤ k)) = true)
    (hcells : ∀ j (h : j < xs.length), W.cell? ⟨q, j, none⟩ = some (.string xs[j])) :
    Calls Try.prog 83 #[.pointer (some ⟨p, 0, none⟩), .slice (some ⟨q, 0, none⟩) n n] W (Drawn w0 p v l W (StrUpto k)) := by
  refine (strOf w0 p v l W q (xs.map Value.string) n (by simpa using hn) h0 h1 hc hq (fun j hj => ?_)).mono fun e w' h => ?_
  · simp at hj; rw [hcells j hj]; simp
  · refine h.imp fun x hx => ?_
    obtain ⟨y, hy, rfl⟩ := List.mem_map.1 hx
    exact ⟨y, rfl, by have := List.all_eq_true.1 hk y hy; simpa using this⟩
theorem lits_at {w : World} {q : Nat} (hq : q = w.heap.size) {xs : List ByteArray} {t : TypeId} {C : Array Value} (hC : C = (xs.map Value.string).toArray) : ∀ j (h : j < xs.length), (w.alloc (.cells C t)).cell? ⟨q, j, none⟩ = some (.string xs[j]) := by
  intro j hj
  subst hC hq
  rw [World.cell?_alloc_mark]; simp [hj]
end Go.Proofs.Ytihcebjbkifbpaa.Draw
