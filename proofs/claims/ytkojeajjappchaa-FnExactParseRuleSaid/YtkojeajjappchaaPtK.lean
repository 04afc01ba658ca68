/- Patterns in the words of kinds (kN: a struct of one slice of texts): sz, to, eq, mark, held. No conditions but that lengths fit. -/
import Derived.Test.YtkojeajjappchaaKind
import Derived.Test.YtkojeajjappchaaPatn
namespace Go.Proofs.Ytkojeajjappchaa.Row
open Go.ChangeShapes Go.WideShapes Go.ChangeAt Go.RowKit Go.Instr
set_option linter.unusedVariables false
set_option maxRecDepth 100000

theorem szPtK (V : Value) (l : List ByteArray) (w : World) (left : Int) (h : kN.At w V l) (hp : okN l) (h0 : 0 ≤ left) (h1 : left ≤ 1048576) :
    Calls Try.prog 38 #[V, .int .i64 left] w fun e w' => e = .returned (.int .i64 (szW (bulk l) left)) ∧ Below w.heap.size w w' := by
  obtain ⟨v, rfl, h9⟩ := kN_at h
  exact szPattern v l w left h9 hp.1 hp.2 h0 h1
theorem toPtK (V : Value) (l : List ByteArray) (w : World) (h : kN.At w V l) (hl : l.length ≤ 100000000) :
    Calls Try.prog 42 #[V] w fun e w' => ∃ U, e = .returned U ∧ kN.In w.heap.size w'.heap.size w' U l ∧ Below w.heap.size w w' := by
  obtain ⟨v, rfl, h9⟩ := kN_at h
  exact (toPattern v l w h9 hl).mono fun e w' ⟨v, a, b, c⟩ => ⟨_, a, kN_own b, c⟩
theorem eqPtK (V U : Value) (l m : List ByteArray) (w : World) (q : Bool) (hq : decide (l = m) = q) (h : kN.At w V l) (g : kN.At w U m) (hl : l.length ≤ 100000000) (hm : m.length ≤ 100000000) :
    Calls Try.prog 45 #[V, U] w fun e w' => e = .returned (.bool q) ∧ Below w.heap.size w w' := by
  obtain ⟨v, rfl, h9⟩ := kN_at h
  obtain ⟨u, rfl, g9⟩ := kN_at g
  subst hq
  exact eqPattern v u l m w h9 g9 (by omega) (by omega)
theorem markPtK (B E : Nat) (m : Rw ByteArray) (w : World) (k : Int) (h : kN.Own B E w m) (hl : (kN.strip m).length ≤ 100000000) (h0 : 0 ≤ k) (h1 : k + ((kN.strip m).length : Int) ≤ 100000000000) :
    Calls Try.prog 57 #[kN.val m, .int .i64 k] w fun e w' => e = .returned (.int .i64 (k + ((kN.strip m).length : Int))) ∧ ∃ m', kN.val m' = kN.val m ∧ kN.blocks m' = kN.blocks m ∧ kN.strip m' = marks markT k (kN.strip m).length ∧ kN.Own B E w' m' ∧ WroteBy (kN.blocks m) w w' := by
  have ho := kN_own1 h.1
  rw [kN_strip] at hl h1 ⊢
  refine (markPattern B m.v m.els w k ho hl h0 (by omega)).mono ?_
  rintro e w' ⟨a, b, c⟩
  refine ⟨a, ⟨m.ad, m.n, m.cap, marks markT k m.els.length⟩, rfl, by rw [kN_blocks, kN_blocks]; rfl, by rw [kN_strip], ⟨kN_own2 b, ?_, ?_⟩, WroteBy.of c (fun g hg => by rw [kN_blocks]; simp [hg])⟩
  · have := h.2.1
    rw [kN_blocks] at this ⊢
    exact this
  · have := h.2.2
    rw [kN_blocks] at this ⊢
    exact this
theorem heldPtK (V : Value) (w : World) (k : Int) (l : List ByteArray) (h : kN.At w V (marks markT k l.length)) (hl : l.length ≤ 100000000) (h0 : 0 ≤ k) (h1 : k + (l.length : Int) ≤ 100000000000) :
    Calls Try.prog 58 #[V, .int .i64 k] w fun e w' => e = .returned (.int .i64 (k + (l.length : Int))) ∧ Below w.heap.size w w' := by
  obtain ⟨v, rfl, h9⟩ := kN_at h
  exact heldPattern v w k l.length h9 hl h0 (by omega)
end Go.Proofs.Ytkojeajjappchaa.Row
