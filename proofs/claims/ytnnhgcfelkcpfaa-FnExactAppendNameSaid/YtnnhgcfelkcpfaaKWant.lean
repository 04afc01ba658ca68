/- Interests in the words of the exact laws: the kind; the laws' helpers for it; an interest that came in as an argument. No conditions but that lengths fit. -/
import Derived.Test.YtnnhgcfelkcpfaaKLaw
import Derived.Test.YtnnhgcfelkcpfaaWantV
import Derived.SizedLaws
import Derived.ChangeSlices
import Derived.ChangeSame
import Derived.ChangeArms
import Derived.Deep.Strs
import Derived.Lib.SmallJoins
namespace Go.Proofs.Ytnnhgcfelkcpfaa.Row
open Go.ChangeShapes Go.WideShapes Go.ChangeAt Go.RowKit Go.Instr
set_option linter.unusedVariables false
set_option maxRecDepth 100000

def kW : Kd Wt (Rw ByteArray × Int × Int × Int) := (kNm 9).pair (kInt.pair (kInt.pair kInt))
section
variable {w : World} {v V : Value} {x : Wt} {B E : Nat}
theorem kW_at (h : kW.At w V x) : ∃ v, V = .agg (wc v x.2.1 x.2.2.1 x.2.2.2) ∧ Holds Value.string w v x.1 := by
  obtain ⟨⟨r, a, b, c⟩, rfl, rfl, h⟩ := h
  exact ⟨r.v, rfl, kNm_at (e := 9) ⟨r, rfl, rfl, h.1⟩⟩
theorem kW_of (h : Holds Value.string w v x.1) : kW.At w (.agg (wc v x.2.1 x.2.2.1 x.2.2.2)) x := by
  obtain ⟨l, a, b, c⟩ := x
  obtain ⟨m, rfl, e, h⟩ := kNm_of (e := 9) h
  exact ⟨(m, a, b, c), rfl, Prod.ext e rfl, h, trivial, trivial, trivial⟩
theorem kW_mk (h : Own 9 Value.string B w v x.1) (hE : ∀ g, v.ownBlock = some g → g < E) : kW.In B E w (.agg (wc v x.2.1 x.2.2.1 x.2.2.2)) x := by
  obtain ⟨l, a, b, c⟩ := x
  obtain ⟨m, rfl, e, h, hn, hl⟩ := kNm_mk h hE
  have hb : kW.blocks (m, a, b, c) = (kNm 9).blocks m := List.append_nil _
  exact ⟨(m, a, b, c), rfl, Prod.ext e rfl, ⟨h, trivial, trivial, trivial⟩, by rw [hb]; exact hn, by rw [hb]; exact hl⟩
theorem kW_own (h : Own 9 Value.string B w v x.1) : kW.In B w.heap.size w (.agg (wc v x.2.1 x.2.2.1 x.2.2.2)) x := kW_mk h (fun g hg => (h.lt g hg).2)
theorem kW_in (h : kW.In B E w V x) : ∃ v, V = .agg (wc v x.2.1 x.2.2.1 x.2.2.2) ∧ Own 9 Value.string B w v x.1 ∧ ∀ g, v.ownBlock = some g → g < E := by
  obtain ⟨⟨r, a, b, c⟩, rfl, rfl, h, hn, hl⟩ := h
  have hb : kW.blocks (r, a, b, c) = (kNm 9).blocks r := List.append_nil _
  rw [hb] at hn hl
  exact ⟨r.v, rfl, kNm_in (e := 9) ⟨r, rfl, rfl, h.1, hn, hl⟩⟩
theorem kW_shape (h : kW.In B E w V x) : ∃ a n c, V = .agg #[.slice a n c, .int .i64 x.2.1, .int .i64 x.2.2.1, .int .i64 x.2.2.2] ∧ kW.In B E w (.agg #[.slice a n c, .int .i64 x.2.1, .int .i64 x.2.2.1, .int .i64 x.2.2.2]) x := by
  obtain ⟨v, rfl, ho, -⟩ := kW_in h
  obtain ⟨a, n, c, rfl, -⟩ := ho.shapeN
  exact ⟨a, n, c, rfl, h⟩
theorem kW_shapeA (h : kW.At w V x) : ∃ a n c, V = .agg #[.slice a n c, .int .i64 x.2.1, .int .i64 x.2.2.1, .int .i64 x.2.2.2] ∧ kW.At w (.agg #[.slice a n c, .int .i64 x.2.1, .int .i64 x.2.2.1, .int .i64 x.2.2.2]) x := by
  obtain ⟨v, rfl, ho⟩ := kW_at h
  obtain ⟨a, n, c, rfl, -⟩ := ho.shapeN
  exact ⟨a, n, c, rfl, h⟩
end
/-- Its parts' sizes and its numbers fit. -/
def WfW (x : Wt) : Prop := (∀ y ∈ x.1, y.size ≤ maxLen) ∧ (Lit.int .i64 x.2.1).wf = true ∧ (Lit.int .i64 x.2.2.1).wf = true ∧ (Lit.int .i64 x.2.2.2).wf = true
theorem WfW.hop {x : Wt} (h : WfW x) : x.2.2.1 ≤ 9223372036854775807 := by
  have h2 := h.2.2.1
  simp [Lit.wf] at h2
  exact h2.2
theorem szWK (V : Value) (x : Wt) (w : World) (left : Int) (h : kW.At w V x) (hl : x.1.length ≤ 9223372036854775807) (hs : WfW x) (h0 : 0 ≤ left) (h1 : left ≤ 1048576) :
    Calls Try.prog 10 #[V, .int .i64 left] w fun e w' => e = .returned (.int .i64 (szL x.1 left)) ∧ Below w.heap.size w w' := by
  obtain ⟨v, rfl, h9⟩ := kW_at h
  exact szInterest v x.1 _ _ _ w left h9 hl hs.1 h0 h1
theorem toWK (V : Value) (x : Wt) (w : World) (h : kW.At w V x) (hl : x.1.length ≤ 100000000) :
    Calls Try.prog 12 #[V] w fun e w' => ∃ U, e = .returned U ∧ kW.In w.heap.size w'.heap.size w' U x ∧ Below w.heap.size w w' := by
  obtain ⟨v, rfl, h9⟩ := kW_at h
  exact (toInterest v x.1 _ _ _ w h9 hl).mono fun e w' ⟨v, a, b, c⟩ => ⟨_, a, kW_own b, c⟩
theorem sameWK (V U : Value) (x : Wt) (w : World) (h : kW.At w V x) (g : kW.At w U x) (hl : x.1.length ≤ 100000000) :
    Calls Try.prog 14 #[V, U] w fun e w' => e = .returned (.bool true) ∧ Below w.heap.size w w' := by
  obtain ⟨v, rfl, h9⟩ := kW_at h
  obtain ⟨u, rfl, g9⟩ := kW_at g
  exact eqInterest v u x x w true (by simp) h9 g9 (by omega) (by omega)
/-- An interest whose name is marked. -/
def mkW (k : Int) (x : Wt) : Wt := (marks markT k x.1.length, x.2.1, x.2.2.1, x.2.2.2)
theorem markWK (B E : Nat) (V : Value) (x : Wt) (w : World) (k : Int) (h : kW.In B E w V x) (hl : x.1.length ≤ 100000000) (h0 : 0 ≤ k) (h1 : k ≤ 1000000000) :
    Calls Try.prog 30 #[V, .int .i64 k] w fun e w' => e = .returned (.int .i64 (k + (x.1.length : Int))) ∧ kW.In B E w' V (mkW k x) ∧ Wrote B E w w' := by
  obtain ⟨v, rfl, h9, hE⟩ := kW_in h
  exact (markInterest B v x.1 _ _ _ w k h9 hl h0 (by omega)).mono fun e w' ⟨a, b, c⟩ => ⟨a, kW_mk (x := mkW k x) b hE, Wrote.of c (fun g hg => ⟨(h9.lt g hg).1, hE g hg⟩)⟩
theorem heldWK (V : Value) (w : World) (k : Int) (x : Wt) (h : kW.At w V (mkW k x)) (hl : x.1.length ≤ 100000000) (h0 : 0 ≤ k) (h1 : k ≤ 1000000000) :
    Calls Try.prog 33 #[V, .int .i64 k] w fun e w' => e = .returned (.int .i64 (k + (x.1.length : Int))) ∧ Below w.heap.size w w' := by
  obtain ⟨v, rfl, h9⟩ := kW_at h
  exact heldInterest v _ _ _ w k x.1.length h9 hl h0 (by omega)

/-- An interest as it came in. -/
theorem open_want {H : Type} {enc : TypeId × Value → H} {P : Program} {w : World} {base b2 : Nat} {held : Bool} {t ep : TypeId} {v : Value} {d : DataW H} {p : List MemPlace} {f0 f1 f2 f3 g0 : Field}
    (he : P.underlying t = some (.struct #[f0, f1, f2, f3])) (hN : P.underlying f0.type = some (.struct #[g0])) (hg : P.underlying g0.type = some (.slice ep)) (hs : P.underlying ep = some .string) (hI1 : P.underlying f1.type = some (.int .i64)) (hI2 : P.underlying f2.type = some (.int .i64)) (hI3 : P.underlying f3.type = some (.int .i64))
    (ho0 : f0.offset = 0) (ho1 : f1.offset = 1) (ho2 : f2.offset = 2) (ho3 : f3.offset = 3) (hog : g0.offset = 0) (hc0 : P.cellsOf f0.type = 1) (hc1 : P.cellsOf f1.type = 1) (hc2 : P.cellsOf f2.type = 1) (hc3 : P.cellsOf f3.type = 1) (hcg : P.cellsOf g0.type = 1) (hcs : P.cellsOf ep = 1) (hC : P.cellsOf t = 4)
    (hv : Value.okWide P w .any base t v) (h : DataW.Trod enc P w b2 (fun _ => true) held t v d p) :
    ∃ x, kW.At w v x ∧ WfW x ∧ x.1.length ≤ 9223372036854775807 := by
  obtain ⟨cs, rfl, hcz⟩ := okWide_struct he hv
  obtain ⟨fuel, hfu⟩ := h
  obtain ⟨y0, y1, y2, y3, n2, -, -, q0, q1, q2, q3⟩ := Go.Joins.trod_struct4 he hfu
  rw [ho0, hc0] at q0
  rw [ho1, hc1] at q1
  rw [ho2, hc2] at q2
  rw [ho3, hc3] at q3
  obtain ⟨z0, n3, -, -, q0⟩ := trod_struct1 hN q0
  rw [hog, hcg] at q0
  obtain ⟨ad, k, c, l, e0, hh, hz, hln⟩ := open_strs1 hg hs hcs q0
  obtain ⟨v1, e1, -, w1⟩ := DataW.trod_int hI1 q1
  obtain ⟨v2, e2, -, w2⟩ := DataW.trod_int hI2 q2
  obtain ⟨v3, e3, -, w3⟩ := DataW.trod_int hI3 q3
  obtain ⟨u0, u1, u2, u3, rfl⟩ := Go.Joins.array4 (hcz.trans hC)
  simp [Value.cells] at e0 e1 e2 e3
  subst e0 e1 e2 e3
  refine ⟨(l, v1, v2, v3), kW_of (x := (l, v1, v2, v3)) hh, ⟨hz, w1, w2, w3⟩, hln⟩
end Go.Proofs.Ytnnhgcfelkcpfaa.Row
