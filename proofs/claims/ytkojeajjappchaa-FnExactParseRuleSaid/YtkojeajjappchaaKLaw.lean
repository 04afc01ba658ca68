/- Kinds of values with memory beneath in the words of the exact laws: slices of one-cell elements, slices of bytes, names; the laws' helpers for them; what keeps a region's loads. No conditions but that lengths fit. -/
import Derived.Test.YtkojeajjappchaaBlk
import Derived.Test.YtkojeajjappchaaExact
import Derived.Test.YtkojeajjappchaaNameLaw
namespace Go.Proofs.Ytkojeajjappchaa.Row
open Go.ChangeShapes Go.WideShapes Go.ChangeAt Go.RowKit Go.Instr
set_option linter.unusedVariables false
set_option maxRecDepth 100000

/-- A slice of scalars. -/
def kS {α : Type} (e : TypeId) (enc : α → Value) (h1 : ∀ x, (enc x).oneCell' = true) : Kd (List α) (Rw α) := Kd.slice e (Kd.scalar enc h1)
theorem kS_strip {α : Type} {enc : α → Value} {h1 : ∀ x, (enc x).oneCell' = true} {e : TypeId} (m : Rw α) : (kS e enc h1).strip m = m.els := by simp [kS, Kd.slice, Kd.scalar]
theorem kS_blocks {α : Type} {enc : α → Value} {h1 : ∀ x, (enc x).oneCell' = true} {e : TypeId} (r : Rw α) : (kS e enc h1).blocks r = r.v.ownBlock.toList := by simp [kS, Kd.slice, Kd.scalar]
section
variable {α : Type} [Inhabited α] {enc : α → Value} {h1 : ∀ x, (enc x).oneCell' = true} {e : TypeId} {w : World} {v : Value} {l : List α} {B E : Nat}
theorem kS_at (h : (kS e enc h1).At w v l) : Holds enc w v l := by
  obtain ⟨m, rfl, rfl, h, -⟩ := h
  rw [kS_strip]
  exact holdsK_single.1 h
theorem kS_of (h : Holds enc w v l) : (kS e enc h1).At w v l := by
  obtain ⟨x, n, cap, rfl, -, -, hh⟩ := h.shapeN
  exact ⟨⟨x, n, cap, l⟩, rfl, kS_strip _, holdsK_single.2 hh, fun _ _ => trivial⟩
theorem kS_mk (h : Own e enc B w v l) (hE : ∀ g, v.ownBlock = some g → g < E) : (kS e enc h1).In B E w v l := by
  obtain ⟨x, n, cap, rfl, -, -, hh⟩ := h.shapeN
  refine ⟨⟨x, n, cap, l⟩, rfl, kS_strip _, ⟨ownK_single.2 hh, fun _ _ => trivial⟩, ?_, ?_⟩
  · rw [kS_blocks]
    cases h2 : (Rw.v ⟨x, n, cap, l⟩).ownBlock <;> simp
  · rw [kS_blocks]
    intro g hg
    exact hE g (by simpa [Rw.v] using hg)
theorem kS_own (h : Own e enc B w v l) : (kS e enc h1).In B w.heap.size w v l := kS_mk h (fun g hg => (h.lt g hg).2)
theorem kS_in (h : (kS e enc h1).In B E w v l) : Own e enc B w v l ∧ ∀ g, v.ownBlock = some g → g < E := by
  obtain ⟨m, rfl, rfl, h, -, h2⟩ := h
  rw [kS_strip]
  rw [kS_blocks] at h2
  exact ⟨ownK_single.1 h.1, fun g hg => h2 g (by rw [show m.v.ownBlock = some g from hg]; simp)⟩
end

/-! ### bytes -/
def kB : Kd (List Int) (Rw Int) := kS 5 (Value.int .u8) (fun _ => rfl)
section
variable {w : World} {v V : Value} {l : List Int} {B E : Nat}
theorem kB_at (h : kB.At w V l) : ∃ v, V = v ∧ Sl.Holds .u8 w v l := ⟨V, rfl, kS_at h⟩
theorem kB_of (h : Sl.Holds .u8 w v l) : kB.At w v l := kS_of h
theorem kB_own (h : Sl.Own 5 .u8 B w v l) : kB.In B w.heap.size w v l := kS_own h
theorem kB_mk (h : Sl.Own 5 .u8 B w v l) (hE : ∀ g, v.ownBlock = some g → g < E) : kB.In B E w v l := kS_mk h hE
theorem kB_in (h : kB.In B E w V l) : ∃ v, V = v ∧ Sl.Own 5 .u8 B w v l ∧ ∀ g, v.ownBlock = some g → g < E := ⟨V, rfl, kS_in h⟩
theorem kB_shape (h : kB.In B E w V l) : ∃ x n c, V = .slice x n c ∧ kB.In B E w (.slice x n c) l := by
  obtain ⟨x, n, c, rfl, -⟩ := (kS_in h).1.shapeN
  exact ⟨x, n, c, rfl, h⟩
theorem kB_shapeA (h : kB.At w V l) : ∃ x n c, V = .slice x n c ∧ kB.At w (.slice x n c) l := by
  obtain ⟨x, n, c, rfl, -⟩ := (kS_at h).shapeN
  exact ⟨x, n, c, rfl, h⟩
end
/-! ### names -/
def kN : Kd (List ByteArray) (Rw ByteArray) := (kNm 9).wrap
section
variable {w : World} {v V : Value} {l : List ByteArray} {B E : Nat}
theorem kNm_mk (h : Own 9 Value.string B w v l) (hE : ∀ g, v.ownBlock = some g → g < E) : (kNm 9).In B E w v l := by
  obtain ⟨x, n, cap, rfl, -, -, hh⟩ := h.shapeN
  refine ⟨⟨x, n, cap, l⟩, rfl, by simp [kNm, Kd.slice, kStr, Kd.scalar], ⟨ownK_single.2 hh, fun _ _ => trivial⟩, ?_, ?_⟩
  · rw [kNm_blocks]
    cases h2 : (Rw.v ⟨x, n, cap, l⟩).ownBlock <;> simp
  · rw [kNm_blocks]
    intro g hg
    exact hE g (by simpa [Rw.v] using hg)
theorem kN_at (h : kN.At w V l) : ∃ v, V = .agg #[v] ∧ Holds Value.string w v l := by
  obtain ⟨m, rfl, e, h⟩ := h
  exact ⟨m.v, rfl, kNm_at (e := 9) ⟨m, rfl, e, h⟩⟩
theorem kN_of (h : Holds Value.string w v l) : kN.At w (.agg #[v]) l := by
  obtain ⟨m, rfl, e, h⟩ := kNm_of (e := 9) h
  exact ⟨m, rfl, e, h⟩
theorem kN_mk (h : Own 9 Value.string B w v l) (hE : ∀ g, v.ownBlock = some g → g < E) : kN.In B E w (.agg #[v]) l := by
  obtain ⟨m, rfl, e, h⟩ := kNm_mk h hE
  exact ⟨m, rfl, e, h⟩
theorem kN_own (h : Own 9 Value.string B w v l) : kN.In B w.heap.size w (.agg #[v]) l := kN_mk h (fun g hg => (h.lt g hg).2)
theorem kN_in (h : kN.In B E w V l) : ∃ v, V = .agg #[v] ∧ Own 9 Value.string B w v l ∧ ∀ g, v.ownBlock = some g → g < E := by
  obtain ⟨m, rfl, e, h⟩ := h
  exact ⟨m.v, rfl, kNm_in (e := 9) ⟨m, rfl, e, h⟩⟩
theorem kN_shape (h : kN.In B E w V l) : ∃ x n c, V = .agg #[.slice x n c] ∧ kN.In B E w (.agg #[.slice x n c]) l := by
  obtain ⟨v, rfl, ho, -⟩ := kN_in h
  obtain ⟨x, n, c, rfl, -⟩ := ho.shapeN
  exact ⟨x, n, c, rfl, h⟩
theorem kN_shapeA (h : kN.At w V l) : ∃ x n c, V = .agg #[.slice x n c] ∧ kN.At w (.agg #[.slice x n c]) l := by
  obtain ⟨v, rfl, ho⟩ := kN_at h
  obtain ⟨x, n, c, rfl, -⟩ := ho.shapeN
  exact ⟨x, n, c, rfl, h⟩
end
theorem szNK (V : Value) (l : List ByteArray) (w : World) (left : Int) (h : kN.At w V l) (hl : l.length ≤ 9223372036854775807) (hs : ∀ x ∈ l, x.size ≤ maxLen) (h0 : 0 ≤ left) (h1 : left ≤ 1048576) :
    Calls Try.prog 21 #[V, .int .i64 left] w fun e w' => e = .returned (.int .i64 (szL l left)) ∧ Below w.heap.size w w' := by
  obtain ⟨v, rfl, h9⟩ := kN_at h
  exact szName v l w left h9 hl hs h0 h1
theorem toNK (V : Value) (l : List ByteArray) (w : World) (h : kN.At w V l) (hl : l.length ≤ 100000000) :
    Calls Try.prog 23 #[V] w fun e w' => ∃ U, e = .returned U ∧ kN.In w.heap.size w'.heap.size w' U l ∧ Below w.heap.size w w' := by
  obtain ⟨v, rfl, h9⟩ := kN_at h
  exact (toName v l w h9 hl).mono fun e w' ⟨v, a, b, c⟩ => ⟨_, a, kN_own b, c⟩
theorem sameNK (V U : Value) (l : List ByteArray) (w : World) (h : kN.At w V l) (g : kN.At w U l) (hl : l.length ≤ 100000000) :
    Calls Try.prog 25 #[V, U] w fun e w' => e = .returned (.bool true) ∧ Below w.heap.size w w' := by
  obtain ⟨v, rfl, h9⟩ := kN_at h
  obtain ⟨u, rfl, g9⟩ := kN_at g
  exact sameN v u l w h9 g9 (by omega)
/-! ### what keeps a region's loads, a variable's block -/
theorem kc {w w' : World} {a : Addr} {u : Value} (h : w.cell? a = some u) (hb : Below w.heap.size w w') : w'.cell? a = some u := (hb.cell (cell_lt h)).trans h
theorem Wrote.blk {B E : Nat} {w w' : World} (h : Wrote B E w w') {g : Nat} {cs : Array Value} {t : TypeId} (hb : Ret.Blk w g cs t) (hn : g < B ∨ E ≤ g) : Ret.Blk w' g cs t := (h.grown hb.lt hn).trans hb
end Go.Proofs.Ytkojeajjappchaa.Row
