/- Contracts and mathematics, joined: DataK, CacheEntryK, CacheEntrySK, ContentStoreK, LibS, Cmp, Num, Trunc, Pref, Part, Valid. No conditions but those that each states. -/
import Derived.Test.YtfglcmanmfenpaaGreatB2
import Derived.Test.YtfglcmanmfenpaaGreatB1
import Derived.Lib.AppendZerosOnto
import Derived.Lib.SliceRun
import Derived.Deep.RegionHeld3
import Derived.Test.YtfglcmanmfenpaaGreatRows
import Derived.WalkKit
import Derived.ProofKit
import Derived.WalkLawsBesides
import Derived.Lib.Hide
import Derived.LoopTactic
import Derived.Lib.SmallJoins
import Derived.Laws.RangeAny
/- Data packets in the words of kinds: the kind; sz, to, eq, mark, held. No conditions but that lengths fit. -/
namespace Go.Proofs.YtfglcmanmfenpaaGreat.Row
open Go.ChangeShapes Go.WideShapes Go.ChangeAt Go.RowKit Go.Instr
set_option linter.unusedVariables false
set_option maxRecDepth 100000
abbrev Dzt := List ByteArray × List Int × List ByteArray × Int × Int
abbrev Dzm := Rw ByteArray × Rw Int × Rw ByteArray × Int × Int
def kDz : Kd Dzt Dzm := (kN.pair (kB.pair (kN.pair (kInt.pair kInt))))
theorem aggDz : Ret.AggOf Tryz.prog 31 5 := ⟨by kernel_rfl, by kernel_rfl⟩
def wtDz (x : Dzt) : Nat := bulk x.1 + x.2.1.length + bulk x.2.2.1
def adDz (x : Dzt) : Nat := x.1.length + x.2.1.length + x.2.2.1.length
def okDz (x : Dzt) : Prop := okN x.1 ∧ okB x.2.1 ∧ okN x.2.2.1
def mkDz (k : Int) (x : Dzt) : Dzt := (marks markT (k) x.1.length, Sl.marks .u8 (k + (x.1.length : Nat)) x.2.1.length, marks markT (k + (x.1.length : Nat) + (x.2.1.length : Nat)) x.2.2.1.length, x.2.2.2.1, x.2.2.2.2)
section
variable {w : World} {V : Value} {x : Dzt} {B E : Nat}
theorem kDz_at (h : kDz.At w V x) : ∃ (x0_0 : Option Addr) (n0_0 c0_0 : Nat) (x1_0 : Option Addr) (n1_0 c1_0 : Nat) (x2_0 : Option Addr) (n2_0 c2_0 : Nat), V = .agg #[.slice x0_0 n0_0 c0_0, .slice x1_0 n1_0 c1_0, .slice x2_0 n2_0 c2_0, .int .i64 x.2.2.2.1, .int .i64 x.2.2.2.2] ∧ kN.At w (.agg #[.slice x0_0 n0_0 c0_0]) x.1 ∧ kB.At w (.slice x1_0 n1_0 c1_0) x.2.1 ∧ kN.At w (.agg #[.slice x2_0 n2_0 c2_0]) x.2.2.1 := by
  obtain ⟨⟨m0, m1, m2, m3, m4⟩, rfl, rfl, g0, g1, g2, g3, g4⟩ := h
  obtain ⟨x0_0, n0_0, c0_0, e0, a0⟩ := kN_shapeA (Kd.at_of (k := kN) g0)
  have d0 : kN.cells m0 = [.slice x0_0 n0_0 c0_0] := by injection e0 with e; exact congrArg Array.toList e
  obtain ⟨x1_0, n1_0, c1_0, e1, a1⟩ := kB_shapeA (Kd.at_of (k := kB) g1)
  have d1 : kB.cells m1 = [.slice x1_0 n1_0 c1_0] := by show [kB.val m1] = _; rw [e1]
  obtain ⟨x2_0, n2_0, c2_0, e2, a2⟩ := kN_shapeA (Kd.at_of (k := kN) g2)
  have d2 : kN.cells m2 = [.slice x2_0 n2_0 c2_0] := by injection e2 with e; exact congrArg Array.toList e
  refine ⟨x0_0, n0_0, c0_0, x1_0, n1_0, c1_0, x2_0, n2_0, c2_0, ?_, e0 ▸ Kd.at_of (k := kN) g0, e1 ▸ Kd.at_of (k := kB) g1, e2 ▸ Kd.at_of (k := kN) g2⟩
  show Value.agg ((kN.cells m0 ++ (kB.cells m1 ++ (kN.cells m2 ++ (kInt.cells m3 ++ (kInt.cells m4)))))).toArray = _
  rw [d0, d1, d2]
  rfl
theorem kDz_shapeA (h : kDz.At w V x) : ∃ (x0_0 : Option Addr) (n0_0 c0_0 : Nat) (x1_0 : Option Addr) (n1_0 c1_0 : Nat) (x2_0 : Option Addr) (n2_0 c2_0 : Nat), V = .agg #[.slice x0_0 n0_0 c0_0, .slice x1_0 n1_0 c1_0, .slice x2_0 n2_0 c2_0, .int .i64 x.2.2.2.1, .int .i64 x.2.2.2.2] ∧ kDz.At w (.agg #[.slice x0_0 n0_0 c0_0, .slice x1_0 n1_0 c1_0, .slice x2_0 n2_0 c2_0, .int .i64 x.2.2.2.1, .int .i64 x.2.2.2.2]) x := by
  obtain ⟨x0_0, n0_0, c0_0, x1_0, n1_0, c1_0, x2_0, n2_0, c2_0, rfl, -⟩ := kDz_at h
  exact ⟨x0_0, n0_0, c0_0, x1_0, n1_0, c1_0, x2_0, n2_0, c2_0, rfl, h⟩
theorem kDz_shape (h : kDz.In B E w V x) : ∃ (x0_0 : Option Addr) (n0_0 c0_0 : Nat) (x1_0 : Option Addr) (n1_0 c1_0 : Nat) (x2_0 : Option Addr) (n2_0 c2_0 : Nat), V = .agg #[.slice x0_0 n0_0 c0_0, .slice x1_0 n1_0 c1_0, .slice x2_0 n2_0 c2_0, .int .i64 x.2.2.2.1, .int .i64 x.2.2.2.2] ∧ kDz.In B E w (.agg #[.slice x0_0 n0_0 c0_0, .slice x1_0 n1_0 c1_0, .slice x2_0 n2_0 c2_0, .int .i64 x.2.2.2.1, .int .i64 x.2.2.2.2]) x := by
  obtain ⟨x0_0, n0_0, c0_0, x1_0, n1_0, c1_0, x2_0, n2_0, c2_0, rfl, -⟩ := kDz_at h.at
  exact ⟨x0_0, n0_0, c0_0, x1_0, n1_0, c1_0, x2_0, n2_0, c2_0, rfl, h⟩
end
def inDz (x : Dzt) : Prop := okN x.1 ∧ (okB x.2.1 ∧ ∀ y ∈ x.2.1, (Lit.int .u8 y).wf = true) ∧ okN x.2.2.1 ∧ (Lit.int .i64 x.2.2.2.1).wf = true ∧ (Lit.int .i64 x.2.2.2.2).wf = true
theorem inDz.ok {x : Dzt} (h : inDz x) : okDz x := ⟨h.1, h.2.1.1, h.2.2.1⟩
end Go.Proofs.YtfglcmanmfenpaaGreat.Row
/- Entries of the content store in the words of kinds: the kind; sz, to, eq, mark, held. No conditions but that lengths fit. -/
namespace Go.Proofs.YtfglcmanmfenpaaGreat.Row
open Go.ChangeShapes Go.WideShapes Go.ChangeAt Go.RowKit Go.Instr
set_option linter.unusedVariables false
set_option maxRecDepth 100000
abbrev Cet := Dzt × Int
set_option synthInstance.maxSize 100000 in
instance : DecidableEq Cet := inferInstance
abbrev Cem := Dzm × Int
def kCe : Kd Cet Cem := (kDz.pair kInt)
theorem aggCe : Ret.AggOf Tryz.prog 64 6 := ⟨by kernel_rfl, by kernel_rfl⟩
def wtCe (x : Cet) : Nat := wtDz x.1
def adCe (x : Cet) : Nat := adDz x.1
def okCe (x : Cet) : Prop := okDz x.1
section
variable {w : World} {V : Value} {x : Cet} {B E : Nat}
theorem kCe_at (h : kCe.At w V x) : ∃ (x0_0 : Option Addr) (n0_0 c0_0 : Nat) (x0_1 : Option Addr) (n0_1 c0_1 : Nat) (x0_2 : Option Addr) (n0_2 c0_2 : Nat), V = .agg #[.slice x0_0 n0_0 c0_0, .slice x0_1 n0_1 c0_1, .slice x0_2 n0_2 c0_2, .int .i64 x.1.2.2.2.1, .int .i64 x.1.2.2.2.2, .int .i64 x.2] ∧ kDz.At w (.agg #[.slice x0_0 n0_0 c0_0, .slice x0_1 n0_1 c0_1, .slice x0_2 n0_2 c0_2, .int .i64 x.1.2.2.2.1, .int .i64 x.1.2.2.2.2]) x.1 := by
  obtain ⟨⟨m0, m1⟩, rfl, rfl, g0, g1⟩ := h
  obtain ⟨x0_0, n0_0, c0_0, x0_1, n0_1, c0_1, x0_2, n0_2, c0_2, e0, a0⟩ := kDz_shapeA (Kd.at_of (k := kDz) g0)
  have d0 : kDz.cells m0 = [.slice x0_0 n0_0 c0_0, .slice x0_1 n0_1 c0_1, .slice x0_2 n0_2 c0_2, .int .i64 (kDz.strip m0).2.2.2.1, .int .i64 (kDz.strip m0).2.2.2.2] := by injection e0 with e; exact congrArg Array.toList e
  refine ⟨x0_0, n0_0, c0_0, x0_1, n0_1, c0_1, x0_2, n0_2, c0_2, ?_, e0 ▸ Kd.at_of (k := kDz) g0⟩
  show Value.agg ((kDz.cells m0 ++ (kInt.cells m1))).toArray = _
  rw [d0]
  rfl
theorem kCe_shapeA (h : kCe.At w V x) : ∃ (x0_0 : Option Addr) (n0_0 c0_0 : Nat) (x0_1 : Option Addr) (n0_1 c0_1 : Nat) (x0_2 : Option Addr) (n0_2 c0_2 : Nat), V = .agg #[.slice x0_0 n0_0 c0_0, .slice x0_1 n0_1 c0_1, .slice x0_2 n0_2 c0_2, .int .i64 x.1.2.2.2.1, .int .i64 x.1.2.2.2.2, .int .i64 x.2] ∧ kCe.At w (.agg #[.slice x0_0 n0_0 c0_0, .slice x0_1 n0_1 c0_1, .slice x0_2 n0_2 c0_2, .int .i64 x.1.2.2.2.1, .int .i64 x.1.2.2.2.2, .int .i64 x.2]) x := by
  obtain ⟨x0_0, n0_0, c0_0, x0_1, n0_1, c0_1, x0_2, n0_2, c0_2, rfl, -⟩ := kCe_at h
  exact ⟨x0_0, n0_0, c0_0, x0_1, n0_1, c0_1, x0_2, n0_2, c0_2, rfl, h⟩
end
def inCe (x : Cet) : Prop := inDz x.1 ∧ (Lit.int .i64 x.2).wf = true
theorem inCe.ok {x : Cet} (h : inCe x) : okCe x := h.1.ok
end Go.Proofs.YtfglcmanmfenpaaGreat.Row
/- Lists of entries of the content store in the words of kinds: sz, to, eq. No conditions but that lengths fit. -/
namespace Go.Proofs.YtfglcmanmfenpaaGreat.Row
open Go.ChangeShapes Go.WideShapes Go.ChangeAt Go.RowKit Go.Instr
set_option linter.unusedVariables false
set_option maxRecDepth 100000
def kLCe : Kd (List Cet) (Rw Cem) := kCe.slice 64
theorem szCe_cells : Sz kCe.cells 6 := fun m => kCe.len m
theorem kindCe : Kind Tryz.prog 64 kCe.cells (.agg #[.slice none 0 0, .slice none 0 0, .slice none 0 0, .int .i64 0, .int .i64 0, .int .i64 0]) 6 96 where
  elem := by unfold ElemK; kernel_rfl
  zs := rfl
  pos := by decide
  size := szCe_cells
  one := fun m u hu => kCe.one m u hu
def okLCe (l : List Cet) : Prop := l.length ≤ 9223372036854775807 ∧ ∀ x ∈ l, okCe x
section
variable {w : World} {V : Value} {l : List Cet} {B E : Nat}
theorem kLCe_at (h : kLCe.At w V l) : ∃ ad n cap L, V = .slice ad n cap ∧ n = L.length ∧ L.map kCe.strip = l ∧ HoldsK kCe.cells 6 w (.slice ad n cap) L ∧ ∀ x ∈ L, kCe.holds w x := by
  obtain ⟨⟨ad, n, cap, L⟩, hV, hl, hh, hel⟩ := h
  exact ⟨ad, n, cap, L, hV, HoldsK.lenEq (show HoldsK kCe.cells 6 w (.slice ad n cap) L from hh), hl, hh, hel⟩
theorem kLCe_len {ad : Option Addr} {n cap : Nat} (h : kLCe.At w (.slice ad n cap) l) : n = l.length := by
  obtain ⟨ad', n', cap', L, hV, hn, rfl, -, -⟩ := kLCe_at h
  cases hV
  simp [hn]
theorem kLCe_shapeA (h : kLCe.At w V l) : ∃ x n c, V = .slice x n c ∧ kLCe.At w (.slice x n c) l := by
  obtain ⟨ad, n, cap, L, rfl, -⟩ := kLCe_at h
  exact ⟨ad, n, cap, rfl, h⟩
theorem kLCe_elem {x : Option Addr} {n cap : Nat} {L : List Cem} (h : HoldsK kCe.cells 6 w (.slice x n cap) L) (hel : ∀ y ∈ L, kCe.holds w y) {j : Nat} (hj : j < L.length) :
    ∃ (b off : Nat) (x0 : Option Addr) (n0 c0 : Nat) (x1 : Option Addr) (n1 c1 : Nat) (x2 : Option Addr) (n2 c2 : Nat), x = some ⟨b, off, none⟩ ∧ kCe.cells (nth L j) = [.slice x0 n0 c0, .slice x1 n1 c1, .slice x2 n2 c2, .int .i64 (kCe.strip (nth L j)).1.2.2.2.1, .int .i64 (kCe.strip (nth L j)).1.2.2.2.2, .int .i64 (kCe.strip (nth L j)).2] ∧ w.cell? ⟨b, off + j * 6, none⟩ = some (.slice x0 n0 c0) ∧ w.cell? ⟨b, off + j * 6 + 1, none⟩ = some (.slice x1 n1 c1) ∧ w.cell? ⟨b, off + j * 6 + 2, none⟩ = some (.slice x2 n2 c2) ∧ w.cell? ⟨b, off + j * 6 + 3, none⟩ = some (.int .i64 (kCe.strip (nth L j)).1.2.2.2.1) ∧ w.cell? ⟨b, off + j * 6 + 4, none⟩ = some (.int .i64 (kCe.strip (nth L j)).1.2.2.2.2) ∧ w.cell? ⟨b, off + j * 6 + 5, none⟩ = some (.int .i64 (kCe.strip (nth L j)).2) ∧ kCe.At w (.agg #[.slice x0 n0 c0, .slice x1 n1 c1, .slice x2 n2 c2, .int .i64 (kCe.strip (nth L j)).1.2.2.2.1, .int .i64 (kCe.strip (nth L j)).1.2.2.2.2, .int .i64 (kCe.strip (nth L j)).2]) (kCe.strip (nth L j)) := by
  obtain ⟨b, off, hx, hc⟩ := h.at szCe_cells hj
  obtain ⟨x0, n0, c0, x1, n1, c1, x2, n2, c2, e, ha⟩ := kCe_shapeA (Kd.at_of (k := kCe) (hel _ (nth_mem hj)))
  have d : kCe.cells (nth L j) = [.slice x0 n0 c0, .slice x1 n1 c1, .slice x2 n2 c2, .int .i64 (kCe.strip (nth L j)).1.2.2.2.1, .int .i64 (kCe.strip (nth L j)).1.2.2.2.2, .int .i64 (kCe.strip (nth L j)).2] := by injection e with e; exact congrArg Array.toList e
  rw [d] at hc
  exact ⟨b, off, x0, n0, c0, x1, n1, c1, x2, n2, c2, hx, d, by have := hc 0 (by decide); simpa [Nat.add_assoc] using this, by have := hc 1 (by decide); simpa [Nat.add_assoc] using this, by have := hc 2 (by decide); simpa [Nat.add_assoc] using this, by have := hc 3 (by decide); simpa [Nat.add_assoc] using this, by have := hc 4 (by decide); simpa [Nat.add_assoc] using this, by have := hc 5 (by decide); simpa [Nat.add_assoc] using this, ha⟩
end
def inLCe (l : List Cet) : Prop := l.length ≤ 9223372036854775807 ∧ ∀ x ∈ l, inCe x
theorem inLCe.ok {l : List Cet} (h : inLCe l) : okLCe l := ⟨h.1, fun x hx => (h.2 x hx).ok⟩
def adLCe (l : List Cet) : Nat := bulkK adCe l
end Go.Proofs.YtfglcmanmfenpaaGreat.Row
/- The content store in the words of kinds: the kind; sz, to, eq, mark, held. No conditions but that lengths fit. -/
namespace Go.Proofs.YtfglcmanmfenpaaGreat.Row
open Go.ChangeShapes Go.WideShapes Go.ChangeAt Go.RowKit Go.Instr
set_option linter.unusedVariables false
set_option maxRecDepth 100000
abbrev Cnt := Int × List Cet
set_option synthInstance.maxSize 100000 in
instance : DecidableEq Cnt := inferInstance
abbrev Cnm := Int × Rw Cem
def kCn : Kd Cnt Cnm := (kInt.pair kLCe)
theorem aggCn : Ret.AggOf Tryz.prog 26 2 := ⟨by kernel_rfl, by kernel_rfl⟩
def wtCn (x : Cnt) : Nat := bulkK wtCe x.2
def adCn (x : Cnt) : Nat := bulkK adCe x.2
def okCn (x : Cnt) : Prop := okLCe x.2
section
variable {w : World} {V : Value} {x : Cnt} {B E : Nat}
theorem kCn_at (h : kCn.At w V x) : ∃ (x1_0 : Option Addr) (n1_0 c1_0 : Nat), V = .agg #[.int .i64 x.1, .slice x1_0 n1_0 c1_0] ∧ kLCe.At w (.slice x1_0 n1_0 c1_0) x.2 := by
  obtain ⟨⟨m0, m1⟩, rfl, rfl, g0, g1⟩ := h
  obtain ⟨x1_0, n1_0, c1_0, e1, a1⟩ := kLCe_shapeA (Kd.at_of (k := kLCe) g1)
  have d1 : kLCe.cells m1 = [.slice x1_0 n1_0 c1_0] := by show [kLCe.val m1] = _; rw [e1]
  refine ⟨x1_0, n1_0, c1_0, ?_, e1 ▸ Kd.at_of (k := kLCe) g1⟩
  show Value.agg ((kInt.cells m0 ++ (kLCe.cells m1))).toArray = _
  rw [d1]
  rfl
theorem kCn_of {x1_0 : Option Addr} {n1_0 c1_0 : Nat} (h1 : kLCe.At w (.slice x1_0 n1_0 c1_0) x.2) : kCn.At w (.agg #[.int .i64 x.1, .slice x1_0 n1_0 c1_0]) x := by
  obtain ⟨l0, l1⟩ := x
  obtain ⟨m1, e1, r1, g1⟩ := h1
  replace e1 := e1.symm
  have d1 : kLCe.cells m1 = [.slice x1_0 n1_0 c1_0] := by show [kLCe.val m1] = _; rw [e1]
  refine ⟨(l0, m1), ?_, Prod.ext rfl (r1), trivial, g1⟩
  symm
  show Value.agg ((kInt.cells l0 ++ (kLCe.cells m1))).toArray = _
  rw [d1]
  rfl
theorem kCn_shapeA (h : kCn.At w V x) : ∃ (x1_0 : Option Addr) (n1_0 c1_0 : Nat), V = .agg #[.int .i64 x.1, .slice x1_0 n1_0 c1_0] ∧ kCn.At w (.agg #[.int .i64 x.1, .slice x1_0 n1_0 c1_0]) x := by
  obtain ⟨x1_0, n1_0, c1_0, rfl, -⟩ := kCn_at h
  exact ⟨x1_0, n1_0, c1_0, rfl, h⟩
theorem kCn_shape (h : kCn.In B E w V x) : ∃ (x1_0 : Option Addr) (n1_0 c1_0 : Nat), V = .agg #[.int .i64 x.1, .slice x1_0 n1_0 c1_0] ∧ kCn.In B E w (.agg #[.int .i64 x.1, .slice x1_0 n1_0 c1_0]) x := by
  obtain ⟨x1_0, n1_0, c1_0, rfl, -⟩ := kCn_at h.at
  exact ⟨x1_0, n1_0, c1_0, rfl, h⟩
end
def inCn (x : Cnt) : Prop := (Lit.int .i64 x.1).wf = true ∧ inLCe x.2
theorem inCn.ok {x : Cnt} (h : inCn x) : okCn x := h.2.ok
end Go.Proofs.YtfglcmanmfenpaaGreat.Row
/- Contracts of the library's slices.Grow at the nil slice, slices.Concat, slices.Equal and slices.Clone at slices of strings. No conditions but that lengths fit. -/
namespace Go.Proofs.YtfglcmanmfenpaaGreat.Row
open Go.ChangeShapes Go.WideShapes Go.ChangeAt Go.RowKit Go.Instr
set_option linter.unusedVariables false
set_option maxRecDepth 100000
def GivesS (w : World) (l : List ByteArray) (e : Ending) (w' : World) : Prop := ∃ v, e = .returned v ∧ Own 9 Value.string w.heap.size w' v l ∧ Below w.heap.size w w'
theorem own_one {α : Type} [Inhabited α] (enc : α → Value) (e : TypeId) (w : World) (x : α) : Own e enc w.heap.size (w.alloc (.cells #[enc x] e)) (.slice (some ⟨w.heap.size, 0, none⟩) 1 1) [x] :=
  World.ownsRow_lit w #[enc x] 1 (Nat.le_refl _) (by unfold maxLen; omega) rfl
def cat (ls : Nat → List ByteArray) : Nat → List ByteArray
  | 0 => []
  | k + 1 => cat ls k ++ ls k
theorem libEqS_len (x y : Option Addr) (n m cx cy : Nat) (w : World) (h : (((n : Nat) : Int) != ((m : Nat) : Int)) = true) :
    Calls Tryz.prog 77 #[.slice x n cx, .slice y m cy] w fun e w' => e = .returned (.bool false) ∧ w = w' := by
  go_enter Tryz.func77, Tryz.ntmps77
  go_wp2
  go_ret
  exact ⟨rfl, rfl⟩
set_option maxHeartbeats 1000000 in
theorem libEqS (v u : Value) (l m : List ByteArray) (w : World) (h : Holds Value.string w v l) (g : Holds Value.string w u m) (hl : l.length ≤ 140737488351232) (hm : m.length ≤ 140737488351232) :
    Calls Tryz.prog 77 #[v, u] w fun e w' => e = .returned (.bool (eqB l m)) ∧ Below w.heap.size w w' := by
  obtain ⟨x, cx, rfl, hcx, hh⟩ := h.shape
  obtain ⟨y, cy, rfl, hcy, hg⟩ := g.shape
  by_cases he : l.length = m.length
  · obtain ⟨n, hn⟩ : ∃ n, n = l.length := ⟨_, rfl⟩
    rw [← he] at hg hm hcy ⊢
    rw [← hn] at hcx hh hl hg hm hcy ⊢
    have HE := Lib.hid he
    have HN := Lib.hid hn
    have HH := Lib.hid hh
    have HG := Lib.hid hg
    have htest : (((n : Nat) : Int) != ((n : Nat) : Int)) = false := by simp
    clear hn h hh g hg he
    go_enter Tryz.func77, Tryz.ntmps77
    go_wp2
    go_loopw [13] (fun i wr => ∃ k nq : Nat, k ≤ n ∧ i = .int .i64 k ∧ Hid (agree l m k) ∧ wr = w.drewN nq) (fun i _ => n - (intOf i).toNat)
    case atStart => exact ⟨0, 0, Nat.zero_le _, rfl, Lib.hid (agree_zero _ _), rfl⟩
    case round =>
      obtain ⟨k, nq, hk, rfl, ha, rfl⟩ := hrel
      by_cases hlt : k < n
      · have hlen := HN.out
        have hlen2 := HE.out
        obtain ⟨b, off, rfl, hc⟩ := HH.out.at (j := k) (by omega)
        obtain ⟨b', off', rfl, hc'⟩ := HG.out.at (j := k) (by omega)
        clear hlen hlen2
        by_cases hd : nth l k = nth m k
        · have hd2 := tl_eq hd
          have HD := Lib.hid hd; clear hd
          go_wp2_with fail
          go_quiet (fail)
          go_wp2_with fail
          go_roundw
          case rel => exact ⟨k + 1, _, by omega, by go_num, Lib.hid (agree_succ ha.out HD.out), rfl⟩
          case measure => simp [intOf]; omega
        · have hd2 := tl_ne hd
          have HD := Lib.hid (eqB_false (differ_at hd)); clear hd
          go_wp2_with fail
          go_quiet (fail)
          go_wp2_with fail
          go_ret
          exact ⟨ret_bool HD.out.symm, below_drewN (below_drewN (Below.refl _ _) _) _⟩
      · obtain rfl : k = n := by omega
        have HD := Lib.hid (eqB_true (agree_all HE.out (HN.out ▸ ha.out)))
        clear hlt
        go_wp2
        go_ret
        exact ⟨ret_bool HD.out.symm, below_drewN (Below.refl _ _) _⟩
  · have htest : (((l.length : Nat) : Int) != ((m.length : Nat) : Int)) = true := by
      rw [bne_iff_ne]; omega
    rw [eqB_false (fun e => he (by rw [e]))]
    exact (libEqS_len x y _ _ cx cy w htest).mono fun e w' ⟨h1, h2⟩ => ⟨h1, by subst h2; exact Below.refl _ _⟩
set_option maxHeartbeats 1000000 in
theorem cloneS (v : Value) (l : List ByteArray) (w : World) (h : Holds Value.string w v l) (hl : l.length ≤ 10000000) :
    Calls Tryz.prog 83 #[v] w (GivesS w l) := by
  obtain ⟨x, cx, rfl, hcx, hh⟩ := h.shape
  cases x with
  | none =>
    have hl0 : l = [] := by
      obtain ⟨x', cap', hv, hc', hh'⟩ := hh
      cases hv
      rcases hh' with h1 | ⟨b, off, h1, _⟩
      · exact h1
      · cases h1
    subst hl0
    have hq : ∀ w : World, (binOp .eql 27 (.slice none 0 cx) (.slice none 0 0)).run Tryz.prog w = .ok (.bool true) w := fun w => by
      exact Lib.run_eql_slice_nil w _ _ _ _ _ _ _ Tryz.underlying27
    clear hh h
    simp only [List.length_nil]
    go_enter Tryz.func83, Tryz.ntmps83
    go_wp2
    go_ret
    exact ⟨_, rfl, Own.nil _ _ _ _, Below.refl _ _⟩
  | some ad =>
    have HB := Lib.hid ((Below.refl w.heap.size w).alloc (Nat.le_refl _) (.cells #[] 9))
    have HH := Lib.hid (hh.on HB.out)
    have HO := Lib.hid (own_empty Value.string 9 w)
    have hq : ∀ w : World, (binOp .eql 27 (.slice (some ad) l.length cx) (.slice none 0 0)).run Tryz.prog w = .ok (.bool false) w := fun w => by
      exact Lib.run_eql_slice_nil w _ _ _ _ _ _ _ Tryz.underlying27
    clear hh h
    go_enter Tryz.func83, Tryz.ntmps83
    go_wp2_with (at_builtin; refine wpList_app (enc := Value.string) (B := w.heap.size) (l := []) (m := l) rfl _ _ rfl Tryz.underlying27 elemSTR rfl rfl rfl HO.out HH.out oneStr (by simp; omega) (by unfold maxLen; simp; omega) (by simp) ?_)
    intro v2 w2 ho hg
    have HO2 := Lib.hid ho; have HB2 := Lib.hid (HB.out.grown hg (by simp) (fun g hh => (HO.out.lt g hh).1))
    clear ho hg
    go_wp2_with fail
    go_ret
    exact ⟨_, rfl, HO2.out, HB2.out⟩
end Go.Proofs.YtfglcmanmfenpaaGreat.Row
/- Contracts of CompareNames and EqualNames, the program's and the reference model's, and of the library's Compare and Equal on slices of strings: parts are compared one by one, byte by byte, then the lengths. No conditions but that lengths fit. -/
namespace Go.Proofs.YtfglcmanmfenpaaGreat.Row
open Go.ChangeShapes Go.WideShapes Go.ChangeAt Go.RowKit Go.Instr
set_option linter.unusedVariables false
set_option maxRecDepth 100000
def cmpS (a b : ByteArray) : Int := if Op.bytesLess a.toList b.toList = true then -1 else if a.toList = b.toList then 0 else 1
theorem cmpS_lt {a b : ByteArray} (h : Op.bytesLess a.toList b.toList = true) : cmpS a b = -1 := by simp [cmpS, h]
theorem cmpS_eq {a b : ByteArray} (h : Op.bytesLess a.toList b.toList = false) (he : (a.toList == b.toList) = true) : cmpS a b = 0 := by
  have : a.toList = b.toList := by simpa using he
  rw [cmpS, h, this]; simp
theorem cmpS_gt {a b : ByteArray} (h : Op.bytesLess a.toList b.toList = false) (he : (a.toList == b.toList) = false) : cmpS a b = 1 := by
  have : a.toList ≠ b.toList := by simpa using he
  simp [cmpS, h, this]
theorem cmpS_in (a b : ByteArray) : -1 ≤ cmpS a b ∧ cmpS a b ≤ 1 := by
  unfold cmpS; split
  · omega
  · split <;> omega
def cmpL : List ByteArray → List ByteArray → Int
  | [], [] => 0
  | [], _ :: _ => -1
  | _ :: _, [] => 1
  | a :: x, b :: y => if cmpS a b = 0 then cmpL x y else cmpS a b
theorem drop_nth {α : Type} [Inhabited α] {l : List α} {k : Nat} (h : k < l.length) : l.drop k = nth l k :: l.drop (k + 1) := by
  rw [nth_eq h]; exact List.drop_eq_getElem_cons h
theorem cmpL_same {a b : List ByteArray} {k : Nat} (h : k < a.length) (g : k < b.length) (hc : cmpS (nth a k) (nth b k) = 0) : cmpL (a.drop k) (b.drop k) = cmpL (a.drop (k + 1)) (b.drop (k + 1)) := by
  rw [drop_nth h, drop_nth g]; simp [cmpL, hc]
theorem cmpL_diff {a b : List ByteArray} {k : Nat} (h : k < a.length) (g : k < b.length) (hc : cmpS (nth a k) (nth b k) ≠ 0) : cmpL (a.drop k) (b.drop k) = cmpS (nth a k) (nth b k) := by
  rw [drop_nth h, drop_nth g]; simp [cmpL, hc]
theorem cmpL_long {a b : List ByteArray} {k : Nat} (h : k < a.length) (g : k = b.length) : cmpL (a.drop k) (b.drop k) = 1 := by
  rw [drop_nth h, g, List.drop_length]; rfl
theorem cmpL_short {a b : List ByteArray} {k : Nat} (h : k = a.length) (g : k < b.length) : cmpL (a.drop k) (b.drop k) = -1 := by
  rw [drop_nth g, h, List.drop_length]; rfl
theorem cmpL_both {a b : List ByteArray} {k : Nat} (h : k = a.length) (g : k = b.length) : cmpL (a.drop k) (b.drop k) = 0 := by
  rw [h, List.drop_length, ← h, g, List.drop_length]; rfl
set_option maxHeartbeats 1000000 in
theorem l4Cmp (a b : ByteArray) (w : World) : Calls Tryz.prog 91 #[.string a, .string b] w fun e w' => e = .returned (.int .i64 (cmpS a b)) ∧ w = w' := by
  cases h : Op.bytesLess a.toList b.toList with
  | true =>
    have HC := Lib.hid (cmpS_lt h)
    go_enter Tryz.func91, Tryz.ntmps91
    go_wp2
    go_ret
    exact ⟨ret_int HC.out.symm, rfl⟩
  | false =>
    cases he : (a.toList == b.toList) with
    | true =>
      have HC := Lib.hid (cmpS_eq h he)
      go_enter Tryz.func91, Tryz.ntmps91
      go_wp2
      go_ret
      exact ⟨ret_int HC.out.symm, rfl⟩
    | false =>
      have HC := Lib.hid (cmpS_gt h he)
      go_enter Tryz.func91, Tryz.ntmps91
      go_wp2
      go_ret
      exact ⟨ret_int HC.out.symm, rfl⟩
theorem quiet_add_left {P : Program} {f : FuncId} {args : Array Value} {w : World} {a n : Nat} {v : Value}
    (h : Calls P f args (w.drewN (a + n)) fun e w' => e = .returned v ∧ w.drewN (a + n) = w') :
    Calls P f args (w.drewN (a + n)) fun e w'' => e = .returned v ∧ ∃ m, w'' = w.drewN (a + m) :=
  h.mono fun _ _ ⟨he, hm⟩ => ⟨he, n, hm.symm⟩
theorem quiet_left {P : Program} {f : FuncId} {args : Array Value} {w : World} {n : Nat} {v : Value}
    (h : Calls P f args (w.drewN n) fun e w' => e = .returned v ∧ w.drewN n = w') : Calls P f args (w.drewN n) fun e w'' => e = .returned v ∧ ∃ m, w'' = w.drewN m :=
  h.mono fun _ _ ⟨he, hm⟩ => ⟨he, n, hm.symm⟩
theorem l4CmpV (a b : ByteArray) (c : Int) (w : World) (h : cmpS a b = c) : Calls Tryz.prog 91 #[.string a, .string b] w fun e w' => e = .returned (.int .i64 c) ∧ w = w' := h ▸ l4Cmp a b w
set_option maxHeartbeats 1000000 in
theorem specCompareNames (v u : Value) (l m : List ByteArray) (w : World) (h : Holds Value.string w v l) (g : Holds Value.string w u m) (hl : l.length ≤ 140737488351232) (hm : m.length ≤ 140737488351232) :
    Calls Tryz.prog 78 #[.agg #[v], .agg #[u]] w fun e w' => e = .returned (.int .i64 (cmpL l m)) ∧ Below w.heap.size w w' := by
  obtain ⟨x, cx, rfl, hcx, hh⟩ := h.shape
  obtain ⟨y, cy, rfl, hcy, hg⟩ := g.shape
  obtain ⟨n, hn⟩ : ∃ n, n = l.length := ⟨_, rfl⟩
  obtain ⟨q, hq⟩ : ∃ q, q = m.length := ⟨_, rfl⟩
  rw [← hn] at hcx hh hl ⊢
  rw [← hq] at hcy hg hm ⊢
  have HB := Lib.hid (((Below.refl w.heap.size w).alloc (Nat.le_refl _) (.cells #[.slice x n cx] 29)).alloc (Nat.le_trans (Nat.le_refl _) (by simp)) (.cells #[.slice y q cy] 29))
  have HN := Lib.hid hn; have HQ := Lib.hid hq; have HH := Lib.hid (hh.on HB.out); have HG := Lib.hid (hg.on HB.out)
  clear hn hq h hh g hg
  go_enter Tryz.func78, Tryz.ntmps78
  go_wp2_with fail
  go_loopw [5] (fun i wr => ∃ k nq : Nat, k ≤ n ∧ k ≤ q ∧ i = .int .i64 k ∧ wr = ((w.alloc (.cells #[.slice x n cx] 29)).alloc (.cells #[.slice y q cy] 29)).drewN nq ∧ Hid (cmpL l m = cmpL (l.drop k) (m.drop k))) (fun i _ => n - (intOf i).toNat)
  case atStart => exact ⟨0, 0, Nat.zero_le _, Nat.zero_le _, rfl, rfl, Lib.hid (by simp)⟩
  case round =>
    obtain ⟨k, nq, hk, hkq, rfl, rfl, hc⟩ := hrel
    by_cases hlt : k < n
    · have hlen := HN.out
      by_cases hlq : k < q
      · have hlen2 := HQ.out
        obtain ⟨b, off, rfl, hcx1⟩ := HH.out.at (j := k) (by omega)
        obtain ⟨b', off', rfl, hcy1⟩ := HG.out.at (j := k) (by omega)
        by_cases hd : cmpS (nth l k) (nth m k) = 0
        · have HC := Lib.hid (hc.out.trans (cmpL_same (by omega) (by omega) hd))
          have HD := Lib.hid hd
          clear hlen hlen2 hd
          go_wp2_with fail
          go_quiet ((go_at_call 91; first | exact quiet_add_left (l4CmpV _ _ 0 _ HD.out) | exact quiet_left (l4CmpV _ _ 0 _ HD.out)))
          go_wp2_with fail
          go_roundw
          case rel => exact ⟨k + 1, _, by omega, by omega, by go_num, rfl, HC⟩
          case measure => simp [intOf]; omega
        · have HC := Lib.hid (hc.out.trans (cmpL_diff (by omega) (by omega) hd))
          obtain ⟨c, hce⟩ : ∃ c, c = cmpS (nth l k) (nth m k) := ⟨_, rfl⟩
          have HE := Lib.hid hce
          rw [← hce] at hd
          have hd2 : (c != 0) = true := by simpa using hd
          have hcin := cmpS_in (nth l k) (nth m k)
          rw [← hce] at hcin
          obtain ⟨hc1, hc2⟩ := hcin
          clear hlen hlen2 hd hce
          go_wp2_with fail
          go_quiet ((go_at_call 91; first | exact quiet_add_left (l4CmpV _ _ c _ HE.out.symm) | exact quiet_left (l4CmpV _ _ c _ HE.out.symm)))
          go_wp2_with fail
          go_ret
          exact ⟨ret_int (HE.out.trans HC.out.symm), below_drewN HB.out _⟩
      · obtain rfl : k = q := by omega
        have HC := Lib.hid (hc.out.trans (cmpL_long (by omega) HQ.out))
        clear hlen
        go_wp2
        go_ret
        exact ⟨ret_int HC.out.symm, below_drewN HB.out _⟩
    · obtain rfl : k = n := by omega
      by_cases hlq : k < q
      · have HC := Lib.hid (hc.out.trans (cmpL_short HN.out (by have := HQ.out; omega)))
        go_wp2
        go_ret
        exact ⟨ret_int HC.out.symm, below_drewN HB.out _⟩
      · obtain rfl : k = q := by omega
        have HC := Lib.hid (hc.out.trans (cmpL_both HN.out HQ.out))
        go_wp2
        go_ret
        exact ⟨ret_int HC.out.symm, below_drewN HB.out _⟩
end Go.Proofs.YtfglcmanmfenpaaGreat.Row
/- Contracts of the integer functions of chapter 1 (without the texts): each returns the plain integer that its definition below says. The functions that only compute leave the world alone; Min and Max make one new block. No conditions but that the arguments fit their kind where sums are formed. -/
namespace Go.Proofs.YtfglcmanmfenpaaGreat.Num
open Go.ChangeShapes Go.WideShapes Go.ChangeAt Go.RowKit
set_option linter.unusedVariables false
set_option maxRecDepth 100000
def inB (n a b : Int) : Bool := decide (a ≤ n ∧ n ≤ b)
theorem inB_true {n a b : Int} (h1 : a ≤ n) (h2 : n ≤ b) : inB n a b = true := by simp [inB, h1, h2]
theorem inB_false1 {n a b : Int} (h1 : ¬ a ≤ n) : inB n a b = false := by simp [inB, h1]
theorem inB_false2 {n a b : Int} (h2 : ¬ n ≤ b) : inB n a b = false := by simp [inB, h2]
theorem implInRange (n a b : Int) (w : World) :
    Calls Tryz.prog 58 #[.int .i64 n, .int .i64 a, .int .i64 b] w fun e w' => e = .returned (.bool (inB n a b)) ∧ w = w' := by
  by_cases h1 : a ≤ n
  · by_cases h2 : n ≤ b
    · rw [inB_true h1 h2]
      go_enter Tryz.func58, Tryz.ntmps58
      go_wp2
      go_ret
      exact ⟨rfl, rfl⟩
    · rw [inB_false2 h2]
      go_enter Tryz.func58, Tryz.ntmps58
      go_wp2
      go_ret
      exact ⟨rfl, rfl⟩
  · rw [inB_false1 h1]
    go_enter Tryz.func58, Tryz.ntmps58
    go_wp2
    go_ret
    exact ⟨rfl, rfl⟩
theorem specIn (n a b : Int) (w : World) :
    Calls Tryz.prog 59 #[.int .i64 n, .int .i64 a, .int .i64 b] w fun e w' => e = .returned (.bool (inB n a b)) ∧ w = w' := by
  by_cases h1 : a ≤ n
  · by_cases h2 : n ≤ b
    · rw [inB_true h1 h2]
      go_enter Tryz.func59, Tryz.ntmps59
      go_wp2
      go_ret
      exact ⟨rfl, rfl⟩
    · rw [inB_false2 h2]
      go_enter Tryz.func59, Tryz.ntmps59
      go_wp2
      go_ret
      exact ⟨rfl, rfl⟩
  · rw [inB_false1 h1]
    go_enter Tryz.func59, Tryz.ntmps59
    go_wp2
    go_ret
    exact ⟨rfl, rfl⟩
theorem specIn_true {n a b : Int} (h1 : a ≤ n) (h2 : n ≤ b) (w : World) :
    Calls Tryz.prog 59 #[.int .i64 n, .int .i64 a, .int .i64 b] w fun e w' => e = .returned (.bool true) ∧ w = w' := by
  have := specIn n a b w
  rwa [inB_true h1 h2] at this
theorem specIn_false {n a b : Int} (h : ¬ (a ≤ n ∧ n ≤ b)) (w : World) :
    Calls Tryz.prog 59 #[.int .i64 n, .int .i64 a, .int .i64 b] w fun e w' => e = .returned (.bool false) ∧ w = w' := by
  have := specIn n a b w
  have e : inB n a b = false := by simpa [inB] using h
  rwa [e] at this
theorem implIn_true {n a b : Int} (h1 : a ≤ n) (h2 : n ≤ b) (w : World) :
    Calls Tryz.prog 58 #[.int .i64 n, .int .i64 a, .int .i64 b] w fun e w' => e = .returned (.bool true) ∧ w = w' := by
  have := implInRange n a b w
  rwa [inB_true h1 h2] at this
theorem implIn_false {n a b : Int} (h : ¬ (a ≤ n ∧ n ≤ b)) (w : World) :
    Calls Tryz.prog 58 #[.int .i64 n, .int .i64 a, .int .i64 b] w fun e w' => e = .returned (.bool false) ∧ w = w' := by
  have := implInRange n a b w
  have e : inB n a b = false := by simpa [inB] using h
  rwa [e] at this
def minI (a b : Int) : Int := if b < a then b else a
def maxI (a b : Int) : Int := if a < b then b else a
def ceilI (a b : Int) : Int := if 0 ≤ a ∧ a ≤ 1000000000000 ∧ 1 ≤ b ∧ b ≤ 1000000000000 then (a + b - 1) / b else 0
def modI (n m : Int) : Int := if 1 ≤ m ∧ m ≤ 1000000000000 then n % m else 0
theorem modI_out {n m : Int} (h : ¬ (1 ≤ m ∧ m ≤ 1000000000000)) : modI n m = 0 := by
  unfold modI; rw [if_neg h]
theorem tmod_hi (n m : Int) (h : 1 ≤ m) : n.tmod m < m := Int.tmod_lt_of_pos n (by omega)
theorem tmod_lo (n m : Int) (h : 1 ≤ m) : -m < n.tmod m := by
  have := Int.lt_tmod_of_pos n (b := m) (by omega)
  omega
theorem modI_spec {n m : Int} (h1 : 1 ≤ m) (h2 : m ≤ 1000000000000) : modI n m = (n.tmod m + m) % m := by
  rw [Int.add_emod_right]
  unfold modI; rw [if_pos ⟨h1, h2⟩]
  have e := Int.tmod_add_mul_tdiv n m
  have e2 : n = n.tmod m + m * n.tdiv m := e.symm
  conv => lhs; rw [e2]
  rw [Int.add_mul_emod_self_left]
theorem modI_nonneg (p : Int) {q : Int} (h : 1 ≤ q) : 0 ≤ modI p q := by
  unfold modI; split
  · exact Int.emod_nonneg _ (by omega)
  · omega
theorem modI_lt (p : Int) {q : Int} (h : 1 ≤ q) : modI p q < q := by
  unfold modI; split
  · exact Int.emod_lt_of_pos _ (by omega)
  · omega
theorem specMod (n m : Int) (w : World) :
    Calls Tryz.prog 107 #[.int .i64 n, .int .i64 m] w fun e w' => e = .returned (.int .i64 (modI n m)) ∧ w = w' := by
  by_cases h1 : 1 ≤ m
  · by_cases h2 : m ≤ 1000000000000
    · have hl := tmod_lo n m h1
      have hh := tmod_hi n m h1
      rw [modI_spec h1 h2]
      go_enter Tryz.func107, Tryz.ntmps107
      go_wp2
      go_ret
      exact ⟨rfl, rfl⟩
    · rw [modI_out (fun h => h2 h.2)]
      go_enter Tryz.func107, Tryz.ntmps107
      go_wp2
      go_ret
      exact ⟨rfl, rfl⟩
  · rw [modI_out (fun h => h1 h.1)]
    go_enter Tryz.func107, Tryz.ntmps107
    go_wp2
    go_ret
    exact ⟨rfl, rfl⟩
end Go.Proofs.YtfglcmanmfenpaaGreat.Num
/- Contracts of Truncate, EqualNames and HasPrefix, the program's and the reference model's. No conditions but that lengths fit. -/
namespace Go.Proofs.YtfglcmanmfenpaaGreat.Row
open Go.ChangeShapes Go.WideShapes Go.ChangeAt Go.RowKit Go.Instr
set_option linter.unusedVariables false
set_option maxRecDepth 100000
section
variable {α : Type} [Inhabited α] {enc : α → Value} {w : World} {x : Option Addr} {n cap : Nat} {l : List α}
theorem Holds.take (h : Holds enc w (.slice x n cap) l) {j : Nat} (hj : j ≤ l.length) : Holds enc w (.slice x j cap) (l.take j) := by
  obtain ⟨x', cap', hv, hc, hh⟩ := h
  cases hv
  have hl : (l.take j).length = j := by simp; omega
  refine ⟨x, cap, by rw [hl], by omega, ?_⟩
  rcases hh with rfl | ⟨b, off, hx, hh⟩
  · left; simp
  · refine Or.inr ⟨b, off, hx, fun i hi => ?_⟩
    rw [hl] at hi
    rw [hh i (by omega), nth_eq (by omega), nth_eq (by omega)]
    simp
theorem Holds.drop {b off : Nat} (h : Holds enc w (.slice (some ⟨b, off, none⟩) n cap) l) {j : Nat} (hj : j ≤ l.length) : Holds enc w (.slice (some ⟨b, off + j, none⟩) (n - j) (cap - j)) (l.drop j) := by
  obtain ⟨x', cap', hv, hc, hh⟩ := h
  cases hv
  have hl : (l.drop j).length = l.length - j := by simp
  refine ⟨_, cap - j, by rw [hl], by omega, ?_⟩
  rcases hh with rfl | ⟨b', off', hx, hh⟩
  · left; simp
  · cases hx
    refine Or.inr ⟨b, off + j, rfl, fun i hi => ?_⟩
    rw [hl] at hi
    rw [Nat.add_assoc, hh (j + i) (by omega), nth_eq (by omega), nth_eq (by omega)]
    simp
end
def GivesN (w : World) (l : List ByteArray) (e : Ending) (w' : World) : Prop := ∃ v, e = .returned (.agg #[v]) ∧ Own 9 Value.string w.heap.size w' v l ∧ Below w.heap.size w w'
def GivesNB (w : World) (l : List ByteArray) (b : Bool) (e : Ending) (w' : World) : Prop := ∃ v, e = .returned (.tuple #[.agg #[v], .bool b]) ∧ Own 9 Value.string w.heap.size w' v l ∧ Below w.heap.size w w'
def GivesHB (w : World) (l : List ByteArray) (b : Bool) (e : Ending) (w' : World) : Prop := ∃ v, e = .returned (.tuple #[.agg #[v], .bool b]) ∧ Holds Value.string w' v l ∧ Below w.heap.size w w'
def trI (l : List ByteArray) (k : Int) : Nat := (Num.maxI 0 (Num.minI k l.length)).toNat
def trN (l : List ByteArray) (k : Int) : List ByteArray := l.take (trI l k)
theorem aggN : Ret.AggOf Tryz.prog 29 1 := by unfold Ret.AggOf; exact ⟨by kernel_rfl, by kernel_rfl⟩
theorem endN {w w1 : World} {g B : Nat} {v u : Value} {l : List ByteArray} (hw : w.heap.size ≤ g) (hgB : g < B) (ho : Own 9 Value.string B w1 v l) (hc : w1.cell? ⟨g, 0, none⟩ = some u) (hb : Below w.heap.size w w1) :
    (w1.setCell ⟨g, 0, none⟩ v).cell? ⟨g, 0, none⟩ = some v ∧ Own 9 Value.string w.heap.size (w1.setCell ⟨g, 0, none⟩ v) v l ∧ Below w.heap.size w (w1.setCell ⟨g, 0, none⟩ v) :=
  ⟨Ret.set_same hc, (ho.grown (Ret.grownBy_set w1 ⟨g, 0, none⟩ v) (nb ho hgB)).mono (by omega), hb.setCell hw _⟩
end Go.Proofs.YtfglcmanmfenpaaGreat.Row
/- Contracts of EqualNames and HasPrefix, the program's and the reference model's. No conditions but that lengths fit. -/
namespace Go.Proofs.YtfglcmanmfenpaaGreat.Row
open Go.ChangeShapes Go.WideShapes Go.ChangeAt Go.RowKit Go.Instr
set_option linter.unusedVariables false
set_option maxRecDepth 100000
theorem less_irrefl : ∀ l : List UInt8, Op.bytesLess l l = false
  | [] => rfl
  | a :: x => by
    rw [Op.bytesLess, less_irrefl x]
    have : decide (a < a) = false := by simp
    simp
theorem cmpS_zero {a b : ByteArray} : cmpS a b = 0 ↔ a = b := by
  constructor
  · intro h
    unfold cmpS at h
    split at h
    · omega
    · split at h
      · rename_i _ h2; exact toList_inj h2
      · omega
  · rintro rfl
    unfold cmpS
    rw [less_irrefl]; simp
theorem cmpL_zero : ∀ {l m : List ByteArray}, cmpL l m = 0 ↔ l = m
  | [], [] => by simp [cmpL]
  | [], _ :: _ => by simp [cmpL]
  | _ :: _, [] => by simp [cmpL]
  | a :: x, b :: y => by
    unfold cmpL
    by_cases h : cmpS a b = 0
    · rw [if_pos h, cmpL_zero, cmpS_zero.1 h]; simp
    · rw [if_neg h]
      have : a ≠ b := fun e => h (cmpS_zero.2 e)
      constructor
      · intro e; exact absurd e h
      · intro e; cases e; exact absurd rfl this
theorem eqB_cmp (l m : List ByteArray) : eqB l m = (cmpL l m == 0) := by
  unfold eqB
  by_cases h : l = m
  · have := cmpL_zero.2 h
    simp [h, cmpL_zero.2]
  · have h2 : cmpL l m ≠ 0 := fun e => h (cmpL_zero.1 e)
    simp [h, h2]
set_option maxHeartbeats 1000000 in
theorem implEqualNames (v u : Value) (l m : List ByteArray) (w : World) (h : Holds Value.string w v l) (g : Holds Value.string w u m) (hl : l.length ≤ 140737488351232) (hm : m.length ≤ 140737488351232) :
    Calls Tryz.prog 43 #[.agg #[v], .agg #[u]] w fun e w' => e = .returned (.bool (eqB l m)) ∧ Below w.heap.size w w' := by
  obtain ⟨x, cx, rfl, hcx, hh⟩ := h.shape
  obtain ⟨y, cy, rfl, hcy, hg⟩ := g.shape
  have HH := Lib.hid hh; have HG := Lib.hid hg
  clear hh h hg g
  go_enter Tryz.func43, Tryz.ntmps43
  go_wp2_with fail
  have HB := Lib.hid (((Below.refl w.heap.size w).alloc (Nat.le_refl _) (.cells #[.slice x l.length cx] 29)).alloc (Nat.le_trans (Nat.le_refl _) (by simp)) (.cells #[.slice y m.length cy] 29))
  have HA := Lib.hid (HH.out.on HB.out); have HC := Lib.hid (HG.out.on HB.out)
  refine (libEqS _ _ l m _ HA.out HC.out hl hm).mono ?_
  rintro e w' ⟨rfl, hb⟩
  have HB2 := Lib.hid (HB.out.trans (hb.mono (by simp; omega))); clear hb
  go_wp2
  go_ret
  exact ⟨rfl, HB2.out⟩
set_option maxHeartbeats 1000000 in
theorem specEqualNames (v u : Value) (l m : List ByteArray) (w : World) (h : Holds Value.string w v l) (g : Holds Value.string w u m) (hl : l.length ≤ 140737488351232) (hm : m.length ≤ 140737488351232) :
    Calls Tryz.prog 44 #[.agg #[v], .agg #[u]] w fun e w' => e = .returned (.bool (eqB l m)) ∧ Below w.heap.size w w' := by
  obtain ⟨x, cx, rfl, hcx, hh⟩ := h.shape
  obtain ⟨y, cy, rfl, hcy, hg⟩ := g.shape
  have HH := Lib.hid hh; have HG := Lib.hid hg
  have HE := Lib.hid (eqB_cmp l m)
  clear hh h hg g
  go_enter Tryz.func44, Tryz.ntmps44
  go_wp2_with fail
  have HB := Lib.hid (((Below.refl w.heap.size w).alloc (Nat.le_refl _) (.cells #[.slice x l.length cx] 29)).alloc (Nat.le_trans (Nat.le_refl _) (by simp)) (.cells #[.slice y m.length cy] 29))
  have HA := Lib.hid (HH.out.on HB.out); have HC := Lib.hid (HG.out.on HB.out)
  refine (specCompareNames _ _ l m _ HA.out HC.out hl hm).mono ?_
  rintro e w' ⟨rfl, hb⟩
  have HB2 := Lib.hid (HB.out.trans (hb.mono (by simp; omega))); clear hb
  go_wp2
  go_ret
  exact ⟨ret_bool HE.out.symm, HB2.out⟩
def hpB (l m : List ByteArray) : Bool := decide (m.length ≤ l.length ∧ l.take m.length = m)
end Go.Proofs.YtfglcmanmfenpaaGreat.Row
/- Contracts of ValidPart and ValidName, the program's and the reference model's: a part is right where its size is 1 to 8 and each byte is a small letter, a digit or a minus; a name where each part is and there are at most 6. No conditions but that lengths fit. -/
namespace Go.Proofs.YtfglcmanmfenpaaGreat.Row
open Go.ChangeShapes Go.WideShapes Go.ChangeAt Go.RowKit Go.Instr
set_option linter.unusedVariables false
set_option maxRecDepth 100000
def okR (r : Int) : Prop := (97 ≤ r ∧ r ≤ 122) ∨ (48 ≤ r ∧ r ≤ 57) ∨ r = 45
instance (r : Int) : Decidable (okR r) := by unfold okR; infer_instance
def okTo (s : ByteArray) (k : Nat) : Prop := ∀ j (h : j < s.size), j < k → okR ((s[j]'h).toNat : Int)
instance (s : ByteArray) (k : Nat) : Decidable (okTo s k) := by unfold okTo; infer_instance
def validP (s : ByteArray) : Bool := decide (1 ≤ s.size ∧ s.size ≤ 8 ∧ okTo s s.size)
theorem okTo_zero (s : ByteArray) : okTo s 0 := fun j h h2 => absurd h2 (by omega)
theorem okTo_succ {s : ByteArray} {k : Nat} (h : okTo s k) (hk : k < s.size) (hc : okR ((s[k]'hk).toNat : Int)) : okTo s (k + 1) := fun j h1 h2 => by
  by_cases e : j = k
  · subst e; exact hc
  · exact h j h1 (by omega)
theorem validP_true {s : ByteArray} (h1 : 1 ≤ s.size) (h2 : s.size ≤ 8) (h : okTo s s.size) : validP s = true := by simp [validP, h1, h2, h]
theorem validP_size {s : ByteArray} (h : ¬ (1 ≤ s.size ∧ s.size ≤ 8)) : validP s = false := by
  unfold validP; exact decide_eq_false (fun e => h ⟨e.1, e.2.1⟩)
theorem validP_byte {s : ByteArray} {k : Nat} (hk : k < s.size) (hc : ¬ okR ((s[k]'hk).toNat : Int)) : validP s = false := by
  unfold validP; exact decide_eq_false (fun e => hc (e.2.2 k hk hk))
theorem validP_iff {s : ByteArray} : validP s = true ↔ 1 ≤ s.size ∧ s.size ≤ 8 ∧ okTo s s.size := by unfold validP; exact decide_eq_true_iff
theorem rune_ok {s : ByteArray} {pos : Nat} (h : pos < s.size) (hr : okR ((Utf8.decode s pos).1 : Int)) : okR ((s[pos]'h).toNat : Int) ∧ (Utf8.decode s pos).2 = 1 := by
  by_cases ha : (s[pos]'h).toNat < 128
  · rw [decode_ascii s pos h ha] at hr ⊢
    exact ⟨hr, rfl⟩
  · have := (decode_high s pos h (by omega)).1
    unfold okR at hr; omega
theorem rune_not {s : ByteArray} {pos : Nat} (h : pos < s.size) (hr : ¬ okR ((Utf8.decode s pos).1 : Int)) : ¬ okR ((s[pos]'h).toNat : Int) := by
  by_cases ha : (s[pos]'h).toNat < 128
  · rwa [decode_ascii s pos h ha] at hr
  · unfold okR; omega
set_option maxHeartbeats 1000000 in
theorem isPartRune (r : Int) (w : World) : Calls Tryz.prog 96 #[.int .i32 r] w fun e w' => e = .returned (.bool (decide (okR r))) ∧ w = w' := by
  have HT := fun (h : okR r) => (decide_eq_true h).symm
  have HF := fun (h : ¬ okR r) => (decide_eq_false h).symm
  have HT := Lib.hid HT; have HF := Lib.hid HF
  by_cases h1 : 97 ≤ r ∧ r ≤ 122
  · obtain ⟨h1a, h1b⟩ := h1
    go_enter Tryz.func96, Tryz.ntmps96
    go_wp2
    go_ret
    exact ⟨ret_bool (HT.out (by unfold okR; omega)), rfl⟩
  · by_cases h2 : 48 ≤ r ∧ r ≤ 57
    · obtain ⟨h2a, h2b⟩ := h2
      have h1a : ¬ 97 ≤ r := by omega
      go_enter Tryz.func96, Tryz.ntmps96
      go_wp2
      go_ret
      exact ⟨ret_bool (HT.out (by unfold okR; omega)), rfl⟩
    · by_cases h3 : r = 45
      · subst h3
        go_enter Tryz.func96, Tryz.ntmps96
        go_wp2
        go_ret
        exact ⟨ret_bool (HT.out (by unfold okR; omega)), rfl⟩
      · have HF2 := Lib.hid (HF.out (by unfold okR; omega))
        have h3b : (r == 45) = false := by simpa using h3
        clear h3 HF HT
        by_cases h1a : 97 ≤ r
        · have h1b : ¬ r ≤ 122 := by omega
          have h2b : ¬ r ≤ 57 := by omega
          clear h1 h2
          go_enter Tryz.func96, Tryz.ntmps96
          go_wp2
          go_ret
          exact ⟨ret_bool HF2.out, rfl⟩
        · clear h1
          by_cases h2a : 48 ≤ r
          · have h2b : ¬ r ≤ 57 := by omega
            clear h2
            go_enter Tryz.func96, Tryz.ntmps96
            go_wp2
            go_ret
            exact ⟨ret_bool HF2.out, rfl⟩
          · clear h2
            go_enter Tryz.func96, Tryz.ntmps96
            go_wp2
            go_ret
            exact ⟨ret_bool HF2.out, rfl⟩
set_option maxHeartbeats 1000000 in
theorem implValidPart (s : ByteArray) (w : World) (hl : s.size ≤ 140737488351232) :
    Calls Tryz.prog 84 #[.string s] w fun e w' => e = .returned (.bool (validP s)) ∧ Below w.heap.size w w' := by
  go_enter Tryz.func84, Tryz.ntmps84
  go_wp2
  go_loopw [] (fun w' => ∃ pos : Nat, pos ≤ s.size ∧ w' = w.iter s pos ∧ Hid (okTo s pos)) (fun w' => s.size - w'.iterPos w.heap.size)
  case atStart => exact ⟨0, by omega, rfl, Lib.hid (okTo_zero s)⟩
  case round =>
    obtain ⟨pos, hpl, rfl, ho⟩ := hrel
    by_cases hp : pos < s.size
    · have hnx : ∀ ty, (Instr.next (.pointer (some ⟨w.heap.size, 0, none⟩)) true ty).run Tryz.prog (w.iter s pos) = _ := fun ty => run_next_any w s pos ty hp
      by_cases hr : okR ((Utf8.decode s pos).1 : Int)
      · obtain ⟨h1, h2⟩ := rune_ok hp hr
        have HO := Lib.hid (okTo_succ ho.out hp h1)
        have HR := Lib.hid (decide_eq_true hr)
        rw [h2] at hnx
        clear hr h1 h2
        go_wp2_with fail
        refine (isPartRune _ _).mono ?_
        rintro e w2 ⟨rfl, rfl⟩
        rw [HR.out]
        go_wp2
        go_roundw
        case rel => exact ⟨pos + 1, by omega, rfl, HO⟩
        case measure => simp; omega
      · have HV := Lib.hid (validP_byte hp (rune_not hp hr))
        have HR := Lib.hid (decide_eq_false hr)
        clear hr
        go_wp2_with fail
        refine (isPartRune _ _).mono ?_
        rintro e w2 ⟨rfl, rfl⟩
        rw [HR.out]
        go_wp2
        go_ret
        exact ⟨ret_bool HV.out.symm, (Below.refl _ _).alloc (Nat.le_refl _) _⟩
    · obtain rfl : pos = s.size := by omega
      have hnx : ∀ ty, (Instr.next (.pointer (some ⟨w.heap.size, 0, none⟩)) true ty).run Tryz.prog (w.iter s s.size) = _ := fun ty => run_next_end w s s.size ty hp
      go_wp2_with fail
      refine (Num.implInRange _ _ _ _).mono ?_
      rintro e w2 ⟨rfl, rfl⟩
      go_wp2
      go_ret
      refine ⟨ret_bool ?_, (Below.refl _ _).alloc (Nat.le_refl _) _⟩
      have := ho.out
      simp only [Num.inB, validP, this, and_true]
      congr 1
      apply propext
      omega
set_option maxHeartbeats 1000000 in
theorem specValidPart (s : ByteArray) (w : World) (hl : s.size ≤ 140737488351232) :
    Calls Tryz.prog 92 #[.string s] w fun e w' => e = .returned (.bool (validP s)) ∧ w = w' := by
  by_cases hsz : 1 ≤ s.size ∧ s.size ≤ 8
  · obtain ⟨hs1, hs8⟩ := hsz
    go_enter Tryz.func92, Tryz.ntmps92
    go_wp2_with fail
    refine (Num.specIn_true (by omega) (by omega) _).mono ?_
    rintro e w2 ⟨rfl, rfl⟩
    go_wp2
    go_loop [3] (fun iv => ∃ k : Nat, k ≤ s.size ∧ iv = .int .i64 k ∧ Hid (okTo s k)) (fun iv => s.size - (intOf iv).toNat)
    case atStart => exact ⟨0, by omega, rfl, Lib.hid (okTo_zero s)⟩
    case round =>
      obtain ⟨k, hk, rfl, ho⟩ := hrel
      by_cases hlt : k < s.size
      · have hb := (s[k]'hlt).toNat_lt
        have hb0 : (0 : Int) ≤ ((s[k]'hlt).toNat : Int) := by omega
        have hb1 : ((s[k]'hlt).toNat : Int) ≤ 255 := by omega
        have HOK := Lib.hid (fun hc => okTo_succ ho.out hlt hc)
        have HNO := Lib.hid (fun hc => validP_byte hlt hc)
        clear hb
        go_wp2_with fail
        by_cases h1 : 97 ≤ ((s[k]'hlt).toNat : Int) ∧ ((s[k]'hlt).toNat : Int) ≤ 122
        · refine (Num.specIn_true h1.1 h1.2 _).mono ?_
          rintro e w2 ⟨rfl, rfl⟩
          have HO2 := Lib.hid (HOK.out (by unfold okR; omega))
          clear HOK HNO h1
          go_wp2
          go_round
          case rel => exact ⟨k + 1, by omega, by go_num, HO2⟩
          case measure => simp [intOf]; omega
        · refine (Num.specIn_false h1 _).mono ?_
          rintro e w2 ⟨rfl, rfl⟩
          go_wp2_with fail
          by_cases h2 : 48 ≤ ((s[k]'hlt).toNat : Int) ∧ ((s[k]'hlt).toNat : Int) ≤ 57
          · refine (Num.specIn_true h2.1 h2.2 _).mono ?_
            rintro e w2 ⟨rfl, rfl⟩
            have HO2 := Lib.hid (HOK.out (by unfold okR; omega))
            clear HOK HNO h1 h2
            go_wp2
            go_round
            case rel => exact ⟨k + 1, by omega, by go_num, HO2⟩
            case measure => simp [intOf]; omega
          · refine (Num.specIn_false h2 _).mono ?_
            rintro e w2 ⟨rfl, rfl⟩
            by_cases h3 : (s[k]'hlt).toNat = 45
            · have h3b : (((s[k]'hlt).toNat : Int) != 45) = false := by simp [h3]
              have HO2 := Lib.hid (HOK.out (by unfold okR; omega))
              clear HOK HNO h1 h2
              go_wp2
              go_round
              case rel => exact ⟨k + 1, by omega, by go_num, HO2⟩
              case measure => simp [intOf]; omega
            · have h3b : (((s[k]'hlt).toNat : Int) != 45) = true := by simp; omega
              have HV := Lib.hid (HNO.out (by unfold okR; omega))
              clear HOK HNO h1 h2 h3
              go_wp2
              go_ret
              exact ⟨ret_bool HV.out.symm, rfl⟩
      · obtain rfl : k = s.size := by omega
        have HV := Lib.hid (validP_true hs1 hs8 ho.out)
        go_wp2
        go_ret
        exact ⟨ret_bool HV.out.symm, rfl⟩
  · have HV := Lib.hid (validP_size hsz)
    go_enter Tryz.func92, Tryz.ntmps92
    go_wp2_with fail
    refine (Num.specIn_false (by omega) _).mono ?_
    rintro e w2 ⟨rfl, rfl⟩
    go_wp2
    go_ret
    exact ⟨ret_bool HV.out.symm, rfl⟩
end Go.Proofs.YtfglcmanmfenpaaGreat.Row
/- Contracts of ValidName, the program's and the reference model's: a name is right where each part is and there are at most 6. No conditions but that lengths fit. -/
namespace Go.Proofs.YtfglcmanmfenpaaGreat.Row
open Go.ChangeShapes Go.WideShapes Go.ChangeAt Go.RowKit Go.Instr
set_option linter.unusedVariables false
set_option maxRecDepth 100000
def validN (l : List ByteArray) : Bool := decide (l.length ≤ 6 ∧ ∀ x ∈ l, validP x = true)
def allV (l : List ByteArray) (k : Nat) : Prop := ∀ j, j < k → validP (nth l j) = true
theorem allV_zero (l : List ByteArray) : allV l 0 := fun j h => absurd h (by omega)
theorem allV_succ {l : List ByteArray} {k : Nat} (h : allV l k) (hc : validP (nth l k) = true) : allV l (k + 1) := fun j h1 => by
  by_cases e : j = k
  · subst e; exact hc
  · exact h j (by omega)
theorem validN_not {l : List ByteArray} {k : Nat} (hk : k < l.length) (hc : validP (nth l k) = false) : validN l = false := by
  unfold validN
  refine decide_eq_false (fun e => ?_)
  have := e.2 (nth l k) (by rw [nth_eq hk]; exact List.getElem_mem _)
  rw [hc] at this; cases this
theorem validN_all {l : List ByteArray} (h : allV l l.length) : validN l = decide (l.length ≤ 6) := by
  have : ∀ x ∈ l, validP x = true := by
    intro x hx
    obtain ⟨j, hj, rfl⟩ := List.getElem_of_mem hx
    have := h j hj
    rwa [nth_eq hj] at this
  unfold validN
  congr 1
  exact propext ⟨fun e => e.1, fun e => ⟨e, this⟩⟩
theorem validN_iff {l : List ByteArray} : validN l = true ↔ l.length ≤ 6 ∧ ∀ x ∈ l, validP x = true := by unfold validN; exact decide_eq_true_iff
theorem size_nth {l : List ByteArray} {m : Nat} (h : bulk l ≤ m) {k : Nat} (hk : k < l.length) : (nth l k).size ≤ m := by
  have h1 := bulkTo_succ l hk
  have h2 := bulkTo_le l (k + 1)
  omega
set_option maxHeartbeats 1000000 in
theorem implValidName (v : Value) (l : List ByteArray) (w : World) (h : Holds Value.string w v l) (hl : bulk l ≤ 100000000) :
    Calls Tryz.prog 63 #[.agg #[v]] w fun e w' => e = .returned (.bool (validN l)) ∧ Below w.heap.size w w' := by
  obtain ⟨x, cap, rfl, hcap, hh⟩ := h.shape
  have hll := bigLen hl
  have HS := Lib.hid (fun k (hk : k < l.length) => size_nth hl hk)
  obtain ⟨n, hn⟩ : ∃ n, n = l.length := ⟨_, rfl⟩
  rw [← hn] at hcap hh hll ⊢
  have HN := Lib.hid hn
  have HH := Lib.hid hh
  have HB0 := Lib.hid ((Below.refl w.heap.size w).alloc (Nat.le_refl _) (.cells #[.slice x n cap] 29))
  have HC0 := Lib.hid (Ret.cell_at (w := w) (u := .slice x n cap) (t := 29) (n := w.heap.size) rfl)
  clear hn h hh hl
  go_enter Tryz.func63, Tryz.ntmps63
  go_wp2_with fail
  go_loopw [8] (fun i wr => ∃ k : Nat, k ≤ n ∧ i = .int .i64 k ∧ Hid (allV l k) ∧ Hid (Below w.heap.size w wr) ∧ Hid (wr.cell? ⟨w.heap.size, 0, none⟩ = some (.slice x n cap))) (fun i _ => n - (intOf i).toNat)
  case atStart => exact ⟨0, Nat.zero_le _, rfl, Lib.hid (allV_zero _), HB0, HC0⟩
  case round =>
    obtain ⟨k, hk, rfl, ha, hb, hc0⟩ := hrel
    by_cases hlt : k < n
    · have hlen := HN.out
      obtain ⟨b, off, rfl, hc⟩ := (HH.out.on hb.out).at (j := k) (by omega)
      have hsz := HS.out k (by omega)
      clear hlen
      go_wp2_with fail
      refine (implValidPart _ _ (by omega)).mono ?_
      rintro e w2 ⟨rfl, hb2⟩
      have HB2 := Lib.hid (hb.out.trans (hb2.mono hb.out.size))
      have HC2 := Lib.hid ((hb2.cell (cell_lt hc0.out)).trans hc0.out)
      clear hb2 hc
      by_cases hv : validP (nth l k) = true
      · rw [hv]
        have HA2 := Lib.hid (allV_succ ha.out hv)
        clear hv
        go_wp2
        go_roundw
        case rel => exact ⟨k + 1, by omega, by go_num, HA2, HB2, HC2⟩
        case measure => simp [intOf]; omega
      · have hv2 : validP (nth l k) = false := by simpa using hv
        rw [hv2]
        have HV := Lib.hid (validN_not (by have := HN.out; omega) hv2)
        clear hv hv2
        go_wp2
        go_ret
        exact ⟨ret_bool HV.out.symm, HB2.out⟩
    · obtain rfl : k = n := by omega
      have HV := Lib.hid (validN_all (HN.out ▸ ha.out))
      have hc0 := hc0.out
      clear hlt
      go_wp2
      go_ret
      refine ⟨ret_bool ?_, hb.out⟩
      rw [HV.out, ← HN.out]
      simp
      omega
set_option maxHeartbeats 1000000 in
theorem specValidName (v : Value) (l : List ByteArray) (w : World) (h : Holds Value.string w v l) (hl : bulk l ≤ 100000000) :
    Calls Tryz.prog 79 #[.agg #[v]] w fun e w' => e = .returned (.bool (validN l)) ∧ Below w.heap.size w w' := by
  obtain ⟨x, cap, rfl, hcap, hh⟩ := h.shape
  have hll := bigLen hl
  have HS := Lib.hid (fun k (hk : k < l.length) => size_nth hl hk)
  obtain ⟨n, hn⟩ : ∃ n, n = l.length := ⟨_, rfl⟩
  rw [← hn] at hcap hh hll ⊢
  have HN := Lib.hid hn
  have HH := Lib.hid hh
  have HB0 := Lib.hid ((Below.refl w.heap.size w).alloc (Nat.le_refl _) (.cells #[.slice x n cap] 29))
  have HC0 := Lib.hid (Ret.cell_at (w := w) (u := .slice x n cap) (t := 29) (n := w.heap.size) rfl)
  clear hn h hh hl
  go_enter Tryz.func79, Tryz.ntmps79
  go_wp2_with fail
  go_loopw [3] (fun i wr => ∃ k : Nat, k ≤ n ∧ i = .int .i64 k ∧ Hid (allV l k) ∧ Hid (Below w.heap.size w wr) ∧ Hid (wr.cell? ⟨w.heap.size, 0, none⟩ = some (.slice x n cap))) (fun i _ => n - (intOf i).toNat)
  case atStart => exact ⟨0, Nat.zero_le _, rfl, Lib.hid (allV_zero _), HB0, HC0⟩
  case round =>
    obtain ⟨k, hk, rfl, ha, hb, hc0⟩ := hrel
    by_cases hlt : k < n
    · have hlen := HN.out
      obtain ⟨b, off, rfl, hc⟩ := (HH.out.on hb.out).at (j := k) (by omega)
      have hsz := HS.out k (by omega)
      have hc1 := hc0.out
      clear hlen
      go_wp2_with fail
      refine (specValidPart _ _ (by omega)).mono ?_
      rintro e w2 ⟨rfl, rfl⟩
      clear hc
      by_cases hv : validP (nth l k) = true
      · rw [hv]
        have HA2 := Lib.hid (allV_succ ha.out hv)
        clear hv
        go_wp2
        go_roundw
        case rel => exact ⟨k + 1, by omega, by go_num, HA2, hb, hc0⟩
        case measure => simp [intOf]; omega
      · have hv2 : validP (nth l k) = false := by simpa using hv
        rw [hv2]
        have HV := Lib.hid (validN_not (by have := HN.out; omega) hv2)
        clear hv hv2
        go_wp2
        go_ret
        exact ⟨ret_bool HV.out.symm, hb.out⟩
    · obtain rfl : k = n := by omega
      have HV := Lib.hid (validN_all (HN.out ▸ ha.out))
      have hc0 := hc0.out
      clear hlt
      go_wp2
      go_ret
      refine ⟨ret_bool ?_, hb.out⟩
      rw [HV.out, ← HN.out]
      simp
      omega
end Go.Proofs.YtfglcmanmfenpaaGreat.Row
