/- Contracts and mathematics, joined: RuleSK, NameK, NameSK, ByK, DataK, DataSK, TrustPolicyK, SoftK, Bind, Let, VPat, VPat2. No conditions but those that each states. -/
import Derived.Test.YtlhchmjnaanjpaaGreatDoorB4
import Derived.Test.YtlhchmjnaanjpaaGreatDoorB2
import Derived.Test.YtlhchmjnaanjpaaGreatDoorB1
import Derived.Test.YtlhchmjnaanjpaaGreatDoorB3
/- Lists of rules in the words of kinds: sz, to, eq. No conditions but that lengths fit. -/
namespace Go.Proofs.YtlhchmjnaanjpaaGreatDoor.Row
open Go.ChangeShapes Go.WideShapes Go.ChangeAt Go.RowKit Go.Instr
set_option linter.unusedVariables false
set_option maxRecDepth 100000
def kLRl : Kd (List Rlt) (Rw Rlm) := kRl.slice 131
theorem szRl_cells : Sz kRl.cells 2 := fun m => kRl.len m
theorem kindRl : Kind Tryz.prog 131 kRl.cells (.agg #[.slice none 0 0, .slice none 0 0]) 2 48 where
  elem := by unfold ElemK; kernel_rfl
  zs := rfl
  pos := by decide
  size := szRl_cells
  one := fun m u hu => kRl.one m u hu
def okLRl (l : List Rlt) : Prop := l.length ≤ 9223372036854775807 ∧ ∀ x ∈ l, okRl x
section
variable {w : World} {V : Value} {l : List Rlt} {B E : Nat}
theorem kLRl_at (h : kLRl.At w V l) : ∃ ad n cap L, V = .slice ad n cap ∧ n = L.length ∧ L.map kRl.strip = l ∧ HoldsK kRl.cells 2 w (.slice ad n cap) L ∧ ∀ x ∈ L, kRl.holds w x := by
  obtain ⟨⟨ad, n, cap, L⟩, hV, hl, hh, hel⟩ := h
  exact ⟨ad, n, cap, L, hV, HoldsK.lenEq (show HoldsK kRl.cells 2 w (.slice ad n cap) L from hh), hl, hh, hel⟩
theorem kLRl_shapeA (h : kLRl.At w V l) : ∃ x n c, V = .slice x n c ∧ kLRl.At w (.slice x n c) l := by
  obtain ⟨ad, n, cap, L, rfl, -⟩ := kLRl_at h
  exact ⟨ad, n, cap, rfl, h⟩
theorem kLRl_elem {x : Option Addr} {n cap : Nat} {L : List Rlm} (h : HoldsK kRl.cells 2 w (.slice x n cap) L) (hel : ∀ y ∈ L, kRl.holds w y) {j : Nat} (hj : j < L.length) :
    ∃ (b off : Nat) (x0 : Option Addr) (n0 c0 : Nat) (x1 : Option Addr) (n1 c1 : Nat), x = some ⟨b, off, none⟩ ∧ kRl.cells (nth L j) = [.slice x0 n0 c0, .slice x1 n1 c1] ∧ w.cell? ⟨b, off + j * 2, none⟩ = some (.slice x0 n0 c0) ∧ w.cell? ⟨b, off + j * 2 + 1, none⟩ = some (.slice x1 n1 c1) ∧ kRl.At w (.agg #[.slice x0 n0 c0, .slice x1 n1 c1]) (kRl.strip (nth L j)) := by
  obtain ⟨b, off, hx, hc⟩ := h.at szRl_cells hj
  obtain ⟨x0, n0, c0, x1, n1, c1, e, ha⟩ := kRl_shapeA (Kd.at_of (k := kRl) (hel _ (nth_mem hj)))
  have d : kRl.cells (nth L j) = [.slice x0 n0 c0, .slice x1 n1 c1] := by injection e with e; exact congrArg Array.toList e
  rw [d] at hc
  exact ⟨b, off, x0, n0, c0, x1, n1, c1, hx, d, by have := hc 0 (by decide); simpa [Nat.add_assoc] using this, by have := hc 1 (by decide); simpa [Nat.add_assoc] using this, ha⟩
end
def inLRl (l : List Rlt) : Prop := l.length ≤ 9223372036854775807 ∧ ∀ x ∈ l, inRl x
theorem inLRl.ok {l : List Rlt} (h : inLRl l) : okLRl l := ⟨h.1, fun x hx => (h.2 x hx).ok⟩
def adLRl (l : List Rlt) : Nat := bulkK adRl l
end Go.Proofs.YtlhchmjnaanjpaaGreatDoor.Row
/- Names in the words that kslice.py wants. No conditions but that lengths fit. -/
namespace Go.Proofs.YtlhchmjnaanjpaaGreatDoor.Row
open Go.ChangeShapes Go.WideShapes Go.ChangeAt Go.RowKit Go.Instr
set_option linter.unusedVariables false
set_option maxRecDepth 100000
abbrev Nnt := List ByteArray
abbrev Nnm := Rw ByteArray
abbrev kNn : Kd Nnt Nnm := kN
abbrev wtNn (x : Nnt) : Nat := bulk x
abbrev adNn (x : Nnt) : Nat := x.length
abbrev okNn (x : Nnt) : Prop := okN x
abbrev inNn (x : Nnt) : Prop := okN x
theorem okN.ok {x : List ByteArray} (h : okN x) : okNn x := h
theorem kNn_shapeA {w : World} {V : Value} {x : Nnt} (h : kNn.At w V x) : ∃ (y : Option Addr) (n c : Nat), V = .agg #[.slice y n c] ∧ kNn.At w (.agg #[.slice y n c]) x := kN_shapeA h
end Go.Proofs.YtlhchmjnaanjpaaGreatDoor.Row
/- Lists of names in the words of kinds: sz, to, eq. No conditions but that lengths fit. -/
namespace Go.Proofs.YtlhchmjnaanjpaaGreatDoor.Row
open Go.ChangeShapes Go.WideShapes Go.ChangeAt Go.RowKit Go.Instr
set_option linter.unusedVariables false
set_option maxRecDepth 100000
def kLNn : Kd (List Nnt) (Rw Nnm) := kNn.slice 32
theorem szNn_cells : Sz kNn.cells 1 := fun m => kNn.len m
theorem kindNn : Kind Tryz.prog 32 kNn.cells (.agg #[.slice none 0 0]) 1 24 where
  elem := by unfold ElemK; kernel_rfl
  zs := rfl
  pos := by decide
  size := szNn_cells
  one := fun m u hu => kNn.one m u hu
def okLNn (l : List Nnt) : Prop := l.length ≤ 9223372036854775807 ∧ ∀ x ∈ l, okNn x
section
variable {w : World} {V : Value} {l : List Nnt} {B E : Nat}
theorem kLNn_at (h : kLNn.At w V l) : ∃ ad n cap L, V = .slice ad n cap ∧ n = L.length ∧ L.map kNn.strip = l ∧ HoldsK kNn.cells 1 w (.slice ad n cap) L ∧ ∀ x ∈ L, kNn.holds w x := by
  obtain ⟨⟨ad, n, cap, L⟩, hV, hl, hh, hel⟩ := h
  exact ⟨ad, n, cap, L, hV, HoldsK.lenEq (show HoldsK kNn.cells 1 w (.slice ad n cap) L from hh), hl, hh, hel⟩
theorem kLNn_shapeA (h : kLNn.At w V l) : ∃ x n c, V = .slice x n c ∧ kLNn.At w (.slice x n c) l := by
  obtain ⟨ad, n, cap, L, rfl, -⟩ := kLNn_at h
  exact ⟨ad, n, cap, rfl, h⟩
theorem kLNn_shape (h : kLNn.In B E w V l) : ∃ x n c, V = .slice x n c ∧ kLNn.In B E w (.slice x n c) l := by
  obtain ⟨ad, n, cap, L, rfl, -⟩ := kLNn_at h.at
  exact ⟨ad, n, cap, rfl, h⟩
theorem kLNn_elem {x : Option Addr} {n cap : Nat} {L : List Nnm} (h : HoldsK kNn.cells 1 w (.slice x n cap) L) (hel : ∀ y ∈ L, kNn.holds w y) {j : Nat} (hj : j < L.length) :
    ∃ (b off : Nat) (x0 : Option Addr) (n0 c0 : Nat), x = some ⟨b, off, none⟩ ∧ kNn.cells (nth L j) = [.slice x0 n0 c0] ∧ w.cell? ⟨b, off + j, none⟩ = some (.slice x0 n0 c0) ∧ kNn.At w (.agg #[.slice x0 n0 c0]) (kNn.strip (nth L j)) := by
  obtain ⟨b, off, hx, hc⟩ := h.at szNn_cells hj
  obtain ⟨x0, n0, c0, e, ha⟩ := kNn_shapeA (Kd.at_of (k := kNn) (hel _ (nth_mem hj)))
  have d : kNn.cells (nth L j) = [.slice x0 n0 c0] := by injection e with e; exact congrArg Array.toList e
  rw [d] at hc
  exact ⟨b, off, x0, n0, c0, hx, d, by have := hc 0 (by decide); simpa [Nat.add_assoc] using this, ha⟩
end
def inLNn (l : List Nnt) : Prop := l.length ≤ 9223372036854775807 ∧ ∀ x ∈ l, inNn x
theorem inLNn.ok {l : List Nnt} (h : inLNn l) : okLNn l := ⟨h.1, fun x hx => (h.2 x hx).ok⟩
def adLNn (l : List Nnt) : Nat := bulkK adNn l
end Go.Proofs.YtlhchmjnaanjpaaGreatDoor.Row
/- Slices of bytes in the words of kinds: sz, to, eq, mark, held. No conditions but that lengths fit. -/
namespace Go.Proofs.YtlhchmjnaanjpaaGreatDoor.Row
open Go.ChangeShapes Go.WideShapes Go.ChangeAt Go.RowKit Go.Instr
set_option linter.unusedVariables false
set_option maxRecDepth 100000
def okB (l : List Int) : Prop := l.length ≤ 9223372036854775807
end Go.Proofs.YtlhchmjnaanjpaaGreatDoor.Row
/- Data packets in the words of kinds: the kind; sz, to, eq, mark, held. No conditions but that lengths fit. -/
namespace Go.Proofs.YtlhchmjnaanjpaaGreatDoor.Row
open Go.ChangeShapes Go.WideShapes Go.ChangeAt Go.RowKit Go.Instr
set_option linter.unusedVariables false
set_option maxRecDepth 100000
abbrev Dzt := List ByteArray × List Int × List ByteArray × Int × Int
abbrev Dzm := Rw ByteArray × Rw Int × Rw ByteArray × Int × Int
def kDz : Kd Dzt Dzm := (kN.pair (kB.pair (kN.pair (kInt.pair kInt))))
def wtDz (x : Dzt) : Nat := bulk x.1 + x.2.1.length + bulk x.2.2.1
def adDz (x : Dzt) : Nat := x.1.length + x.2.1.length + x.2.2.1.length
def okDz (x : Dzt) : Prop := okN x.1 ∧ okB x.2.1 ∧ okN x.2.2.1
def mkDz (k : Int) (x : Dzt) : Dzt := (marks markT (k) x.1.length, Sl.marks .u8 (k + (x.1.length : Nat)) x.2.1.length, marks markT (k + (x.1.length : Nat) + (x.2.1.length : Nat)) x.2.2.1.length, x.2.2.2.1, x.2.2.2.2)
section
variable {w : World} {V : Value} {x : Dzt} {B E : Nat}
theorem kDz_at (h : kDz.At w V x) : ∃ (x0_0 : Option Addr) (n0_0 c0_0 : Nat) (x1_0 : Option Addr) (n1_0 c1_0 : Nat) (x2_0 : Option Addr) (n2_0 c2_0 : Nat), V = .agg #[.slice x0_0 n0_0 c0_0, .slice x1_0 n1_0 c1_0, .slice x2_0 n2_0 c2_0, .int .i64 x.2.2.2.1, .int .i64 x.2.2.2.2] ∧ kN.At w (.agg #[.slice x0_0 n0_0 c0_0]) x.1 ∧ kB.At w (.slice x1_0 n1_0 c1_0) x.2.1 ∧ kN.At w (.agg #[.slice x2_0 n2_0 c2_0]) x.2.2.1 := by
  obtain ⟨⟨m0, m1, m2, m3, m4⟩, rfl, rfl, g0, g1, g2, g3, g4⟩ := h
  obtain ⟨x0_0, n0_0, c0_0, e0, a0⟩ := kN_shapeA (Kd.at_of (k := kN) g0)
  have d0 : kN.cells m0 = [.slice x0_0 n0_0 c0_0] := by injection e0 with e; exact congrArg Array.toList e
  obtain ⟨x1_0, n1_0, c1_0, e1, a1⟩ := kB_shapeA (Kd.at_of (k := kB) g1)
  have d1 : kB.cells m1 = [.slice x1_0 n1_0 c1_0] := by show [kB.val m1] = _; rw [e1]
  obtain ⟨x2_0, n2_0, c2_0, e2, a2⟩ := kN_shapeA (Kd.at_of (k := kN) g2)
  have d2 : kN.cells m2 = [.slice x2_0 n2_0 c2_0] := by injection e2 with e; exact congrArg Array.toList e
  refine ⟨x0_0, n0_0, c0_0, x1_0, n1_0, c1_0, x2_0, n2_0, c2_0, ?_, e0 ▸ Kd.at_of (k := kN) g0, e1 ▸ Kd.at_of (k := kB) g1, e2 ▸ Kd.at_of (k := kN) g2⟩
  show Value.agg ((kN.cells m0 ++ (kB.cells m1 ++ (kN.cells m2 ++ (kInt.cells m3 ++ (kInt.cells m4)))))).toArray = _
  rw [d0, d1, d2]
  rfl
theorem kDz_shapeA (h : kDz.At w V x) : ∃ (x0_0 : Option Addr) (n0_0 c0_0 : Nat) (x1_0 : Option Addr) (n1_0 c1_0 : Nat) (x2_0 : Option Addr) (n2_0 c2_0 : Nat), V = .agg #[.slice x0_0 n0_0 c0_0, .slice x1_0 n1_0 c1_0, .slice x2_0 n2_0 c2_0, .int .i64 x.2.2.2.1, .int .i64 x.2.2.2.2] ∧ kDz.At w (.agg #[.slice x0_0 n0_0 c0_0, .slice x1_0 n1_0 c1_0, .slice x2_0 n2_0 c2_0, .int .i64 x.2.2.2.1, .int .i64 x.2.2.2.2]) x := by
  obtain ⟨x0_0, n0_0, c0_0, x1_0, n1_0, c1_0, x2_0, n2_0, c2_0, rfl, -⟩ := kDz_at h
  exact ⟨x0_0, n0_0, c0_0, x1_0, n1_0, c1_0, x2_0, n2_0, c2_0, rfl, h⟩
end
def inDz (x : Dzt) : Prop := okN x.1 ∧ (okB x.2.1 ∧ ∀ y ∈ x.2.1, (Lit.int .u8 y).wf = true) ∧ okN x.2.2.1 ∧ (Lit.int .i64 x.2.2.2.1).wf = true ∧ (Lit.int .i64 x.2.2.2.2).wf = true
theorem inDz.ok {x : Dzt} (h : inDz x) : okDz x := ⟨h.1, h.2.1.1, h.2.2.1⟩
end Go.Proofs.YtlhchmjnaanjpaaGreatDoor.Row
/- Lists of data packets in the words of kinds: sz, to, eq. No conditions but that lengths fit. -/
namespace Go.Proofs.YtlhchmjnaanjpaaGreatDoor.Row
open Go.ChangeShapes Go.WideShapes Go.ChangeAt Go.RowKit Go.Instr
set_option linter.unusedVariables false
set_option maxRecDepth 100000
def kLDz : Kd (List Dzt) (Rw Dzm) := kDz.slice 34
theorem szDz_cells : Sz kDz.cells 5 := fun m => kDz.len m
theorem kindDz : Kind Tryz.prog 34 kDz.cells (.agg #[.slice none 0 0, .slice none 0 0, .slice none 0 0, .int .i64 0, .int .i64 0]) 5 88 where
  elem := by unfold ElemK; kernel_rfl
  zs := rfl
  pos := by decide
  size := szDz_cells
  one := fun m u hu => kDz.one m u hu
def okLDz (l : List Dzt) : Prop := l.length ≤ 9223372036854775807 ∧ ∀ x ∈ l, okDz x
section
variable {w : World} {V : Value} {l : List Dzt} {B E : Nat}
theorem kLDz_at (h : kLDz.At w V l) : ∃ ad n cap L, V = .slice ad n cap ∧ n = L.length ∧ L.map kDz.strip = l ∧ HoldsK kDz.cells 5 w (.slice ad n cap) L ∧ ∀ x ∈ L, kDz.holds w x := by
  obtain ⟨⟨ad, n, cap, L⟩, hV, hl, hh, hel⟩ := h
  exact ⟨ad, n, cap, L, hV, HoldsK.lenEq (show HoldsK kDz.cells 5 w (.slice ad n cap) L from hh), hl, hh, hel⟩
theorem kLDz_shapeA (h : kLDz.At w V l) : ∃ x n c, V = .slice x n c ∧ kLDz.At w (.slice x n c) l := by
  obtain ⟨ad, n, cap, L, rfl, -⟩ := kLDz_at h
  exact ⟨ad, n, cap, rfl, h⟩
theorem kLDz_elem {x : Option Addr} {n cap : Nat} {L : List Dzm} (h : HoldsK kDz.cells 5 w (.slice x n cap) L) (hel : ∀ y ∈ L, kDz.holds w y) {j : Nat} (hj : j < L.length) :
    ∃ (b off : Nat) (x0 : Option Addr) (n0 c0 : Nat) (x1 : Option Addr) (n1 c1 : Nat) (x2 : Option Addr) (n2 c2 : Nat), x = some ⟨b, off, none⟩ ∧ kDz.cells (nth L j) = [.slice x0 n0 c0, .slice x1 n1 c1, .slice x2 n2 c2, .int .i64 (kDz.strip (nth L j)).2.2.2.1, .int .i64 (kDz.strip (nth L j)).2.2.2.2] ∧ w.cell? ⟨b, off + j * 5, none⟩ = some (.slice x0 n0 c0) ∧ w.cell? ⟨b, off + j * 5 + 1, none⟩ = some (.slice x1 n1 c1) ∧ w.cell? ⟨b, off + j * 5 + 2, none⟩ = some (.slice x2 n2 c2) ∧ w.cell? ⟨b, off + j * 5 + 3, none⟩ = some (.int .i64 (kDz.strip (nth L j)).2.2.2.1) ∧ w.cell? ⟨b, off + j * 5 + 4, none⟩ = some (.int .i64 (kDz.strip (nth L j)).2.2.2.2) ∧ kDz.At w (.agg #[.slice x0 n0 c0, .slice x1 n1 c1, .slice x2 n2 c2, .int .i64 (kDz.strip (nth L j)).2.2.2.1, .int .i64 (kDz.strip (nth L j)).2.2.2.2]) (kDz.strip (nth L j)) := by
  obtain ⟨b, off, hx, hc⟩ := h.at szDz_cells hj
  obtain ⟨x0, n0, c0, x1, n1, c1, x2, n2, c2, e, ha⟩ := kDz_shapeA (Kd.at_of (k := kDz) (hel _ (nth_mem hj)))
  have d : kDz.cells (nth L j) = [.slice x0 n0 c0, .slice x1 n1 c1, .slice x2 n2 c2, .int .i64 (kDz.strip (nth L j)).2.2.2.1, .int .i64 (kDz.strip (nth L j)).2.2.2.2] := by injection e with e; exact congrArg Array.toList e
  rw [d] at hc
  exact ⟨b, off, x0, n0, c0, x1, n1, c1, x2, n2, c2, hx, d, by have := hc 0 (by decide); simpa [Nat.add_assoc] using this, by have := hc 1 (by decide); simpa [Nat.add_assoc] using this, by have := hc 2 (by decide); simpa [Nat.add_assoc] using this, by have := hc 3 (by decide); simpa [Nat.add_assoc] using this, by have := hc 4 (by decide); simpa [Nat.add_assoc] using this, ha⟩
end
def inLDz (l : List Dzt) : Prop := l.length ≤ 9223372036854775807 ∧ ∀ x ∈ l, inDz x
theorem inLDz.ok {l : List Dzt} (h : inLDz l) : okLDz l := ⟨h.1, fun x hx => (h.2 x hx).ok⟩
def adLDz (l : List Dzt) : Nat := bulkK adDz l
end Go.Proofs.YtlhchmjnaanjpaaGreatDoor.Row
/- The policy of trust in the words of kinds: the kind; sz, to, eq, mark, held. No conditions but that lengths fit. -/
namespace Go.Proofs.YtlhchmjnaanjpaaGreatDoor.Row
open Go.ChangeShapes Go.WideShapes Go.ChangeAt Go.RowKit Go.Instr
set_option linter.unusedVariables false
set_option maxRecDepth 100000
abbrev Tpt := List Kyt × List Rlt × List Nnt × List Dzt
set_option synthInstance.maxSize 100000 in
instance : DecidableEq Tpt := inferInstance
abbrev Tpm := Rw Kym × Rw Rlm × Rw Nnm × Rw Dzm
def kTp : Kd Tpt Tpm := (kLKy.pair (kLRl.pair (kLNn.pair kLDz)))
theorem aggTp : Ret.AggOf Tryz.prog 29 4 := ⟨by kernel_rfl, by kernel_rfl⟩
def wtTp (x : Tpt) : Nat := bulkK wtKy x.1 + bulkK wtRl x.2.1 + bulkK wtNn x.2.2.1 + bulkK wtDz x.2.2.2
def adTp (x : Tpt) : Nat := bulkK adKy x.1 + bulkK adRl x.2.1 + bulkK adNn x.2.2.1 + bulkK adDz x.2.2.2
def okTp (x : Tpt) : Prop := okLKy x.1 ∧ okLRl x.2.1 ∧ okLNn x.2.2.1 ∧ okLDz x.2.2.2
section
variable {w : World} {V : Value} {x : Tpt} {B E : Nat}
theorem kTp_at (h : kTp.At w V x) : ∃ (x0_0 : Option Addr) (n0_0 c0_0 : Nat) (x1_0 : Option Addr) (n1_0 c1_0 : Nat) (x2_0 : Option Addr) (n2_0 c2_0 : Nat) (x3_0 : Option Addr) (n3_0 c3_0 : Nat), V = .agg #[.slice x0_0 n0_0 c0_0, .slice x1_0 n1_0 c1_0, .slice x2_0 n2_0 c2_0, .slice x3_0 n3_0 c3_0] ∧ kLKy.At w (.slice x0_0 n0_0 c0_0) x.1 ∧ kLRl.At w (.slice x1_0 n1_0 c1_0) x.2.1 ∧ kLNn.At w (.slice x2_0 n2_0 c2_0) x.2.2.1 ∧ kLDz.At w (.slice x3_0 n3_0 c3_0) x.2.2.2 := by
  obtain ⟨⟨m0, m1, m2, m3⟩, rfl, rfl, g0, g1, g2, g3⟩ := h
  obtain ⟨x0_0, n0_0, c0_0, e0, a0⟩ := kLKy_shapeA (Kd.at_of (k := kLKy) g0)
  have d0 : kLKy.cells m0 = [.slice x0_0 n0_0 c0_0] := by show [kLKy.val m0] = _; rw [e0]
  obtain ⟨x1_0, n1_0, c1_0, e1, a1⟩ := kLRl_shapeA (Kd.at_of (k := kLRl) g1)
  have d1 : kLRl.cells m1 = [.slice x1_0 n1_0 c1_0] := by show [kLRl.val m1] = _; rw [e1]
  obtain ⟨x2_0, n2_0, c2_0, e2, a2⟩ := kLNn_shapeA (Kd.at_of (k := kLNn) g2)
  have d2 : kLNn.cells m2 = [.slice x2_0 n2_0 c2_0] := by show [kLNn.val m2] = _; rw [e2]
  obtain ⟨x3_0, n3_0, c3_0, e3, a3⟩ := kLDz_shapeA (Kd.at_of (k := kLDz) g3)
  have d3 : kLDz.cells m3 = [.slice x3_0 n3_0 c3_0] := by show [kLDz.val m3] = _; rw [e3]
  refine ⟨x0_0, n0_0, c0_0, x1_0, n1_0, c1_0, x2_0, n2_0, c2_0, x3_0, n3_0, c3_0, ?_, e0 ▸ Kd.at_of (k := kLKy) g0, e1 ▸ Kd.at_of (k := kLRl) g1, e2 ▸ Kd.at_of (k := kLNn) g2, e3 ▸ Kd.at_of (k := kLDz) g3⟩
  show Value.agg ((kLKy.cells m0 ++ (kLRl.cells m1 ++ (kLNn.cells m2 ++ (kLDz.cells m3))))).toArray = _
  rw [d0, d1, d2, d3]
  rfl
theorem kTp_shapeA (h : kTp.At w V x) : ∃ (x0_0 : Option Addr) (n0_0 c0_0 : Nat) (x1_0 : Option Addr) (n1_0 c1_0 : Nat) (x2_0 : Option Addr) (n2_0 c2_0 : Nat) (x3_0 : Option Addr) (n3_0 c3_0 : Nat), V = .agg #[.slice x0_0 n0_0 c0_0, .slice x1_0 n1_0 c1_0, .slice x2_0 n2_0 c2_0, .slice x3_0 n3_0 c3_0] ∧ kTp.At w (.agg #[.slice x0_0 n0_0 c0_0, .slice x1_0 n1_0 c1_0, .slice x2_0 n2_0 c2_0, .slice x3_0 n3_0 c3_0]) x := by
  obtain ⟨x0_0, n0_0, c0_0, x1_0, n1_0, c1_0, x2_0, n2_0, c2_0, x3_0, n3_0, c3_0, rfl, -⟩ := kTp_at h
  exact ⟨x0_0, n0_0, c0_0, x1_0, n1_0, c1_0, x2_0, n2_0, c2_0, x3_0, n3_0, c3_0, rfl, h⟩
end
def inTp (x : Tpt) : Prop := inLKy x.1 ∧ inLRl x.2.1 ∧ inLNn x.2.2.1 ∧ inLDz x.2.2.2
theorem inTp.ok {x : Tpt} (h : inTp x) : okTp x := ⟨h.1.ok, h.2.1.ok, h.2.2.1.ok, h.2.2.2.ok⟩
end Go.Proofs.YtlhchmjnaanjpaaGreatDoor.Row
/- Kinds whose texts and bytes lie in blocks that are known by their type alone (a name out of a text may begin anywhere, two may share one block): what keeps them: a cursor that goes on, a variable that is stored, a list that grows. For draws. No conditions. -/
namespace Go.Proofs.YtlhchmjnaanjpaaGreatDoor.Row
open Go.ChangeShapes Go.WideShapes Go.ChangeAt Go.RowKit Go.Instr
set_option linter.unusedVariables false
set_option maxRecDepth 100000
def adBlk : Option Addr → List Nat
  | some ⟨b, _, none⟩ => [b]
  | _ => []
theorem adBlk_some {a : Option Addr} {g : Nat} (h : g ∈ adBlk a) : ∃ off, a = some ⟨g, off, none⟩ := by
  unfold adBlk at h
  split at h
  · rename_i b off
    rw [List.mem_singleton.1 h]
    exact ⟨_, rfl⟩
  · cases h
def softS {α : Type} (e : TypeId) (enc : α → Value) (h1 : ∀ x, (enc x).oneCell' = true) : Kd (List α) (Rw α) where
  strip := (Kd.slice e (Kd.scalar enc h1)).strip
  cells := (Kd.slice e (Kd.scalar enc h1)).cells
  size := 1
  val := Rw.v
  len := fun _ => rfl
  one := (Kd.slice e (Kd.scalar enc h1)).one
  holds := (Kd.slice e (Kd.scalar enc h1)).holds
  own := fun B w r => (Kd.slice e (Kd.scalar enc h1)).holds w r ∧ ∀ b off, r.ad = some ⟨b, off, none⟩ → B ≤ b ∧ ∃ cur, w.heap[b]? = some (.cells cur e)
  blocks := fun r => adBlk r.ad
  holds_on := (Kd.slice e (Kd.scalar enc h1)).holds_on
  own_holds := fun h => h.1
  own_keep := fun {B w w' r} h hg => by
    obtain ⟨⟨⟨x, cap, hv, hc, hh⟩, -⟩, ht⟩ := h
    have hx : r.ad = x := by injection hv
    refine ⟨⟨⟨x, cap, hv, hc, ?_⟩, fun _ _ => trivial⟩, fun b off e1 => ?_⟩
    · rcases hh with h0 | ⟨b, off, rfl, hcell⟩
      · exact Or.inl h0
      · refine Or.inr ⟨b, off, rfl, fun j hj => ?_⟩
        obtain ⟨u, h2, h3⟩ := hcell j hj
        exact ⟨u, h2, by rw [World.cell?_of_block (w := w) (hg b (by rw [hx]; exact List.mem_singleton.2 rfl))]; exact h3⟩
    · obtain ⟨h2, cur, h3⟩ := ht b off e1
      exact ⟨h2, cur, by rw [hg b (by rw [e1]; exact List.mem_singleton.2 rfl)]; exact h3⟩
  own_lt := fun {B w r} h g hg => by
    obtain ⟨off, e1⟩ := adBlk_some hg
    obtain ⟨h2, cur, h3⟩ := h.2 g off e1
    exact ⟨h2, (Array.getElem?_eq_some_iff.1 h3).1⟩
  own_mono := fun {B B' w r} h hB => ⟨h.1, fun b off e1 => ⟨Nat.le_trans hB (h.2 b off e1).1, (h.2 b off e1).2⟩⟩
section
variable {α M β N : Type} {k : Kd α M} {l : Kd β N} {e e' ty : TypeId} {B B' C p g i : Nat} {w w' : World} {m : M} {r : Rw M} {x : M}
theorem noRow_soft {α : Type} {enc : α → Value} {h1 : ∀ x, (enc x).oneCell' = true} (hne : e' ≠ e) : (softS e' enc h1).NoRow e := fun B w r h g hg cs hc => by
  obtain ⟨off, e1⟩ := adBlk_some hg
  obtain ⟨-, cur, h3⟩ := h.2 g off e1
  rw [h3] at hc
  injection hc with hc
  injection hc with h4 h5
  exact hne h5
theorem Kd.own_on (h : k.own B w m) (hb : Below w.heap.size w w') : k.own B w' m := k.own_keep h fun g hg => hb.block g (k.own_lt h g hg).2
theorem Kd.own_cur (h : k.own B w m) (hk : Draw.Keep p w w') (hp : p < B) : k.own B w' m := k.own_keep h fun g hg => hk.block g (k.own_lt h g hg).2 (by have := (k.own_lt h g hg).1; omega)
theorem Kd.own_setT (hN : k.NoRow ty) {cs : Array Value} {u : Value} (h : k.own B w m) (hb : Ret.Blk w g cs ty) : k.own B (w.setCell ⟨g, i, none⟩ u) m :=
  k.own_keep h fun q hq => Go.RowKit.Below.heap_setCell w ⟨g, i, none⟩ u q (fun e1 => by
    have e2 : q = g := e1
    exact hN B w m h q hq cs (by rw [e2]; exact hb))
theorem Kd.own_rowT (hN : k.NoRow e) {v : Value} {β : Type} {enc : β → List Value} {sz C : Nat} {L : List β} (h : k.own B w m) (ho : OwnK e enc sz C w v L) (hg : w.grownBy w' v.ownBlock) : k.own B w' m :=
  k.own_keep h fun q hq => hg.block q (k.own_lt h q hq).2 (fun e1 => by
    obtain ⟨cs, hc⟩ := ho.row e1.symm
    exact hN B w m h q hq cs hc)
theorem Kd.own_push (hN : k.NoRow e) {L : List M} (h : (k.slice e).own B w r) (hx : ∀ y ∈ L, k.own B w y) {ad : Option Addr} {n cap : Nat} (ho : OwnK e k.cells k.size B w' (.slice ad n cap) (r.els ++ L)) (hg : w.grownBy w' r.v.ownBlock) : (k.slice e).own B w' ⟨ad, n, cap, r.els ++ L⟩ := by
  refine ⟨ho, fun y hy => ?_⟩
  rcases List.mem_append.1 hy with hy | hy
  · exact Kd.own_rowT hN (h.2 y hy) h.1 hg
  · exact Kd.own_rowT hN (hx y hy) h.1 hg
theorem softS_own {α : Type} {enc : α → Value} {h1 : ∀ x, (enc x).oneCell' = true} {r : Rw α} (h : (Kd.slice e (Kd.scalar enc h1)).own B w r) : (softS e enc h1).own B w r :=
  ⟨(Kd.slice e (Kd.scalar enc h1)).own_holds h, fun b off e1 => by
    have h2 := h.1.row (g := b) (by rw [show r.v = .slice r.ad r.n r.cap from rfl, e1]; rcases h.1.2 with ⟨h3, -⟩ | ⟨g2, cap, cur, h3, -⟩
                                    · rw [show r.v = .slice r.ad r.n r.cap from rfl, e1] at h3; cases h3
                                    · rfl)
    exact ⟨(h.1.lt b (by rw [show r.v = .slice r.ad r.n r.cap from rfl, e1]; rfl)).1, h2⟩⟩
end
def sN : Kd (List ByteArray) (Rw ByteArray) := (softS 9 Value.string (fun _ => rfl)).wrap
def sB : Kd (List Int) (Rw Int) := softS 5 (Value.int .u8) (fun _ => rfl)
def sKy : Kd Kyt Kym := sN.pair kInt
def sRl : Kd Rlt Rlm := sN.pair sN
def sDz : Kd Dzt Dzm := sN.pair (sB.pair (sN.pair (kInt.pair kInt)))
def sLKy : Kd (List Kyt) (Rw Kym) := sKy.slice 119
def sLRl : Kd (List Rlt) (Rw Rlm) := sRl.slice 131
def sLNn : Kd (List Nnt) (Rw Nnm) := sN.slice 32
def sLDz : Kd (List Dzt) (Rw Dzm) := sDz.slice 34
def sTp : Kd Tpt Tpm := sLKy.pair (sLRl.pair (sLNn.pair sLDz))
theorem noRow_sN {t : TypeId} (h : 9 ≠ t) : sN.NoRow t := (noRow_soft h).wrap
theorem noRow_sB {t : TypeId} (h : 5 ≠ t) : sB.NoRow t := noRow_soft h
theorem noRow_sKy {t : TypeId} (h : 9 ≠ t) : sKy.NoRow t := (noRow_sN h).pair Kd.noRow_scalar
theorem noRow_sRl {t : TypeId} (h : 9 ≠ t) : sRl.NoRow t := (noRow_sN h).pair (noRow_sN h)
theorem noRow_sDz {t : TypeId} (h : 9 ≠ t) (g : 5 ≠ t) : sDz.NoRow t := (noRow_sN h).pair ((noRow_sB g).pair ((noRow_sN h).pair (Kd.noRow_scalar.pair Kd.noRow_scalar)))
section
variable {B E : Nat} {w : World} {V : Value} {ad : Option Addr} {n c : Nat} {l : List ByteArray}
theorem sN_of (h : HB B w (.slice ad n c) l) : sN.own B w ⟨ad, n, c, l⟩ :=
  ⟨⟨holdsK_single.2 h.1, fun _ _ => trivial⟩, fun b off e => h.2 b off n c (by rw [show ad = some ⟨b, off, none⟩ from e])⟩
theorem sN_own {m : Rw ByteArray} (h : kN.own B w m) : sN.own B w m := softS_own h
theorem sB_own {m : Rw Int} (h : kB.own B w m) : sB.own B w m := softS_own h
theorem sDz_own {m : Dzm} (h : kDz.own B w m) : sDz.own B w m := ⟨sN_own h.1, sB_own h.2.1, sN_own h.2.2.1, h.2.2.2⟩
theorem sTp_at {m : Tpm} (h : sTp.own B w m) : kTp.At w (kTp.val m) (kTp.strip m) := Kd.at_of (k := kTp) (sTp.own_holds h)
theorem sDz_at {m : Dzm} (h : sDz.own B w m) : kDz.At w (kDz.val m) (kDz.strip m) := Kd.at_of (k := kDz) (sDz.own_holds h)
theorem sN_at {m : Rw ByteArray} (h : sN.own B w m) : kN.At w (kN.val m) (kN.strip m) := Kd.at_of (k := kN) (sN.own_holds h)
theorem sLKy_at {m : Rw Kym} (h : sLKy.own B w m) : kLKy.At w (kLKy.val m) (kLKy.strip m) := Kd.at_of (k := kLKy) (sLKy.own_holds h)
end
end Go.Proofs.YtlhchmjnaanjpaaGreatDoor.Row
/- Contracts of the helpers by which the laws measure, copy, compare, mark and look at slices of bindings (two strings each). No conditions but that lengths fit. -/
namespace Go.Proofs.YtlhchmjnaanjpaaGreatDoor.Row
open Go.ChangeShapes Go.WideShapes Go.ChangeAt Go.RowKit Go.Instr
set_option linter.unusedVariables false
set_option maxRecDepth 100000
def encBd (x : ByteArray × ByteArray) : List Value := [.string x.1, .string x.2]
theorem szBd : Sz encBd 2 := fun _ => rfl
theorem kindBd : Kind Tryz.prog 204 encBd (.agg #[.string ByteArray.empty, .string ByteArray.empty]) 2 32 where
  elem := by unfold ElemK; kernel_rfl
  zs := rfl
  pos := by decide
  size := szBd
  one := by intro x u hu; simp [encBd] at hu; rcases hu with rfl | rfl <;> rfl
theorem bdAt {w : World} {x : Option Addr} {n cap : Nat} {l : List (ByteArray × ByteArray)} (h : HoldsK encBd 2 w (.slice x n cap) l) {k : Nat} (hk : k < l.length) :
    ∃ b off, x = some ⟨b, off, none⟩ ∧ w.cell? ⟨b, off + k * 2, none⟩ = some (.string (nth l k).1) ∧ w.cell? ⟨b, off + k * 2 + 1, none⟩ = some (.string (nth l k).2) := by
  obtain ⟨b, off, hx, hc⟩ := h.at szBd hk
  exact ⟨b, off, hx, by have := hc 0 (by decide); simpa [encBd] using this, by have := hc 1 (by decide); simpa [encBd, Nat.add_assoc] using this⟩
def bulk2To (l : List (ByteArray × ByteArray)) (k : Nat) : Nat := l.length + ((l.take k).map (fun x => x.1.size + x.2.size)).sum
def bulk2 (l : List (ByteArray × ByteArray)) : Nat := bulk2To l l.length
def szL2 (l : List (ByteArray × ByteArray)) (left : Int) : Int := if (bulk2 l : Int) ≤ left then left - bulk2 l else -1
def eqBd (l m : List (ByteArray × ByteArray)) : Bool := decide (l = m)
theorem tl_dec (a b : ByteArray) : (!(a.toList == b.toList)) = !(decide (a = b)) := by
  by_cases h : a = b
  · rw [tl_eq h]; simp [h]
  · rw [tl_ne h]; simp [h]
def mark2 (k : Int) : Nat → List (ByteArray × ByteArray)
  | 0 => []
  | n + 1 => mark2 k n ++ [(markT (k + 2 * n), markT (k + 2 * n + 1))]
def marked2 (k : Int) (l : List (ByteArray × ByteArray)) (j : Nat) : List (ByteArray × ByteArray) := mark2 k j ++ l.drop j
end Go.Proofs.YtlhchmjnaanjpaaGreatDoor.Row
/- What a pattern's parts are: a variable (a question mark and a letter), the program's and the model's test of it; the texts * and **; which parts are right. No conditions but that lengths fit. -/
namespace Go.Proofs.YtlhchmjnaanjpaaGreatDoor.Row
open Go.ChangeShapes Go.WideShapes Go.ChangeAt Go.RowKit Go.Instr
set_option linter.unusedVariables false
set_option maxRecDepth 100000
def letterP (s : ByteArray) : Bool := decide (∃ h : s.size = 2, (s[0]'(by omega)).toNat = 63 ∧ 97 ≤ (s[1]'(by omega)).toNat ∧ (s[1]'(by omega)).toNat ≤ 122)
theorem letterP_size {s : ByteArray} (h : ¬ s.size = 2) : letterP s = false := decide_eq_false fun ⟨e, _⟩ => h e
theorem letterP_0 {s : ByteArray} (h : s.size = 2) (h0 : ¬ (s[0]'(by omega)).toNat = 63) : letterP s = false := decide_eq_false fun ⟨e, h1, _⟩ => h0 h1
theorem letterP_1 {s : ByteArray} (h : s.size = 2) (h0 : ¬ (97 ≤ (s[1]'(by omega)).toNat ∧ (s[1]'(by omega)).toNat ≤ 122)) : letterP s = false := decide_eq_false fun ⟨e, _, h1⟩ => h0 h1
theorem letterP_yes {s : ByteArray} (h : s.size = 2) (h0 : (s[0]'(by omega)).toNat = 63) (h1 : 97 ≤ (s[1]'(by omega)).toNat ∧ (s[1]'(by omega)).toNat ≤ 122) : letterP s = true := decide_eq_true ⟨h, h0, h1⟩
theorem letterP_iff {s : ByteArray} : letterP s = true ↔ ∃ h : s.size = 2, (s[0]'(by omega)).toNat = 63 ∧ 97 ≤ (s[1]'(by omega)).toNat ∧ (s[1]'(by omega)).toNat ≤ 122 := by unfold letterP; exact decide_eq_true_iff
set_option maxHeartbeats 1000000 in
theorem isVariable (s : ByteArray) (w : World) (hl : s.size ≤ 140737488351232) :
    Calls Tryz.prog 165 #[.string s] w fun e w' => e = .returned (.bool (letterP s)) ∧ w = w' := by
  by_cases h2 : s.size = 2
  · have hb0 := (s[0]'(by omega)).toNat_lt
    have hb1 := (s[1]'(by omega)).toNat_lt
    by_cases h0 : (s[0]'(by omega)).toNat = 63
    · by_cases ha : 97 ≤ (s[1]'(by omega)).toNat
      · by_cases hz : (s[1]'(by omega)).toNat ≤ 122
        · have HV := Lib.hid (letterP_yes h2 h0 ⟨ha, hz⟩)
          have t0 : (((s[0]'(by omega)).toNat : Int) == 63) = true := by simp [h0]
          clear h0
          go_enter Tryz.func165, Tryz.ntmps165
          go_wp2
          go_ret
          refine ⟨ret_bool ?_, rfl⟩
          rw [HV.out]; exact decide_eq_true (by omega)
        · have HV := Lib.hid (letterP_1 h2 (fun e => hz e.2))
          have t0 : (((s[0]'(by omega)).toNat : Int) == 63) = true := by simp [h0]
          clear h0
          go_enter Tryz.func165, Tryz.ntmps165
          go_wp2
          go_ret
          refine ⟨ret_bool ?_, rfl⟩
          rw [HV.out]; exact decide_eq_false (by omega)
      · have HV := Lib.hid (letterP_1 h2 (fun e => ha e.1))
        have t0 : (((s[0]'(by omega)).toNat : Int) == 63) = true := by simp [h0]
        clear h0
        go_enter Tryz.func165, Tryz.ntmps165
        go_wp2
        go_ret
        exact ⟨ret_bool HV.out.symm, rfl⟩
    · have HV := Lib.hid (letterP_0 h2 h0)
      have t0 : (((s[0]'(by omega)).toNat : Int) == 63) = false := by simp; omega
      clear h0
      go_enter Tryz.func165, Tryz.ntmps165
      go_wp2
      go_ret
      exact ⟨ret_bool HV.out.symm, rfl⟩
  · have HV := Lib.hid (letterP_size h2)
    have t0 : (((s.size : Nat) : Int) == 2) = false := by simp; omega
    clear h2
    go_enter Tryz.func165, Tryz.ntmps165
    go_wp2
    go_ret
    exact ⟨ret_bool HV.out.symm, rfl⟩
set_option maxHeartbeats 1000000 in
theorem l5Letter (s : ByteArray) (w : World) (hl : s.size ≤ 140737488351232) :
    Calls Tryz.prog 147 #[.string s] w fun e w' => e = .returned (.bool (letterP s)) ∧ w = w' := by
  by_cases h2 : s.size = 2
  · have hb0 := (s[0]'(by omega)).toNat_lt
    have hb1 := (s[1]'(by omega)).toNat_lt
    by_cases h0 : (s[0]'(by omega)).toNat = 63
    · have t0 : (((s[0]'(by omega)).toNat : Int) == 63) = true := by simp [h0]
      by_cases ha : 97 ≤ (s[1]'(by omega)).toNat ∧ (s[1]'(by omega)).toNat ≤ 122
      · have HV := Lib.hid (letterP_yes h2 h0 ha)
        have ha1 : (97 : Int) ≤ ((s[1]'(by omega)).toNat : Int) := by omega
        have ha2 : ((s[1]'(by omega)).toNat : Int) ≤ 122 := by omega
        clear h0 ha
        go_enter Tryz.func147, Tryz.ntmps147
        go_wp2_with fail
        refine (Num.specIn_true ha1 ha2 _).mono ?_
        rintro e w2 ⟨rfl, rfl⟩
        go_wp2
        go_ret
        exact ⟨ret_bool HV.out.symm, rfl⟩
      · have HV := Lib.hid (letterP_1 h2 ha)
        have hn : ¬ ((97 : Int) ≤ ((s[1]'(by omega)).toNat : Int) ∧ ((s[1]'(by omega)).toNat : Int) ≤ 122) := by omega
        have HNN := Lib.hid hn
        clear h0 ha hn
        go_enter Tryz.func147, Tryz.ntmps147
        go_wp2_with fail
        refine (Num.specIn_false HNN.out _).mono ?_
        rintro e w2 ⟨rfl, rfl⟩
        go_wp2
        go_ret
        exact ⟨ret_bool HV.out.symm, rfl⟩
    · have HV := Lib.hid (letterP_0 h2 h0)
      have t0 : (((s[0]'(by omega)).toNat : Int) == 63) = false := by simp; omega
      clear h0
      go_enter Tryz.func147, Tryz.ntmps147
      go_wp2
      go_ret
      exact ⟨ret_bool HV.out.symm, rfl⟩
  · have HV := Lib.hid (letterP_size h2)
    have t0 : (((s.size : Nat) : Int) == 2) = false := by simp; omega
    clear h2
    go_enter Tryz.func147, Tryz.ntmps147
    go_wp2
    go_ret
    exact ⟨ret_bool HV.out.symm, rfl⟩
end Go.Proofs.YtlhchmjnaanjpaaGreatDoor.Row
/- ValidPattern, the program's and the model's, and what the program makes of a pattern's parts (interface values). No conditions but that lengths fit. -/
namespace Go.Proofs.YtlhchmjnaanjpaaGreatDoor.Row
open Go.ChangeShapes Go.WideShapes Go.ChangeAt Go.RowKit Go.Instr
set_option linter.unusedVariables false
set_option maxRecDepth 100000
def starB : ByteArray := { data := #[42] }
def star2B : ByteArray := { data := #[42, 42] }
theorem star_tl (s : ByteArray) : (s.toList == [42]) = decide (s = starB) := by
  by_cases h : s = starB
  · rw [decide_eq_true h, h]
    have : starB.toList = [42] := ByteArray.toList_mk [42]
    simp [this]
  · rw [decide_eq_false h]
    have : s.toList ≠ [42] := fun e => h (toList_inj (by rw [e]; exact (ByteArray.toList_mk [42]).symm))
    simpa using this
theorem star2_tl (s : ByteArray) : (s.toList == [42, 42]) = decide (s = star2B) := by
  by_cases h : s = star2B
  · rw [decide_eq_true h, h]
    have : star2B.toList = [42, 42] := ByteArray.toList_mk [42, 42]
    simp [this]
  · rw [decide_eq_false h]
    have : s.toList ≠ [42, 42] := fun e => h (toList_inj (by rw [e]; exact (ByteArray.toList_mk [42, 42]).symm))
    simpa using this
theorem star_yes {s : ByteArray} (h : s = starB) : (s.toList == [42]) = true := by rw [star_tl]; exact decide_eq_true h
theorem star_no {s : ByteArray} (h : ¬ s = starB) : (s.toList == [42]) = false := by rw [star_tl]; exact decide_eq_false h
theorem star2_yes {s : ByteArray} (h : s = star2B) : (s.toList == [42, 42]) = true := by rw [star2_tl]; exact decide_eq_true h
theorem star2_no {s : ByteArray} (h : ¬ s = star2B) : (s.toList == [42, 42]) = false := by rw [star2_tl]; exact decide_eq_false h
theorem star_size : starB.size = 1 := rfl
theorem star2_size : star2B.size = 2 := rfl
theorem star_validP : validP starB = false := validP_byte (k := 0) (by decide) (by rw [show (starB[0]'(by decide)).toNat = 42 from rfl]; unfold okR; omega)
theorem star2_validP : validP star2B = false := validP_byte (k := 0) (by decide) (by rw [show (star2B[0]'(by decide)).toNat = 42 from rfl]; unfold okR; omega)
theorem star_letterP : letterP starB = false := letterP_size (by decide)
theorem star2_letterP : letterP star2B = false := letterP_0 rfl (by rw [show (star2B[0]'(by decide)).toNat = 42 from rfl]; omega)
theorem star_ne : starB ≠ star2B := fun h => by have := congrArg ByteArray.size h; simp [star_size, star2_size] at this
theorem letter_validP {s : ByteArray} (h : letterP s = true) : validP s = false := by
  obtain ⟨h2, h0, _⟩ := letterP_iff.1 h
  exact validP_byte (k := 0) (by omega) (by rw [h0]; unfold okR; omega)
theorem valid_letterP {s : ByteArray} (h : validP s = true) : letterP s = false := by
  cases hl : letterP s with
  | false => rfl
  | true => rw [letter_validP hl] at h; cases h
theorem valid_ne {s : ByteArray} (h : validP s = true) : s ≠ starB ∧ s ≠ star2B := ⟨fun e => (by rw [e, star_validP] at h; cases h), fun e => (by rw [e, star2_validP] at h; cases h)⟩
theorem letter_ne {s : ByteArray} (h : letterP s = true) : s ≠ starB ∧ s ≠ star2B := ⟨fun e => (by rw [e, star_letterP] at h; cases h), fun e => (by rw [e, star2_letterP] at h; cases h)⟩
def elemP (s : ByteArray) (last : Bool) : Bool := validP s || decide (s = starB) || letterP s || (decide (s = star2B) && last)
def validPat (l : List ByteArray) : Bool := decide (l.length ≤ 6 ∧ ∀ j, j < l.length → elemP (nth l j) (decide (j + 1 = l.length)) = true)
def allE (l : List ByteArray) (k : Nat) : Prop := ∀ j, j < k → elemP (nth l j) (decide (j + 1 = l.length)) = true
theorem allE_zero (l : List ByteArray) : allE l 0 := fun j h => absurd h (by omega)
theorem allE_succ {l : List ByteArray} {k : Nat} (h : allE l k) (hc : elemP (nth l k) (decide (k + 1 = l.length)) = true) : allE l (k + 1) := fun j h1 => by
  by_cases e : j = k
  · subst e; exact hc
  · exact h j (by omega)
theorem validPat_not {l : List ByteArray} {k : Nat} (hk : k < l.length) (hc : elemP (nth l k) (decide (k + 1 = l.length)) = false) : validPat l = false := by
  refine decide_eq_false (fun e => ?_)
  have := e.2 k hk
  rw [hc] at this; cases this
theorem validPat_all {l : List ByteArray} (h : allE l l.length) : validPat l = decide (l.length ≤ 6) := by
  unfold validPat
  congr 1
  exact propext ⟨fun e => e.1, fun e => ⟨e, h⟩⟩
theorem validPat_long {l : List ByteArray} (h : ¬ l.length ≤ 6) : validPat l = false := decide_eq_false (fun e => h e.1)
theorem validPat_iff {l : List ByteArray} : validPat l = true ↔ l.length ≤ 6 ∧ ∀ j, j < l.length → elemP (nth l j) (decide (j + 1 = l.length)) = true := by unfold validPat; exact decide_eq_true_iff
theorem elemP_iff {s : ByteArray} {b : Bool} : elemP s b = true ↔ validP s = true ∨ s = starB ∨ letterP s = true ∨ (s = star2B ∧ b = true) := by simp [elemP, or_assoc]
theorem elemP_no {s : ByteArray} {b : Bool} (h1 : validP s = false) (h2 : ¬ s = starB) (h3 : letterP s = false) (h4 : ¬ (s = star2B ∧ b = true)) : elemP s b = false := by
  cases h : elemP s b with
  | false => rfl
  | true =>
    rcases elemP_iff.1 h with h | h | h | h
    · rw [h1] at h; cases h
    · exact absurd h h2
    · rw [h3] at h; cases h
    · exact absurd h h4
def encPt (s : ByteArray) : Value :=
  if validP s = true then .iface 216 (.agg #[.string s]) else if s = starB then .iface 218 (.agg #[]) else if letterP s = true then .iface 220 (.agg #[.string s]) else .iface 221 (.agg #[])
theorem encPt_lit {s : ByteArray} (h : validP s = true) : encPt s = .iface 216 (.agg #[.string s]) := if_pos h
theorem encPt_any {s : ByteArray} (h : s = starB) : encPt s = .iface 218 (.agg #[]) := by
  unfold encPt
  rw [if_neg (by rw [h, star_validP]; simp), if_pos h]
theorem encPt_var {s : ByteArray} (h : letterP s = true) : encPt s = .iface 220 (.agg #[.string s]) := by
  unfold encPt
  rw [if_neg (by rw [letter_validP h]; simp), if_neg (letter_ne h).1, if_pos h]
theorem encPt_rest {s : ByteArray} (h : s = star2B) : encPt s = .iface 221 (.agg #[]) := by
  unfold encPt
  rw [if_neg (by rw [h, star2_validP]; simp), if_neg (by rw [h]; exact fun e => star_ne e.symm), if_neg (by rw [h, star2_letterP]; simp)]
theorem onePt (s : ByteArray) : (encPt s).oneCell' = true := by
  unfold encPt
  repeat' split
  all_goals rfl
theorem encPt_form (s : ByteArray) : ∃ t v, encPt s = .iface t v := by
  unfold encPt
  repeat' split
  all_goals exact ⟨_, _, rfl⟩
theorem holds_one' {α : Type} [Inhabited α] (enc : α → Value) (e : TypeId) (w : World) (x : α) {u : Value} (h : enc x = u) : Holds enc (w.alloc (.cells #[u] e)) (.slice (some ⟨w.heap.size, 0, none⟩) 1 1) [x] := by subst h; exact holds_one enc e w x
theorem elemPT : Elem Tryz.prog 206 .nilIface 16 := by unfold Elem; kernel_rfl
set_option maxHeartbeats 1000000 in
theorem readPart (s : ByteArray) (b : Bool) (w : World) (hl : s.size ≤ 140737488351232) :
    Calls Tryz.prog 175 #[.string s, .bool b] w fun e w' => e = .returned (.tuple #[if elemP s b = true then encPt s else .nilIface, .bool (elemP s b)]) ∧ Below w.heap.size w w' := by
  by_cases hv : validP s = true
  · have he : elemP s b = true := elemP_iff.2 (Or.inl hv)
    rw [he, if_pos rfl, encPt_lit hv]
    have HV := Lib.hid hv
    clear hv he
    go_enter Tryz.func175, Tryz.ntmps175
    go_wp2_with fail
    refine (implValidPart _ _ hl).mono ?_
    rintro e w1 ⟨rfl, hb⟩
    rw [HV.out]
    go_wp2
    go_ret2
    exact ⟨rfl, hb⟩
  · have hv : validP s = false := by simpa using hv
    have HV := Lib.hid hv
    by_cases hs : s = starB
    · have he : elemP s b = true := elemP_iff.2 (Or.inr (Or.inl hs))
      rw [he, if_pos rfl, encPt_any hs]
      have HQ := Lib.hid (star_yes hs)
      clear hv he hs
      go_enter Tryz.func175, Tryz.ntmps175
      go_wp2_with fail
      refine (implValidPart _ _ hl).mono ?_
      rintro e w1 ⟨rfl, hb⟩
      rw [HV.out]
      have hq := HQ.out
      go_wp2
      go_ret2
      exact ⟨rfl, hb⟩
    · by_cases hx : letterP s = true
      · have he : elemP s b = true := elemP_iff.2 (Or.inr (Or.inr (Or.inl hx)))
        rw [he, if_pos rfl, encPt_var hx]
        have HQ := Lib.hid (star_no hs)
        have HX := Lib.hid hx
        clear hv he hs hx
        go_enter Tryz.func175, Tryz.ntmps175
        go_wp2_with fail
        refine (implValidPart _ _ hl).mono ?_
        rintro e w1 ⟨rfl, hb⟩
        rw [HV.out]
        have hq := HQ.out
        go_wp2_with fail
        refine (isVariable _ _ hl).mono ?_
        rintro e w2 ⟨rfl, rfl⟩
        rw [HX.out]
        go_wp2
        go_ret2
        exact ⟨rfl, hb⟩
      · have hx : letterP s = false := by simpa using hx
        by_cases h2 : s = star2B ∧ b = true
        · have he : elemP s b = true := elemP_iff.2 (Or.inr (Or.inr (Or.inr h2)))
          rw [he, if_pos rfl, encPt_rest h2.1]
          have HQ := Lib.hid (star_no hs)
          have HX := Lib.hid hx
          have HQ2 := Lib.hid (star2_yes h2.1)
          obtain ⟨-, rfl⟩ := h2
          clear hv he hs hx
          go_enter Tryz.func175, Tryz.ntmps175
          go_wp2_with fail
          refine (implValidPart _ _ hl).mono ?_
          rintro e w1 ⟨rfl, hb⟩
          rw [HV.out]
          have hq := HQ.out
          go_wp2_with fail
          refine (isVariable _ _ hl).mono ?_
          rintro e w2 ⟨rfl, rfl⟩
          rw [HX.out]
          have hq2 := HQ2.out
          go_wp2
          go_ret2
          exact ⟨rfl, hb⟩
        · have he : elemP s b = false := elemP_no hv hs hx h2
          rw [he, if_neg (by simp)]
          have HQ := Lib.hid (star_no hs)
          have HX := Lib.hid hx
          have HQ2 := Lib.hid (show ((s.toList == [42, 42]) && b) = false by
            cases b with
            | false => simp
            | true => rw [star2_no (fun e => h2 ⟨e, rfl⟩)]; rfl)
          clear hv he hs hx
          go_enter Tryz.func175, Tryz.ntmps175
          go_wp2_with fail
          refine (implValidPart _ _ hl).mono ?_
          rintro e w1 ⟨rfl, hb⟩
          rw [HV.out]
          have hq := HQ.out
          go_wp2_with fail
          refine (isVariable _ _ hl).mono ?_
          rintro e w2 ⟨rfl, rfl⟩
          rw [HX.out]
          cases hc : (s.toList == [42, 42]) with
          | false =>
            go_wp2
            go_ret2
            exact ⟨rfl, hb⟩
          | true =>
            have hq2 := HQ2.out
            rw [hc] at hq2
            have hbf : b = false := by simpa using hq2
            subst hbf
            clear hq2
            go_wp2
            go_ret2
            exact ⟨rfl, hb⟩
theorem ret_two {v : Value} {a b : Bool} (h : a = b) : Ending.returned (.tuple #[v, .bool a]) = .returned (.tuple #[v, .bool b]) := by rw [h]
theorem last_is {k n : Nat} {l : List ByteArray} (h : n = l.length) : (((k : Nat) : Int) == ((n : Nat) : Int) - 1) = decide (k + 1 = l.length) := by
  by_cases e : k + 1 = l.length
  · rw [decide_eq_true e]; simp; omega
  · rw [decide_eq_false e]; simp; omega
def ifP (c : Bool) (l : List ByteArray) : List ByteArray := if c = true then l else []
set_option maxHeartbeats 2000000 in
theorem readParts (v : Value) (l : List ByteArray) (w : World) (h : Holds Value.string w v l) (hs : bulk l ≤ 100000000) :
    Calls Tryz.prog 162 #[.agg #[v]] w fun e w' => ∃ v', e = .returned (.tuple #[v', .bool (validPat l)]) ∧ Own 206 encPt w.heap.size w' v' (ifP (validPat l) l) ∧ Below w.heap.size w w' := by
  obtain ⟨x, n, cap, rfl, hn, hcap, hh⟩ := h.shapeN
  have hll := bigLen hs
  have HS := Lib.hid (fun k (hk : k < l.length) => size_nth hs hk)
  rw [← hn] at hll
  have HN := Lib.hid hn
  have HH := Lib.hid hh
  have HB0 := Lib.hid ((Below.refl w.heap.size w).alloc (Nat.le_refl _) (.cells #[.slice x n cap] 129))
  have HC0 := Lib.hid (Ret.Box.new w (.slice x n cap) 129)
  by_cases h6 : n ≤ 6
  · clear hn h hh hs
    obtain ⟨i0, hi, hz0, hz1, hz2⟩ := info_parts elemPT
    have HI := Lib.hid hi; have HZ0 := Lib.hid hz0; have HZ1 := Lib.hid hz1; have HZ2 := Lib.hid hz2
    clear hi hz0 hz1 hz2
    go_enter Tryz.func162, Tryz.ntmps162
    go_wp2_with (at_make; refine wpList_make_own _ rfl _ _ 195 rfl (w.heap.size + 1) 206 i0 .nilIface 1 Tryz.underlying195 HI.out HZ0.out HZ1.out _ _ _ n rfl rfl rfl (by rw [HZ2.out]; omega) (by unfold maxLen; omega) (by simp) ?_)
    intro w1 hown hgrow
    have HO := Lib.hid (show Own 206 encPt (w.heap.size + 1) w1 (.slice (some ⟨w.heap.size + 1, 0, none⟩) 0 n) [] from hown)
    have HC1 := Lib.hid (HC0.out.grown hgrow (by simp))
    have HB1 := Lib.hid (HB0.out.grown hgrow (by simp) (fun g hg => by cases hg))
    clear hown hgrow
    have hc1 := HC1.out.cell
    go_wp2_with fail
    clear hc1
    go_loopw [4, 20] (fun pv i wr => ∃ k : Nat, k ≤ n ∧ i = .int .i64 k ∧ Hid (Own 206 encPt (w.heap.size + 1) wr pv (l.take k)) ∧ Hid (allE l k) ∧ Hid (Ret.Box wr w.heap.size (.slice x n cap) 129) ∧ Hid (Below w.heap.size w wr)) (fun _ i _ => n - (intOf i).toNat)
    case atStart => exact ⟨0, Nat.zero_le _, rfl, HO, Lib.hid (allE_zero l), HC1, HB1⟩
    case round =>
      obtain ⟨k, hk, rfl, ho, ha, hc, hb⟩ := hrel
      by_cases hlt : k < n
      · have hlen := HN.out
        obtain ⟨b, off, rfl, hd⟩ := (HH.out.on hb.out).at (j := k) (by omega)
        have hsz := HS.out k (by omega)
        have hc1 := hc.out.cell
        clear hlen
        go_wp2_with fail
        rw [show (((k : Nat) : Int) == ((n : Nat) : Int) - 1) = decide (k + 1 = l.length) from last_is HN.out]
        refine (readPart _ _ _ (by omega)).mono ?_
        rintro e w2 ⟨rfl, hb2⟩
        have HB2 := Lib.hid (hb.out.trans (hb2.mono hb.out.size))
        have HC2 := Lib.hid (hc.out.on hb2)
        have HO2 := Lib.hid (ho.out.on hb2)
        clear hb2 hd hc1 hsz
        cases he : elemP (nth l k) (decide (k + 1 = l.length)) with
        | false =>
          have HV := Lib.hid (validPat_not (by have := HN.out; omega) he)
          rw [if_neg (by simp)]
          clear he
          go_wp2
          go_ret2
          exact ⟨_, ret_two HV.out.symm, by rw [HV.out]; exact Own.nil _ _ _ _, HB2.out⟩
        | true =>
          have HA2 := Lib.hid (allE_succ ha.out he)
          obtain ⟨t5, v5, h5⟩ := encPt_form (nth l k)
          rw [if_pos rfl, h5]
          have H5 := Lib.hid h5
          clear he h5
          have hlen : (l.take k).length = k := by rw [List.length_take]; have := HN.out; omega
          have HL := Lib.hid hlen
          have HX := Lib.hid (show l.take k ++ [nth l k] = l.take (k + 1) by rw [nth_eq (by have := HN.out; omega)]; exact (List.take_succ_eq_append_getElem (by have := HN.out; omega)).symm)
          have HO3 := Lib.hid (HO2.out.on ((Below.refl _ _).alloc (Nat.le_refl _) (.cells #[.iface t5 v5] 206)))
          have HC3 := Lib.hid (HC2.out.on ((Below.refl _ _).alloc (Nat.le_refl _) (.cells #[.iface t5 v5] 206)))
          have HB3 := Lib.hid (HB2.out.alloc HB2.out.size (.cells #[.iface t5 v5] 206))
          have HSZ := Lib.hid (HC2.out.lt)
          clear hlen
          go_wp2_with (at_builtin; refine wpList_app (enc := encPt) (B := w.heap.size + 1) (l := l.take k) (m := [nth l k]) rfl _ _ rfl Tryz.underlying195 elemPT rfl rfl rfl HO3.out (holds_one' encPt 206 _ _ H5.out) onePt (by rw [HL.out]; simp; omega) (by rw [HL.out]; unfold maxLen; simp; omega) (by have := HSZ.out; simp; omega) ?_)
          intro v2 w3 ho3 hg3
          have HO4 := Lib.hid (HX.out ▸ ho3)
          have HC4 := Lib.hid (HC3.out.grown hg3 (fun e => by have := (HO3.out.lt _ e.symm).1; omega))
          have HB4 := Lib.hid (HB3.out.grown hg3 (by have := HSZ.out; simp; omega) (fun g hh => by have := (HO3.out.lt g hh).1; omega))
          clear ho3 hg3
          go_wp2_with fail
          go_roundw
          case rel => exact ⟨k + 1, by omega, by go_num, HO4, HA2, HC4, HB4⟩
          case measure => simp [intOf]; omega
      · obtain rfl : k = n := by omega
        have HV := Lib.hid (show validPat l = true by rw [validPat_all (HN.out ▸ ha.out)]; exact decide_eq_true (by have := HN.out; omega))
        clear hlt
        go_wp2
        go_ret2
        refine ⟨_, ret_two HV.out.symm, ?_, hb.out⟩
        rw [HV.out]
        have := ho.out.mono (Nat.le_succ _)
        rw [HN.out, List.take_length] at this
        exact this
  · have HV := Lib.hid (validPat_long (l := l) (by omega))
    have h7 : (6 : Int) < (n : Int) := by omega
    rw [HV.out]
    clear hn h hh hs h6
    go_enter Tryz.func162, Tryz.ntmps162
    go_wp2
    go_ret2
    exact ⟨_, rfl, Own.nil _ _ _ _, HB0.out⟩
end Go.Proofs.YtlhchmjnaanjpaaGreatDoor.Row
/- Contracts of ValidPattern, the program's and the model's. No conditions but that lengths fit. -/
namespace Go.Proofs.YtlhchmjnaanjpaaGreatDoor.Row
open Go.ChangeShapes Go.WideShapes Go.ChangeAt Go.RowKit Go.Instr
set_option linter.unusedVariables false
set_option maxRecDepth 100000
set_option maxHeartbeats 1000000 in
theorem implValidPattern (v : Value) (l : List ByteArray) (w : World) (h : Holds Value.string w v l) (hl : bulk l ≤ 100000000) :
    Calls Tryz.prog 144 #[.agg #[v]] w fun e w' => e = .returned (.bool (validPat l)) ∧ Below w.heap.size w w' := by
  obtain ⟨x, n, cap, rfl, hn, hcap, hh⟩ := h.shapeN
  have HL := Lib.hid hl
  have HH := Lib.hid (hh.on ((Below.refl w.heap.size w).alloc (Nat.le_refl _) (.cells #[.slice x n cap] 129)))
  have HB0 := Lib.hid ((Below.refl w.heap.size w).alloc (Nat.le_refl _) (.cells #[.slice x n cap] 129))
  clear hn h hh hl
  go_enter Tryz.func144, Tryz.ntmps144
  go_wp2_with fail
  refine (readParts _ l _ HH.out HL.out).mono ?_
  rintro e w1 ⟨v1, rfl, ho, hb⟩
  have HB1 := Lib.hid (HB0.out.trans (hb.mono HB0.out.size))
  clear ho hb
  go_wp2
  go_ret
  exact ⟨rfl, HB1.out⟩
set_option maxHeartbeats 2000000 in
theorem specValidPattern (v : Value) (l : List ByteArray) (w : World) (h : Holds Value.string w v l) (hl : bulk l ≤ 100000000) :
    Calls Tryz.prog 146 #[.agg #[v]] w fun e w' => e = .returned (.bool (validPat l)) ∧ Below w.heap.size w w' := by
  obtain ⟨x, n, cap, rfl, hn, hcap, hh⟩ := h.shapeN
  have hll := bigLen hl
  have HS := Lib.hid (fun k (hk : k < l.length) => size_nth hl hk)
  rw [← hn] at hll
  have HN := Lib.hid hn
  have HH := Lib.hid hh
  have HB0 := Lib.hid ((Below.refl w.heap.size w).alloc (Nat.le_refl _) (.cells #[.slice x n cap] 129))
  have HC0 := Lib.hid (Ret.Box.new w (.slice x n cap) 129)
  clear hn h hh hl
  go_enter Tryz.func146, Tryz.ntmps146
  go_wp2_with fail
  go_loopw [3] (fun i wr => ∃ k : Nat, k ≤ n ∧ i = .int .i64 k ∧ Hid (allE l k) ∧ Hid (Ret.Box wr w.heap.size (.slice x n cap) 129) ∧ Hid (Below w.heap.size w wr)) (fun i _ => n - (intOf i).toNat)
  case atStart => exact ⟨0, Nat.zero_le _, rfl, Lib.hid (allE_zero l), HC0, HB0⟩
  case round =>
    obtain ⟨k, hk, rfl, ha, hc, hb⟩ := hrel
    have hc1 := hc.out.cell
    by_cases hlt : k < n
    · have hlen := HN.out
      obtain ⟨b, off, rfl, hd⟩ := (HH.out.on hb.out).at (j := k) (by omega)
      have hsz := HS.out k (by omega)
      clear hlen
      have HE := Lib.hid (fun (he : elemP (nth l k) (decide (k + 1 = l.length)) = true) => allE_succ ha.out he)
      by_cases hv : validP (nth l k) = true
      · have HA := Lib.hid (HE.out (elemP_iff.2 (Or.inl hv)))
        have HV := Lib.hid hv
        clear HE hv
        go_wp2_with fail
        refine (specValidPart _ _ (by omega)).mono ?_
        rintro e w2 ⟨rfl, rfl⟩
        rw [HV.out]
        go_wp2_with fail
        go_roundw
        case rel => exact ⟨k + 1, by omega, by go_num, HA, hc, hb⟩
        case measure => simp [intOf]; omega
      · have hv : validP (nth l k) = false := by simpa using hv
        have HV := Lib.hid hv
        by_cases hs : nth l k = starB
        · have HA := Lib.hid (HE.out (elemP_iff.2 (Or.inr (Or.inl hs))))
          have HQ := Lib.hid (show ((nth l k).toList == [42]) = true from star_yes hs)
          clear HE hv hs
          go_wp2_with fail
          refine (specValidPart _ _ (by omega)).mono ?_
          rintro e w2 ⟨rfl, rfl⟩
          rw [HV.out]
          have hq := HQ.out
          go_wp2_with fail
          go_roundw
          case rel => exact ⟨k + 1, by omega, by go_num, HA, hc, hb⟩
          case measure => simp [intOf]; omega
        · have HQ := Lib.hid (show ((nth l k).toList == [42]) = false from star_no hs)
          by_cases hx : letterP (nth l k) = true
          · have HA := Lib.hid (HE.out (elemP_iff.2 (Or.inr (Or.inr (Or.inl hx)))))
            have HX := Lib.hid hx
            clear HE hv hs hx
            go_wp2_with fail
            refine (specValidPart _ _ (by omega)).mono ?_
            rintro e w2 ⟨rfl, rfl⟩
            rw [HV.out]
            have hq := HQ.out
            go_wp2_with fail
            refine (l5Letter _ _ (by omega)).mono ?_
            rintro e w2 ⟨rfl, rfl⟩
            rw [HX.out]
            go_wp2_with fail
            go_roundw
            case rel => exact ⟨k + 1, by omega, by go_num, HA, hc, hb⟩
            case measure => simp [intOf]; omega
          · have hx : letterP (nth l k) = false := by simpa using hx
            have HX := Lib.hid hx
            by_cases h2 : nth l k = star2B
            · have HQ2 := Lib.hid (star2_yes h2)
              by_cases hlast : k + 1 = n
              · have HA := Lib.hid (HE.out (elemP_iff.2 (Or.inr (Or.inr (Or.inr ⟨h2, decide_eq_true (by have := HN.out; omega)⟩)))))
                have hl1 : ¬ ((k : Int) < (n : Int) - 1) := by omega
                clear HE hv hs hx h2
                go_wp2_with fail
                refine (specValidPart _ _ (by omega)).mono ?_
                rintro e w2 ⟨rfl, rfl⟩
                rw [HV.out]
                have hq := HQ.out
                go_wp2_with fail
                refine (l5Letter _ _ (by omega)).mono ?_
                rintro e w2 ⟨rfl, rfl⟩
                rw [HX.out]
                have hq2 := HQ2.out
                go_wp2_with fail
                go_roundw
                case rel => exact ⟨k + 1, by omega, by go_num, HA, hc, hb⟩
                case measure => simp [intOf]; omega
              · have HN2 := Lib.hid (validPat_not (l := l) (k := k) (by have := HN.out; omega) (elemP_no hv hs hx (fun e => by have := of_decide_eq_true e.2; have := HN.out; omega)))
                have hl1 : ((k : Int) < (n : Int) - 1) := by omega
                clear HE hv hs hx h2
                go_wp2_with fail
                refine (specValidPart _ _ (by omega)).mono ?_
                rintro e w2 ⟨rfl, rfl⟩
                rw [HV.out]
                have hq := HQ.out
                go_wp2_with fail
                refine (l5Letter _ _ (by omega)).mono ?_
                rintro e w2 ⟨rfl, rfl⟩
                rw [HX.out]
                have hq2 := HQ2.out
                go_wp2_with fail
                go_ret
                exact ⟨ret_bool HN2.out.symm, hb.out⟩
            · have HN2 := Lib.hid (validPat_not (l := l) (k := k) (by have := HN.out; omega) (elemP_no hv hs hx (fun e => h2 e.1)))
              have HQ2 := Lib.hid (star2_no h2)
              clear HE hv hs hx h2
              go_wp2_with fail
              refine (specValidPart _ _ (by omega)).mono ?_
              rintro e w2 ⟨rfl, rfl⟩
              rw [HV.out]
              have hq := HQ.out
              go_wp2_with fail
              refine (l5Letter _ _ (by omega)).mono ?_
              rintro e w2 ⟨rfl, rfl⟩
              rw [HX.out]
              have hq2 := HQ2.out
              go_wp2_with fail
              go_ret
              exact ⟨ret_bool HN2.out.symm, hb.out⟩
    · obtain rfl : k = n := by omega
      have HV := Lib.hid (validPat_all (HN.out ▸ ha.out))
      clear hlt
      go_wp2
      go_ret
      refine ⟨ret_bool ?_, hb.out⟩
      rw [HV.out, ← HN.out]
      simp
      omega
end Go.Proofs.YtlhchmjnaanjpaaGreatDoor.Row
