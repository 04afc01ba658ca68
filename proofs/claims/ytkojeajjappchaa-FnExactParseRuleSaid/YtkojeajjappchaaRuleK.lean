/- Rules (two patterns) in the words of kinds: the kind; sz, to, eq, mark, held. No conditions but that lengths fit. -/
import Derived.Test.YtkojeajjappchaaOpenK
import Derived.Test.YtkojeajjappchaaPtK
namespace Go.Proofs.Ytkojeajjappchaa.Row
open Go.ChangeShapes Go.WideShapes Go.ChangeAt Go.RowKit Go.Instr
set_option linter.unusedVariables false
set_option maxRecDepth 100000

abbrev Rlt := List ByteArray × List ByteArray
abbrev Rlm := Rw ByteArray × Rw ByteArray
def kRl : Kd Rlt Rlm := (kN.pair kN)
theorem aggRl : Ret.AggOf Try.prog 31 2 := ⟨by kernel_rfl, by kernel_rfl⟩
def wtRl (x : Rlt) : Nat := bulk x.1 + bulk x.2
def adRl (x : Rlt) : Nat := x.1.length + x.2.length
def okRl (x : Rlt) : Prop := okN x.1 ∧ okN x.2
def mkRl (k : Int) (x : Rlt) : Rlt := (marks markT (k) x.1.length, marks markT (k + (x.1.length : Nat)) x.2.length)
section
variable {w : World} {V : Value} {x : Rlt} {B E : Nat}
theorem kRl_at (h : kRl.At w V x) : ∃ (x0_0 : Option Addr) (n0_0 c0_0 : Nat) (x1_0 : Option Addr) (n1_0 c1_0 : Nat), V = .agg #[.slice x0_0 n0_0 c0_0, .slice x1_0 n1_0 c1_0] ∧ kN.At w (.agg #[.slice x0_0 n0_0 c0_0]) x.1 ∧ kN.At w (.agg #[.slice x1_0 n1_0 c1_0]) x.2 := by
  obtain ⟨⟨m0, m1⟩, rfl, rfl, g0, g1⟩ := h
  obtain ⟨x0_0, n0_0, c0_0, e0, a0⟩ := kN_shapeA (Kd.at_of (k := kN) g0)
  have d0 : kN.cells m0 = [.slice x0_0 n0_0 c0_0] := by injection e0 with e; exact congrArg Array.toList e
  obtain ⟨x1_0, n1_0, c1_0, e1, a1⟩ := kN_shapeA (Kd.at_of (k := kN) g1)
  have d1 : kN.cells m1 = [.slice x1_0 n1_0 c1_0] := by injection e1 with e; exact congrArg Array.toList e
  refine ⟨x0_0, n0_0, c0_0, x1_0, n1_0, c1_0, ?_, e0 ▸ Kd.at_of (k := kN) g0, e1 ▸ Kd.at_of (k := kN) g1⟩
  show Value.agg ((kN.cells m0 ++ (kN.cells m1))).toArray = _
  rw [d0, d1]
  rfl
theorem kRl_of {x0_0 x1_0 : Option Addr} {n0_0 c0_0 n1_0 c1_0 : Nat} (h0 : kN.At w (.agg #[.slice x0_0 n0_0 c0_0]) x.1) (h1 : kN.At w (.agg #[.slice x1_0 n1_0 c1_0]) x.2) : kRl.At w (.agg #[.slice x0_0 n0_0 c0_0, .slice x1_0 n1_0 c1_0]) x := by
  obtain ⟨l0, l1⟩ := x
  obtain ⟨m0, e0, r0, g0⟩ := h0
  replace e0 := e0.symm
  have d0 : kN.cells m0 = [.slice x0_0 n0_0 c0_0] := by injection e0 with e; exact congrArg Array.toList e
  obtain ⟨m1, e1, r1, g1⟩ := h1
  replace e1 := e1.symm
  have d1 : kN.cells m1 = [.slice x1_0 n1_0 c1_0] := by injection e1 with e; exact congrArg Array.toList e
  refine ⟨(m0, m1), ?_, Prod.ext r0 (r1), g0, g1⟩
  symm
  show Value.agg ((kN.cells m0 ++ (kN.cells m1))).toArray = _
  rw [d0, d1]
  rfl
theorem kRl_shapeA (h : kRl.At w V x) : ∃ (x0_0 : Option Addr) (n0_0 c0_0 : Nat) (x1_0 : Option Addr) (n1_0 c1_0 : Nat), V = .agg #[.slice x0_0 n0_0 c0_0, .slice x1_0 n1_0 c1_0] ∧ kRl.At w (.agg #[.slice x0_0 n0_0 c0_0, .slice x1_0 n1_0 c1_0]) x := by
  obtain ⟨x0_0, n0_0, c0_0, x1_0, n1_0, c1_0, rfl, -⟩ := kRl_at h
  exact ⟨x0_0, n0_0, c0_0, x1_0, n1_0, c1_0, rfl, h⟩
theorem kRl_shape (h : kRl.In B E w V x) : ∃ (x0_0 : Option Addr) (n0_0 c0_0 : Nat) (x1_0 : Option Addr) (n1_0 c1_0 : Nat), V = .agg #[.slice x0_0 n0_0 c0_0, .slice x1_0 n1_0 c1_0] ∧ kRl.In B E w (.agg #[.slice x0_0 n0_0 c0_0, .slice x1_0 n1_0 c1_0]) x := by
  obtain ⟨x0_0, n0_0, c0_0, x1_0, n1_0, c1_0, rfl, -⟩ := kRl_at h.at
  exact ⟨x0_0, n0_0, c0_0, x1_0, n1_0, c1_0, rfl, h⟩
end
set_option maxHeartbeats 4000000 in
theorem szRuleK (V : Value) (x : Rlt) (w : World) (left : Int) (h : kRl.At w V x) (hp : okRl x) (h0 : 0 ≤ left) (hl : left ≤ 1048576) :
    Calls Try.prog 11 #[V, .int .i64 left] w fun e w' => e = .returned (.int .i64 (szW (wtRl x) left)) ∧ Below w.heap.size w w' := by
  obtain ⟨x0_0, n0_0, c0_0, x1_0, n1_0, c1_0, rfl, g0, g1⟩ := kRl_at h
  obtain ⟨l0, l1⟩ := x
  obtain ⟨p0, p1⟩ := hp
  have HB := Lib.hid ((Below.refl w.heap.size w).alloc (Nat.le_refl _) (.cells #[.slice x0_0 n0_0 c0_0, .slice x1_0 n1_0 c1_0] 26))
  have HX := Lib.hid (Ret.Blk.new w #[.slice x0_0 n0_0 c0_0, .slice x1_0 n1_0 c1_0] 26)
  have G0 := Lib.hid g0; have P0 := Lib.hid p0
  have G1 := Lib.hid g1; have P1 := Lib.hid p1
  dsimp only at G0 P0 G1 P1 ⊢
  clear g0 p0 g1 p1 h
  go_enter Try.func11, Try.ntmps11
  go_wp2_with fail
  refine (szPtK _ l0 _ (left) (G0.out.on HB.out) P0.out (by omega) (by omega)).mono ?_
  rintro e w1 ⟨rfl, hb⟩
  replace HX := Lib.hid (HX.out.on hb)
  replace HB := Lib.hid (HB.out.trans (hb.mono HB.out.size)); clear hb
  have q0 : w1.cell? ⟨w.heap.size, 0, none⟩ = some (.slice x0_0 n0_0 c0_0) := HX.out.cell 0
  have q1 : w1.cell? ⟨w.heap.size, 1, none⟩ = some (.slice x1_0 n1_0 c1_0) := HX.out.cell 1
  by_cases t0 : ((bulk l0) : Int) ≤ left
  · rw [szW_fit t0]
    have b0 : ¬ left - ((bulk l0) : Int) < 0 := by omega
    go_wp2_with fail
    clear q0 q1
    refine (szPtK _ l1 _ (left - ((bulk l0) : Int)) (G1.out.on HB.out) P1.out (by omega) (by omega)).mono ?_
    rintro e w2 ⟨rfl, hb⟩
    replace HX := Lib.hid (HX.out.on hb)
    replace HB := Lib.hid (HB.out.trans (hb.mono HB.out.size)); clear hb
    have q0 : w2.cell? ⟨w.heap.size, 0, none⟩ = some (.slice x0_0 n0_0 c0_0) := HX.out.cell 0
    have q1 : w2.cell? ⟨w.heap.size, 1, none⟩ = some (.slice x1_0 n1_0 c1_0) := HX.out.cell 1
    by_cases t1 : ((bulk l1) : Int) ≤ left - ((bulk l0) : Int)
    · rw [szW_fit t1]
      have b1 : ¬ left - ((bulk l0) : Int) - ((bulk l1) : Int) < 0 := by omega
      have HZ : Hid (szW (((bulk l0) + (bulk l1))) left = left - ((bulk l0) : Int) - ((bulk l1) : Int)) := Lib.hid (by rw [szW_fit (by omega)]; (try omega))
      go_wp2
      go_ret
      exact ⟨ret_int HZ.out.symm, HB.out⟩
    · rw [szW_not t1]
      have HZ : Hid (szW (((bulk l0) + (bulk l1))) left = -1) := Lib.hid (szW_not (by omega))
      go_wp2
      go_ret
      exact ⟨ret_int HZ.out.symm, HB.out⟩
  · rw [szW_not t0]
    have HZ : Hid (szW (((bulk l0) + (bulk l1))) left = -1) := Lib.hid (szW_not (by omega))
    go_wp2
    go_ret
    exact ⟨ret_int HZ.out.symm, HB.out⟩
set_option maxHeartbeats 4000000 in
theorem toRuleK (V : Value) (x : Rlt) (w : World) (h : kRl.At w V x) (hp : adRl x ≤ 100000000) :
    Calls Try.prog 13 #[V] w fun e w' => ∃ U, e = .returned U ∧ kRl.In w.heap.size w'.heap.size w' U x ∧ Below w.heap.size w w' := by
  obtain ⟨x0_0, n0_0, c0_0, x1_0, n1_0, c1_0, rfl, g0, g1⟩ := kRl_at h
  obtain ⟨l0, l1⟩ := x
  have hp9 : l0.length + l1.length ≤ 100000000 := hp
  have hb0 := (Below.refl w.heap.size w).alloc (Nat.le_refl _) (.cells #[.slice x0_0 n0_0 c0_0, .slice x1_0 n1_0 c1_0] 26)
  have hb1 := hb0.alloc (by simp) (.cells #[.slice none 0 0, .slice none 0 0] 31)
  have hb2 := hb1.alloc (by simp; omega) (.cells #[.slice none 0 0, .slice none 0 0] 31)
  have HB := Lib.hid hb2
  have HX := Lib.hid (((Ret.Blk.new w #[.slice x0_0 n0_0 c0_0, .slice x1_0 n1_0 c1_0] 26).on ((Below.refl _ _).alloc (Nat.le_refl _) (.cells #[.slice none 0 0, .slice none 0 0] 31))).on ((Below.refl _ _).alloc (Nat.le_refl _) (.cells #[.slice none 0 0, .slice none 0 0] 31)))
  have HR := Lib.hid ((Ret.Blk.new' (w := (w.alloc (.cells #[.slice x0_0 n0_0 c0_0, .slice x1_0 n1_0 c1_0] 26))) (n := w.heap.size + 1) #[.slice none 0 0, .slice none 0 0] 31 (by simp)).on ((Below.refl _ _).alloc (Nat.le_refl _) (.cells #[.slice none 0 0, .slice none 0 0] 31)))
  have HL := Lib.hid (Ret.Blk.new' (w := (w.alloc (.cells #[.slice x0_0 n0_0 c0_0, .slice x1_0 n1_0 c1_0] 26)).alloc (.cells #[.slice none 0 0, .slice none 0 0] 31)) (n := w.heap.size + 1 + 1) #[.slice none 0 0, .slice none 0 0] 31 (by simp))
  have hz0 : (((w.alloc (.cells #[.slice x0_0 n0_0 c0_0, .slice x1_0 n1_0 c1_0] 26)).alloc (.cells #[.slice none 0 0, .slice none 0 0] 31)).alloc (.cells #[.slice none 0 0, .slice none 0 0] 31)).heap.size = w.heap.size + 3 := by simp
  have G0 := Lib.hid g0
  have G1 := Lib.hid g1
  dsimp only at G0 G1 ⊢
  clear h hp hb0 hb1 hb2 g0 g1
  go_enter Try.func13, Try.ntmps13
  go_wp2_with fail
  refine (toPtK _ l0 _ (G0.out.on HB.out) (by omega)).mono ?_
  rintro e w1 ⟨U0, rfl, ho, hb⟩
  have hs0 := hb.size
  obtain ⟨m0, rfl, r0, ho⟩ := ho.split
  obtain ⟨xy0_0, ny0_0, cy0_0, e0, -⟩ := kN_shapeA (Kd.at_of (k := kN) ho.holds)
  have d0 : kN.cells m0 = [.slice xy0_0 ny0_0 cy0_0] := by injection e0 with e; exact congrArg Array.toList e
  rw [e0]
  rw [hz0] at ho hs0; clear hz0
  replace HX := Lib.hid (HX.out.on hb); replace HR := Lib.hid (HR.out.on hb); replace HL := Lib.hid (HL.out.on hb)
  replace HB := Lib.hid (HB.out.trans (hb.mono HB.out.size)); clear hb
  have O0 := Lib.hid ho; clear ho
  have E0 := Lib.hid e0; have D0 := Lib.hid d0; have R0 := Lib.hid r0; clear e0 d0 r0
  have q0 : w1.cell? ⟨w.heap.size, 0, none⟩ = some (.slice x0_0 n0_0 c0_0) := HX.out.cell 0
  have q1 : w1.cell? ⟨w.heap.size, 1, none⟩ = some (.slice x1_0 n1_0 c1_0) := HX.out.cell 1
  have p0 : w1.cell? ⟨w.heap.size + 1 + 1, 0, none⟩ = some (.slice none 0 0) := HL.out.cell 0
  have p1 : w1.cell? ⟨w.heap.size + 1 + 1, 1, none⟩ = some (.slice none 0 0) := HL.out.cell 1
  have t0 := HL.out.frozen 0; have t1 := HL.out.frozen 1
  go_wp2_with fail
  clear q0 q1 p0 p1 t0 t1
  replace HX := Lib.hid (HX.out.other (a := ⟨w.heap.size + 1 + 1, 0, none⟩) (by show w.heap.size + 1 + 1 ≠ w.heap.size; omega) (.slice xy0_0 ny0_0 cy0_0))
  replace HR := Lib.hid (HR.out.other (a := ⟨w.heap.size + 1 + 1, 0, none⟩) (by show w.heap.size + 1 + 1 ≠ w.heap.size + 1; omega) (.slice xy0_0 ny0_0 cy0_0))
  replace HL := Lib.hid (HL.out.set 0 (.slice xy0_0 ny0_0 cy0_0))
  replace HB := Lib.hid (HB.out.setCell (p := ⟨w.heap.size + 1 + 1, 0, none⟩) (by show w.heap.size ≤ w.heap.size + 1 + 1; omega) (.slice xy0_0 ny0_0 cy0_0))
  replace O0 := Lib.hid (Kd.Own.set (g := w.heap.size + 1 + 1) (i := 0) (u := .slice xy0_0 ny0_0 cy0_0) O0.out (by omega))
  refine (toPtK _ l1 _ (G1.out.on HB.out) (by omega)).mono ?_
  rintro e w2 ⟨U1, rfl, ho, hb⟩
  have hs1 := hb.size
  obtain ⟨m1, rfl, r1, ho⟩ := ho.split
  obtain ⟨xy1_0, ny1_0, cy1_0, e1, -⟩ := kN_shapeA (Kd.at_of (k := kN) ho.holds)
  have d1 : kN.cells m1 = [.slice xy1_0 ny1_0 cy1_0] := by injection e1 with e; exact congrArg Array.toList e
  rw [e1]
  simp only [World.size_setCell] at hs1 ho
  replace HX := Lib.hid (HX.out.on hb); replace HR := Lib.hid (HR.out.on hb); replace HL := Lib.hid (HL.out.on hb)
  replace O0 := Lib.hid (O0.out.on hb)
  replace HB := Lib.hid (HB.out.trans (hb.mono HB.out.size)); clear hb
  have O1 := Lib.hid ho; clear ho
  have E1 := Lib.hid e1; have D1 := Lib.hid d1; have R1 := Lib.hid r1; clear e1 d1 r1
  have q0 : w2.cell? ⟨w.heap.size, 0, none⟩ = some (.slice x0_0 n0_0 c0_0) := HX.out.cell 0
  have q1 : w2.cell? ⟨w.heap.size, 1, none⟩ = some (.slice x1_0 n1_0 c1_0) := HX.out.cell 1
  have p0 : w2.cell? ⟨w.heap.size + 1 + 1, 0, none⟩ = some (.slice xy0_0 ny0_0 cy0_0) := HL.out.cell 0
  have p1 : w2.cell? ⟨w.heap.size + 1 + 1, 1, none⟩ = some (.slice none 0 0) := HL.out.cell 1
  have t0 := HL.out.frozen 0; have t1 := HL.out.frozen 1
  have r0 : w2.cell? ⟨w.heap.size + 1, 0, none⟩ = some (.slice none 0 0) := HR.out.cell 0
  have r1 : w2.cell? ⟨w.heap.size + 1, 1, none⟩ = some (.slice none 0 0) := HR.out.cell 1
  have u0 := HR.out.frozen 0; have u1 := HR.out.frozen 1
  have Z := Lib.hid (((HR.out.other (a := ⟨w.heap.size + 1 + 1, 1, none⟩) (by show w.heap.size + 1 + 1 ≠ w.heap.size + 1; omega) (.slice xy1_0 ny1_0 cy1_0)).set 0 (.slice xy0_0 ny0_0 cy0_0)).set 1 (.slice xy1_0 ny1_0 cy1_0))
  have ZB := Lib.hid (((HB.out.setCell (p := ⟨w.heap.size + 1 + 1, 1, none⟩) (by show w.heap.size ≤ w.heap.size + 1 + 1; omega) (.slice xy1_0 ny1_0 cy1_0)).setCell (p := ⟨w.heap.size + 1, 0, none⟩) (by show w.heap.size ≤ w.heap.size + 1; omega) (.slice xy0_0 ny0_0 cy0_0)).setCell (p := ⟨w.heap.size + 1, 1, none⟩) (by show w.heap.size ≤ w.heap.size + 1; omega) (.slice xy1_0 ny1_0 cy1_0))
  have Z0 := Lib.hid (Kd.Own.set (g := w.heap.size + 1) (i := 1) (u := .slice xy1_0 ny1_0 cy1_0) (Kd.Own.set (g := w.heap.size + 1) (i := 0) (u := .slice xy0_0 ny0_0 cy0_0) (Kd.Own.set (g := w.heap.size + 1 + 1) (i := 1) (u := .slice xy1_0 ny1_0 cy1_0) O0.out (by omega)) (by omega)) (by omega))
  have Z1 := Lib.hid (Kd.Own.set (g := w.heap.size + 1) (i := 1) (u := .slice xy1_0 ny1_0 cy1_0) (Kd.Own.set (g := w.heap.size + 1) (i := 0) (u := .slice xy0_0 ny0_0 cy0_0) (Kd.Own.set (g := w.heap.size + 1 + 1) (i := 1) (u := .slice xy1_0 ny1_0 cy1_0) O1.out (by omega)) (by omega)) (by omega))
  go_wp2_with fail
  refine bodyPost_ret (Ret.results_c rfl _ _ (w.heap.size + 1) [.slice xy0_0 ny0_0 cy0_0, .slice xy1_0 ny1_0 cy1_0] rfl aggRl Z.out.cells) rfl ?_
  have hval : kRl.val (m0, m1) = .agg #[.slice xy0_0 ny0_0 cy0_0, .slice xy1_0 ny1_0 cy1_0] := by
    show Value.agg ((kN.cells m0 ++ (kN.cells m1))).toArray = _
    rw [D0.out, D1.out]
    rfl
  have hstr : kRl.strip (m0, m1) = (l0, l1) := Prod.ext R0.out (R1.out)
  refine ⟨_, rfl, ?_, ZB.out⟩
  rw [← hval, ← hstr]
  refine Kd.Own.in ?_
  exact (Kd.Own.pair (C := w1.heap.size) (Z0.out.mono (by omega) (by omega)) (Z1.out.mono (by omega) (by simp only [World.size_setCell]; omega)) (by omega) (by simp only [World.size_setCell]; omega))
set_option maxHeartbeats 4000000 in
theorem eqRuleK (V U : Value) (x y : Rlt) (w : World) (q : Bool) (hq : decide (x = y) = q) (h : kRl.At w V x) (g : kRl.At w U y) (hp : adRl x ≤ 100000000) (hy : adRl y ≤ 100000000) :
    Calls Try.prog 15 #[V, U] w fun e w' => e = .returned (.bool q) ∧ Below w.heap.size w w' := by
  obtain ⟨x0_0, n0_0, c0_0, x1_0, n1_0, c1_0, rfl, g0, g1⟩ := kRl_at h
  obtain ⟨l0, l1⟩ := x
  obtain ⟨xy0_0, ny0_0, cy0_0, xy1_0, ny1_0, cy1_0, rfl, gy0, gy1⟩ := kRl_at g
  obtain ⟨ly0, ly1⟩ := y
  have hp9 : l0.length + l1.length ≤ 100000000 := hp
  have hy9 : ly0.length + ly1.length ≤ 100000000 := hy
  have hb0 := (Below.refl w.heap.size w).alloc (Nat.le_refl _) (.cells #[.slice x0_0 n0_0 c0_0, .slice x1_0 n1_0 c1_0] 31)
  have HB := Lib.hid (hb0.alloc (by simp) (.cells #[.slice xy0_0 ny0_0 cy0_0, .slice xy1_0 ny1_0 cy1_0] 31))
  have HX := Lib.hid ((Ret.Blk.new w #[.slice x0_0 n0_0 c0_0, .slice x1_0 n1_0 c1_0] 31).on ((Below.refl _ _).alloc (Nat.le_refl _) (.cells #[.slice xy0_0 ny0_0 cy0_0, .slice xy1_0 ny1_0 cy1_0] 31)))
  have HY := Lib.hid (Ret.Blk.new' (w := w.alloc (.cells #[.slice x0_0 n0_0 c0_0, .slice x1_0 n1_0 c1_0] 31)) (n := w.heap.size + 1) #[.slice xy0_0 ny0_0 cy0_0, .slice xy1_0 ny1_0 cy1_0] 31 (by simp))
  have HQ := Lib.hid hq
  have G0 := Lib.hid g0; have Gy0 := Lib.hid gy0
  have G1 := Lib.hid g1; have Gy1 := Lib.hid gy1
  dsimp only at G0 Gy0 G1 Gy1 ⊢
  clear h g hq hp hy hb0 g0 gy0 g1 gy1
  go_enter Try.func15, Try.ntmps15
  go_wp2_with fail
  by_cases e0 : l0 = ly0
  · refine (eqPtK _ _ l0 ly0 _ true (decide_eq_true e0) (G0.out.on HB.out) (Gy0.out.on HB.out) (by omega) (by omega)).mono ?_
    rintro e w1 ⟨rfl, hb⟩
    replace HX := Lib.hid (HX.out.on hb); replace HY := Lib.hid (HY.out.on hb)
    replace HB := Lib.hid (HB.out.trans (hb.mono HB.out.size)); clear hb
    have q0 : w1.cell? ⟨w.heap.size, 0, none⟩ = some (.slice x0_0 n0_0 c0_0) := HX.out.cell 0
    have q1 : w1.cell? ⟨w.heap.size, 1, none⟩ = some (.slice x1_0 n1_0 c1_0) := HX.out.cell 1
    have p0 : w1.cell? ⟨w.heap.size + 1, 0, none⟩ = some (.slice xy0_0 ny0_0 cy0_0) := HY.out.cell 0
    have p1 : w1.cell? ⟨w.heap.size + 1, 1, none⟩ = some (.slice xy1_0 ny1_0 cy1_0) := HY.out.cell 1
    go_wp2_with fail
    clear q0 q1 p0 p1
    by_cases e1 : l1 = ly1
    · refine (eqPtK _ _ l1 ly1 _ true (decide_eq_true e1) (G1.out.on HB.out) (Gy1.out.on HB.out) (by omega) (by omega)).mono ?_
      rintro e w2 ⟨rfl, hb⟩
      replace HX := Lib.hid (HX.out.on hb); replace HY := Lib.hid (HY.out.on hb)
      replace HB := Lib.hid (HB.out.trans (hb.mono HB.out.size)); clear hb
      have q0 : w2.cell? ⟨w.heap.size, 0, none⟩ = some (.slice x0_0 n0_0 c0_0) := HX.out.cell 0
      have q1 : w2.cell? ⟨w.heap.size, 1, none⟩ = some (.slice x1_0 n1_0 c1_0) := HX.out.cell 1
      have p0 : w2.cell? ⟨w.heap.size + 1, 0, none⟩ = some (.slice xy0_0 ny0_0 cy0_0) := HY.out.cell 0
      have p1 : w2.cell? ⟨w.heap.size + 1, 1, none⟩ = some (.slice xy1_0 ny1_0 cy1_0) := HY.out.cell 1
      have HE : Hid (q = true) := Lib.hid (by rw [← HQ.out]; simp [e0, e1])
      clear e0 e1
      go_wp2
      go_ret
      exact ⟨ret_bool HE.out.symm, HB.out⟩
    · refine (eqPtK _ _ l1 ly1 _ false (decide_eq_false e1) (G1.out.on HB.out) (Gy1.out.on HB.out) (by omega) (by omega)).mono ?_
      rintro e w2 ⟨rfl, hb⟩
      replace HX := Lib.hid (HX.out.on hb); replace HY := Lib.hid (HY.out.on hb)
      replace HB := Lib.hid (HB.out.trans (hb.mono HB.out.size)); clear hb
      have q0 : w2.cell? ⟨w.heap.size, 0, none⟩ = some (.slice x0_0 n0_0 c0_0) := HX.out.cell 0
      have q1 : w2.cell? ⟨w.heap.size, 1, none⟩ = some (.slice x1_0 n1_0 c1_0) := HX.out.cell 1
      have p0 : w2.cell? ⟨w.heap.size + 1, 0, none⟩ = some (.slice xy0_0 ny0_0 cy0_0) := HY.out.cell 0
      have p1 : w2.cell? ⟨w.heap.size + 1, 1, none⟩ = some (.slice xy1_0 ny1_0 cy1_0) := HY.out.cell 1
      have HE : Hid (q = false) := Lib.hid (by rw [← HQ.out]; simp [e1])
      clear e1
      go_wp2
      go_ret
      exact ⟨ret_bool HE.out.symm, HB.out⟩
  · refine (eqPtK _ _ l0 ly0 _ false (decide_eq_false e0) (G0.out.on HB.out) (Gy0.out.on HB.out) (by omega) (by omega)).mono ?_
    rintro e w1 ⟨rfl, hb⟩
    replace HX := Lib.hid (HX.out.on hb); replace HY := Lib.hid (HY.out.on hb)
    replace HB := Lib.hid (HB.out.trans (hb.mono HB.out.size)); clear hb
    have q0 : w1.cell? ⟨w.heap.size, 0, none⟩ = some (.slice x0_0 n0_0 c0_0) := HX.out.cell 0
    have q1 : w1.cell? ⟨w.heap.size, 1, none⟩ = some (.slice x1_0 n1_0 c1_0) := HX.out.cell 1
    have p0 : w1.cell? ⟨w.heap.size + 1, 0, none⟩ = some (.slice xy0_0 ny0_0 cy0_0) := HY.out.cell 0
    have p1 : w1.cell? ⟨w.heap.size + 1, 1, none⟩ = some (.slice xy1_0 ny1_0 cy1_0) := HY.out.cell 1
    have HE : Hid (q = false) := Lib.hid (by rw [← HQ.out]; simp [e0])
    clear e0
    go_wp2
    go_ret
    exact ⟨ret_bool HE.out.symm, HB.out⟩
set_option maxHeartbeats 4000000 in
theorem markRuleK (B E : Nat) (m : Rw ByteArray × Rw ByteArray) (w : World) (k : Int) (h : kRl.Own B E w m) (hp : adRl (kRl.strip m) ≤ 100000000) (h0 : 0 ≤ k) (h1 : k + (adRl (kRl.strip m) : Int) ≤ 100000000000) :
    Calls Try.prog 32 #[kRl.val m, .int .i64 k] w fun e w' => e = .returned (.int .i64 (k + (adRl (kRl.strip m) : Int))) ∧ ∃ m', kRl.val m' = kRl.val m ∧ kRl.blocks m' = kRl.blocks m ∧ kRl.strip m' = mkRl k (kRl.strip m) ∧ kRl.Own B E w' m' ∧ WroteBy (kRl.blocks m) w w' := by
  obtain ⟨m0, m1⟩ := m
  obtain ⟨o0, o1, hd0⟩ := Kd.Own.parts h
  obtain ⟨x0_0, n0_0, c0_0, e0, -⟩ := kN_shapeA (Kd.at_of (k := kN) o0.holds)
  have d0 : kN.cells m0 = [.slice x0_0 n0_0 c0_0] := by injection e0 with e; exact congrArg Array.toList e
  obtain ⟨x1_0, n1_0, c1_0, e1, -⟩ := kN_shapeA (Kd.at_of (k := kN) o1.holds)
  have d1 : kN.cells m1 = [.slice x1_0 n1_0 c1_0] := by injection e1 with e; exact congrArg Array.toList e
  have hval : kRl.val (m0, m1) = .agg #[.slice x0_0 n0_0 c0_0, .slice x1_0 n1_0 c1_0] := by
    show Value.agg ((kN.cells m0 ++ (kN.cells m1))).toArray = _
    rw [d0, d1]
    rfl
  have hp9 : (kN.strip m0).length + (kN.strip m1).length ≤ 100000000 := hp
  rw [hval]
  have hk9 : k + (((kN.strip m0).length + (kN.strip m1).length : Nat) : Int) ≤ 100000000000 := h1
  have hal := (Below.refl w.heap.size w).alloc (Nat.le_refl _) (.cells #[.slice x0_0 n0_0 c0_0, .slice x1_0 n1_0 c1_0] 31)
  have HW := Lib.hid (WroteBy.ofBelow (bs := kRl.blocks (m0, m1)) hal)
  have HX := Lib.hid (Ret.Blk.new w #[.slice x0_0 n0_0 c0_0, .slice x1_0 n1_0 c1_0] 31)
  have O0 := Lib.hid (o0.on hal); have LT0 := Lib.hid (fun g hg => (o0.lt g hg).2.2); have EV0 := Lib.hid e0; have D0 := Lib.hid d0
  have O1 := Lib.hid (o1.on hal); have LT1 := Lib.hid (fun g hg => (o1.lt g hg).2.2); have EV1 := Lib.hid e1; have D1 := Lib.hid d1
  have HD0 := Lib.hid hd0
  have HVAL := Lib.hid hval
  clear hval hal h hp o0 e0 d0 o1 e1 d1 hd0
  go_enter Try.func32, Try.ntmps32
  go_wp2_with fail
  have hc := markPtK B E m0 (w.alloc (.cells #[.slice x0_0 n0_0 c0_0, .slice x1_0 n1_0 c1_0] 31)) (k) O0.out (by omega) (by omega) (by omega)
  rw [EV0.out] at hc
  refine hc.mono ?_
  clear hc
  rintro e w1 ⟨rfl, n0, v0, b0, s0, ho, hw⟩
  replace O0 := Lib.hid ho
  have V0 := Lib.hid v0; have N0 := Lib.hid b0; have S0 := Lib.hid s0; clear ho v0 b0 s0
  replace O1 := Lib.hid (hw.own O1.out (fun g hg hg2 => HD0.out g hg2 (hg)))
  replace HX := Lib.hid (hw.blk HX.out (fun hg => by have h5 := LT0.out _ hg; omega))
  replace HW := Lib.hid (HW.out.trans (hw.more (fun g hg => List.mem_append_left _ hg)))
  clear hw
  have q0 : w1.cell? ⟨w.heap.size, 0, none⟩ = some (.slice x0_0 n0_0 c0_0) := HX.out.cell 0
  have q1 : w1.cell? ⟨w.heap.size, 1, none⟩ = some (.slice x1_0 n1_0 c1_0) := HX.out.cell 1
  go_wp2_with fail
  clear q0 q1
  have hc := markPtK B E m1 w1 (k + ((kN.strip m0).length : Int)) O1.out (by omega) (by omega) (by omega)
  rw [EV1.out] at hc
  refine hc.mono ?_
  clear hc
  rintro e w2 ⟨rfl, n1, v1, b1, s1, ho, hw⟩
  replace O1 := Lib.hid ho
  have V1 := Lib.hid v1; have N1 := Lib.hid b1; have S1 := Lib.hid s1; clear ho v1 b1 s1
  replace O0 := Lib.hid (hw.own O0.out (fun g hg hg2 => HD0.out g (N0.out ▸ hg) (hg2)))
  replace HX := Lib.hid (hw.blk HX.out (fun hg => by have h5 := LT1.out _ hg; omega))
  replace HW := Lib.hid (HW.out.trans (hw.more (fun g hg => List.mem_append_right _ hg)))
  clear hw
  have q0 : w2.cell? ⟨w.heap.size, 0, none⟩ = some (.slice x0_0 n0_0 c0_0) := HX.out.cell 0
  have q1 : w2.cell? ⟨w.heap.size, 1, none⟩ = some (.slice x1_0 n1_0 c1_0) := HX.out.cell 1
  go_wp2_with fail
  go_ret
  refine ⟨ret_int (by show _ = k + (((kN.strip m0).length + (kN.strip m1).length : Nat) : Int); omega), (n0, n1), ?_, ?_, ?_, ?_, HW.out⟩
  · show Value.agg ((kN.cells n0 ++ (kN.cells n1))).toArray = _
    have c0 : kN.cells n0 = [.slice x0_0 n0_0 c0_0] := by
      have e := V0.out
      injection e with e; exact congrArg Array.toList e
    have c1 : kN.cells n1 = [.slice x1_0 n1_0 c1_0] := by
      have e := V1.out
      injection e with e; exact congrArg Array.toList e
    rw [c0, c1]
    rfl
  · show (kN.blocks n0 ++ (kN.blocks n1)) = (kN.blocks m0 ++ (kN.blocks m1))
    rw [N0.out, N1.out]
  · show (kN.strip n0, kN.strip n1) = mkRl k (kN.strip m0, kN.strip m1)
    rw [S0.out, S1.out]
    rfl
  · exact (Kd.Own.join O0.out O1.out (fun g hg hg2 => HD0.out g (N0.out ▸ hg) (by
      have hg3 : g ∈ kN.blocks n1 := hg2
      rw [N1.out] at hg3
      exact hg3)))
set_option maxHeartbeats 4000000 in
theorem heldRuleK (V : Value) (w : World) (k : Int) (x : Rlt) (h : kRl.At w V (mkRl k x)) (hp : adRl x ≤ 100000000) (h0 : 0 ≤ k) (h1 : k + (adRl x : Int) ≤ 100000000000) :
    Calls Try.prog 33 #[V, .int .i64 k] w fun e w' => e = .returned (.int .i64 (k + (adRl x : Int))) ∧ Below w.heap.size w w' := by
  obtain ⟨x0_0, n0_0, c0_0, x1_0, n1_0, c1_0, rfl, g0, g1⟩ := kRl_at h
  obtain ⟨l0, l1⟩ := x
  have hp9 : l0.length + l1.length ≤ 100000000 := hp
  have hk9 : k + ((l0.length + l1.length : Nat) : Int) ≤ 100000000000 := h1
  have HB := Lib.hid ((Below.refl w.heap.size w).alloc (Nat.le_refl _) (.cells #[.slice x0_0 n0_0 c0_0, .slice x1_0 n1_0 c1_0] 31))
  have HX := Lib.hid (Ret.Blk.new w #[.slice x0_0 n0_0 c0_0, .slice x1_0 n1_0 c1_0] 31)
  have G0 := Lib.hid (show kN.At w (.agg #[.slice x0_0 n0_0 c0_0]) (marks markT (k) l0.length) from g0)
  have G1 := Lib.hid (show kN.At w (.agg #[.slice x1_0 n1_0 c1_0]) (marks markT (k + ((l0.length : Nat) : Int)) l1.length) from g1)
  dsimp only [mkRl] at *
  clear h hp g0 g1
  go_enter Try.func33, Try.ntmps33
  go_wp2_with fail
  refine (heldPtK _ _ (k) l0 (G0.out.on HB.out) (by omega) (by omega) (by omega)).mono ?_
  rintro e w1 ⟨rfl, hb⟩
  replace HX := Lib.hid (HX.out.on hb); replace HB := Lib.hid (HB.out.trans (hb.mono HB.out.size)); clear hb
  have q0 : w1.cell? ⟨w.heap.size, 0, none⟩ = some (.slice x0_0 n0_0 c0_0) := HX.out.cell 0
  have q1 : w1.cell? ⟨w.heap.size, 1, none⟩ = some (.slice x1_0 n1_0 c1_0) := HX.out.cell 1
  have b0 : ¬ k + (l0.length : Int) < 0 := by omega
  go_wp2_with fail
  clear q0 q1
  refine (heldPtK _ _ (k + (l0.length : Int)) l1 (G1.out.on HB.out) (by omega) (by omega) (by omega)).mono ?_
  rintro e w2 ⟨rfl, hb⟩
  replace HX := Lib.hid (HX.out.on hb); replace HB := Lib.hid (HB.out.trans (hb.mono HB.out.size)); clear hb
  have q0 : w2.cell? ⟨w.heap.size, 0, none⟩ = some (.slice x0_0 n0_0 c0_0) := HX.out.cell 0
  have q1 : w2.cell? ⟨w.heap.size, 1, none⟩ = some (.slice x1_0 n1_0 c1_0) := HX.out.cell 1
  have b1 : ¬ k + (l0.length : Int) + (l1.length : Int) < 0 := by omega
  go_wp2_with fail
  go_ret
  exact ⟨ret_int (by show _ = k + ((l0.length + l1.length : Nat) : Int); omega), HB.out⟩
/-- It fits, and its numbers are numbers. -/
def inRl (x : Rlt) : Prop := okN x.1 ∧ okN x.2
theorem inRl.ok {x : Rlt} (h : inRl x) : okRl x := ⟨h.1, h.2⟩
theorem opens_Rule : OpensK Try.prog kRl 26 inRl := opens_struct Try.underlying26 (by kernel_rfl) (opensF_cons (ok := fun (z : List ByteArray) => okN z) (ok' := fun (z : List ByteArray) => okN z) (opens_wrap Try.underlying24 rfl (by kernel_rfl) (opens_strs Try.underlying22 Try.underlying9 (by kernel_rfl))) rfl (by kernel_rfl) (opensF_last (ok := fun (z : List ByteArray) => okN z) (opens_wrap Try.underlying24 rfl (by kernel_rfl) (opens_strs Try.underlying22 Try.underlying9 (by kernel_rfl))) rfl (by kernel_rfl)))

/-! ### in the laws' words -/
theorem adRl_le (x : Rlt) : adRl x ≤ wtRl x := by
  obtain ⟨l0, l1⟩ := x
  have e0 := show l0.length ≤ bulk l0 from bulk_len l0
  have e1 := show l1.length ≤ bulk l1 from bulk_len l1
  unfold adRl wtRl
  dsimp only
  omega
theorem adRl_big {x : Rlt} {n : Nat} (h : wtRl x ≤ n) : adRl x ≤ n := Nat.le_trans (adRl_le x) h
theorem szRlK (V : Value) (x : Rlt) (w : World) (left : Int) (h : kRl.At w V x) (hl : inRl x) (hs : inRl x) (h0 : 0 ≤ left) (h1 : left ≤ 1048576) :
    Calls Try.prog 11 #[V, .int .i64 left] w fun e w' => e = .returned (.int .i64 (szW (wtRl x) left)) ∧ Below w.heap.size w w' := szRuleK V x w left h hs.ok h0 h1
theorem sameRlK (V U : Value) (x : Rlt) (w : World) (h : kRl.At w V x) (g : kRl.At w U x) (hp : adRl x ≤ 100000000) :
    Calls Try.prog 15 #[V, U] w fun e w' => e = .returned (.bool true) ∧ Below w.heap.size w w' := eqRuleK V U x x w true (by simp) h g hp hp
theorem markRlK (B E : Nat) (V : Value) (x : Rlt) (w : World) (k : Int) (h : kRl.In B E w V x) (hp : adRl x ≤ 100000000) (h0 : 0 ≤ k) (h1 : k ≤ 1000000000) :
    Calls Try.prog 32 #[V, .int .i64 k] w fun e w' => e = .returned (.int .i64 (k + (adRl x : Int))) ∧ kRl.In B E w' V (mkRl k x) ∧ Wrote B E w w' := by
  obtain ⟨m, rfl, rfl, hw9⟩ := h.split
  refine (markRuleK B E m w k hw9 hp h0 (by omega)).mono ?_
  rintro e w' ⟨a, n, v, b, s, ho, hw⟩
  exact ⟨a, v ▸ s ▸ ho.in, hw.wrote (fun g hg => ⟨(hw9.lt g hg).1, (hw9.lt g hg).2.1⟩)⟩
end Go.Proofs.Ytkojeajjappchaa.Row
