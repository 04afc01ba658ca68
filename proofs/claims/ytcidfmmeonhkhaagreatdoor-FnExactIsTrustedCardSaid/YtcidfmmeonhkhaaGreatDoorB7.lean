/- Contracts and mathematics, joined: DataK. No conditions but those that each states. -/
import Derived.Test.YtcidfmmeonhkhaaGreatDoorB4
import Derived.Test.YtcidfmmeonhkhaaGreatDoorB6
/- Data packets in the words of kinds: the kind; sz, to, eq, mark, held. No conditions but that lengths fit. -/
namespace Go.Proofs.YtcidfmmeonhkhaaGreatDoor.Row
open Go.ChangeShapes Go.WideShapes Go.ChangeAt Go.RowKit Go.Instr
set_option linter.unusedVariables false
set_option maxRecDepth 100000

abbrev Dzt := List ByteArray × List Int × List ByteArray × Int × Int
abbrev Dzm := Rw ByteArray × Rw Int × Rw ByteArray × Int × Int
def kDz : Kd Dzt Dzm := (kN.pair (kB.pair (kN.pair (kInt.pair kInt))))
theorem aggDz : Ret.AggOf Tryz.prog 34 5 := ⟨by kernel_rfl, by kernel_rfl⟩
def wtDz (x : Dzt) : Nat := bulk x.1 + x.2.1.length + bulk x.2.2.1
def adDz (x : Dzt) : Nat := x.1.length + x.2.1.length + x.2.2.1.length
def okDz (x : Dzt) : Prop := okN x.1 ∧ okB x.2.1 ∧ okN x.2.2.1
def mkDz (k : Int) (x : Dzt) : Dzt := (marks markT (k) x.1.length, Sl.marks .u8 (k + (x.1.length : Nat)) x.2.1.length, marks markT (k + (x.1.length : Nat) + (x.2.1.length : Nat)) x.2.2.1.length, x.2.2.2.1, x.2.2.2.2)
section
variable {w : World} {V : Value} {x : Dzt} {B E : Nat}
theorem kDz_at (h : kDz.At w V x) : ∃ (x0_0 : Option Addr) (n0_0 c0_0 : Nat) (x1_0 : Option Addr) (n1_0 c1_0 : Nat) (x2_0 : Option Addr) (n2_0 c2_0 : Nat), V = .agg #[.slice x0_0 n0_0 c0_0, .slice x1_0 n1_0 c1_0, .slice x2_0 n2_0 c2_0, .int .i64 x.2.2.2.1, .int .i64 x.2.2.2.2] ∧ kN.At w (.agg #[.slice x0_0 n0_0 c0_0]) x.1 ∧ kB.At w (.slice x1_0 n1_0 c1_0) x.2.1 ∧ kN.At w (.agg #[.slice x2_0 n2_0 c2_0]) x.2.2.1 := by
  obtain ⟨⟨m0, m1, m2, m3, m4⟩, rfl, rfl, g0, g1, g2, g3, g4⟩ := h
  obtain ⟨x0_0, n0_0, c0_0, e0, a0⟩ := kN_shapeA (Kd.at_of (k := kN) g0)
  have d0 : kN.cells m0 = [.slice x0_0 n0_0 c0_0] := by injection e0 with e; exact congrArg Array.toList e
  obtain ⟨x1_0, n1_0, c1_0, e1, a1⟩ := kB_shapeA (Kd.at_of (k := kB) g1)
  have d1 : kB.cells m1 = [.slice x1_0 n1_0 c1_0] := by show [kB.val m1] = _; rw [e1]
  obtain ⟨x2_0, n2_0, c2_0, e2, a2⟩ := kN_shapeA (Kd.at_of (k := kN) g2)
  have d2 : kN.cells m2 = [.slice x2_0 n2_0 c2_0] := by injection e2 with e; exact congrArg Array.toList e
  refine ⟨x0_0, n0_0, c0_0, x1_0, n1_0, c1_0, x2_0, n2_0, c2_0, ?_, e0 ▸ Kd.at_of (k := kN) g0, e1 ▸ Kd.at_of (k := kB) g1, e2 ▸ Kd.at_of (k := kN) g2⟩
  show Value.agg ((kN.cells m0 ++ (kB.cells m1 ++ (kN.cells m2 ++ (kInt.cells m3 ++ (kInt.cells m4)))))).toArray = _
  rw [d0, d1, d2]
  rfl
theorem kDz_shapeA (h : kDz.At w V x) : ∃ (x0_0 : Option Addr) (n0_0 c0_0 : Nat) (x1_0 : Option Addr) (n1_0 c1_0 : Nat) (x2_0 : Option Addr) (n2_0 c2_0 : Nat), V = .agg #[.slice x0_0 n0_0 c0_0, .slice x1_0 n1_0 c1_0, .slice x2_0 n2_0 c2_0, .int .i64 x.2.2.2.1, .int .i64 x.2.2.2.2] ∧ kDz.At w (.agg #[.slice x0_0 n0_0 c0_0, .slice x1_0 n1_0 c1_0, .slice x2_0 n2_0 c2_0, .int .i64 x.2.2.2.1, .int .i64 x.2.2.2.2]) x := by
  obtain ⟨x0_0, n0_0, c0_0, x1_0, n1_0, c1_0, x2_0, n2_0, c2_0, rfl, -⟩ := kDz_at h
  exact ⟨x0_0, n0_0, c0_0, x1_0, n1_0, c1_0, x2_0, n2_0, c2_0, rfl, h⟩
end
set_option maxHeartbeats 4000000 in
theorem szDataK (V : Value) (x : Dzt) (w : World) (left : Int) (h : kDz.At w V x) (hp : okDz x) (h0 : 0 ≤ left) (hl : left ≤ 1048576) :
    Calls Tryz.prog 38 #[V, .int .i64 left] w fun e w' => e = .returned (.int .i64 (szW (wtDz x) left)) ∧ Below w.heap.size w w' := by
  obtain ⟨x0_0, n0_0, c0_0, x1_0, n1_0, c1_0, x2_0, n2_0, c2_0, rfl, g0, g1, g2⟩ := kDz_at h
  obtain ⟨l0, l1, l2, l3, l4⟩ := x
  obtain ⟨p0, p1, p2⟩ := hp
  have HB := Lib.hid ((Below.refl w.heap.size w).alloc (Nat.le_refl _) (.cells #[.slice x0_0 n0_0 c0_0, .slice x1_0 n1_0 c1_0, .slice x2_0 n2_0 c2_0, .int .i64 l3, .int .i64 l4] 71))
  have HX := Lib.hid (Ret.Blk.new w #[.slice x0_0 n0_0 c0_0, .slice x1_0 n1_0 c1_0, .slice x2_0 n2_0 c2_0, .int .i64 l3, .int .i64 l4] 71)
  have G0 := Lib.hid g0; have P0 := Lib.hid p0
  have G1 := Lib.hid g1; have P1 := Lib.hid p1
  have G2 := Lib.hid g2; have P2 := Lib.hid p2
  dsimp only at G0 P0 G1 P1 G2 P2 ⊢
  clear g0 p0 g1 p1 g2 p2 h
  go_enter Tryz.func38, Tryz.ntmps38
  go_wp2_with fail
  refine (szNmK _ l0 _ (left) (G0.out.on HB.out) P0.out (by omega) (by omega)).mono ?_
  rintro e w1 ⟨rfl, hb⟩
  replace HX := Lib.hid (HX.out.on hb)
  replace HB := Lib.hid (HB.out.trans (hb.mono HB.out.size)); clear hb
  have q0 : w1.cell? ⟨w.heap.size, 0, none⟩ = some (.slice x0_0 n0_0 c0_0) := HX.out.cell 0
  have q1 : w1.cell? ⟨w.heap.size, 1, none⟩ = some (.slice x1_0 n1_0 c1_0) := HX.out.cell 1
  have q2 : w1.cell? ⟨w.heap.size, 2, none⟩ = some (.slice x2_0 n2_0 c2_0) := HX.out.cell 2
  have q3 : w1.cell? ⟨w.heap.size, 3, none⟩ = some (.int .i64 l3) := HX.out.cell 3
  have q4 : w1.cell? ⟨w.heap.size, 4, none⟩ = some (.int .i64 l4) := HX.out.cell 4
  by_cases t0 : ((bulk l0) : Int) ≤ left
  · rw [szW_fit t0]
    have b0 : ¬ left - ((bulk l0) : Int) < 0 := by omega
    go_wp2_with fail
    clear q0 q1 q2 q3 q4
    refine (szByK _ l1 _ (left - ((bulk l0) : Int)) (G1.out.on HB.out) P1.out (by omega) (by omega)).mono ?_
    rintro e w2 ⟨rfl, hb⟩
    replace HX := Lib.hid (HX.out.on hb)
    replace HB := Lib.hid (HB.out.trans (hb.mono HB.out.size)); clear hb
    have q0 : w2.cell? ⟨w.heap.size, 0, none⟩ = some (.slice x0_0 n0_0 c0_0) := HX.out.cell 0
    have q1 : w2.cell? ⟨w.heap.size, 1, none⟩ = some (.slice x1_0 n1_0 c1_0) := HX.out.cell 1
    have q2 : w2.cell? ⟨w.heap.size, 2, none⟩ = some (.slice x2_0 n2_0 c2_0) := HX.out.cell 2
    have q3 : w2.cell? ⟨w.heap.size, 3, none⟩ = some (.int .i64 l3) := HX.out.cell 3
    have q4 : w2.cell? ⟨w.heap.size, 4, none⟩ = some (.int .i64 l4) := HX.out.cell 4
    by_cases t1 : ((l1.length) : Int) ≤ left - ((bulk l0) : Int)
    · rw [szW_fit t1]
      have b1 : ¬ left - ((bulk l0) : Int) - ((l1.length) : Int) < 0 := by omega
      go_wp2_with fail
      clear q0 q1 q2 q3 q4
      refine (szNmK _ l2 _ (left - ((bulk l0) : Int) - ((l1.length) : Int)) (G2.out.on HB.out) P2.out (by omega) (by omega)).mono ?_
      rintro e w3 ⟨rfl, hb⟩
      replace HX := Lib.hid (HX.out.on hb)
      replace HB := Lib.hid (HB.out.trans (hb.mono HB.out.size)); clear hb
      have q0 : w3.cell? ⟨w.heap.size, 0, none⟩ = some (.slice x0_0 n0_0 c0_0) := HX.out.cell 0
      have q1 : w3.cell? ⟨w.heap.size, 1, none⟩ = some (.slice x1_0 n1_0 c1_0) := HX.out.cell 1
      have q2 : w3.cell? ⟨w.heap.size, 2, none⟩ = some (.slice x2_0 n2_0 c2_0) := HX.out.cell 2
      have q3 : w3.cell? ⟨w.heap.size, 3, none⟩ = some (.int .i64 l3) := HX.out.cell 3
      have q4 : w3.cell? ⟨w.heap.size, 4, none⟩ = some (.int .i64 l4) := HX.out.cell 4
      by_cases t2 : ((bulk l2) : Int) ≤ left - ((bulk l0) : Int) - ((l1.length) : Int)
      · rw [szW_fit t2]
        have b2 : ¬ left - ((bulk l0) : Int) - ((l1.length) : Int) - ((bulk l2) : Int) < 0 := by omega
        have HZ : Hid (szW (((bulk l0) + (l1.length) + (bulk l2))) left = left - ((bulk l0) : Int) - ((l1.length) : Int) - ((bulk l2) : Int)) := Lib.hid (by rw [szW_fit (by omega)]; (try omega))
        go_wp2
        go_ret
        exact ⟨ret_int HZ.out.symm, HB.out⟩
      · rw [szW_not t2]
        have HZ : Hid (szW (((bulk l0) + (l1.length) + (bulk l2))) left = -1) := Lib.hid (szW_not (by omega))
        go_wp2
        go_ret
        exact ⟨ret_int HZ.out.symm, HB.out⟩
    · rw [szW_not t1]
      have HZ : Hid (szW (((bulk l0) + (l1.length) + (bulk l2))) left = -1) := Lib.hid (szW_not (by omega))
      go_wp2
      go_ret
      exact ⟨ret_int HZ.out.symm, HB.out⟩
  · rw [szW_not t0]
    have HZ : Hid (szW (((bulk l0) + (l1.length) + (bulk l2))) left = -1) := Lib.hid (szW_not (by omega))
    go_wp2
    go_ret
    exact ⟨ret_int HZ.out.symm, HB.out⟩
set_option maxHeartbeats 4000000 in
theorem toDataK (V : Value) (x : Dzt) (w : World) (h : kDz.At w V x) (hp : adDz x ≤ 100000000) :
    Calls Tryz.prog 40 #[V] w fun e w' => ∃ U, e = .returned U ∧ kDz.In w.heap.size w'.heap.size w' U x ∧ Below w.heap.size w w' := by
  obtain ⟨x0_0, n0_0, c0_0, x1_0, n1_0, c1_0, x2_0, n2_0, c2_0, rfl, g0, g1, g2⟩ := kDz_at h
  obtain ⟨l0, l1, l2, l3, l4⟩ := x
  have hp9 : l0.length + l1.length + l2.length ≤ 100000000 := hp
  have hb0 := (Below.refl w.heap.size w).alloc (Nat.le_refl _) (.cells #[.slice x0_0 n0_0 c0_0, .slice x1_0 n1_0 c1_0, .slice x2_0 n2_0 c2_0, .int .i64 l3, .int .i64 l4] 71)
  have hb1 := hb0.alloc (by simp) (.cells #[.slice none 0 0, .slice none 0 0, .slice none 0 0, .int .i64 0, .int .i64 0] 34)
  have hb2 := hb1.alloc (by simp; omega) (.cells #[.slice none 0 0, .slice none 0 0, .slice none 0 0, .int .i64 0, .int .i64 0] 34)
  have HB := Lib.hid hb2
  have HX := Lib.hid (((Ret.Blk.new w #[.slice x0_0 n0_0 c0_0, .slice x1_0 n1_0 c1_0, .slice x2_0 n2_0 c2_0, .int .i64 l3, .int .i64 l4] 71).on ((Below.refl _ _).alloc (Nat.le_refl _) (.cells #[.slice none 0 0, .slice none 0 0, .slice none 0 0, .int .i64 0, .int .i64 0] 34))).on ((Below.refl _ _).alloc (Nat.le_refl _) (.cells #[.slice none 0 0, .slice none 0 0, .slice none 0 0, .int .i64 0, .int .i64 0] 34)))
  have HR := Lib.hid ((Ret.Blk.new' (w := (w.alloc (.cells #[.slice x0_0 n0_0 c0_0, .slice x1_0 n1_0 c1_0, .slice x2_0 n2_0 c2_0, .int .i64 l3, .int .i64 l4] 71))) (n := w.heap.size + 1) #[.slice none 0 0, .slice none 0 0, .slice none 0 0, .int .i64 0, .int .i64 0] 34 (by simp)).on ((Below.refl _ _).alloc (Nat.le_refl _) (.cells #[.slice none 0 0, .slice none 0 0, .slice none 0 0, .int .i64 0, .int .i64 0] 34)))
  have HL := Lib.hid (Ret.Blk.new' (w := (w.alloc (.cells #[.slice x0_0 n0_0 c0_0, .slice x1_0 n1_0 c1_0, .slice x2_0 n2_0 c2_0, .int .i64 l3, .int .i64 l4] 71)).alloc (.cells #[.slice none 0 0, .slice none 0 0, .slice none 0 0, .int .i64 0, .int .i64 0] 34)) (n := w.heap.size + 1 + 1) #[.slice none 0 0, .slice none 0 0, .slice none 0 0, .int .i64 0, .int .i64 0] 34 (by simp))
  have hz0 : (((w.alloc (.cells #[.slice x0_0 n0_0 c0_0, .slice x1_0 n1_0 c1_0, .slice x2_0 n2_0 c2_0, .int .i64 l3, .int .i64 l4] 71)).alloc (.cells #[.slice none 0 0, .slice none 0 0, .slice none 0 0, .int .i64 0, .int .i64 0] 34)).alloc (.cells #[.slice none 0 0, .slice none 0 0, .slice none 0 0, .int .i64 0, .int .i64 0] 34)).heap.size = w.heap.size + 3 := by simp
  have G0 := Lib.hid g0
  have G1 := Lib.hid g1
  have G2 := Lib.hid g2
  dsimp only at G0 G1 G2 ⊢
  clear h hp hb0 hb1 hb2 g0 g1 g2
  go_enter Tryz.func40, Tryz.ntmps40
  go_wp2_with fail
  refine (toNmK _ l0 _ (G0.out.on HB.out) (by omega)).mono ?_
  rintro e w1 ⟨U0, rfl, ho, hb⟩
  have hs0 := hb.size
  obtain ⟨m0, rfl, r0, ho⟩ := ho.split
  obtain ⟨xy0_0, ny0_0, cy0_0, e0, -⟩ := kN_shapeA (Kd.at_of (k := kN) ho.holds)
  have d0 : kN.cells m0 = [.slice xy0_0 ny0_0 cy0_0] := by injection e0 with e; exact congrArg Array.toList e
  rw [e0]
  rw [hz0] at ho hs0; clear hz0
  replace HX := Lib.hid (HX.out.on hb); replace HR := Lib.hid (HR.out.on hb); replace HL := Lib.hid (HL.out.on hb)
  replace HB := Lib.hid (HB.out.trans (hb.mono HB.out.size)); clear hb
  have O0 := Lib.hid ho; clear ho
  have E0 := Lib.hid e0; have D0 := Lib.hid d0; have R0 := Lib.hid r0; clear e0 d0 r0
  have q0 : w1.cell? ⟨w.heap.size, 0, none⟩ = some (.slice x0_0 n0_0 c0_0) := HX.out.cell 0
  have q1 : w1.cell? ⟨w.heap.size, 1, none⟩ = some (.slice x1_0 n1_0 c1_0) := HX.out.cell 1
  have q2 : w1.cell? ⟨w.heap.size, 2, none⟩ = some (.slice x2_0 n2_0 c2_0) := HX.out.cell 2
  have q3 : w1.cell? ⟨w.heap.size, 3, none⟩ = some (.int .i64 l3) := HX.out.cell 3
  have q4 : w1.cell? ⟨w.heap.size, 4, none⟩ = some (.int .i64 l4) := HX.out.cell 4
  have p0 : w1.cell? ⟨w.heap.size + 1 + 1, 0, none⟩ = some (.slice none 0 0) := HL.out.cell 0
  have p1 : w1.cell? ⟨w.heap.size + 1 + 1, 1, none⟩ = some (.slice none 0 0) := HL.out.cell 1
  have p2 : w1.cell? ⟨w.heap.size + 1 + 1, 2, none⟩ = some (.slice none 0 0) := HL.out.cell 2
  have p3 : w1.cell? ⟨w.heap.size + 1 + 1, 3, none⟩ = some (.int .i64 0) := HL.out.cell 3
  have p4 : w1.cell? ⟨w.heap.size + 1 + 1, 4, none⟩ = some (.int .i64 0) := HL.out.cell 4
  have t0 := HL.out.frozen 0; have t1 := HL.out.frozen 1; have t2 := HL.out.frozen 2; have t3 := HL.out.frozen 3; have t4 := HL.out.frozen 4
  go_wp2_with fail
  clear q0 q1 q2 q3 q4 p0 p1 p2 p3 p4 t0 t1 t2 t3 t4
  replace HX := Lib.hid (HX.out.other (a := ⟨w.heap.size + 1 + 1, 0, none⟩) (by show w.heap.size + 1 + 1 ≠ w.heap.size; omega) (.slice xy0_0 ny0_0 cy0_0))
  replace HR := Lib.hid (HR.out.other (a := ⟨w.heap.size + 1 + 1, 0, none⟩) (by show w.heap.size + 1 + 1 ≠ w.heap.size + 1; omega) (.slice xy0_0 ny0_0 cy0_0))
  replace HL := Lib.hid (HL.out.set 0 (.slice xy0_0 ny0_0 cy0_0))
  replace HB := Lib.hid (HB.out.setCell (p := ⟨w.heap.size + 1 + 1, 0, none⟩) (by show w.heap.size ≤ w.heap.size + 1 + 1; omega) (.slice xy0_0 ny0_0 cy0_0))
  replace O0 := Lib.hid (Kd.Own.set (g := w.heap.size + 1 + 1) (i := 0) (u := .slice xy0_0 ny0_0 cy0_0) O0.out (by omega))
  refine (toByK _ l1 _ (G1.out.on HB.out) (by omega)).mono ?_
  rintro e w2 ⟨U1, rfl, ho, hb⟩
  have hs1 := hb.size
  obtain ⟨m1, rfl, r1, ho⟩ := ho.split
  obtain ⟨xy1_0, ny1_0, cy1_0, e1, -⟩ := kB_shapeA (Kd.at_of (k := kB) ho.holds)
  have d1 : kB.cells m1 = [.slice xy1_0 ny1_0 cy1_0] := by show [kB.val m1] = _; rw [e1]
  rw [e1]
  simp only [World.size_setCell] at hs1 ho
  replace HX := Lib.hid (HX.out.on hb); replace HR := Lib.hid (HR.out.on hb); replace HL := Lib.hid (HL.out.on hb)
  replace O0 := Lib.hid (O0.out.on hb)
  replace HB := Lib.hid (HB.out.trans (hb.mono HB.out.size)); clear hb
  have O1 := Lib.hid ho; clear ho
  have E1 := Lib.hid e1; have D1 := Lib.hid d1; have R1 := Lib.hid r1; clear e1 d1 r1
  have q0 : w2.cell? ⟨w.heap.size, 0, none⟩ = some (.slice x0_0 n0_0 c0_0) := HX.out.cell 0
  have q1 : w2.cell? ⟨w.heap.size, 1, none⟩ = some (.slice x1_0 n1_0 c1_0) := HX.out.cell 1
  have q2 : w2.cell? ⟨w.heap.size, 2, none⟩ = some (.slice x2_0 n2_0 c2_0) := HX.out.cell 2
  have q3 : w2.cell? ⟨w.heap.size, 3, none⟩ = some (.int .i64 l3) := HX.out.cell 3
  have q4 : w2.cell? ⟨w.heap.size, 4, none⟩ = some (.int .i64 l4) := HX.out.cell 4
  have p0 : w2.cell? ⟨w.heap.size + 1 + 1, 0, none⟩ = some (.slice xy0_0 ny0_0 cy0_0) := HL.out.cell 0
  have p1 : w2.cell? ⟨w.heap.size + 1 + 1, 1, none⟩ = some (.slice none 0 0) := HL.out.cell 1
  have p2 : w2.cell? ⟨w.heap.size + 1 + 1, 2, none⟩ = some (.slice none 0 0) := HL.out.cell 2
  have p3 : w2.cell? ⟨w.heap.size + 1 + 1, 3, none⟩ = some (.int .i64 0) := HL.out.cell 3
  have p4 : w2.cell? ⟨w.heap.size + 1 + 1, 4, none⟩ = some (.int .i64 0) := HL.out.cell 4
  have t0 := HL.out.frozen 0; have t1 := HL.out.frozen 1; have t2 := HL.out.frozen 2; have t3 := HL.out.frozen 3; have t4 := HL.out.frozen 4
  go_wp2_with fail
  clear q0 q1 q2 q3 q4 p0 p1 p2 p3 p4 t0 t1 t2 t3 t4
  replace HX := Lib.hid (HX.out.other (a := ⟨w.heap.size + 1 + 1, 1, none⟩) (by show w.heap.size + 1 + 1 ≠ w.heap.size; omega) (.slice xy1_0 ny1_0 cy1_0))
  replace HR := Lib.hid (HR.out.other (a := ⟨w.heap.size + 1 + 1, 1, none⟩) (by show w.heap.size + 1 + 1 ≠ w.heap.size + 1; omega) (.slice xy1_0 ny1_0 cy1_0))
  replace HL := Lib.hid (HL.out.set 1 (.slice xy1_0 ny1_0 cy1_0))
  replace HB := Lib.hid (HB.out.setCell (p := ⟨w.heap.size + 1 + 1, 1, none⟩) (by show w.heap.size ≤ w.heap.size + 1 + 1; omega) (.slice xy1_0 ny1_0 cy1_0))
  replace O0 := Lib.hid (Kd.Own.set (g := w.heap.size + 1 + 1) (i := 1) (u := .slice xy1_0 ny1_0 cy1_0) O0.out (by omega))
  replace O1 := Lib.hid (Kd.Own.set (g := w.heap.size + 1 + 1) (i := 1) (u := .slice xy1_0 ny1_0 cy1_0) O1.out (by omega))
  refine (toNmK _ l2 _ (G2.out.on HB.out) (by omega)).mono ?_
  rintro e w3 ⟨U2, rfl, ho, hb⟩
  have hs2 := hb.size
  obtain ⟨m2, rfl, r2, ho⟩ := ho.split
  obtain ⟨xy2_0, ny2_0, cy2_0, e2, -⟩ := kN_shapeA (Kd.at_of (k := kN) ho.holds)
  have d2 : kN.cells m2 = [.slice xy2_0 ny2_0 cy2_0] := by injection e2 with e; exact congrArg Array.toList e
  rw [e2]
  simp only [World.size_setCell] at hs2 ho
  replace HX := Lib.hid (HX.out.on hb); replace HR := Lib.hid (HR.out.on hb); replace HL := Lib.hid (HL.out.on hb)
  replace O0 := Lib.hid (O0.out.on hb)
  replace O1 := Lib.hid (O1.out.on hb)
  replace HB := Lib.hid (HB.out.trans (hb.mono HB.out.size)); clear hb
  have O2 := Lib.hid ho; clear ho
  have E2 := Lib.hid e2; have D2 := Lib.hid d2; have R2 := Lib.hid r2; clear e2 d2 r2
  have q0 : w3.cell? ⟨w.heap.size, 0, none⟩ = some (.slice x0_0 n0_0 c0_0) := HX.out.cell 0
  have q1 : w3.cell? ⟨w.heap.size, 1, none⟩ = some (.slice x1_0 n1_0 c1_0) := HX.out.cell 1
  have q2 : w3.cell? ⟨w.heap.size, 2, none⟩ = some (.slice x2_0 n2_0 c2_0) := HX.out.cell 2
  have q3 : w3.cell? ⟨w.heap.size, 3, none⟩ = some (.int .i64 l3) := HX.out.cell 3
  have q4 : w3.cell? ⟨w.heap.size, 4, none⟩ = some (.int .i64 l4) := HX.out.cell 4
  have p0 : w3.cell? ⟨w.heap.size + 1 + 1, 0, none⟩ = some (.slice xy0_0 ny0_0 cy0_0) := HL.out.cell 0
  have p1 : w3.cell? ⟨w.heap.size + 1 + 1, 1, none⟩ = some (.slice xy1_0 ny1_0 cy1_0) := HL.out.cell 1
  have p2 : w3.cell? ⟨w.heap.size + 1 + 1, 2, none⟩ = some (.slice none 0 0) := HL.out.cell 2
  have p3 : w3.cell? ⟨w.heap.size + 1 + 1, 3, none⟩ = some (.int .i64 0) := HL.out.cell 3
  have p4 : w3.cell? ⟨w.heap.size + 1 + 1, 4, none⟩ = some (.int .i64 0) := HL.out.cell 4
  have t0 := HL.out.frozen 0; have t1 := HL.out.frozen 1; have t2 := HL.out.frozen 2; have t3 := HL.out.frozen 3; have t4 := HL.out.frozen 4
  have r0 : w3.cell? ⟨w.heap.size + 1, 0, none⟩ = some (.slice none 0 0) := HR.out.cell 0
  have r1 : w3.cell? ⟨w.heap.size + 1, 1, none⟩ = some (.slice none 0 0) := HR.out.cell 1
  have r2 : w3.cell? ⟨w.heap.size + 1, 2, none⟩ = some (.slice none 0 0) := HR.out.cell 2
  have r3 : w3.cell? ⟨w.heap.size + 1, 3, none⟩ = some (.int .i64 0) := HR.out.cell 3
  have r4 : w3.cell? ⟨w.heap.size + 1, 4, none⟩ = some (.int .i64 0) := HR.out.cell 4
  have u0 := HR.out.frozen 0; have u1 := HR.out.frozen 1; have u2 := HR.out.frozen 2; have u3 := HR.out.frozen 3; have u4 := HR.out.frozen 4
  have Z := Lib.hid ((((((((HR.out.other (a := ⟨w.heap.size + 1 + 1, 2, none⟩) (by show w.heap.size + 1 + 1 ≠ w.heap.size + 1; omega) (.slice xy2_0 ny2_0 cy2_0)).other (a := ⟨w.heap.size + 1 + 1, 3, none⟩) (by show w.heap.size + 1 + 1 ≠ w.heap.size + 1; omega) (.int .i64 l3)).other (a := ⟨w.heap.size + 1 + 1, 4, none⟩) (by show w.heap.size + 1 + 1 ≠ w.heap.size + 1; omega) (.int .i64 l4)).set 0 (.slice xy0_0 ny0_0 cy0_0)).set 1 (.slice xy1_0 ny1_0 cy1_0)).set 2 (.slice xy2_0 ny2_0 cy2_0)).set 3 (.int .i64 l3)).set 4 (.int .i64 l4))
  have ZB := Lib.hid ((((((((HB.out.setCell (p := ⟨w.heap.size + 1 + 1, 2, none⟩) (by show w.heap.size ≤ w.heap.size + 1 + 1; omega) (.slice xy2_0 ny2_0 cy2_0)).setCell (p := ⟨w.heap.size + 1 + 1, 3, none⟩) (by show w.heap.size ≤ w.heap.size + 1 + 1; omega) (.int .i64 l3)).setCell (p := ⟨w.heap.size + 1 + 1, 4, none⟩) (by show w.heap.size ≤ w.heap.size + 1 + 1; omega) (.int .i64 l4)).setCell (p := ⟨w.heap.size + 1, 0, none⟩) (by show w.heap.size ≤ w.heap.size + 1; omega) (.slice xy0_0 ny0_0 cy0_0)).setCell (p := ⟨w.heap.size + 1, 1, none⟩) (by show w.heap.size ≤ w.heap.size + 1; omega) (.slice xy1_0 ny1_0 cy1_0)).setCell (p := ⟨w.heap.size + 1, 2, none⟩) (by show w.heap.size ≤ w.heap.size + 1; omega) (.slice xy2_0 ny2_0 cy2_0)).setCell (p := ⟨w.heap.size + 1, 3, none⟩) (by show w.heap.size ≤ w.heap.size + 1; omega) (.int .i64 l3)).setCell (p := ⟨w.heap.size + 1, 4, none⟩) (by show w.heap.size ≤ w.heap.size + 1; omega) (.int .i64 l4))
  have Z0 := Lib.hid (Kd.Own.set (g := w.heap.size + 1) (i := 4) (u := .int .i64 l4) (Kd.Own.set (g := w.heap.size + 1) (i := 3) (u := .int .i64 l3) (Kd.Own.set (g := w.heap.size + 1) (i := 2) (u := .slice xy2_0 ny2_0 cy2_0) (Kd.Own.set (g := w.heap.size + 1) (i := 1) (u := .slice xy1_0 ny1_0 cy1_0) (Kd.Own.set (g := w.heap.size + 1) (i := 0) (u := .slice xy0_0 ny0_0 cy0_0) (Kd.Own.set (g := w.heap.size + 1 + 1) (i := 4) (u := .int .i64 l4) (Kd.Own.set (g := w.heap.size + 1 + 1) (i := 3) (u := .int .i64 l3) (Kd.Own.set (g := w.heap.size + 1 + 1) (i := 2) (u := .slice xy2_0 ny2_0 cy2_0) O0.out (by omega)) (by omega)) (by omega)) (by omega)) (by omega)) (by omega)) (by omega)) (by omega))
  have Z1 := Lib.hid (Kd.Own.set (g := w.heap.size + 1) (i := 4) (u := .int .i64 l4) (Kd.Own.set (g := w.heap.size + 1) (i := 3) (u := .int .i64 l3) (Kd.Own.set (g := w.heap.size + 1) (i := 2) (u := .slice xy2_0 ny2_0 cy2_0) (Kd.Own.set (g := w.heap.size + 1) (i := 1) (u := .slice xy1_0 ny1_0 cy1_0) (Kd.Own.set (g := w.heap.size + 1) (i := 0) (u := .slice xy0_0 ny0_0 cy0_0) (Kd.Own.set (g := w.heap.size + 1 + 1) (i := 4) (u := .int .i64 l4) (Kd.Own.set (g := w.heap.size + 1 + 1) (i := 3) (u := .int .i64 l3) (Kd.Own.set (g := w.heap.size + 1 + 1) (i := 2) (u := .slice xy2_0 ny2_0 cy2_0) O1.out (by omega)) (by omega)) (by omega)) (by omega)) (by omega)) (by omega)) (by omega)) (by omega))
  have Z2 := Lib.hid (Kd.Own.set (g := w.heap.size + 1) (i := 4) (u := .int .i64 l4) (Kd.Own.set (g := w.heap.size + 1) (i := 3) (u := .int .i64 l3) (Kd.Own.set (g := w.heap.size + 1) (i := 2) (u := .slice xy2_0 ny2_0 cy2_0) (Kd.Own.set (g := w.heap.size + 1) (i := 1) (u := .slice xy1_0 ny1_0 cy1_0) (Kd.Own.set (g := w.heap.size + 1) (i := 0) (u := .slice xy0_0 ny0_0 cy0_0) (Kd.Own.set (g := w.heap.size + 1 + 1) (i := 4) (u := .int .i64 l4) (Kd.Own.set (g := w.heap.size + 1 + 1) (i := 3) (u := .int .i64 l3) (Kd.Own.set (g := w.heap.size + 1 + 1) (i := 2) (u := .slice xy2_0 ny2_0 cy2_0) O2.out (by omega)) (by omega)) (by omega)) (by omega)) (by omega)) (by omega)) (by omega)) (by omega))
  go_wp2_with fail
  refine bodyPost_ret (Ret.results_c rfl _ _ (w.heap.size + 1) [.slice xy0_0 ny0_0 cy0_0, .slice xy1_0 ny1_0 cy1_0, .slice xy2_0 ny2_0 cy2_0, .int .i64 l3, .int .i64 l4] rfl aggDz Z.out.cells) rfl ?_
  have hval : kDz.val (m0, m1, m2, l3, l4) = .agg #[.slice xy0_0 ny0_0 cy0_0, .slice xy1_0 ny1_0 cy1_0, .slice xy2_0 ny2_0 cy2_0, .int .i64 l3, .int .i64 l4] := by
    show Value.agg ((kN.cells m0 ++ (kB.cells m1 ++ (kN.cells m2 ++ (kInt.cells l3 ++ (kInt.cells l4)))))).toArray = _
    rw [D0.out, D1.out, D2.out]
    rfl
  have hstr : kDz.strip (m0, m1, m2, l3, l4) = (l0, l1, l2, l3, l4) := Prod.ext R0.out (Prod.ext R1.out (Prod.ext R2.out (Prod.ext rfl (rfl))))
  refine ⟨_, rfl, ?_, ZB.out⟩
  rw [← hval, ← hstr]
  refine Kd.Own.in ?_
  exact (Kd.Own.pair (C := w1.heap.size) (Z0.out.mono (by omega) (by omega)) (Kd.Own.pair (C := w2.heap.size) (Z1.out.mono (by omega) (by omega)) (Kd.Own.pair (C := w3.heap.size) (Z2.out.mono (by omega) (by omega)) (Kd.Own.pair (C := w3.heap.size) (Kd.own_scalar _ _ _ _) (Kd.own_scalar _ _ _ _) (by omega) (by simp only [World.size_setCell]; omega)) (by omega) (by simp only [World.size_setCell]; omega)) (by omega) (by simp only [World.size_setCell]; omega)) (by omega) (by simp only [World.size_setCell]; omega))
set_option maxHeartbeats 4000000 in
theorem eqDataK (V U : Value) (x y : Dzt) (w : World) (q : Bool) (hq : decide (x = y) = q) (h : kDz.At w V x) (g : kDz.At w U y) (hp : adDz x ≤ 100000000) (hy : adDz y ≤ 100000000) :
    Calls Tryz.prog 43 #[V, U] w fun e w' => e = .returned (.bool q) ∧ Below w.heap.size w w' := by
  obtain ⟨x0_0, n0_0, c0_0, x1_0, n1_0, c1_0, x2_0, n2_0, c2_0, rfl, g0, g1, g2⟩ := kDz_at h
  obtain ⟨l0, l1, l2, l3, l4⟩ := x
  obtain ⟨xy0_0, ny0_0, cy0_0, xy1_0, ny1_0, cy1_0, xy2_0, ny2_0, cy2_0, rfl, gy0, gy1, gy2⟩ := kDz_at g
  obtain ⟨ly0, ly1, ly2, ly3, ly4⟩ := y
  have hp9 : l0.length + l1.length + l2.length ≤ 100000000 := hp
  have hy9 : ly0.length + ly1.length + ly2.length ≤ 100000000 := hy
  have hb0 := (Below.refl w.heap.size w).alloc (Nat.le_refl _) (.cells #[.slice x0_0 n0_0 c0_0, .slice x1_0 n1_0 c1_0, .slice x2_0 n2_0 c2_0, .int .i64 l3, .int .i64 l4] 34)
  have HB := Lib.hid (hb0.alloc (by simp) (.cells #[.slice xy0_0 ny0_0 cy0_0, .slice xy1_0 ny1_0 cy1_0, .slice xy2_0 ny2_0 cy2_0, .int .i64 ly3, .int .i64 ly4] 34))
  have HX := Lib.hid ((Ret.Blk.new w #[.slice x0_0 n0_0 c0_0, .slice x1_0 n1_0 c1_0, .slice x2_0 n2_0 c2_0, .int .i64 l3, .int .i64 l4] 34).on ((Below.refl _ _).alloc (Nat.le_refl _) (.cells #[.slice xy0_0 ny0_0 cy0_0, .slice xy1_0 ny1_0 cy1_0, .slice xy2_0 ny2_0 cy2_0, .int .i64 ly3, .int .i64 ly4] 34)))
  have HY := Lib.hid (Ret.Blk.new' (w := w.alloc (.cells #[.slice x0_0 n0_0 c0_0, .slice x1_0 n1_0 c1_0, .slice x2_0 n2_0 c2_0, .int .i64 l3, .int .i64 l4] 34)) (n := w.heap.size + 1) #[.slice xy0_0 ny0_0 cy0_0, .slice xy1_0 ny1_0 cy1_0, .slice xy2_0 ny2_0 cy2_0, .int .i64 ly3, .int .i64 ly4] 34 (by simp))
  have HQ := Lib.hid hq
  have G0 := Lib.hid g0; have Gy0 := Lib.hid gy0
  have G1 := Lib.hid g1; have Gy1 := Lib.hid gy1
  have G2 := Lib.hid g2; have Gy2 := Lib.hid gy2
  dsimp only at G0 Gy0 G1 Gy1 G2 Gy2 ⊢
  clear h g hq hp hy hb0 g0 gy0 g1 gy1 g2 gy2
  go_enter Tryz.func43, Tryz.ntmps43
  go_wp2_with fail
  by_cases e0 : l0 = ly0
  · refine (eqNmK _ _ l0 ly0 _ true (decide_eq_true e0) (G0.out.on HB.out) (Gy0.out.on HB.out) (by omega) (by omega)).mono ?_
    rintro e w1 ⟨rfl, hb⟩
    replace HX := Lib.hid (HX.out.on hb); replace HY := Lib.hid (HY.out.on hb)
    replace HB := Lib.hid (HB.out.trans (hb.mono HB.out.size)); clear hb
    have q0 : w1.cell? ⟨w.heap.size, 0, none⟩ = some (.slice x0_0 n0_0 c0_0) := HX.out.cell 0
    have q1 : w1.cell? ⟨w.heap.size, 1, none⟩ = some (.slice x1_0 n1_0 c1_0) := HX.out.cell 1
    have q2 : w1.cell? ⟨w.heap.size, 2, none⟩ = some (.slice x2_0 n2_0 c2_0) := HX.out.cell 2
    have q3 : w1.cell? ⟨w.heap.size, 3, none⟩ = some (.int .i64 l3) := HX.out.cell 3
    have q4 : w1.cell? ⟨w.heap.size, 4, none⟩ = some (.int .i64 l4) := HX.out.cell 4
    have p0 : w1.cell? ⟨w.heap.size + 1, 0, none⟩ = some (.slice xy0_0 ny0_0 cy0_0) := HY.out.cell 0
    have p1 : w1.cell? ⟨w.heap.size + 1, 1, none⟩ = some (.slice xy1_0 ny1_0 cy1_0) := HY.out.cell 1
    have p2 : w1.cell? ⟨w.heap.size + 1, 2, none⟩ = some (.slice xy2_0 ny2_0 cy2_0) := HY.out.cell 2
    have p3 : w1.cell? ⟨w.heap.size + 1, 3, none⟩ = some (.int .i64 ly3) := HY.out.cell 3
    have p4 : w1.cell? ⟨w.heap.size + 1, 4, none⟩ = some (.int .i64 ly4) := HY.out.cell 4
    go_wp2_with fail
    clear q0 q1 q2 q3 q4 p0 p1 p2 p3 p4
    by_cases e1 : l1 = ly1
    · refine (eqByK _ _ l1 ly1 _ true (decide_eq_true e1) (G1.out.on HB.out) (Gy1.out.on HB.out) (by omega) (by omega)).mono ?_
      rintro e w2 ⟨rfl, hb⟩
      replace HX := Lib.hid (HX.out.on hb); replace HY := Lib.hid (HY.out.on hb)
      replace HB := Lib.hid (HB.out.trans (hb.mono HB.out.size)); clear hb
      have q0 : w2.cell? ⟨w.heap.size, 0, none⟩ = some (.slice x0_0 n0_0 c0_0) := HX.out.cell 0
      have q1 : w2.cell? ⟨w.heap.size, 1, none⟩ = some (.slice x1_0 n1_0 c1_0) := HX.out.cell 1
      have q2 : w2.cell? ⟨w.heap.size, 2, none⟩ = some (.slice x2_0 n2_0 c2_0) := HX.out.cell 2
      have q3 : w2.cell? ⟨w.heap.size, 3, none⟩ = some (.int .i64 l3) := HX.out.cell 3
      have q4 : w2.cell? ⟨w.heap.size, 4, none⟩ = some (.int .i64 l4) := HX.out.cell 4
      have p0 : w2.cell? ⟨w.heap.size + 1, 0, none⟩ = some (.slice xy0_0 ny0_0 cy0_0) := HY.out.cell 0
      have p1 : w2.cell? ⟨w.heap.size + 1, 1, none⟩ = some (.slice xy1_0 ny1_0 cy1_0) := HY.out.cell 1
      have p2 : w2.cell? ⟨w.heap.size + 1, 2, none⟩ = some (.slice xy2_0 ny2_0 cy2_0) := HY.out.cell 2
      have p3 : w2.cell? ⟨w.heap.size + 1, 3, none⟩ = some (.int .i64 ly3) := HY.out.cell 3
      have p4 : w2.cell? ⟨w.heap.size + 1, 4, none⟩ = some (.int .i64 ly4) := HY.out.cell 4
      go_wp2_with fail
      clear q0 q1 q2 q3 q4 p0 p1 p2 p3 p4
      by_cases e2 : l2 = ly2
      · refine (eqNmK _ _ l2 ly2 _ true (decide_eq_true e2) (G2.out.on HB.out) (Gy2.out.on HB.out) (by omega) (by omega)).mono ?_
        rintro e w3 ⟨rfl, hb⟩
        replace HX := Lib.hid (HX.out.on hb); replace HY := Lib.hid (HY.out.on hb)
        replace HB := Lib.hid (HB.out.trans (hb.mono HB.out.size)); clear hb
        have q0 : w3.cell? ⟨w.heap.size, 0, none⟩ = some (.slice x0_0 n0_0 c0_0) := HX.out.cell 0
        have q1 : w3.cell? ⟨w.heap.size, 1, none⟩ = some (.slice x1_0 n1_0 c1_0) := HX.out.cell 1
        have q2 : w3.cell? ⟨w.heap.size, 2, none⟩ = some (.slice x2_0 n2_0 c2_0) := HX.out.cell 2
        have q3 : w3.cell? ⟨w.heap.size, 3, none⟩ = some (.int .i64 l3) := HX.out.cell 3
        have q4 : w3.cell? ⟨w.heap.size, 4, none⟩ = some (.int .i64 l4) := HX.out.cell 4
        have p0 : w3.cell? ⟨w.heap.size + 1, 0, none⟩ = some (.slice xy0_0 ny0_0 cy0_0) := HY.out.cell 0
        have p1 : w3.cell? ⟨w.heap.size + 1, 1, none⟩ = some (.slice xy1_0 ny1_0 cy1_0) := HY.out.cell 1
        have p2 : w3.cell? ⟨w.heap.size + 1, 2, none⟩ = some (.slice xy2_0 ny2_0 cy2_0) := HY.out.cell 2
        have p3 : w3.cell? ⟨w.heap.size + 1, 3, none⟩ = some (.int .i64 ly3) := HY.out.cell 3
        have p4 : w3.cell? ⟨w.heap.size + 1, 4, none⟩ = some (.int .i64 ly4) := HY.out.cell 4
        by_cases e3 : l3 = ly3
        · have t3 : (l3 != ly3) = false := by simp [e3]
          by_cases e4 : l4 = ly4
          · have t4 : (l4 != ly4) = false := by simp [e4]
            have HE : Hid (q = true) := Lib.hid (by rw [← HQ.out]; simp [e0, e1, e2, e3, e4])
            clear e0 e1 e2 e3 e4
            go_wp2
            go_ret
            exact ⟨ret_bool HE.out.symm, HB.out⟩
          · have t4 : (l4 != ly4) = true := by simpa using e4
            have HE : Hid (q = false) := Lib.hid (by rw [← HQ.out]; simp [e4])
            clear e4
            go_wp2
            go_ret
            exact ⟨ret_bool HE.out.symm, HB.out⟩
        · have t3 : (l3 != ly3) = true := by simpa using e3
          have HE : Hid (q = false) := Lib.hid (by rw [← HQ.out]; simp [e3])
          clear e3
          go_wp2
          go_ret
          exact ⟨ret_bool HE.out.symm, HB.out⟩
      · refine (eqNmK _ _ l2 ly2 _ false (decide_eq_false e2) (G2.out.on HB.out) (Gy2.out.on HB.out) (by omega) (by omega)).mono ?_
        rintro e w3 ⟨rfl, hb⟩
        replace HX := Lib.hid (HX.out.on hb); replace HY := Lib.hid (HY.out.on hb)
        replace HB := Lib.hid (HB.out.trans (hb.mono HB.out.size)); clear hb
        have q0 : w3.cell? ⟨w.heap.size, 0, none⟩ = some (.slice x0_0 n0_0 c0_0) := HX.out.cell 0
        have q1 : w3.cell? ⟨w.heap.size, 1, none⟩ = some (.slice x1_0 n1_0 c1_0) := HX.out.cell 1
        have q2 : w3.cell? ⟨w.heap.size, 2, none⟩ = some (.slice x2_0 n2_0 c2_0) := HX.out.cell 2
        have q3 : w3.cell? ⟨w.heap.size, 3, none⟩ = some (.int .i64 l3) := HX.out.cell 3
        have q4 : w3.cell? ⟨w.heap.size, 4, none⟩ = some (.int .i64 l4) := HX.out.cell 4
        have p0 : w3.cell? ⟨w.heap.size + 1, 0, none⟩ = some (.slice xy0_0 ny0_0 cy0_0) := HY.out.cell 0
        have p1 : w3.cell? ⟨w.heap.size + 1, 1, none⟩ = some (.slice xy1_0 ny1_0 cy1_0) := HY.out.cell 1
        have p2 : w3.cell? ⟨w.heap.size + 1, 2, none⟩ = some (.slice xy2_0 ny2_0 cy2_0) := HY.out.cell 2
        have p3 : w3.cell? ⟨w.heap.size + 1, 3, none⟩ = some (.int .i64 ly3) := HY.out.cell 3
        have p4 : w3.cell? ⟨w.heap.size + 1, 4, none⟩ = some (.int .i64 ly4) := HY.out.cell 4
        have HE : Hid (q = false) := Lib.hid (by rw [← HQ.out]; simp [e2])
        clear e2
        go_wp2
        go_ret
        exact ⟨ret_bool HE.out.symm, HB.out⟩
    · refine (eqByK _ _ l1 ly1 _ false (decide_eq_false e1) (G1.out.on HB.out) (Gy1.out.on HB.out) (by omega) (by omega)).mono ?_
      rintro e w2 ⟨rfl, hb⟩
      replace HX := Lib.hid (HX.out.on hb); replace HY := Lib.hid (HY.out.on hb)
      replace HB := Lib.hid (HB.out.trans (hb.mono HB.out.size)); clear hb
      have q0 : w2.cell? ⟨w.heap.size, 0, none⟩ = some (.slice x0_0 n0_0 c0_0) := HX.out.cell 0
      have q1 : w2.cell? ⟨w.heap.size, 1, none⟩ = some (.slice x1_0 n1_0 c1_0) := HX.out.cell 1
      have q2 : w2.cell? ⟨w.heap.size, 2, none⟩ = some (.slice x2_0 n2_0 c2_0) := HX.out.cell 2
      have q3 : w2.cell? ⟨w.heap.size, 3, none⟩ = some (.int .i64 l3) := HX.out.cell 3
      have q4 : w2.cell? ⟨w.heap.size, 4, none⟩ = some (.int .i64 l4) := HX.out.cell 4
      have p0 : w2.cell? ⟨w.heap.size + 1, 0, none⟩ = some (.slice xy0_0 ny0_0 cy0_0) := HY.out.cell 0
      have p1 : w2.cell? ⟨w.heap.size + 1, 1, none⟩ = some (.slice xy1_0 ny1_0 cy1_0) := HY.out.cell 1
      have p2 : w2.cell? ⟨w.heap.size + 1, 2, none⟩ = some (.slice xy2_0 ny2_0 cy2_0) := HY.out.cell 2
      have p3 : w2.cell? ⟨w.heap.size + 1, 3, none⟩ = some (.int .i64 ly3) := HY.out.cell 3
      have p4 : w2.cell? ⟨w.heap.size + 1, 4, none⟩ = some (.int .i64 ly4) := HY.out.cell 4
      have HE : Hid (q = false) := Lib.hid (by rw [← HQ.out]; simp [e1])
      clear e1
      go_wp2
      go_ret
      exact ⟨ret_bool HE.out.symm, HB.out⟩
  · refine (eqNmK _ _ l0 ly0 _ false (decide_eq_false e0) (G0.out.on HB.out) (Gy0.out.on HB.out) (by omega) (by omega)).mono ?_
    rintro e w1 ⟨rfl, hb⟩
    replace HX := Lib.hid (HX.out.on hb); replace HY := Lib.hid (HY.out.on hb)
    replace HB := Lib.hid (HB.out.trans (hb.mono HB.out.size)); clear hb
    have q0 : w1.cell? ⟨w.heap.size, 0, none⟩ = some (.slice x0_0 n0_0 c0_0) := HX.out.cell 0
    have q1 : w1.cell? ⟨w.heap.size, 1, none⟩ = some (.slice x1_0 n1_0 c1_0) := HX.out.cell 1
    have q2 : w1.cell? ⟨w.heap.size, 2, none⟩ = some (.slice x2_0 n2_0 c2_0) := HX.out.cell 2
    have q3 : w1.cell? ⟨w.heap.size, 3, none⟩ = some (.int .i64 l3) := HX.out.cell 3
    have q4 : w1.cell? ⟨w.heap.size, 4, none⟩ = some (.int .i64 l4) := HX.out.cell 4
    have p0 : w1.cell? ⟨w.heap.size + 1, 0, none⟩ = some (.slice xy0_0 ny0_0 cy0_0) := HY.out.cell 0
    have p1 : w1.cell? ⟨w.heap.size + 1, 1, none⟩ = some (.slice xy1_0 ny1_0 cy1_0) := HY.out.cell 1
    have p2 : w1.cell? ⟨w.heap.size + 1, 2, none⟩ = some (.slice xy2_0 ny2_0 cy2_0) := HY.out.cell 2
    have p3 : w1.cell? ⟨w.heap.size + 1, 3, none⟩ = some (.int .i64 ly3) := HY.out.cell 3
    have p4 : w1.cell? ⟨w.heap.size + 1, 4, none⟩ = some (.int .i64 ly4) := HY.out.cell 4
    have HE : Hid (q = false) := Lib.hid (by rw [← HQ.out]; simp [e0])
    clear e0
    go_wp2
    go_ret
    exact ⟨ret_bool HE.out.symm, HB.out⟩
/-- It fits, and its numbers are numbers. -/
def inDz (x : Dzt) : Prop := okN x.1 ∧ (okB x.2.1 ∧ ∀ y ∈ x.2.1, (Lit.int .u8 y).wf = true) ∧ okN x.2.2.1 ∧ (Lit.int .i64 x.2.2.2.1).wf = true ∧ (Lit.int .i64 x.2.2.2.2).wf = true
theorem inDz.ok {x : Dzt} (h : inDz x) : okDz x := ⟨h.1, h.2.1.1, h.2.2.1⟩
theorem opens_Data : OpensK Tryz.prog kDz 71 inDz := opens_struct Tryz.underlying71 (by kernel_rfl) (opensF_cons (ok := fun (z : List ByteArray) => okN z) (ok' := fun (z : List Int × List ByteArray × Int × Int) => (okB z.1 ∧ ∀ y ∈ z.1, (Lit.int .u8 y).wf = true) ∧ okN z.2.1 ∧ (Lit.int .i64 z.2.2.1).wf = true ∧ (Lit.int .i64 z.2.2.2).wf = true) (opens_wrap Tryz.underlying69 rfl (by kernel_rfl) (opens_strs Tryz.underlying30 Tryz.underlying9 (by kernel_rfl))) rfl (by kernel_rfl) (opensF_cons (ok := fun (z : List Int) => (okB z ∧ ∀ y ∈ z, (Lit.int .u8 y).wf = true)) (ok' := fun (z : List ByteArray × Int × Int) => okN z.1 ∧ (Lit.int .i64 z.2.1).wf = true ∧ (Lit.int .i64 z.2.2).wf = true) (opens_bytes Tryz.underlying22 Tryz.underlying5 (by kernel_rfl)) rfl (by kernel_rfl) (opensF_cons (ok := fun (z : List ByteArray) => okN z) (ok' := fun (z : Int × Int) => (Lit.int .i64 z.1).wf = true ∧ (Lit.int .i64 z.2).wf = true) (opens_wrap Tryz.underlying69 rfl (by kernel_rfl) (opens_strs Tryz.underlying30 Tryz.underlying9 (by kernel_rfl))) rfl (by kernel_rfl) (opensF_cons (ok := fun (z : Int) => (Lit.int .i64 z).wf = true) (ok' := fun (z : Int) => (Lit.int .i64 z).wf = true) (opens_int Tryz.underlying3) rfl (by kernel_rfl) (opensF_last (ok := fun (z : Int) => (Lit.int .i64 z).wf = true) (opens_int Tryz.underlying3) rfl (by kernel_rfl))))))

/-! ### in the laws' words -/
theorem adDz_le (x : Dzt) : adDz x ≤ wtDz x := by
  obtain ⟨l0, l1, l2, l3, l4⟩ := x
  have e0 := show l0.length ≤ bulk l0 from bulk_len l0
  have e1 := show l1.length ≤ l1.length from Nat.le_refl _
  have e2 := show l2.length ≤ bulk l2 from bulk_len l2
  unfold adDz wtDz
  dsimp only
  omega
end Go.Proofs.YtcidfmmeonhkhaaGreatDoor.Row
