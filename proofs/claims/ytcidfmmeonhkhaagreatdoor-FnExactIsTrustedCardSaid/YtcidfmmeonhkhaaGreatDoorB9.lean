/- Contracts and mathematics, joined: TrustPolicyK, TrustA. No conditions but those that each states. -/
import Derived.Test.YtcidfmmeonhkhaaGreatDoorB4
import Derived.Test.YtcidfmmeonhkhaaGreatDoorB5
import Derived.Test.YtcidfmmeonhkhaaGreatDoorB6
import Derived.Test.YtcidfmmeonhkhaaGreatDoorB8
import Derived.WalkKit
import Derived.Deep.RegionHeld3
import Derived.Test.YtcidfmmeonhkhaaGreatDoorB2
/- The policy of trust in the words of kinds: the kind; sz, to, eq, mark, held. No conditions but that lengths fit. -/
namespace Go.Proofs.YtcidfmmeonhkhaaGreatDoor.Row
open Go.ChangeShapes Go.WideShapes Go.ChangeAt Go.RowKit Go.Instr
set_option linter.unusedVariables false
set_option maxRecDepth 100000

abbrev Tpt := List Kyt × List Rlt × List Nnt × List Dzt
set_option synthInstance.maxSize 100000 in
instance : DecidableEq Tpt := inferInstance
abbrev Tpm := Rw Kym × Rw Rlm × Rw Nnm × Rw Dzm
def kTp : Kd Tpt Tpm := (kLKy.pair (kLRl.pair (kLNn.pair kLDz)))
theorem aggTp : Ret.AggOf Tryz.prog 29 4 := ⟨by kernel_rfl, by kernel_rfl⟩
def wtTp (x : Tpt) : Nat := bulkK wtKy x.1 + bulkK wtRl x.2.1 + bulkK wtNn x.2.2.1 + bulkK wtDz x.2.2.2
def adTp (x : Tpt) : Nat := bulkK adKy x.1 + bulkK adRl x.2.1 + bulkK adNn x.2.2.1 + bulkK adDz x.2.2.2
def okTp (x : Tpt) : Prop := okLKy x.1 ∧ okLRl x.2.1 ∧ okLNn x.2.2.1 ∧ okLDz x.2.2.2
section
variable {w : World} {V : Value} {x : Tpt} {B E : Nat}
theorem kTp_at (h : kTp.At w V x) : ∃ (x0_0 : Option Addr) (n0_0 c0_0 : Nat) (x1_0 : Option Addr) (n1_0 c1_0 : Nat) (x2_0 : Option Addr) (n2_0 c2_0 : Nat) (x3_0 : Option Addr) (n3_0 c3_0 : Nat), V = .agg #[.slice x0_0 n0_0 c0_0, .slice x1_0 n1_0 c1_0, .slice x2_0 n2_0 c2_0, .slice x3_0 n3_0 c3_0] ∧ kLKy.At w (.slice x0_0 n0_0 c0_0) x.1 ∧ kLRl.At w (.slice x1_0 n1_0 c1_0) x.2.1 ∧ kLNn.At w (.slice x2_0 n2_0 c2_0) x.2.2.1 ∧ kLDz.At w (.slice x3_0 n3_0 c3_0) x.2.2.2 := by
  obtain ⟨⟨m0, m1, m2, m3⟩, rfl, rfl, g0, g1, g2, g3⟩ := h
  obtain ⟨x0_0, n0_0, c0_0, e0, a0⟩ := kLKy_shapeA (Kd.at_of (k := kLKy) g0)
  have d0 : kLKy.cells m0 = [.slice x0_0 n0_0 c0_0] := by show [kLKy.val m0] = _; rw [e0]
  obtain ⟨x1_0, n1_0, c1_0, e1, a1⟩ := kLRl_shapeA (Kd.at_of (k := kLRl) g1)
  have d1 : kLRl.cells m1 = [.slice x1_0 n1_0 c1_0] := by show [kLRl.val m1] = _; rw [e1]
  obtain ⟨x2_0, n2_0, c2_0, e2, a2⟩ := kLNn_shapeA (Kd.at_of (k := kLNn) g2)
  have d2 : kLNn.cells m2 = [.slice x2_0 n2_0 c2_0] := by show [kLNn.val m2] = _; rw [e2]
  obtain ⟨x3_0, n3_0, c3_0, e3, a3⟩ := kLDz_shapeA (Kd.at_of (k := kLDz) g3)
  have d3 : kLDz.cells m3 = [.slice x3_0 n3_0 c3_0] := by show [kLDz.val m3] = _; rw [e3]
  refine ⟨x0_0, n0_0, c0_0, x1_0, n1_0, c1_0, x2_0, n2_0, c2_0, x3_0, n3_0, c3_0, ?_, e0 ▸ Kd.at_of (k := kLKy) g0, e1 ▸ Kd.at_of (k := kLRl) g1, e2 ▸ Kd.at_of (k := kLNn) g2, e3 ▸ Kd.at_of (k := kLDz) g3⟩
  show Value.agg ((kLKy.cells m0 ++ (kLRl.cells m1 ++ (kLNn.cells m2 ++ (kLDz.cells m3))))).toArray = _
  rw [d0, d1, d2, d3]
  rfl
theorem kTp_shapeA (h : kTp.At w V x) : ∃ (x0_0 : Option Addr) (n0_0 c0_0 : Nat) (x1_0 : Option Addr) (n1_0 c1_0 : Nat) (x2_0 : Option Addr) (n2_0 c2_0 : Nat) (x3_0 : Option Addr) (n3_0 c3_0 : Nat), V = .agg #[.slice x0_0 n0_0 c0_0, .slice x1_0 n1_0 c1_0, .slice x2_0 n2_0 c2_0, .slice x3_0 n3_0 c3_0] ∧ kTp.At w (.agg #[.slice x0_0 n0_0 c0_0, .slice x1_0 n1_0 c1_0, .slice x2_0 n2_0 c2_0, .slice x3_0 n3_0 c3_0]) x := by
  obtain ⟨x0_0, n0_0, c0_0, x1_0, n1_0, c1_0, x2_0, n2_0, c2_0, x3_0, n3_0, c3_0, rfl, -⟩ := kTp_at h
  exact ⟨x0_0, n0_0, c0_0, x1_0, n1_0, c1_0, x2_0, n2_0, c2_0, x3_0, n3_0, c3_0, rfl, h⟩
theorem kTp_shape (h : kTp.In B E w V x) : ∃ (x0_0 : Option Addr) (n0_0 c0_0 : Nat) (x1_0 : Option Addr) (n1_0 c1_0 : Nat) (x2_0 : Option Addr) (n2_0 c2_0 : Nat) (x3_0 : Option Addr) (n3_0 c3_0 : Nat), V = .agg #[.slice x0_0 n0_0 c0_0, .slice x1_0 n1_0 c1_0, .slice x2_0 n2_0 c2_0, .slice x3_0 n3_0 c3_0] ∧ kTp.In B E w (.agg #[.slice x0_0 n0_0 c0_0, .slice x1_0 n1_0 c1_0, .slice x2_0 n2_0 c2_0, .slice x3_0 n3_0 c3_0]) x := by
  obtain ⟨x0_0, n0_0, c0_0, x1_0, n1_0, c1_0, x2_0, n2_0, c2_0, x3_0, n3_0, c3_0, rfl, -⟩ := kTp_at h.at
  exact ⟨x0_0, n0_0, c0_0, x1_0, n1_0, c1_0, x2_0, n2_0, c2_0, x3_0, n3_0, c3_0, rfl, h⟩
end
set_option maxHeartbeats 4000000 in
theorem szTrustPolicyK (V : Value) (x : Tpt) (w : World) (left : Int) (h : kTp.At w V x) (hp : okTp x) (h0 : 0 ≤ left) (hl : left ≤ 1048576) :
    Calls Tryz.prog 37 #[V, .int .i64 left] w fun e w' => e = .returned (.int .i64 (szW (wtTp x) left)) ∧ Below w.heap.size w w' := by
  obtain ⟨x0_0, n0_0, c0_0, x1_0, n1_0, c1_0, x2_0, n2_0, c2_0, x3_0, n3_0, c3_0, rfl, g0, g1, g2, g3⟩ := kTp_at h
  obtain ⟨l0, l1, l2, l3⟩ := x
  obtain ⟨p0, p1, p2, p3⟩ := hp
  have HB := Lib.hid ((Below.refl w.heap.size w).alloc (Nat.le_refl _) (.cells #[.slice x0_0 n0_0 c0_0, .slice x1_0 n1_0 c1_0, .slice x2_0 n2_0 c2_0, .slice x3_0 n3_0 c3_0] 68))
  have HX := Lib.hid (Ret.Blk.new w #[.slice x0_0 n0_0 c0_0, .slice x1_0 n1_0 c1_0, .slice x2_0 n2_0 c2_0, .slice x3_0 n3_0 c3_0] 68)
  have G0 := Lib.hid g0; have P0 := Lib.hid p0
  have G1 := Lib.hid g1; have P1 := Lib.hid p1
  have G2 := Lib.hid g2; have P2 := Lib.hid p2
  have G3 := Lib.hid g3; have P3 := Lib.hid p3
  dsimp only at G0 P0 G1 P1 G2 P2 G3 P3 ⊢
  clear g0 p0 g1 p1 g2 p2 g3 p3 h
  go_enter Tryz.func37, Tryz.ntmps37
  go_wp2_with fail
  refine (szKeySF _ l0 _ (left) (G0.out.on HB.out) P0.out (by omega) (by omega)).mono ?_
  rintro e w1 ⟨rfl, hb⟩
  replace HX := Lib.hid (HX.out.on hb)
  replace HB := Lib.hid (HB.out.trans (hb.mono HB.out.size)); clear hb
  have q0 : w1.cell? ⟨w.heap.size, 0, none⟩ = some (.slice x0_0 n0_0 c0_0) := HX.out.cell 0
  have q1 : w1.cell? ⟨w.heap.size, 1, none⟩ = some (.slice x1_0 n1_0 c1_0) := HX.out.cell 1
  have q2 : w1.cell? ⟨w.heap.size, 2, none⟩ = some (.slice x2_0 n2_0 c2_0) := HX.out.cell 2
  have q3 : w1.cell? ⟨w.heap.size, 3, none⟩ = some (.slice x3_0 n3_0 c3_0) := HX.out.cell 3
  by_cases t0 : ((bulkK wtKy l0) : Int) ≤ left
  · rw [szW_fit t0]
    have b0 : ¬ left - ((bulkK wtKy l0) : Int) < 0 := by omega
    go_wp2_with fail
    clear q0 q1 q2 q3
    refine (szRuleSF _ l1 _ (left - ((bulkK wtKy l0) : Int)) (G1.out.on HB.out) P1.out (by omega) (by omega)).mono ?_
    rintro e w2 ⟨rfl, hb⟩
    replace HX := Lib.hid (HX.out.on hb)
    replace HB := Lib.hid (HB.out.trans (hb.mono HB.out.size)); clear hb
    have q0 : w2.cell? ⟨w.heap.size, 0, none⟩ = some (.slice x0_0 n0_0 c0_0) := HX.out.cell 0
    have q1 : w2.cell? ⟨w.heap.size, 1, none⟩ = some (.slice x1_0 n1_0 c1_0) := HX.out.cell 1
    have q2 : w2.cell? ⟨w.heap.size, 2, none⟩ = some (.slice x2_0 n2_0 c2_0) := HX.out.cell 2
    have q3 : w2.cell? ⟨w.heap.size, 3, none⟩ = some (.slice x3_0 n3_0 c3_0) := HX.out.cell 3
    by_cases t1 : ((bulkK wtRl l1) : Int) ≤ left - ((bulkK wtKy l0) : Int)
    · rw [szW_fit t1]
      have b1 : ¬ left - ((bulkK wtKy l0) : Int) - ((bulkK wtRl l1) : Int) < 0 := by omega
      go_wp2_with fail
      clear q0 q1 q2 q3
      refine (szNameSF _ l2 _ (left - ((bulkK wtKy l0) : Int) - ((bulkK wtRl l1) : Int)) (G2.out.on HB.out) P2.out (by omega) (by omega)).mono ?_
      rintro e w3 ⟨rfl, hb⟩
      replace HX := Lib.hid (HX.out.on hb)
      replace HB := Lib.hid (HB.out.trans (hb.mono HB.out.size)); clear hb
      have q0 : w3.cell? ⟨w.heap.size, 0, none⟩ = some (.slice x0_0 n0_0 c0_0) := HX.out.cell 0
      have q1 : w3.cell? ⟨w.heap.size, 1, none⟩ = some (.slice x1_0 n1_0 c1_0) := HX.out.cell 1
      have q2 : w3.cell? ⟨w.heap.size, 2, none⟩ = some (.slice x2_0 n2_0 c2_0) := HX.out.cell 2
      have q3 : w3.cell? ⟨w.heap.size, 3, none⟩ = some (.slice x3_0 n3_0 c3_0) := HX.out.cell 3
      by_cases t2 : ((bulkK wtNn l2) : Int) ≤ left - ((bulkK wtKy l0) : Int) - ((bulkK wtRl l1) : Int)
      · rw [szW_fit t2]
        have b2 : ¬ left - ((bulkK wtKy l0) : Int) - ((bulkK wtRl l1) : Int) - ((bulkK wtNn l2) : Int) < 0 := by omega
        go_wp2_with fail
        clear q0 q1 q2 q3
        refine (szDataSF _ l3 _ (left - ((bulkK wtKy l0) : Int) - ((bulkK wtRl l1) : Int) - ((bulkK wtNn l2) : Int)) (G3.out.on HB.out) P3.out (by omega) (by omega)).mono ?_
        rintro e w4 ⟨rfl, hb⟩
        replace HX := Lib.hid (HX.out.on hb)
        replace HB := Lib.hid (HB.out.trans (hb.mono HB.out.size)); clear hb
        have q0 : w4.cell? ⟨w.heap.size, 0, none⟩ = some (.slice x0_0 n0_0 c0_0) := HX.out.cell 0
        have q1 : w4.cell? ⟨w.heap.size, 1, none⟩ = some (.slice x1_0 n1_0 c1_0) := HX.out.cell 1
        have q2 : w4.cell? ⟨w.heap.size, 2, none⟩ = some (.slice x2_0 n2_0 c2_0) := HX.out.cell 2
        have q3 : w4.cell? ⟨w.heap.size, 3, none⟩ = some (.slice x3_0 n3_0 c3_0) := HX.out.cell 3
        by_cases t3 : ((bulkK wtDz l3) : Int) ≤ left - ((bulkK wtKy l0) : Int) - ((bulkK wtRl l1) : Int) - ((bulkK wtNn l2) : Int)
        · rw [szW_fit t3]
          have b3 : ¬ left - ((bulkK wtKy l0) : Int) - ((bulkK wtRl l1) : Int) - ((bulkK wtNn l2) : Int) - ((bulkK wtDz l3) : Int) < 0 := by omega
          have HZ : Hid (szW (((bulkK wtKy l0) + (bulkK wtRl l1) + (bulkK wtNn l2) + (bulkK wtDz l3))) left = left - ((bulkK wtKy l0) : Int) - ((bulkK wtRl l1) : Int) - ((bulkK wtNn l2) : Int) - ((bulkK wtDz l3) : Int)) := Lib.hid (by rw [szW_fit (by omega)]; (try omega))
          go_wp2
          go_ret
          exact ⟨ret_int HZ.out.symm, HB.out⟩
        · rw [szW_not t3]
          have HZ : Hid (szW (((bulkK wtKy l0) + (bulkK wtRl l1) + (bulkK wtNn l2) + (bulkK wtDz l3))) left = -1) := Lib.hid (szW_not (by omega))
          go_wp2
          go_ret
          exact ⟨ret_int HZ.out.symm, HB.out⟩
      · rw [szW_not t2]
        have HZ : Hid (szW (((bulkK wtKy l0) + (bulkK wtRl l1) + (bulkK wtNn l2) + (bulkK wtDz l3))) left = -1) := Lib.hid (szW_not (by omega))
        go_wp2
        go_ret
        exact ⟨ret_int HZ.out.symm, HB.out⟩
    · rw [szW_not t1]
      have HZ : Hid (szW (((bulkK wtKy l0) + (bulkK wtRl l1) + (bulkK wtNn l2) + (bulkK wtDz l3))) left = -1) := Lib.hid (szW_not (by omega))
      go_wp2
      go_ret
      exact ⟨ret_int HZ.out.symm, HB.out⟩
  · rw [szW_not t0]
    have HZ : Hid (szW (((bulkK wtKy l0) + (bulkK wtRl l1) + (bulkK wtNn l2) + (bulkK wtDz l3))) left = -1) := Lib.hid (szW_not (by omega))
    go_wp2
    go_ret
    exact ⟨ret_int HZ.out.symm, HB.out⟩
set_option maxHeartbeats 4000000 in
theorem toTrustPolicyK (V : Value) (x : Tpt) (w : World) (h : kTp.At w V x) (hp : adTp x ≤ 100000000) :
    Calls Tryz.prog 39 #[V] w fun e w' => ∃ U, e = .returned U ∧ kTp.In w.heap.size w'.heap.size w' U x ∧ Below w.heap.size w w' := by
  obtain ⟨x0_0, n0_0, c0_0, x1_0, n1_0, c1_0, x2_0, n2_0, c2_0, x3_0, n3_0, c3_0, rfl, g0, g1, g2, g3⟩ := kTp_at h
  obtain ⟨l0, l1, l2, l3⟩ := x
  have hp9 : bulkK adKy l0 + bulkK adRl l1 + bulkK adNn l2 + bulkK adDz l3 ≤ 100000000 := hp
  have hb0 := (Below.refl w.heap.size w).alloc (Nat.le_refl _) (.cells #[.slice x0_0 n0_0 c0_0, .slice x1_0 n1_0 c1_0, .slice x2_0 n2_0 c2_0, .slice x3_0 n3_0 c3_0] 68)
  have hb1 := hb0.alloc (by simp) (.cells #[.slice none 0 0, .slice none 0 0, .slice none 0 0, .slice none 0 0] 29)
  have hb2 := hb1.alloc (by simp; omega) (.cells #[.slice none 0 0, .slice none 0 0, .slice none 0 0, .slice none 0 0] 29)
  have HB := Lib.hid hb2
  have HX := Lib.hid (((Ret.Blk.new w #[.slice x0_0 n0_0 c0_0, .slice x1_0 n1_0 c1_0, .slice x2_0 n2_0 c2_0, .slice x3_0 n3_0 c3_0] 68).on ((Below.refl _ _).alloc (Nat.le_refl _) (.cells #[.slice none 0 0, .slice none 0 0, .slice none 0 0, .slice none 0 0] 29))).on ((Below.refl _ _).alloc (Nat.le_refl _) (.cells #[.slice none 0 0, .slice none 0 0, .slice none 0 0, .slice none 0 0] 29)))
  have HR := Lib.hid ((Ret.Blk.new' (w := (w.alloc (.cells #[.slice x0_0 n0_0 c0_0, .slice x1_0 n1_0 c1_0, .slice x2_0 n2_0 c2_0, .slice x3_0 n3_0 c3_0] 68))) (n := w.heap.size + 1) #[.slice none 0 0, .slice none 0 0, .slice none 0 0, .slice none 0 0] 29 (by simp)).on ((Below.refl _ _).alloc (Nat.le_refl _) (.cells #[.slice none 0 0, .slice none 0 0, .slice none 0 0, .slice none 0 0] 29)))
  have HL := Lib.hid (Ret.Blk.new' (w := (w.alloc (.cells #[.slice x0_0 n0_0 c0_0, .slice x1_0 n1_0 c1_0, .slice x2_0 n2_0 c2_0, .slice x3_0 n3_0 c3_0] 68)).alloc (.cells #[.slice none 0 0, .slice none 0 0, .slice none 0 0, .slice none 0 0] 29)) (n := w.heap.size + 1 + 1) #[.slice none 0 0, .slice none 0 0, .slice none 0 0, .slice none 0 0] 29 (by simp))
  have hz0 : (((w.alloc (.cells #[.slice x0_0 n0_0 c0_0, .slice x1_0 n1_0 c1_0, .slice x2_0 n2_0 c2_0, .slice x3_0 n3_0 c3_0] 68)).alloc (.cells #[.slice none 0 0, .slice none 0 0, .slice none 0 0, .slice none 0 0] 29)).alloc (.cells #[.slice none 0 0, .slice none 0 0, .slice none 0 0, .slice none 0 0] 29)).heap.size = w.heap.size + 3 := by simp
  have G0 := Lib.hid g0
  have G1 := Lib.hid g1
  have G2 := Lib.hid g2
  have G3 := Lib.hid g3
  dsimp only at G0 G1 G2 G3 ⊢
  clear h hp hb0 hb1 hb2 g0 g1 g2 g3
  go_enter Tryz.func39, Tryz.ntmps39
  go_wp2_with fail
  refine (toKeySF _ l0 _ (G0.out.on HB.out) (by omega)).mono ?_
  rintro e w1 ⟨U0, rfl, ho, hb⟩
  have hs0 := hb.size
  obtain ⟨m0, rfl, r0, ho⟩ := ho.split
  obtain ⟨xy0_0, ny0_0, cy0_0, e0, -⟩ := kLKy_shapeA (Kd.at_of (k := kLKy) ho.holds)
  have d0 : kLKy.cells m0 = [.slice xy0_0 ny0_0 cy0_0] := by show [kLKy.val m0] = _; rw [e0]
  rw [e0]
  rw [hz0] at ho hs0; clear hz0
  replace HX := Lib.hid (HX.out.on hb); replace HR := Lib.hid (HR.out.on hb); replace HL := Lib.hid (HL.out.on hb)
  replace HB := Lib.hid (HB.out.trans (hb.mono HB.out.size)); clear hb
  have O0 := Lib.hid ho; clear ho
  have E0 := Lib.hid e0; have D0 := Lib.hid d0; have R0 := Lib.hid r0; clear e0 d0 r0
  have q0 : w1.cell? ⟨w.heap.size, 0, none⟩ = some (.slice x0_0 n0_0 c0_0) := HX.out.cell 0
  have q1 : w1.cell? ⟨w.heap.size, 1, none⟩ = some (.slice x1_0 n1_0 c1_0) := HX.out.cell 1
  have q2 : w1.cell? ⟨w.heap.size, 2, none⟩ = some (.slice x2_0 n2_0 c2_0) := HX.out.cell 2
  have q3 : w1.cell? ⟨w.heap.size, 3, none⟩ = some (.slice x3_0 n3_0 c3_0) := HX.out.cell 3
  have p0 : w1.cell? ⟨w.heap.size + 1 + 1, 0, none⟩ = some (.slice none 0 0) := HL.out.cell 0
  have p1 : w1.cell? ⟨w.heap.size + 1 + 1, 1, none⟩ = some (.slice none 0 0) := HL.out.cell 1
  have p2 : w1.cell? ⟨w.heap.size + 1 + 1, 2, none⟩ = some (.slice none 0 0) := HL.out.cell 2
  have p3 : w1.cell? ⟨w.heap.size + 1 + 1, 3, none⟩ = some (.slice none 0 0) := HL.out.cell 3
  have t0 := HL.out.frozen 0; have t1 := HL.out.frozen 1; have t2 := HL.out.frozen 2; have t3 := HL.out.frozen 3
  go_wp2_with fail
  clear q0 q1 q2 q3 p0 p1 p2 p3 t0 t1 t2 t3
  replace HX := Lib.hid (HX.out.other (a := ⟨w.heap.size + 1 + 1, 0, none⟩) (by show w.heap.size + 1 + 1 ≠ w.heap.size; omega) (.slice xy0_0 ny0_0 cy0_0))
  replace HR := Lib.hid (HR.out.other (a := ⟨w.heap.size + 1 + 1, 0, none⟩) (by show w.heap.size + 1 + 1 ≠ w.heap.size + 1; omega) (.slice xy0_0 ny0_0 cy0_0))
  replace HL := Lib.hid (HL.out.set 0 (.slice xy0_0 ny0_0 cy0_0))
  replace HB := Lib.hid (HB.out.setCell (p := ⟨w.heap.size + 1 + 1, 0, none⟩) (by show w.heap.size ≤ w.heap.size + 1 + 1; omega) (.slice xy0_0 ny0_0 cy0_0))
  replace O0 := Lib.hid (Kd.Own.set (g := w.heap.size + 1 + 1) (i := 0) (u := .slice xy0_0 ny0_0 cy0_0) O0.out (by omega))
  refine (toRuleSF _ l1 _ (G1.out.on HB.out) (by omega)).mono ?_
  rintro e w2 ⟨U1, rfl, ho, hb⟩
  have hs1 := hb.size
  obtain ⟨m1, rfl, r1, ho⟩ := ho.split
  obtain ⟨xy1_0, ny1_0, cy1_0, e1, -⟩ := kLRl_shapeA (Kd.at_of (k := kLRl) ho.holds)
  have d1 : kLRl.cells m1 = [.slice xy1_0 ny1_0 cy1_0] := by show [kLRl.val m1] = _; rw [e1]
  rw [e1]
  simp only [World.size_setCell] at hs1 ho
  replace HX := Lib.hid (HX.out.on hb); replace HR := Lib.hid (HR.out.on hb); replace HL := Lib.hid (HL.out.on hb)
  replace O0 := Lib.hid (O0.out.on hb)
  replace HB := Lib.hid (HB.out.trans (hb.mono HB.out.size)); clear hb
  have O1 := Lib.hid ho; clear ho
  have E1 := Lib.hid e1; have D1 := Lib.hid d1; have R1 := Lib.hid r1; clear e1 d1 r1
  have q0 : w2.cell? ⟨w.heap.size, 0, none⟩ = some (.slice x0_0 n0_0 c0_0) := HX.out.cell 0
  have q1 : w2.cell? ⟨w.heap.size, 1, none⟩ = some (.slice x1_0 n1_0 c1_0) := HX.out.cell 1
  have q2 : w2.cell? ⟨w.heap.size, 2, none⟩ = some (.slice x2_0 n2_0 c2_0) := HX.out.cell 2
  have q3 : w2.cell? ⟨w.heap.size, 3, none⟩ = some (.slice x3_0 n3_0 c3_0) := HX.out.cell 3
  have p0 : w2.cell? ⟨w.heap.size + 1 + 1, 0, none⟩ = some (.slice xy0_0 ny0_0 cy0_0) := HL.out.cell 0
  have p1 : w2.cell? ⟨w.heap.size + 1 + 1, 1, none⟩ = some (.slice none 0 0) := HL.out.cell 1
  have p2 : w2.cell? ⟨w.heap.size + 1 + 1, 2, none⟩ = some (.slice none 0 0) := HL.out.cell 2
  have p3 : w2.cell? ⟨w.heap.size + 1 + 1, 3, none⟩ = some (.slice none 0 0) := HL.out.cell 3
  have t0 := HL.out.frozen 0; have t1 := HL.out.frozen 1; have t2 := HL.out.frozen 2; have t3 := HL.out.frozen 3
  go_wp2_with fail
  clear q0 q1 q2 q3 p0 p1 p2 p3 t0 t1 t2 t3
  replace HX := Lib.hid (HX.out.other (a := ⟨w.heap.size + 1 + 1, 1, none⟩) (by show w.heap.size + 1 + 1 ≠ w.heap.size; omega) (.slice xy1_0 ny1_0 cy1_0))
  replace HR := Lib.hid (HR.out.other (a := ⟨w.heap.size + 1 + 1, 1, none⟩) (by show w.heap.size + 1 + 1 ≠ w.heap.size + 1; omega) (.slice xy1_0 ny1_0 cy1_0))
  replace HL := Lib.hid (HL.out.set 1 (.slice xy1_0 ny1_0 cy1_0))
  replace HB := Lib.hid (HB.out.setCell (p := ⟨w.heap.size + 1 + 1, 1, none⟩) (by show w.heap.size ≤ w.heap.size + 1 + 1; omega) (.slice xy1_0 ny1_0 cy1_0))
  replace O0 := Lib.hid (Kd.Own.set (g := w.heap.size + 1 + 1) (i := 1) (u := .slice xy1_0 ny1_0 cy1_0) O0.out (by omega))
  replace O1 := Lib.hid (Kd.Own.set (g := w.heap.size + 1 + 1) (i := 1) (u := .slice xy1_0 ny1_0 cy1_0) O1.out (by omega))
  refine (toNameSF _ l2 _ (G2.out.on HB.out) (by omega)).mono ?_
  rintro e w3 ⟨U2, rfl, ho, hb⟩
  have hs2 := hb.size
  obtain ⟨m2, rfl, r2, ho⟩ := ho.split
  obtain ⟨xy2_0, ny2_0, cy2_0, e2, -⟩ := kLNn_shapeA (Kd.at_of (k := kLNn) ho.holds)
  have d2 : kLNn.cells m2 = [.slice xy2_0 ny2_0 cy2_0] := by show [kLNn.val m2] = _; rw [e2]
  rw [e2]
  simp only [World.size_setCell] at hs2 ho
  replace HX := Lib.hid (HX.out.on hb); replace HR := Lib.hid (HR.out.on hb); replace HL := Lib.hid (HL.out.on hb)
  replace O0 := Lib.hid (O0.out.on hb)
  replace O1 := Lib.hid (O1.out.on hb)
  replace HB := Lib.hid (HB.out.trans (hb.mono HB.out.size)); clear hb
  have O2 := Lib.hid ho; clear ho
  have E2 := Lib.hid e2; have D2 := Lib.hid d2; have R2 := Lib.hid r2; clear e2 d2 r2
  have q0 : w3.cell? ⟨w.heap.size, 0, none⟩ = some (.slice x0_0 n0_0 c0_0) := HX.out.cell 0
  have q1 : w3.cell? ⟨w.heap.size, 1, none⟩ = some (.slice x1_0 n1_0 c1_0) := HX.out.cell 1
  have q2 : w3.cell? ⟨w.heap.size, 2, none⟩ = some (.slice x2_0 n2_0 c2_0) := HX.out.cell 2
  have q3 : w3.cell? ⟨w.heap.size, 3, none⟩ = some (.slice x3_0 n3_0 c3_0) := HX.out.cell 3
  have p0 : w3.cell? ⟨w.heap.size + 1 + 1, 0, none⟩ = some (.slice xy0_0 ny0_0 cy0_0) := HL.out.cell 0
  have p1 : w3.cell? ⟨w.heap.size + 1 + 1, 1, none⟩ = some (.slice xy1_0 ny1_0 cy1_0) := HL.out.cell 1
  have p2 : w3.cell? ⟨w.heap.size + 1 + 1, 2, none⟩ = some (.slice none 0 0) := HL.out.cell 2
  have p3 : w3.cell? ⟨w.heap.size + 1 + 1, 3, none⟩ = some (.slice none 0 0) := HL.out.cell 3
  have t0 := HL.out.frozen 0; have t1 := HL.out.frozen 1; have t2 := HL.out.frozen 2; have t3 := HL.out.frozen 3
  go_wp2_with fail
  clear q0 q1 q2 q3 p0 p1 p2 p3 t0 t1 t2 t3
  replace HX := Lib.hid (HX.out.other (a := ⟨w.heap.size + 1 + 1, 2, none⟩) (by show w.heap.size + 1 + 1 ≠ w.heap.size; omega) (.slice xy2_0 ny2_0 cy2_0))
  replace HR := Lib.hid (HR.out.other (a := ⟨w.heap.size + 1 + 1, 2, none⟩) (by show w.heap.size + 1 + 1 ≠ w.heap.size + 1; omega) (.slice xy2_0 ny2_0 cy2_0))
  replace HL := Lib.hid (HL.out.set 2 (.slice xy2_0 ny2_0 cy2_0))
  replace HB := Lib.hid (HB.out.setCell (p := ⟨w.heap.size + 1 + 1, 2, none⟩) (by show w.heap.size ≤ w.heap.size + 1 + 1; omega) (.slice xy2_0 ny2_0 cy2_0))
  replace O0 := Lib.hid (Kd.Own.set (g := w.heap.size + 1 + 1) (i := 2) (u := .slice xy2_0 ny2_0 cy2_0) O0.out (by omega))
  replace O1 := Lib.hid (Kd.Own.set (g := w.heap.size + 1 + 1) (i := 2) (u := .slice xy2_0 ny2_0 cy2_0) O1.out (by omega))
  replace O2 := Lib.hid (Kd.Own.set (g := w.heap.size + 1 + 1) (i := 2) (u := .slice xy2_0 ny2_0 cy2_0) O2.out (by omega))
  refine (toDataSF _ l3 _ (G3.out.on HB.out) (by omega)).mono ?_
  rintro e w4 ⟨U3, rfl, ho, hb⟩
  have hs3 := hb.size
  obtain ⟨m3, rfl, r3, ho⟩ := ho.split
  obtain ⟨xy3_0, ny3_0, cy3_0, e3, -⟩ := kLDz_shapeA (Kd.at_of (k := kLDz) ho.holds)
  have d3 : kLDz.cells m3 = [.slice xy3_0 ny3_0 cy3_0] := by show [kLDz.val m3] = _; rw [e3]
  rw [e3]
  simp only [World.size_setCell] at hs3 ho
  replace HX := Lib.hid (HX.out.on hb); replace HR := Lib.hid (HR.out.on hb); replace HL := Lib.hid (HL.out.on hb)
  replace O0 := Lib.hid (O0.out.on hb)
  replace O1 := Lib.hid (O1.out.on hb)
  replace O2 := Lib.hid (O2.out.on hb)
  replace HB := Lib.hid (HB.out.trans (hb.mono HB.out.size)); clear hb
  have O3 := Lib.hid ho; clear ho
  have E3 := Lib.hid e3; have D3 := Lib.hid d3; have R3 := Lib.hid r3; clear e3 d3 r3
  have q0 : w4.cell? ⟨w.heap.size, 0, none⟩ = some (.slice x0_0 n0_0 c0_0) := HX.out.cell 0
  have q1 : w4.cell? ⟨w.heap.size, 1, none⟩ = some (.slice x1_0 n1_0 c1_0) := HX.out.cell 1
  have q2 : w4.cell? ⟨w.heap.size, 2, none⟩ = some (.slice x2_0 n2_0 c2_0) := HX.out.cell 2
  have q3 : w4.cell? ⟨w.heap.size, 3, none⟩ = some (.slice x3_0 n3_0 c3_0) := HX.out.cell 3
  have p0 : w4.cell? ⟨w.heap.size + 1 + 1, 0, none⟩ = some (.slice xy0_0 ny0_0 cy0_0) := HL.out.cell 0
  have p1 : w4.cell? ⟨w.heap.size + 1 + 1, 1, none⟩ = some (.slice xy1_0 ny1_0 cy1_0) := HL.out.cell 1
  have p2 : w4.cell? ⟨w.heap.size + 1 + 1, 2, none⟩ = some (.slice xy2_0 ny2_0 cy2_0) := HL.out.cell 2
  have p3 : w4.cell? ⟨w.heap.size + 1 + 1, 3, none⟩ = some (.slice none 0 0) := HL.out.cell 3
  have t0 := HL.out.frozen 0; have t1 := HL.out.frozen 1; have t2 := HL.out.frozen 2; have t3 := HL.out.frozen 3
  have r0 : w4.cell? ⟨w.heap.size + 1, 0, none⟩ = some (.slice none 0 0) := HR.out.cell 0
  have r1 : w4.cell? ⟨w.heap.size + 1, 1, none⟩ = some (.slice none 0 0) := HR.out.cell 1
  have r2 : w4.cell? ⟨w.heap.size + 1, 2, none⟩ = some (.slice none 0 0) := HR.out.cell 2
  have r3 : w4.cell? ⟨w.heap.size + 1, 3, none⟩ = some (.slice none 0 0) := HR.out.cell 3
  have u0 := HR.out.frozen 0; have u1 := HR.out.frozen 1; have u2 := HR.out.frozen 2; have u3 := HR.out.frozen 3
  have Z := Lib.hid (((((HR.out.other (a := ⟨w.heap.size + 1 + 1, 3, none⟩) (by show w.heap.size + 1 + 1 ≠ w.heap.size + 1; omega) (.slice xy3_0 ny3_0 cy3_0)).set 0 (.slice xy0_0 ny0_0 cy0_0)).set 1 (.slice xy1_0 ny1_0 cy1_0)).set 2 (.slice xy2_0 ny2_0 cy2_0)).set 3 (.slice xy3_0 ny3_0 cy3_0))
  have ZB := Lib.hid (((((HB.out.setCell (p := ⟨w.heap.size + 1 + 1, 3, none⟩) (by show w.heap.size ≤ w.heap.size + 1 + 1; omega) (.slice xy3_0 ny3_0 cy3_0)).setCell (p := ⟨w.heap.size + 1, 0, none⟩) (by show w.heap.size ≤ w.heap.size + 1; omega) (.slice xy0_0 ny0_0 cy0_0)).setCell (p := ⟨w.heap.size + 1, 1, none⟩) (by show w.heap.size ≤ w.heap.size + 1; omega) (.slice xy1_0 ny1_0 cy1_0)).setCell (p := ⟨w.heap.size + 1, 2, none⟩) (by show w.heap.size ≤ w.heap.size + 1; omega) (.slice xy2_0 ny2_0 cy2_0)).setCell (p := ⟨w.heap.size + 1, 3, none⟩) (by show w.heap.size ≤ w.heap.size + 1; omega) (.slice xy3_0 ny3_0 cy3_0))
  have Z0 := Lib.hid (Kd.Own.set (g := w.heap.size + 1) (i := 3) (u := .slice xy3_0 ny3_0 cy3_0) (Kd.Own.set (g := w.heap.size + 1) (i := 2) (u := .slice xy2_0 ny2_0 cy2_0) (Kd.Own.set (g := w.heap.size + 1) (i := 1) (u := .slice xy1_0 ny1_0 cy1_0) (Kd.Own.set (g := w.heap.size + 1) (i := 0) (u := .slice xy0_0 ny0_0 cy0_0) (Kd.Own.set (g := w.heap.size + 1 + 1) (i := 3) (u := .slice xy3_0 ny3_0 cy3_0) O0.out (by omega)) (by omega)) (by omega)) (by omega)) (by omega))
  have Z1 := Lib.hid (Kd.Own.set (g := w.heap.size + 1) (i := 3) (u := .slice xy3_0 ny3_0 cy3_0) (Kd.Own.set (g := w.heap.size + 1) (i := 2) (u := .slice xy2_0 ny2_0 cy2_0) (Kd.Own.set (g := w.heap.size + 1) (i := 1) (u := .slice xy1_0 ny1_0 cy1_0) (Kd.Own.set (g := w.heap.size + 1) (i := 0) (u := .slice xy0_0 ny0_0 cy0_0) (Kd.Own.set (g := w.heap.size + 1 + 1) (i := 3) (u := .slice xy3_0 ny3_0 cy3_0) O1.out (by omega)) (by omega)) (by omega)) (by omega)) (by omega))
  have Z2 := Lib.hid (Kd.Own.set (g := w.heap.size + 1) (i := 3) (u := .slice xy3_0 ny3_0 cy3_0) (Kd.Own.set (g := w.heap.size + 1) (i := 2) (u := .slice xy2_0 ny2_0 cy2_0) (Kd.Own.set (g := w.heap.size + 1) (i := 1) (u := .slice xy1_0 ny1_0 cy1_0) (Kd.Own.set (g := w.heap.size + 1) (i := 0) (u := .slice xy0_0 ny0_0 cy0_0) (Kd.Own.set (g := w.heap.size + 1 + 1) (i := 3) (u := .slice xy3_0 ny3_0 cy3_0) O2.out (by omega)) (by omega)) (by omega)) (by omega)) (by omega))
  have Z3 := Lib.hid (Kd.Own.set (g := w.heap.size + 1) (i := 3) (u := .slice xy3_0 ny3_0 cy3_0) (Kd.Own.set (g := w.heap.size + 1) (i := 2) (u := .slice xy2_0 ny2_0 cy2_0) (Kd.Own.set (g := w.heap.size + 1) (i := 1) (u := .slice xy1_0 ny1_0 cy1_0) (Kd.Own.set (g := w.heap.size + 1) (i := 0) (u := .slice xy0_0 ny0_0 cy0_0) (Kd.Own.set (g := w.heap.size + 1 + 1) (i := 3) (u := .slice xy3_0 ny3_0 cy3_0) O3.out (by omega)) (by omega)) (by omega)) (by omega)) (by omega))
  go_wp2_with fail
  refine bodyPost_ret (Ret.results_c rfl _ _ (w.heap.size + 1) [.slice xy0_0 ny0_0 cy0_0, .slice xy1_0 ny1_0 cy1_0, .slice xy2_0 ny2_0 cy2_0, .slice xy3_0 ny3_0 cy3_0] rfl aggTp Z.out.cells) rfl ?_
  have hval : kTp.val (m0, m1, m2, m3) = .agg #[.slice xy0_0 ny0_0 cy0_0, .slice xy1_0 ny1_0 cy1_0, .slice xy2_0 ny2_0 cy2_0, .slice xy3_0 ny3_0 cy3_0] := by
    show Value.agg ((kLKy.cells m0 ++ (kLRl.cells m1 ++ (kLNn.cells m2 ++ (kLDz.cells m3))))).toArray = _
    rw [D0.out, D1.out, D2.out, D3.out]
    rfl
  have hstr : kTp.strip (m0, m1, m2, m3) = (l0, l1, l2, l3) := Prod.ext R0.out (Prod.ext R1.out (Prod.ext R2.out (R3.out)))
  refine ⟨_, rfl, ?_, ZB.out⟩
  rw [← hval, ← hstr]
  refine Kd.Own.in ?_
  exact (Kd.Own.pair (C := w1.heap.size) (Z0.out.mono (by omega) (by omega)) (Kd.Own.pair (C := w2.heap.size) (Z1.out.mono (by omega) (by omega)) (Kd.Own.pair (C := w3.heap.size) (Z2.out.mono (by omega) (by omega)) (Z3.out.mono (by omega) (by simp only [World.size_setCell]; omega)) (by omega) (by simp only [World.size_setCell]; omega)) (by omega) (by simp only [World.size_setCell]; omega)) (by omega) (by simp only [World.size_setCell]; omega))
set_option maxHeartbeats 4000000 in
theorem eqTrustPolicyK (V U : Value) (x y : Tpt) (w : World) (q : Bool) (hq : decide (x = y) = q) (h : kTp.At w V x) (g : kTp.At w U y) (hp : adTp x ≤ 100000000) (hy : adTp y ≤ 100000000) :
    Calls Tryz.prog 42 #[V, U] w fun e w' => e = .returned (.bool q) ∧ Below w.heap.size w w' := by
  obtain ⟨x0_0, n0_0, c0_0, x1_0, n1_0, c1_0, x2_0, n2_0, c2_0, x3_0, n3_0, c3_0, rfl, g0, g1, g2, g3⟩ := kTp_at h
  obtain ⟨l0, l1, l2, l3⟩ := x
  obtain ⟨xy0_0, ny0_0, cy0_0, xy1_0, ny1_0, cy1_0, xy2_0, ny2_0, cy2_0, xy3_0, ny3_0, cy3_0, rfl, gy0, gy1, gy2, gy3⟩ := kTp_at g
  obtain ⟨ly0, ly1, ly2, ly3⟩ := y
  have hp9 : bulkK adKy l0 + bulkK adRl l1 + bulkK adNn l2 + bulkK adDz l3 ≤ 100000000 := hp
  have hy9 : bulkK adKy ly0 + bulkK adRl ly1 + bulkK adNn ly2 + bulkK adDz ly3 ≤ 100000000 := hy
  have hb0 := (Below.refl w.heap.size w).alloc (Nat.le_refl _) (.cells #[.slice x0_0 n0_0 c0_0, .slice x1_0 n1_0 c1_0, .slice x2_0 n2_0 c2_0, .slice x3_0 n3_0 c3_0] 29)
  have HB := Lib.hid (hb0.alloc (by simp) (.cells #[.slice xy0_0 ny0_0 cy0_0, .slice xy1_0 ny1_0 cy1_0, .slice xy2_0 ny2_0 cy2_0, .slice xy3_0 ny3_0 cy3_0] 29))
  have HX := Lib.hid ((Ret.Blk.new w #[.slice x0_0 n0_0 c0_0, .slice x1_0 n1_0 c1_0, .slice x2_0 n2_0 c2_0, .slice x3_0 n3_0 c3_0] 29).on ((Below.refl _ _).alloc (Nat.le_refl _) (.cells #[.slice xy0_0 ny0_0 cy0_0, .slice xy1_0 ny1_0 cy1_0, .slice xy2_0 ny2_0 cy2_0, .slice xy3_0 ny3_0 cy3_0] 29)))
  have HY := Lib.hid (Ret.Blk.new' (w := w.alloc (.cells #[.slice x0_0 n0_0 c0_0, .slice x1_0 n1_0 c1_0, .slice x2_0 n2_0 c2_0, .slice x3_0 n3_0 c3_0] 29)) (n := w.heap.size + 1) #[.slice xy0_0 ny0_0 cy0_0, .slice xy1_0 ny1_0 cy1_0, .slice xy2_0 ny2_0 cy2_0, .slice xy3_0 ny3_0 cy3_0] 29 (by simp))
  have HQ := Lib.hid hq
  have G0 := Lib.hid g0; have Gy0 := Lib.hid gy0
  have G1 := Lib.hid g1; have Gy1 := Lib.hid gy1
  have G2 := Lib.hid g2; have Gy2 := Lib.hid gy2
  have G3 := Lib.hid g3; have Gy3 := Lib.hid gy3
  dsimp only at G0 Gy0 G1 Gy1 G2 Gy2 G3 Gy3 ⊢
  clear h g hq hp hy hb0 g0 gy0 g1 gy1 g2 gy2 g3 gy3
  go_enter Tryz.func42, Tryz.ntmps42
  go_wp2_with fail
  by_cases e0 : l0 = ly0
  · refine (eqKeySF _ _ l0 ly0 _ true (decide_eq_true e0) (G0.out.on HB.out) (Gy0.out.on HB.out) (by omega) (by omega)).mono ?_
    rintro e w1 ⟨rfl, hb⟩
    replace HX := Lib.hid (HX.out.on hb); replace HY := Lib.hid (HY.out.on hb)
    replace HB := Lib.hid (HB.out.trans (hb.mono HB.out.size)); clear hb
    have q0 : w1.cell? ⟨w.heap.size, 0, none⟩ = some (.slice x0_0 n0_0 c0_0) := HX.out.cell 0
    have q1 : w1.cell? ⟨w.heap.size, 1, none⟩ = some (.slice x1_0 n1_0 c1_0) := HX.out.cell 1
    have q2 : w1.cell? ⟨w.heap.size, 2, none⟩ = some (.slice x2_0 n2_0 c2_0) := HX.out.cell 2
    have q3 : w1.cell? ⟨w.heap.size, 3, none⟩ = some (.slice x3_0 n3_0 c3_0) := HX.out.cell 3
    have p0 : w1.cell? ⟨w.heap.size + 1, 0, none⟩ = some (.slice xy0_0 ny0_0 cy0_0) := HY.out.cell 0
    have p1 : w1.cell? ⟨w.heap.size + 1, 1, none⟩ = some (.slice xy1_0 ny1_0 cy1_0) := HY.out.cell 1
    have p2 : w1.cell? ⟨w.heap.size + 1, 2, none⟩ = some (.slice xy2_0 ny2_0 cy2_0) := HY.out.cell 2
    have p3 : w1.cell? ⟨w.heap.size + 1, 3, none⟩ = some (.slice xy3_0 ny3_0 cy3_0) := HY.out.cell 3
    go_wp2_with fail
    clear q0 q1 q2 q3 p0 p1 p2 p3
    by_cases e1 : l1 = ly1
    · refine (eqRuleSF _ _ l1 ly1 _ true (decide_eq_true e1) (G1.out.on HB.out) (Gy1.out.on HB.out) (by omega) (by omega)).mono ?_
      rintro e w2 ⟨rfl, hb⟩
      replace HX := Lib.hid (HX.out.on hb); replace HY := Lib.hid (HY.out.on hb)
      replace HB := Lib.hid (HB.out.trans (hb.mono HB.out.size)); clear hb
      have q0 : w2.cell? ⟨w.heap.size, 0, none⟩ = some (.slice x0_0 n0_0 c0_0) := HX.out.cell 0
      have q1 : w2.cell? ⟨w.heap.size, 1, none⟩ = some (.slice x1_0 n1_0 c1_0) := HX.out.cell 1
      have q2 : w2.cell? ⟨w.heap.size, 2, none⟩ = some (.slice x2_0 n2_0 c2_0) := HX.out.cell 2
      have q3 : w2.cell? ⟨w.heap.size, 3, none⟩ = some (.slice x3_0 n3_0 c3_0) := HX.out.cell 3
      have p0 : w2.cell? ⟨w.heap.size + 1, 0, none⟩ = some (.slice xy0_0 ny0_0 cy0_0) := HY.out.cell 0
      have p1 : w2.cell? ⟨w.heap.size + 1, 1, none⟩ = some (.slice xy1_0 ny1_0 cy1_0) := HY.out.cell 1
      have p2 : w2.cell? ⟨w.heap.size + 1, 2, none⟩ = some (.slice xy2_0 ny2_0 cy2_0) := HY.out.cell 2
      have p3 : w2.cell? ⟨w.heap.size + 1, 3, none⟩ = some (.slice xy3_0 ny3_0 cy3_0) := HY.out.cell 3
      go_wp2_with fail
      clear q0 q1 q2 q3 p0 p1 p2 p3
      by_cases e2 : l2 = ly2
      · refine (eqNameSF _ _ l2 ly2 _ true (decide_eq_true e2) (G2.out.on HB.out) (Gy2.out.on HB.out) (by omega) (by omega)).mono ?_
        rintro e w3 ⟨rfl, hb⟩
        replace HX := Lib.hid (HX.out.on hb); replace HY := Lib.hid (HY.out.on hb)
        replace HB := Lib.hid (HB.out.trans (hb.mono HB.out.size)); clear hb
        have q0 : w3.cell? ⟨w.heap.size, 0, none⟩ = some (.slice x0_0 n0_0 c0_0) := HX.out.cell 0
        have q1 : w3.cell? ⟨w.heap.size, 1, none⟩ = some (.slice x1_0 n1_0 c1_0) := HX.out.cell 1
        have q2 : w3.cell? ⟨w.heap.size, 2, none⟩ = some (.slice x2_0 n2_0 c2_0) := HX.out.cell 2
        have q3 : w3.cell? ⟨w.heap.size, 3, none⟩ = some (.slice x3_0 n3_0 c3_0) := HX.out.cell 3
        have p0 : w3.cell? ⟨w.heap.size + 1, 0, none⟩ = some (.slice xy0_0 ny0_0 cy0_0) := HY.out.cell 0
        have p1 : w3.cell? ⟨w.heap.size + 1, 1, none⟩ = some (.slice xy1_0 ny1_0 cy1_0) := HY.out.cell 1
        have p2 : w3.cell? ⟨w.heap.size + 1, 2, none⟩ = some (.slice xy2_0 ny2_0 cy2_0) := HY.out.cell 2
        have p3 : w3.cell? ⟨w.heap.size + 1, 3, none⟩ = some (.slice xy3_0 ny3_0 cy3_0) := HY.out.cell 3
        go_wp2_with fail
        clear q0 q1 q2 q3 p0 p1 p2 p3
        by_cases e3 : l3 = ly3
        · refine (eqDataSF _ _ l3 ly3 _ true (decide_eq_true e3) (G3.out.on HB.out) (Gy3.out.on HB.out) (by omega) (by omega)).mono ?_
          rintro e w4 ⟨rfl, hb⟩
          replace HX := Lib.hid (HX.out.on hb); replace HY := Lib.hid (HY.out.on hb)
          replace HB := Lib.hid (HB.out.trans (hb.mono HB.out.size)); clear hb
          have q0 : w4.cell? ⟨w.heap.size, 0, none⟩ = some (.slice x0_0 n0_0 c0_0) := HX.out.cell 0
          have q1 : w4.cell? ⟨w.heap.size, 1, none⟩ = some (.slice x1_0 n1_0 c1_0) := HX.out.cell 1
          have q2 : w4.cell? ⟨w.heap.size, 2, none⟩ = some (.slice x2_0 n2_0 c2_0) := HX.out.cell 2
          have q3 : w4.cell? ⟨w.heap.size, 3, none⟩ = some (.slice x3_0 n3_0 c3_0) := HX.out.cell 3
          have p0 : w4.cell? ⟨w.heap.size + 1, 0, none⟩ = some (.slice xy0_0 ny0_0 cy0_0) := HY.out.cell 0
          have p1 : w4.cell? ⟨w.heap.size + 1, 1, none⟩ = some (.slice xy1_0 ny1_0 cy1_0) := HY.out.cell 1
          have p2 : w4.cell? ⟨w.heap.size + 1, 2, none⟩ = some (.slice xy2_0 ny2_0 cy2_0) := HY.out.cell 2
          have p3 : w4.cell? ⟨w.heap.size + 1, 3, none⟩ = some (.slice xy3_0 ny3_0 cy3_0) := HY.out.cell 3
          have HE : Hid (q = true) := Lib.hid (by rw [← HQ.out]; simp [e0, e1, e2, e3])
          clear e0 e1 e2 e3
          go_wp2
          go_ret
          exact ⟨ret_bool HE.out.symm, HB.out⟩
        · refine (eqDataSF _ _ l3 ly3 _ false (decide_eq_false e3) (G3.out.on HB.out) (Gy3.out.on HB.out) (by omega) (by omega)).mono ?_
          rintro e w4 ⟨rfl, hb⟩
          replace HX := Lib.hid (HX.out.on hb); replace HY := Lib.hid (HY.out.on hb)
          replace HB := Lib.hid (HB.out.trans (hb.mono HB.out.size)); clear hb
          have q0 : w4.cell? ⟨w.heap.size, 0, none⟩ = some (.slice x0_0 n0_0 c0_0) := HX.out.cell 0
          have q1 : w4.cell? ⟨w.heap.size, 1, none⟩ = some (.slice x1_0 n1_0 c1_0) := HX.out.cell 1
          have q2 : w4.cell? ⟨w.heap.size, 2, none⟩ = some (.slice x2_0 n2_0 c2_0) := HX.out.cell 2
          have q3 : w4.cell? ⟨w.heap.size, 3, none⟩ = some (.slice x3_0 n3_0 c3_0) := HX.out.cell 3
          have p0 : w4.cell? ⟨w.heap.size + 1, 0, none⟩ = some (.slice xy0_0 ny0_0 cy0_0) := HY.out.cell 0
          have p1 : w4.cell? ⟨w.heap.size + 1, 1, none⟩ = some (.slice xy1_0 ny1_0 cy1_0) := HY.out.cell 1
          have p2 : w4.cell? ⟨w.heap.size + 1, 2, none⟩ = some (.slice xy2_0 ny2_0 cy2_0) := HY.out.cell 2
          have p3 : w4.cell? ⟨w.heap.size + 1, 3, none⟩ = some (.slice xy3_0 ny3_0 cy3_0) := HY.out.cell 3
          have HE : Hid (q = false) := Lib.hid (by rw [← HQ.out]; simp [e3])
          clear e3
          go_wp2
          go_ret
          exact ⟨ret_bool HE.out.symm, HB.out⟩
      · refine (eqNameSF _ _ l2 ly2 _ false (decide_eq_false e2) (G2.out.on HB.out) (Gy2.out.on HB.out) (by omega) (by omega)).mono ?_
        rintro e w3 ⟨rfl, hb⟩
        replace HX := Lib.hid (HX.out.on hb); replace HY := Lib.hid (HY.out.on hb)
        replace HB := Lib.hid (HB.out.trans (hb.mono HB.out.size)); clear hb
        have q0 : w3.cell? ⟨w.heap.size, 0, none⟩ = some (.slice x0_0 n0_0 c0_0) := HX.out.cell 0
        have q1 : w3.cell? ⟨w.heap.size, 1, none⟩ = some (.slice x1_0 n1_0 c1_0) := HX.out.cell 1
        have q2 : w3.cell? ⟨w.heap.size, 2, none⟩ = some (.slice x2_0 n2_0 c2_0) := HX.out.cell 2
        have q3 : w3.cell? ⟨w.heap.size, 3, none⟩ = some (.slice x3_0 n3_0 c3_0) := HX.out.cell 3
        have p0 : w3.cell? ⟨w.heap.size + 1, 0, none⟩ = some (.slice xy0_0 ny0_0 cy0_0) := HY.out.cell 0
        have p1 : w3.cell? ⟨w.heap.size + 1, 1, none⟩ = some (.slice xy1_0 ny1_0 cy1_0) := HY.out.cell 1
        have p2 : w3.cell? ⟨w.heap.size + 1, 2, none⟩ = some (.slice xy2_0 ny2_0 cy2_0) := HY.out.cell 2
        have p3 : w3.cell? ⟨w.heap.size + 1, 3, none⟩ = some (.slice xy3_0 ny3_0 cy3_0) := HY.out.cell 3
        have HE : Hid (q = false) := Lib.hid (by rw [← HQ.out]; simp [e2])
        clear e2
        go_wp2
        go_ret
        exact ⟨ret_bool HE.out.symm, HB.out⟩
    · refine (eqRuleSF _ _ l1 ly1 _ false (decide_eq_false e1) (G1.out.on HB.out) (Gy1.out.on HB.out) (by omega) (by omega)).mono ?_
      rintro e w2 ⟨rfl, hb⟩
      replace HX := Lib.hid (HX.out.on hb); replace HY := Lib.hid (HY.out.on hb)
      replace HB := Lib.hid (HB.out.trans (hb.mono HB.out.size)); clear hb
      have q0 : w2.cell? ⟨w.heap.size, 0, none⟩ = some (.slice x0_0 n0_0 c0_0) := HX.out.cell 0
      have q1 : w2.cell? ⟨w.heap.size, 1, none⟩ = some (.slice x1_0 n1_0 c1_0) := HX.out.cell 1
      have q2 : w2.cell? ⟨w.heap.size, 2, none⟩ = some (.slice x2_0 n2_0 c2_0) := HX.out.cell 2
      have q3 : w2.cell? ⟨w.heap.size, 3, none⟩ = some (.slice x3_0 n3_0 c3_0) := HX.out.cell 3
      have p0 : w2.cell? ⟨w.heap.size + 1, 0, none⟩ = some (.slice xy0_0 ny0_0 cy0_0) := HY.out.cell 0
      have p1 : w2.cell? ⟨w.heap.size + 1, 1, none⟩ = some (.slice xy1_0 ny1_0 cy1_0) := HY.out.cell 1
      have p2 : w2.cell? ⟨w.heap.size + 1, 2, none⟩ = some (.slice xy2_0 ny2_0 cy2_0) := HY.out.cell 2
      have p3 : w2.cell? ⟨w.heap.size + 1, 3, none⟩ = some (.slice xy3_0 ny3_0 cy3_0) := HY.out.cell 3
      have HE : Hid (q = false) := Lib.hid (by rw [← HQ.out]; simp [e1])
      clear e1
      go_wp2
      go_ret
      exact ⟨ret_bool HE.out.symm, HB.out⟩
  · refine (eqKeySF _ _ l0 ly0 _ false (decide_eq_false e0) (G0.out.on HB.out) (Gy0.out.on HB.out) (by omega) (by omega)).mono ?_
    rintro e w1 ⟨rfl, hb⟩
    replace HX := Lib.hid (HX.out.on hb); replace HY := Lib.hid (HY.out.on hb)
    replace HB := Lib.hid (HB.out.trans (hb.mono HB.out.size)); clear hb
    have q0 : w1.cell? ⟨w.heap.size, 0, none⟩ = some (.slice x0_0 n0_0 c0_0) := HX.out.cell 0
    have q1 : w1.cell? ⟨w.heap.size, 1, none⟩ = some (.slice x1_0 n1_0 c1_0) := HX.out.cell 1
    have q2 : w1.cell? ⟨w.heap.size, 2, none⟩ = some (.slice x2_0 n2_0 c2_0) := HX.out.cell 2
    have q3 : w1.cell? ⟨w.heap.size, 3, none⟩ = some (.slice x3_0 n3_0 c3_0) := HX.out.cell 3
    have p0 : w1.cell? ⟨w.heap.size + 1, 0, none⟩ = some (.slice xy0_0 ny0_0 cy0_0) := HY.out.cell 0
    have p1 : w1.cell? ⟨w.heap.size + 1, 1, none⟩ = some (.slice xy1_0 ny1_0 cy1_0) := HY.out.cell 1
    have p2 : w1.cell? ⟨w.heap.size + 1, 2, none⟩ = some (.slice xy2_0 ny2_0 cy2_0) := HY.out.cell 2
    have p3 : w1.cell? ⟨w.heap.size + 1, 3, none⟩ = some (.slice xy3_0 ny3_0 cy3_0) := HY.out.cell 3
    have HE : Hid (q = false) := Lib.hid (by rw [← HQ.out]; simp [e0])
    clear e0
    go_wp2
    go_ret
    exact ⟨ret_bool HE.out.symm, HB.out⟩
/-- It fits, and its numbers are numbers. -/
def inTp (x : Tpt) : Prop := inLKy x.1 ∧ inLRl x.2.1 ∧ inLNn x.2.2.1 ∧ inLDz x.2.2.2
theorem inTp.ok {x : Tpt} (h : inTp x) : okTp x := ⟨h.1.ok, h.2.1.ok, h.2.2.1.ok, h.2.2.2.ok⟩
theorem opens_TrustPolicy : OpensK Tryz.prog kTp 68 inTp := opens_struct Tryz.underlying68 (by kernel_rfl) (opensF_cons (ok := fun (z : List Kyt) => inLKy z) (ok' := fun (z : List Rlt × List Nnt × List Dzt) => inLRl z.1 ∧ inLNn z.2.1 ∧ inLDz z.2.2) opens_KeyS rfl (by kernel_rfl) (opensF_cons (ok := fun (z : List Rlt) => inLRl z) (ok' := fun (z : List Nnt × List Dzt) => inLNn z.1 ∧ inLDz z.2) opens_RuleS rfl (by kernel_rfl) (opensF_cons (ok := fun (z : List Nnt) => inLNn z) (ok' := fun (z : List Dzt) => inLDz z) opens_NameS rfl (by kernel_rfl) (opensF_last (ok := fun (z : List Dzt) => inLDz z) opens_DataS rfl (by kernel_rfl)))))

/-! ### in the laws' words -/
theorem adTp_le (x : Tpt) : adTp x ≤ wtTp x := by
  obtain ⟨l0, l1, l2, l3⟩ := x
  have e0 := show bulkK adKy l0 ≤ bulkK wtKy l0 from bulkK_mono adKy_le _
  have e1 := show bulkK adRl l1 ≤ bulkK wtRl l1 from bulkK_mono adRl_le _
  have e2 := show bulkK adNn l2 ≤ bulkK wtNn l2 from bulkK_mono adNn_le _
  have e3 := show bulkK adDz l3 ≤ bulkK wtDz l3 from bulkK_mono adDz_le _
  unfold adTp wtTp
  dsimp only
  omega
theorem adTp_big {x : Tpt} {n : Nat} (h : wtTp x ≤ n) : adTp x ≤ n := Nat.le_trans (adTp_le x) h
theorem szTpK (V : Value) (x : Tpt) (w : World) (left : Int) (h : kTp.At w V x) (hl : inTp x) (hs : inTp x) (h0 : 0 ≤ left) (h1 : left ≤ 1048576) :
    Calls Tryz.prog 37 #[V, .int .i64 left] w fun e w' => e = .returned (.int .i64 (szW (wtTp x) left)) ∧ Below w.heap.size w w' := szTrustPolicyK V x w left h hs.ok h0 h1
theorem sameTpK (V U : Value) (x : Tpt) (w : World) (h : kTp.At w V x) (g : kTp.At w U x) (hp : adTp x ≤ 100000000) :
    Calls Tryz.prog 42 #[V, U] w fun e w' => e = .returned (.bool true) ∧ Below w.heap.size w w' := eqTrustPolicyK V U x x w true (by simp) h g hp hp
end Go.Proofs.YtcidfmmeonhkhaaGreatDoor.Row
/- Chapter 11 (trust) in the words of kinds: the model's IsAnchor. No conditions but that lengths fit. -/
namespace Go.Proofs.YtcidfmmeonhkhaaGreatDoor.Row
open Go.ChangeShapes Go.WideShapes Go.ChangeAt Go.RowKit Go.Instr
set_option linter.unusedVariables false
set_option maxRecDepth 100000

/-! ### anchors -/
def anchorT (l : List Nnt) (n : List ByteArray) : Bool := l.any fun a => decide (a = n)
theorem anchorT_yes {l : List Nnt} {n : List ByteArray} {k : Nat} (hk : k < l.length) (h : nth l k = n) : anchorT l n = true := by
  unfold anchorT
  rw [List.any_eq_true]
  exact ⟨nth l k, nth_mem hk, by simp [h]⟩
theorem anchorT_no {l : List Nnt} {n : List ByteArray} (h : ∀ j, j < l.length → ¬ nth l j = n) : anchorT l n = false := by
  unfold anchorT
  rw [List.any_eq_false]
  intro a ha
  obtain ⟨j, hj, rfl⟩ := List.getElem_of_mem ha
  have := h j hj
  rw [nth_eq hj] at this
  simp [this]
theorem eqNV10 {w : World} {V U : Value} {l m : List ByteArray} (z : Bool) (hz : decide (l = m) = z) (h : kN.At w V l) (g : kN.At w U m) (hl : bulk l ≤ 9000000) (hm : bulk m ≤ 9000000) :
    Calls Tryz.prog 70 #[V, U] w fun e w' => e = .returned (.bool z) ∧ Below w.heap.size w w' := by
  obtain ⟨v, rfl, h9⟩ := kN_at h
  obtain ⟨u, rfl, g9⟩ := kN_at g
  exact hz ▸ specEqualNames v u l m w h9 g9 (by have := bulk_len l; omega) (by have := bulk_len m; omega)

set_option maxRecDepth 100000 in
set_option maxHeartbeats 4000000 in
theorem ria {Q : Exit → Act → World → Prop} {v0 v1 v4 v6 v7 v8 v9 v10 v11 v12 v13 v14 v15 v16 v17 v18 v19 : Value} {w : World} {b off n c g r k n0 c0 nn cn : Nat} {x0 xn : Option Addr} {a m : List ByteArray} {z : Bool} (hk : k < n) (hkc : k ≤ c) (hn : n ≤ 9000000) (HZ : Hid (decide (a = m) = z)) (H_a : Hid (kN.At w (.agg #[.slice x0 n0 c0]) a)) (H_m : Hid (kN.At w (.agg #[.slice xn nn cn]) m)) (HP : Hid (bulk a ≤ 9000000)) (HM : Hid (bulk m ≤ 9000000)) (K0 : Hid (w.cell? ⟨r, 2, none⟩ = some (.slice (some ⟨b, off, none⟩) n c))) (K1 : Hid (w.cell? ⟨b, off + k, none⟩ = some (.slice x0 n0 c0))) (K2 : Hid (w.cell? ⟨g, 0, none⟩ = some (.slice xn nn cn)))
    (hQ : ∀ (u13 u14 u15 u16 u17 u18 : Value)  (wx : World), Below w.heap.size w wx → Q .normal ⟨#[v0, v1, .pointer (some ⟨r, 0, none⟩), .pointer (some ⟨g, 0, none⟩), v4, .int .i64 k, v6, v7, v8, v9, v10, v11, v12, u13, u14, u15, u16, u17, u18, .bool z], []⟩ wx) :
    (Code.region 4 #[{ dst := some 13, op := Op.fieldAddr 29 (Operand.tmp 2) 2, type := 0, pos := "l11_trust.go:68", after := #[], guard := none },
      { dst := some 14, op := Op.load 26 (Operand.tmp 13), type := 26, pos := "l11_trust.go:68", after := #[{ on := 0, ground := Ground.data }], guard := none },
      { dst := some 15, op := Op.move (Operand.tmp 5), type := 3, pos := "l11_trust.go:68", after := #[], guard := none },
      { dst := some 16, op := Op.indexAddr 26 (Operand.tmp 14) (Operand.tmp 15), type := 0, pos := "l11_trust.go:68", after := #[{ on := 1, ground := Ground.data }, { on := 2, ground := Ground.data }], guard := none },
      { dst := some 17, op := Op.load 32 (Operand.tmp 16), type := 32, pos := "l11_trust.go:68", after := #[{ on := 3, ground := Ground.data }], guard := none },
      { dst := some 18, op := Op.load 32 (Operand.tmp 3), type := 32, pos := "l11_trust.go:68", after := #[], guard := none },
      { dst := some 19, op := Op.call { callee := Callee.value (Operand.func 70), args := #[Operand.tmp 17, Operand.tmp 18], argTypes := #[32, 32] }, type := 4, pos := "l11_trust.go:68", after := #[{ on := 4, ground := Ground.data }, { on := 5, ground := Ground.data }], guard := none }] true).wp Tryz.prog Q ⟨#[v0, v1, .pointer (some ⟨r, 0, none⟩), .pointer (some ⟨g, 0, none⟩), v4, .int .i64 k, v6, v7, v8, v9, v10, v11, v12, v13, v14, v15, v16, v17, v18, v19], []⟩ w := by
  have HQ := Lib.hid hQ; clear hQ
  have hdr : Below w.heap.size w w.drew := (Below.refl _ _).drew
  have BB := Lib.hid hdr
  refine wp_region_noPanic ?_
  refine wp_region_held_drew (S := (fun w' => w'.cell? ⟨r, 2, none⟩ = some (.slice (some ⟨b, off, none⟩) n c) ∧ w'.cell? ⟨b, off + k, none⟩ = some (.slice x0 n0 c0) ∧ w'.cell? ⟨g, 0, none⟩ = some (.slice xn nn cn))) (by kernel_rfl) ?_ (fun hHeld => ?_)
  · exact ⟨kc K0.out BB.out, kc K1.out BB.out, kc K2.out BB.out⟩
  clear hdr
  generalize w.drew = wd at *
  refine wpAnyH_take (i := 0) (oi := { dst := some 13, op := Op.fieldAddr 29 (Operand.tmp 2) 2, type := 0, pos := "l11_trust.go:68", after := #[], guard := none }) (v := ?_) rfl (by kernel_rfl) (by kernel_rfl) (by kernel_rfl) (fun _ _ _ h => h) (Or.inl ⟨by rfl, ?_⟩) (by assumption) ?_
  rotate_left
  · intro w' hSw; (try dsimp only at hSw); first | (go_simp; done) | (go_simp; with_reducible rfl)
  (try simp only [Act.put, List.setIfInBounds_toArray, List.set_cons_zero, List.set_cons_succ])
  refine wpAnyH_take (i := 1) (oi := { dst := some 14, op := Op.load 26 (Operand.tmp 13), type := 26, pos := "l11_trust.go:68", after := #[{ on := 0, ground := Ground.data }], guard := none }) (v := ?_) rfl (by kernel_rfl) (by kernel_rfl) (by kernel_rfl) (fun _ _ _ h => h) (Or.inl ⟨by rfl, ?_⟩) (by assumption) ?_
  rotate_left
  · intro w' hSw; (try dsimp only at hSw); first | (go_simp; done) | (go_simp; with_reducible rfl)
  (try simp only [Act.put, List.setIfInBounds_toArray, List.set_cons_zero, List.set_cons_succ])
  refine wpAnyH_take (i := 2) (oi := { dst := some 15, op := Op.move (Operand.tmp 5), type := 3, pos := "l11_trust.go:68", after := #[], guard := none }) (v := ?_) rfl (by kernel_rfl) (by kernel_rfl) (by kernel_rfl) (fun _ _ _ h => h) (Or.inl ⟨by rfl, ?_⟩) (by assumption) ?_
  rotate_left
  · intro w' hSw; (try dsimp only at hSw); first | (go_simp; done) | (go_simp; with_reducible rfl)
  (try simp only [Act.put, List.setIfInBounds_toArray, List.set_cons_zero, List.set_cons_succ])
  refine wpAnyH_take (i := 3) (oi := { dst := some 16, op := Op.indexAddr 26 (Operand.tmp 14) (Operand.tmp 15), type := 0, pos := "l11_trust.go:68", after := #[{ on := 1, ground := Ground.data }, { on := 2, ground := Ground.data }], guard := none }) (v := ?_) rfl (by kernel_rfl) (by kernel_rfl) (by kernel_rfl) (fun _ _ _ h => h) (Or.inl ⟨by rfl, ?_⟩) (by assumption) ?_
  rotate_left
  · intro w' hSw; (try dsimp only at hSw); first | (go_simp; done) | (go_simp; with_reducible rfl)
  (try simp only [Act.put, List.setIfInBounds_toArray, List.set_cons_zero, List.set_cons_succ])
  refine wpAnyH_take (i := 4) (oi := { dst := some 17, op := Op.load 32 (Operand.tmp 16), type := 32, pos := "l11_trust.go:68", after := #[{ on := 3, ground := Ground.data }], guard := none }) (v := ?_) rfl (by kernel_rfl) (by kernel_rfl) (by kernel_rfl) (fun _ _ _ h => h) (Or.inl ⟨by rfl, ?_⟩) (by assumption) ?_
  rotate_left
  · intro w' hSw; (try dsimp only at hSw); first | (go_simp; done) | (go_simp; with_reducible rfl)
  (try simp only [Act.put, List.setIfInBounds_toArray, List.set_cons_zero, List.set_cons_succ])
  refine wpAnyH_take (i := 5) (oi := { dst := some 18, op := Op.load 32 (Operand.tmp 3), type := 32, pos := "l11_trust.go:68", after := #[], guard := none }) (v := ?_) rfl (by kernel_rfl) (by kernel_rfl) (by kernel_rfl) (fun _ _ _ h => h) (Or.inl ⟨by rfl, ?_⟩) (by assumption) ?_
  rotate_left
  · intro w' hSw; (try dsimp only at hSw); first | (go_simp; done) | (go_simp; with_reducible rfl)
  (try simp only [Act.put, List.setIfInBounds_toArray, List.set_cons_zero, List.set_cons_succ])
  refine wpAnyH_ready (rs := [6]) (by kernel_rfl) (by simp) ?_
  refine AllReadyH.cons (o := { dst := some 19, op := Op.call { callee := Callee.value (Operand.func 70), args := #[Operand.tmp 17, Operand.tmp 18], argTypes := #[32, 32] }, type := 4, pos := "l11_trust.go:68", after := #[{ on := 4, ground := Ground.data }, { on := 5, ground := Ground.data }], guard := none }) rfl (fun K hK => ?_) AllReadyH.nil
  go_simp
  refine (eqNV10 z HZ.out (H_a.out.on BB.out) (H_m.out.on BB.out) HP.out HM.out).mono ?_
  rintro e wn1 ⟨rfl, hb⟩
  replace BB := Lib.hid (BB.out.trans (hb.mono BB.out.size))
  clear hb
  (try go_wp2_with fail)
  clear hHeld
  refine hK.out _ _ ?_ (fun hHeld => ?_)
  · (try dsimp only); exact ⟨kc K0.out BB.out, kc K1.out BB.out, kc K2.out BB.out⟩
  clear hK K
  (try simp only [Act.put, List.setIfInBounds_toArray, List.set_cons_zero, List.set_cons_succ])
  refine wpAnyH_done (by kernel_rfl) ?_ _
  exact NoPanic.normal (HQ.out _ _ _ _ _ _  _  BB.out)

set_option maxHeartbeats 4000000 in
theorem specIsAnchor (V U : Value) (x : Tpt) (m : List ByteArray) (w : World) (z : Bool) (hz : anchorT x.2.2.1 m = z) (h : kTp.At w V x) (g : kN.At w U m) (hl : x.2.2.1.length ≤ 9000000) (hp : ∀ a ∈ x.2.2.1, bulk a ≤ 9000000) (hm : bulk m ≤ 9000000) :
    Calls Tryz.prog 26 #[V, U] w fun e w' => e = .returned (.bool z) ∧ Below w.heap.size w w' := by
  obtain ⟨x0, n0, c0, x1, n1, c1, x2, n2, c2, x3, n3, c3, rfl, -, -, h, -⟩ := kTp_at h
  obtain ⟨t0, t1, l, t3⟩ := x
  dsimp only at hz h hl hp
  obtain ⟨ad, n, cap, L, e9, hn, ht, hh, hel⟩ := kLNn_at h
  cases e9
  obtain ⟨xn, nn, cn, rfl, g⟩ := kN_shapeA g
  have hlen : l.length = n2 := by rw [← ht, List.length_map]; exact hn.symm
  rw [hlen] at hl
  have hcap : n2 ≤ c2 := by obtain ⟨x', n', cap', hv, hn', hc', -⟩ := hh.shapeN; cases hv; exact hc'
  have HB0 := Lib.hid (((Below.refl w.heap.size w).alloc (Nat.le_refl _) (.cells #[.slice x0 n0 c0, .slice x1 n1 c1, .slice x2 n2 c2, .slice x3 n3 c3] 29)).alloc (by simp) (.cells #[.slice xn nn cn] 32))
  have HX0 := Lib.hid ((Ret.Blk.new w #[.slice x0 n0 c0, .slice x1 n1 c1, .slice x2 n2 c2, .slice x3 n3 c3] 29).on ((Below.refl _ _).alloc (Nat.le_refl _) (.cells #[.slice xn nn cn] 32)))
  have HY0 := Lib.hid (Ret.Blk.new' (w := w.alloc (.cells #[.slice x0 n0 c0, .slice x1 n1 c1, .slice x2 n2 c2, .slice x3 n3 c3] 29)) (n := w.heap.size + 1) #[.slice xn nn cn] 32 (by simp))
  have HN := Lib.hid hn; have HT := Lib.hid ht; have HH := Lib.hid hh; have HEL := Lib.hid hel; have HP := Lib.hid hp; have HLEN := Lib.hid hlen; have HZ := Lib.hid hz; have GN := Lib.hid g; have HPN := Lib.hid hm
  clear hn h hh hp ht hel hlen hz g hm
  go_enter Tryz.func26, Tryz.ntmps26
  go_wp2_with fail
  go_loopw [5] (fun i wr => ∃ k : Nat, k ≤ n2 ∧ i = .int .i64 k ∧ Hid (∀ j, j < k → ¬ nth l j = m) ∧ Hid (Ret.Blk wr w.heap.size #[.slice x0 n0 c0, .slice x1 n1 c1, .slice x2 n2 c2, .slice x3 n3 c3] 29) ∧ Hid (Ret.Blk wr (w.heap.size + 1) #[.slice xn nn cn] 32) ∧ Hid (Below w.heap.size w wr)) (fun i _ => n2 - (intOf i).toNat)
  case atStart => exact ⟨0, Nat.zero_le _, rfl, Lib.hid (fun j hj => absurd hj (by omega)), HX0, HY0, HB0⟩
  case round =>
    obtain ⟨k, hk, rfl, ha, hx, hy, hb⟩ := hrel
    have q2 : wr.cell? ⟨w.heap.size, 2, none⟩ = some (.slice x2 n2 c2) := hx.out.cell 2
    by_cases hlt : k < n2
    · have hlen := HN.out
      obtain ⟨b, off, y0, m0, d0, rfl, -, hc0, hA⟩ := kLNn_elem (HH.out.on hb.out) (fun y hy => kNn.holds_on (HEL.out y hy) hb.out) (j := k) (by omega)
      have hpt : nth l k = kNn.strip (nth L k) := by rw [← HT.out, nth_map _ (by omega)]
      have hps := HP.out (nth l k) (nth_mem (by have := HLEN.out; omega))
      rw [← hpt] at hA
      have HA := Lib.hid hA; have HPS := Lib.hid hps; have HC0 := Lib.hid hc0
      clear hlen hpt hps hA hc0
      obtain ⟨a, ha2⟩ : ∃ a, decide (nth l k = m) = a := ⟨_, rfl⟩
      have HV := Lib.hid ha2; clear ha2
      go_wp2_with fail
      clear q2
      refine ria hlt (by omega) hl HV HA (Lib.hid (GN.out.on hb.out)) HPS HPN (Lib.hid (hx.out.cell 2)) HC0 (Lib.hid (hy.out.cell 0)) ?_
      intro u13 u14 u15 u16 u17 u18 wx hb1
      replace hx := Lib.hid (hx.out.on hb1); replace hy := Lib.hid (hy.out.on hb1); replace hb := Lib.hid (hb.out.trans (hb1.mono hb.out.size)); clear hb1
      cases a with
      | true =>
        have HF : Hid (z = true) := Lib.hid (by rw [← HZ.out]; exact anchorT_yes (by have := HLEN.out; omega) (of_decide_eq_true HV.out))
        go_wp2_with fail
        go_ret
        exact ⟨ret_bool HF.out.symm, hb.out⟩
      | false =>
        have HM := Lib.hid (show ∀ j, j < k + 1 → ¬ nth l j = m from fun j hj => by rcases Nat.lt_succ_iff_lt_or_eq.1 hj with h5 | h5; exact ha.out j h5; exact h5 ▸ of_decide_eq_false HV.out)
        go_wp2_with fail
        go_roundw
        case rel => exact ⟨k + 1, by omega, by go_num, HM, hx, hy, hb⟩
        case measure => simp [intOf]; omega
    · obtain rfl : k = n2 := by omega
      have HF : Hid (z = false) := Lib.hid (by rw [← HZ.out]; exact anchorT_no (fun j hj => ha.out j (by have := HLEN.out; omega)))
      clear hlt
      go_wp2_with fail
      go_ret
      exact ⟨ret_bool HF.out.symm, hb.out⟩
end Go.Proofs.YtcidfmmeonhkhaaGreatDoor.Row
