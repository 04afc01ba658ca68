/- Contracts and mathematics, joined: TrustPolicyK, TrustA, Ring. No conditions but those that each states. -/
import Derived.Test.YtcidfmmeonhkhaaB4
import Derived.Test.YtcidfmmeonhkhaaB5
import Derived.Test.YtcidfmmeonhkhaaB6
import Derived.Test.YtcidfmmeonhkhaaB8
import Derived.WalkKit
import Derived.Deep.RegionHeld3
import Derived.Test.YtcidfmmeonhkhaaB2
/- The policy of trust in the words of kinds: the kind; sz, to, eq, mark, held. No conditions but that lengths fit. -/
namespace Go.Proofs.Ytcidfmmeonhkhaa.Row
open Go.ChangeShapes Go.WideShapes Go.ChangeAt Go.RowKit Go.Instr
set_option linter.unusedVariables false
set_option maxRecDepth 100000

abbrev Tpt := List Kyt × List Rlt × List Nnt × List Dzt
set_option synthInstance.maxSize 100000 in
instance : DecidableEq Tpt := inferInstance
abbrev Tpm := Rw Kym × Rw Rlm × Rw Nnm × Rw Dzm
def kTp : Kd Tpt Tpm := (kLKy.pair (kLRl.pair (kLNn.pair kLDz)))
theorem aggTp : Ret.AggOf Try.prog 35 4 := ⟨by kernel_rfl, by kernel_rfl⟩
def wtTp (x : Tpt) : Nat := bulkK wtKy x.1 + bulkK wtRl x.2.1 + bulkK wtNn x.2.2.1 + bulkK wtDz x.2.2.2
def adTp (x : Tpt) : Nat := bulkK adKy x.1 + bulkK adRl x.2.1 + bulkK adNn x.2.2.1 + bulkK adDz x.2.2.2
def okTp (x : Tpt) : Prop := okLKy x.1 ∧ okLRl x.2.1 ∧ okLNn x.2.2.1 ∧ okLDz x.2.2.2
section
variable {w : World} {V : Value} {x : Tpt} {B E : Nat}
theorem kTp_at (h : kTp.At w V x) : ∃ (x0_0 : Option Addr) (n0_0 c0_0 : Nat) (x1_0 : Option Addr) (n1_0 c1_0 : Nat) (x2_0 : Option Addr) (n2_0 c2_0 : Nat) (x3_0 : Option Addr) (n3_0 c3_0 : Nat), V = .agg #[.slice x0_0 n0_0 c0_0, .slice x1_0 n1_0 c1_0, .slice x2_0 n2_0 c2_0, .slice x3_0 n3_0 c3_0] ∧ kLKy.At w (.slice x0_0 n0_0 c0_0) x.1 ∧ kLRl.At w (.slice x1_0 n1_0 c1_0) x.2.1 ∧ kLNn.At w (.slice x2_0 n2_0 c2_0) x.2.2.1 ∧ kLDz.At w (.slice x3_0 n3_0 c3_0) x.2.2.2 := by
  obtain ⟨⟨m0, m1, m2, m3⟩, rfl, rfl, g0, g1, g2, g3⟩ := h
  obtain ⟨x0_0, n0_0, c0_0, e0, a0⟩ := kLKy_shapeA (Kd.at_of (k := kLKy) g0)
  have d0 : kLKy.cells m0 = [.slice x0_0 n0_0 c0_0] := by show [kLKy.val m0] = _; rw [e0]
  obtain ⟨x1_0, n1_0, c1_0, e1, a1⟩ := kLRl_shapeA (Kd.at_of (k := kLRl) g1)
  have d1 : kLRl.cells m1 = [.slice x1_0 n1_0 c1_0] := by show [kLRl.val m1] = _; rw [e1]
  obtain ⟨x2_0, n2_0, c2_0, e2, a2⟩ := kLNn_shapeA (Kd.at_of (k := kLNn) g2)
  have d2 : kLNn.cells m2 = [.slice x2_0 n2_0 c2_0] := by show [kLNn.val m2] = _; rw [e2]
  obtain ⟨x3_0, n3_0, c3_0, e3, a3⟩ := kLDz_shapeA (Kd.at_of (k := kLDz) g3)
  have d3 : kLDz.cells m3 = [.slice x3_0 n3_0 c3_0] := by show [kLDz.val m3] = _; rw [e3]
  refine ⟨x0_0, n0_0, c0_0, x1_0, n1_0, c1_0, x2_0, n2_0, c2_0, x3_0, n3_0, c3_0, ?_, e0 ▸ Kd.at_of (k := kLKy) g0, e1 ▸ Kd.at_of (k := kLRl) g1, e2 ▸ Kd.at_of (k := kLNn) g2, e3 ▸ Kd.at_of (k := kLDz) g3⟩
  show Value.agg ((kLKy.cells m0 ++ (kLRl.cells m1 ++ (kLNn.cells m2 ++ (kLDz.cells m3))))).toArray = _
  rw [d0, d1, d2, d3]
  rfl
theorem kTp_shapeA (h : kTp.At w V x) : ∃ (x0_0 : Option Addr) (n0_0 c0_0 : Nat) (x1_0 : Option Addr) (n1_0 c1_0 : Nat) (x2_0 : Option Addr) (n2_0 c2_0 : Nat) (x3_0 : Option Addr) (n3_0 c3_0 : Nat), V = .agg #[.slice x0_0 n0_0 c0_0, .slice x1_0 n1_0 c1_0, .slice x2_0 n2_0 c2_0, .slice x3_0 n3_0 c3_0] ∧ kTp.At w (.agg #[.slice x0_0 n0_0 c0_0, .slice x1_0 n1_0 c1_0, .slice x2_0 n2_0 c2_0, .slice x3_0 n3_0 c3_0]) x := by
  obtain ⟨x0_0, n0_0, c0_0, x1_0, n1_0, c1_0, x2_0, n2_0, c2_0, x3_0, n3_0, c3_0, rfl, -⟩ := kTp_at h
  exact ⟨x0_0, n0_0, c0_0, x1_0, n1_0, c1_0, x2_0, n2_0, c2_0, x3_0, n3_0, c3_0, rfl, h⟩
theorem kTp_shape (h : kTp.In B E w V x) : ∃ (x0_0 : Option Addr) (n0_0 c0_0 : Nat) (x1_0 : Option Addr) (n1_0 c1_0 : Nat) (x2_0 : Option Addr) (n2_0 c2_0 : Nat) (x3_0 : Option Addr) (n3_0 c3_0 : Nat), V = .agg #[.slice x0_0 n0_0 c0_0, .slice x1_0 n1_0 c1_0, .slice x2_0 n2_0 c2_0, .slice x3_0 n3_0 c3_0] ∧ kTp.In B E w (.agg #[.slice x0_0 n0_0 c0_0, .slice x1_0 n1_0 c1_0, .slice x2_0 n2_0 c2_0, .slice x3_0 n3_0 c3_0]) x := by
  obtain ⟨x0_0, n0_0, c0_0, x1_0, n1_0, c1_0, x2_0, n2_0, c2_0, x3_0, n3_0, c3_0, rfl, -⟩ := kTp_at h.at
  exact ⟨x0_0, n0_0, c0_0, x1_0, n1_0, c1_0, x2_0, n2_0, c2_0, x3_0, n3_0, c3_0, rfl, h⟩
end
set_option maxHeartbeats 4000000 in
theorem szTrustPolicyK (V : Value) (x : Tpt) (w : World) (left : Int) (h : kTp.At w V x) (hp : okTp x) (h0 : 0 ≤ left) (hl : left ≤ 1048576) :
    Calls Try.prog 8 #[V, .int .i64 left] w fun e w' => e = .returned (.int .i64 (szW (wtTp x) left)) ∧ Below w.heap.size w w' := by
  obtain ⟨x0_0, n0_0, c0_0, x1_0, n1_0, c1_0, x2_0, n2_0, c2_0, x3_0, n3_0, c3_0, rfl, g0, g1, g2, g3⟩ := kTp_at h
  obtain ⟨l0, l1, l2, l3⟩ := x
  obtain ⟨p0, p1, p2, p3⟩ := hp
  have HB := Lib.hid ((Below.refl w.heap.size w).alloc (Nat.le_refl _) (.cells #[.slice x0_0 n0_0 c0_0, .slice x1_0 n1_0 c1_0, .slice x2_0 n2_0 c2_0, .slice x3_0 n3_0 c3_0] 27))
  have HX := Lib.hid (Ret.Blk.new w #[.slice x0_0 n0_0 c0_0, .slice x1_0 n1_0 c1_0, .slice x2_0 n2_0 c2_0, .slice x3_0 n3_0 c3_0] 27)
  have G0 := Lib.hid g0; have P0 := Lib.hid p0
  have G1 := Lib.hid g1; have P1 := Lib.hid p1
  have G2 := Lib.hid g2; have P2 := Lib.hid p2
  have G3 := Lib.hid g3; have P3 := Lib.hid p3
  dsimp only at G0 P0 G1 P1 G2 P2 G3 P3 ⊢
  clear g0 p0 g1 p1 g2 p2 g3 p3 h
  go_enter Try.func8, Try.ntmps8
  go_wp2_with fail
  refine (szKeySF _ l0 _ (left) (G0.out.on HB.out) P0.out (by omega) (by omega)).mono ?_
  rintro e w1 ⟨rfl, hb⟩
  replace HX := Lib.hid (HX.out.on hb)
  replace HB := Lib.hid (HB.out.trans (hb.mono HB.out.size)); clear hb
  have q0 : w1.cell? ⟨w.heap.size, 0, none⟩ = some (.slice x0_0 n0_0 c0_0) := HX.out.cell 0
  have q1 : w1.cell? ⟨w.heap.size, 1, none⟩ = some (.slice x1_0 n1_0 c1_0) := HX.out.cell 1
  have q2 : w1.cell? ⟨w.heap.size, 2, none⟩ = some (.slice x2_0 n2_0 c2_0) := HX.out.cell 2
  have q3 : w1.cell? ⟨w.heap.size, 3, none⟩ = some (.slice x3_0 n3_0 c3_0) := HX.out.cell 3
  by_cases t0 : ((bulkK wtKy l0) : Int) ≤ left
  · rw [szW_fit t0]
    have b0 : ¬ left - ((bulkK wtKy l0) : Int) < 0 := by omega
    go_wp2_with fail
    clear q0 q1 q2 q3
    refine (szRuleSF _ l1 _ (left - ((bulkK wtKy l0) : Int)) (G1.out.on HB.out) P1.out (by omega) (by omega)).mono ?_
    rintro e w2 ⟨rfl, hb⟩
    replace HX := Lib.hid (HX.out.on hb)
    replace HB := Lib.hid (HB.out.trans (hb.mono HB.out.size)); clear hb
    have q0 : w2.cell? ⟨w.heap.size, 0, none⟩ = some (.slice x0_0 n0_0 c0_0) := HX.out.cell 0
    have q1 : w2.cell? ⟨w.heap.size, 1, none⟩ = some (.slice x1_0 n1_0 c1_0) := HX.out.cell 1
    have q2 : w2.cell? ⟨w.heap.size, 2, none⟩ = some (.slice x2_0 n2_0 c2_0) := HX.out.cell 2
    have q3 : w2.cell? ⟨w.heap.size, 3, none⟩ = some (.slice x3_0 n3_0 c3_0) := HX.out.cell 3
    by_cases t1 : ((bulkK wtRl l1) : Int) ≤ left - ((bulkK wtKy l0) : Int)
    · rw [szW_fit t1]
      have b1 : ¬ left - ((bulkK wtKy l0) : Int) - ((bulkK wtRl l1) : Int) < 0 := by omega
      go_wp2_with fail
      clear q0 q1 q2 q3
      refine (szNameSF _ l2 _ (left - ((bulkK wtKy l0) : Int) - ((bulkK wtRl l1) : Int)) (G2.out.on HB.out) P2.out (by omega) (by omega)).mono ?_
      rintro e w3 ⟨rfl, hb⟩
      replace HX := Lib.hid (HX.out.on hb)
      replace HB := Lib.hid (HB.out.trans (hb.mono HB.out.size)); clear hb
      have q0 : w3.cell? ⟨w.heap.size, 0, none⟩ = some (.slice x0_0 n0_0 c0_0) := HX.out.cell 0
      have q1 : w3.cell? ⟨w.heap.size, 1, none⟩ = some (.slice x1_0 n1_0 c1_0) := HX.out.cell 1
      have q2 : w3.cell? ⟨w.heap.size, 2, none⟩ = some (.slice x2_0 n2_0 c2_0) := HX.out.cell 2
      have q3 : w3.cell? ⟨w.heap.size, 3, none⟩ = some (.slice x3_0 n3_0 c3_0) := HX.out.cell 3
      by_cases t2 : ((bulkK wtNn l2) : Int) ≤ left - ((bulkK wtKy l0) : Int) - ((bulkK wtRl l1) : Int)
      · rw [szW_fit t2]
        have b2 : ¬ left - ((bulkK wtKy l0) : Int) - ((bulkK wtRl l1) : Int) - ((bulkK wtNn l2) : Int) < 0 := by omega
        go_wp2_with fail
        clear q0 q1 q2 q3
        refine (szDataSF _ l3 _ (left - ((bulkK wtKy l0) : Int) - ((bulkK wtRl l1) : Int) - ((bulkK wtNn l2) : Int)) (G3.out.on HB.out) P3.out (by omega) (by omega)).mono ?_
        rintro e w4 ⟨rfl, hb⟩
        replace HX := Lib.hid (HX.out.on hb)
        replace HB := Lib.hid (HB.out.trans (hb.mono HB.out.size)); clear hb
        have q0 : w4.cell? ⟨w.heap.size, 0, none⟩ = some (.slice x0_0 n0_0 c0_0) := HX.out.cell 0
        have q1 : w4.cell? ⟨w.heap.size, 1, none⟩ = some (.slice x1_0 n1_0 c1_0) := HX.out.cell 1
        have q2 : w4.cell? ⟨w.heap.size, 2, none⟩ = some (.slice x2_0 n2_0 c2_0) := HX.out.cell 2
        have q3 : w4.cell? ⟨w.heap.size, 3, none⟩ = some (.slice x3_0 n3_0 c3_0) := HX.out.cell 3
        by_cases t3 : ((bulkK wtDz l3) : Int) ≤ left - ((bulkK wtKy l0) : Int) - ((bulkK wtRl l1) : Int) - ((bulkK wtNn l2) : Int)
        · rw [szW_fit t3]
          have b3 : ¬ left - ((bulkK wtKy l0) : Int) - ((bulkK wtRl l1) : Int) - ((bulkK wtNn l2) : Int) - ((bulkK wtDz l3) : Int) < 0 := by omega
          have HZ : Hid (szW (((bulkK wtKy l0) + (bulkK wtRl l1) + (bulkK wtNn l2) + (bulkK wtDz l3))) left = left - ((bulkK wtKy l0) : Int) - ((bulkK wtRl l1) : Int) - ((bulkK wtNn l2) : Int) - ((bulkK wtDz l3) : Int)) := Lib.hid (by rw [szW_fit (by omega)]; (try omega))
          go_wp2
          go_ret
          exact ⟨ret_int HZ.out.symm, HB.out⟩
        · rw [szW_not t3]
          have HZ : Hid (szW (((bulkK wtKy l0) + (bulkK wtRl l1) + (bulkK wtNn l2) + (bulkK wtDz l3))) left = -1) := Lib.hid (szW_not (by omega))
          go_wp2
          go_ret
          exact ⟨ret_int HZ.out.symm, HB.out⟩
      · rw [szW_not t2]
        have HZ : Hid (szW (((bulkK wtKy l0) + (bulkK wtRl l1) + (bulkK wtNn l2) + (bulkK wtDz l3))) left = -1) := Lib.hid (szW_not (by omega))
        go_wp2
        go_ret
        exact ⟨ret_int HZ.out.symm, HB.out⟩
    · rw [szW_not t1]
      have HZ : Hid (szW (((bulkK wtKy l0) + (bulkK wtRl l1) + (bulkK wtNn l2) + (bulkK wtDz l3))) left = -1) := Lib.hid (szW_not (by omega))
      go_wp2
      go_ret
      exact ⟨ret_int HZ.out.symm, HB.out⟩
  · rw [szW_not t0]
    have HZ : Hid (szW (((bulkK wtKy l0) + (bulkK wtRl l1) + (bulkK wtNn l2) + (bulkK wtDz l3))) left = -1) := Lib.hid (szW_not (by omega))
    go_wp2
    go_ret
    exact ⟨ret_int HZ.out.symm, HB.out⟩
set_option maxHeartbeats 4000000 in
theorem toTrustPolicyK (V : Value) (x : Tpt) (w : World) (h : kTp.At w V x) (hp : adTp x ≤ 100000000) :
    Calls Try.prog 10 #[V] w fun e w' => ∃ U, e = .returned U ∧ kTp.In w.heap.size w'.heap.size w' U x ∧ Below w.heap.size w w' := by
  obtain ⟨x0_0, n0_0, c0_0, x1_0, n1_0, c1_0, x2_0, n2_0, c2_0, x3_0, n3_0, c3_0, rfl, g0, g1, g2, g3⟩ := kTp_at h
  obtain ⟨l0, l1, l2, l3⟩ := x
  have hp9 : bulkK adKy l0 + bulkK adRl l1 + bulkK adNn l2 + bulkK adDz l3 ≤ 100000000 := hp
  have hb0 := (Below.refl w.heap.size w).alloc (Nat.le_refl _) (.cells #[.slice x0_0 n0_0 c0_0, .slice x1_0 n1_0 c1_0, .slice x2_0 n2_0 c2_0, .slice x3_0 n3_0 c3_0] 27)
  have hb1 := hb0.alloc (by simp) (.cells #[.slice none 0 0, .slice none 0 0, .slice none 0 0, .slice none 0 0] 35)
  have hb2 := hb1.alloc (by simp; omega) (.cells #[.slice none 0 0, .slice none 0 0, .slice none 0 0, .slice none 0 0] 35)
  have HB := Lib.hid hb2
  have HX := Lib.hid (((Ret.Blk.new w #[.slice x0_0 n0_0 c0_0, .slice x1_0 n1_0 c1_0, .slice x2_0 n2_0 c2_0, .slice x3_0 n3_0 c3_0] 27).on ((Below.refl _ _).alloc (Nat.le_refl _) (.cells #[.slice none 0 0, .slice none 0 0, .slice none 0 0, .slice none 0 0] 35))).on ((Below.refl _ _).alloc (Nat.le_refl _) (.cells #[.slice none 0 0, .slice none 0 0, .slice none 0 0, .slice none 0 0] 35)))
  have HR := Lib.hid ((Ret.Blk.new' (w := (w.alloc (.cells #[.slice x0_0 n0_0 c0_0, .slice x1_0 n1_0 c1_0, .slice x2_0 n2_0 c2_0, .slice x3_0 n3_0 c3_0] 27))) (n := w.heap.size + 1) #[.slice none 0 0, .slice none 0 0, .slice none 0 0, .slice none 0 0] 35 (by simp)).on ((Below.refl _ _).alloc (Nat.le_refl _) (.cells #[.slice none 0 0, .slice none 0 0, .slice none 0 0, .slice none 0 0] 35)))
  have HL := Lib.hid (Ret.Blk.new' (w := (w.alloc (.cells #[.slice x0_0 n0_0 c0_0, .slice x1_0 n1_0 c1_0, .slice x2_0 n2_0 c2_0, .slice x3_0 n3_0 c3_0] 27)).alloc (.cells #[.slice none 0 0, .slice none 0 0, .slice none 0 0, .slice none 0 0] 35)) (n := w.heap.size + 1 + 1) #[.slice none 0 0, .slice none 0 0, .slice none 0 0, .slice none 0 0] 35 (by simp))
  have hz0 : (((w.alloc (.cells #[.slice x0_0 n0_0 c0_0, .slice x1_0 n1_0 c1_0, .slice x2_0 n2_0 c2_0, .slice x3_0 n3_0 c3_0] 27)).alloc (.cells #[.slice none 0 0, .slice none 0 0, .slice none 0 0, .slice none 0 0] 35)).alloc (.cells #[.slice none 0 0, .slice none 0 0, .slice none 0 0, .slice none 0 0] 35)).heap.size = w.heap.size + 3 := by simp
  have G0 := Lib.hid g0
  have G1 := Lib.hid g1
  have G2 := Lib.hid g2
  have G3 := Lib.hid g3
  dsimp only at G0 G1 G2 G3 ⊢
  clear h hp hb0 hb1 hb2 g0 g1 g2 g3
  go_enter Try.func10, Try.ntmps10
  go_wp2_with fail
  refine (toKeySF _ l0 _ (G0.out.on HB.out) (by omega)).mono ?_
  rintro e w1 ⟨U0, rfl, ho, hb⟩
  have hs0 := hb.size
  obtain ⟨m0, rfl, r0, ho⟩ := ho.split
  obtain ⟨xy0_0, ny0_0, cy0_0, e0, -⟩ := kLKy_shapeA (Kd.at_of (k := kLKy) ho.holds)
  have d0 : kLKy.cells m0 = [.slice xy0_0 ny0_0 cy0_0] := by show [kLKy.val m0] = _; rw [e0]
  rw [e0]
  rw [hz0] at ho hs0; clear hz0
  replace HX := Lib.hid (HX.out.on hb); replace HR := Lib.hid (HR.out.on hb); replace HL := Lib.hid (HL.out.on hb)
  replace HB := Lib.hid (HB.out.trans (hb.mono HB.out.size)); clear hb
  have O0 := Lib.hid ho; clear ho
  have E0 := Lib.hid e0; have D0 := Lib.hid d0; have R0 := Lib.hid r0; clear e0 d0 r0
  have q0 : w1.cell? ⟨w.heap.size, 0, none⟩ = some (.slice x0_0 n0_0 c0_0) := HX.out.cell 0
  have q1 : w1.cell? ⟨w.heap.size, 1, none⟩ = some (.slice x1_0 n1_0 c1_0) := HX.out.cell 1
  have q2 : w1.cell? ⟨w.heap.size, 2, none⟩ = some (.slice x2_0 n2_0 c2_0) := HX.out.cell 2
  have q3 : w1.cell? ⟨w.heap.size, 3, none⟩ = some (.slice x3_0 n3_0 c3_0) := HX.out.cell 3
  have p0 : w1.cell? ⟨w.heap.size + 1 + 1, 0, none⟩ = some (.slice none 0 0) := HL.out.cell 0
  have p1 : w1.cell? ⟨w.heap.size + 1 + 1, 1, none⟩ = some (.slice none 0 0) := HL.out.cell 1
  have p2 : w1.cell? ⟨w.heap.size + 1 + 1, 2, none⟩ = some (.slice none 0 0) := HL.out.cell 2
  have p3 : w1.cell? ⟨w.heap.size + 1 + 1, 3, none⟩ = some (.slice none 0 0) := HL.out.cell 3
  have t0 := HL.out.frozen 0; have t1 := HL.out.frozen 1; have t2 := HL.out.frozen 2; have t3 := HL.out.frozen 3
  go_wp2_with fail
  clear q0 q1 q2 q3 p0 p1 p2 p3 t0 t1 t2 t3
  replace HX := Lib.hid (HX.out.other (a := ⟨w.heap.size + 1 + 1, 0, none⟩) (by show w.heap.size + 1 + 1 ≠ w.heap.size; omega) (.slice xy0_0 ny0_0 cy0_0))
  replace HR := Lib.hid (HR.out.other (a := ⟨w.heap.size + 1 + 1, 0, none⟩) (by show w.heap.size + 1 + 1 ≠ w.heap.size + 1; omega) (.slice xy0_0 ny0_0 cy0_0))
  replace HL := Lib.hid (HL.out.set 0 (.slice xy0_0 ny0_0 cy0_0))
  replace HB := Lib.hid (HB.out.setCell (p := ⟨w.heap.size + 1 + 1, 0, none⟩) (by show w.heap.size ≤ w.heap.size + 1 + 1; omega) (.slice xy0_0 ny0_0 cy0_0))
  replace O0 := Lib.hid (Kd.Own.set (g := w.heap.size + 1 + 1) (i := 0) (u := .slice xy0_0 ny0_0 cy0_0) O0.out (by omega))
  refine (toRuleSF _ l1 _ (G1.out.on HB.out) (by omega)).mono ?_
  rintro e w2 ⟨U1, rfl, ho, hb⟩
  have hs1 := hb.size
  obtain ⟨m1, rfl, r1, ho⟩ := ho.split
  obtain ⟨xy1_0, ny1_0, cy1_0, e1, -⟩ := kLRl_shapeA (Kd.at_of (k := kLRl) ho.holds)
  have d1 : kLRl.cells m1 = [.slice xy1_0 ny1_0 cy1_0] := by show [kLRl.val m1] = _; rw [e1]
  rw [e1]
  simp only [World.size_setCell] at hs1 ho
  replace HX := Lib.hid (HX.out.on hb); replace HR := Lib.hid (HR.out.on hb); replace HL := Lib.hid (HL.out.on hb)
  replace O0 := Lib.hid (O0.out.on hb)
  replace HB := Lib.hid (HB.out.trans (hb.mono HB.out.size)); clear hb
  have O1 := Lib.hid ho; clear ho
  have E1 := Lib.hid e1; have D1 := Lib.hid d1; have R1 := Lib.hid r1; clear e1 d1 r1
  have q0 : w2.cell? ⟨w.heap.size, 0, none⟩ = some (.slice x0_0 n0_0 c0_0) := HX.out.cell 0
  have q1 : w2.cell? ⟨w.heap.size, 1, none⟩ = some (.slice x1_0 n1_0 c1_0) := HX.out.cell 1
  have q2 : w2.cell? ⟨w.heap.size, 2, none⟩ = some (.slice x2_0 n2_0 c2_0) := HX.out.cell 2
  have q3 : w2.cell? ⟨w.heap.size, 3, none⟩ = some (.slice x3_0 n3_0 c3_0) := HX.out.cell 3
  have p0 : w2.cell? ⟨w.heap.size + 1 + 1, 0, none⟩ = some (.slice xy0_0 ny0_0 cy0_0) := HL.out.cell 0
  have p1 : w2.cell? ⟨w.heap.size + 1 + 1, 1, none⟩ = some (.slice none 0 0) := HL.out.cell 1
  have p2 : w2.cell? ⟨w.heap.size + 1 + 1, 2, none⟩ = some (.slice none 0 0) := HL.out.cell 2
  have p3 : w2.cell? ⟨w.heap.size + 1 + 1, 3, none⟩ = some (.slice none 0 0) := HL.out.cell 3
  have t0 := HL.out.frozen 0; have t1 := HL.out.frozen 1; have t2 := HL.out.frozen 2; have t3 := HL.out.frozen 3
  go_wp2_with fail
  clear q0 q1 q2 q3 p0 p1 p2 p3 t0 t1 t2 t3
  replace HX := Lib.hid (HX.out.other (a := ⟨w.heap.size + 1 + 1, 1, none⟩) (by show w.heap.size + 1 + 1 ≠ w.heap.size; omega) (.slice xy1_0 ny1_0 cy1_0))
  replace HR := Lib.hid (HR.out.other (a := ⟨w.heap.size + 1 + 1, 1, none⟩) (by show w.heap.size + 1 + 1 ≠ w.heap.size + 1; omega) (.slice xy1_0 ny1_0 cy1_0))
  replace HL := Lib.hid (HL.out.set 1 (.slice xy1_0 ny1_0 cy1_0))
  replace HB := Lib.hid (HB.out.setCell (p := ⟨w.heap.size + 1 + 1, 1, none⟩) (by show w.heap.size ≤ w.heap.size + 1 + 1; omega) (.slice xy1_0 ny1_0 cy1_0))
  replace O0 := Lib.hid (Kd.Own.set (g := w.heap.size + 1 + 1) (i := 1) (u := .slice xy1_0 ny1_0 cy1_0) O0.out (by omega))
  replace O1 := Lib.hid (Kd.Own.set (g := w.heap.size + 1 + 1) (i := 1) (u := .slice xy1_0 ny1_0 cy1_0) O1.out (by omega))
  refine (toNameSF _ l2 _ (G2.out.on HB.out) (by omega)).mono ?_
  rintro e w3 ⟨U2, rfl, ho, hb⟩
  have hs2 := hb.size
  obtain ⟨m2, rfl, r2, ho⟩ := ho.split
  obtain ⟨xy2_0, ny2_0, cy2_0, e2, -⟩ := kLNn_shapeA (Kd.at_of (k := kLNn) ho.holds)
  have d2 : kLNn.cells m2 = [.slice xy2_0 ny2_0 cy2_0] := by show [kLNn.val m2] = _; rw [e2]
  rw [e2]
  simp only [World.size_setCell] at hs2 ho
  replace HX := Lib.hid (HX.out.on hb); replace HR := Lib.hid (HR.out.on hb); replace HL := Lib.hid (HL.out.on hb)
  replace O0 := Lib.hid (O0.out.on hb)
  replace O1 := Lib.hid (O1.out.on hb)
  replace HB := Lib.hid (HB.out.trans (hb.mono HB.out.size)); clear hb
  have O2 := Lib.hid ho; clear ho
  have E2 := Lib.hid e2; have D2 := Lib.hid d2; have R2 := Lib.hid r2; clear e2 d2 r2
  have q0 : w3.cell? ⟨w.heap.size, 0, none⟩ = some (.slice x0_0 n0_0 c0_0) := HX.out.cell 0
  have q1 : w3.cell? ⟨w.heap.size, 1, none⟩ = some (.slice x1_0 n1_0 c1_0) := HX.out.cell 1
  have q2 : w3.cell? ⟨w.heap.size, 2, none⟩ = some (.slice x2_0 n2_0 c2_0) := HX.out.cell 2
  have q3 : w3.cell? ⟨w.heap.size, 3, none⟩ = some (.slice x3_0 n3_0 c3_0) := HX.out.cell 3
  have p0 : w3.cell? ⟨w.heap.size + 1 + 1, 0, none⟩ = some (.slice xy0_0 ny0_0 cy0_0) := HL.out.cell 0
  have p1 : w3.cell? ⟨w.heap.size + 1 + 1, 1, none⟩ = some (.slice xy1_0 ny1_0 cy1_0) := HL.out.cell 1
  have p2 : w3.cell? ⟨w.heap.size + 1 + 1, 2, none⟩ = some (.slice none 0 0) := HL.out.cell 2
  have p3 : w3.cell? ⟨w.heap.size + 1 + 1, 3, none⟩ = some (.slice none 0 0) := HL.out.cell 3
  have t0 := HL.out.frozen 0; have t1 := HL.out.frozen 1; have t2 := HL.out.frozen 2; have t3 := HL.out.frozen 3
  go_wp2_with fail
  clear q0 q1 q2 q3 p0 p1 p2 p3 t0 t1 t2 t3
  replace HX := Lib.hid (HX.out.other (a := ⟨w.heap.size + 1 + 1, 2, none⟩) (by show w.heap.size + 1 + 1 ≠ w.heap.size; omega) (.slice xy2_0 ny2_0 cy2_0))
  replace HR := Lib.hid (HR.out.other (a := ⟨w.heap.size + 1 + 1, 2, none⟩) (by show w.heap.size + 1 + 1 ≠ w.heap.size + 1; omega) (.slice xy2_0 ny2_0 cy2_0))
  replace HL := Lib.hid (HL.out.set 2 (.slice xy2_0 ny2_0 cy2_0))
  replace HB := Lib.hid (HB.out.setCell (p := ⟨w.heap.size + 1 + 1, 2, none⟩) (by show w.heap.size ≤ w.heap.size + 1 + 1; omega) (.slice xy2_0 ny2_0 cy2_0))
  replace O0 := Lib.hid (Kd.Own.set (g := w.heap.size + 1 + 1) (i := 2) (u := .slice xy2_0 ny2_0 cy2_0) O0.out (by omega))
  replace O1 := Lib.hid (Kd.Own.set (g := w.heap.size + 1 + 1) (i := 2) (u := .slice xy2_0 ny2_0 cy2_0) O1.out (by omega))
  replace O2 := Lib.hid (Kd.Own.set (g := w.heap.size + 1 + 1) (i := 2) (u := .slice xy2_0 ny2_0 cy2_0) O2.out (by omega))
  refine (toDataSF _ l3 _ (G3.out.on HB.out) (by omega)).mono ?_
  rintro e w4 ⟨U3, rfl, ho, hb⟩
  have hs3 := hb.size
  obtain ⟨m3, rfl, r3, ho⟩ := ho.split
  obtain ⟨xy3_0, ny3_0, cy3_0, e3, -⟩ := kLDz_shapeA (Kd.at_of (k := kLDz) ho.holds)
  have d3 : kLDz.cells m3 = [.slice xy3_0 ny3_0 cy3_0] := by show [kLDz.val m3] = _; rw [e3]
  rw [e3]
  simp only [World.size_setCell] at hs3 ho
  replace HX := Lib.hid (HX.out.on hb); replace HR := Lib.hid (HR.out.on hb); replace HL := Lib.hid (HL.out.on hb)
  replace O0 := Lib.hid (O0.out.on hb)
  replace O1 := Lib.hid (O1.out.on hb)
  replace O2 := Lib.hid (O2.out.on hb)
  replace HB := Lib.hid (HB.out.trans (hb.mono HB.out.size)); clear hb
  have O3 := Lib.hid ho; clear ho
  have E3 := Lib.hid e3; have D3 := Lib.hid d3; have R3 := Lib.hid r3; clear e3 d3 r3
  have q0 : w4.cell? ⟨w.heap.size, 0, none⟩ = some (.slice x0_0 n0_0 c0_0) := HX.out.cell 0
  have q1 : w4.cell? ⟨w.heap.size, 1, none⟩ = some (.slice x1_0 n1_0 c1_0) := HX.out.cell 1
  have q2 : w4.cell? ⟨w.heap.size, 2, none⟩ = some (.slice x2_0 n2_0 c2_0) := HX.out.cell 2
  have q3 : w4.cell? ⟨w.heap.size, 3, none⟩ = some (.slice x3_0 n3_0 c3_0) := HX.out.cell 3
  have p0 : w4.cell? ⟨w.heap.size + 1 + 1, 0, none⟩ = some (.slice xy0_0 ny0_0 cy0_0) := HL.out.cell 0
  have p1 : w4.cell? ⟨w.heap.size + 1 + 1, 1, none⟩ = some (.slice xy1_0 ny1_0 cy1_0) := HL.out.cell 1
  have p2 : w4.cell? ⟨w.heap.size + 1 + 1, 2, none⟩ = some (.slice xy2_0 ny2_0 cy2_0) := HL.out.cell 2
  have p3 : w4.cell? ⟨w.heap.size + 1 + 1, 3, none⟩ = some (.slice none 0 0) := HL.out.cell 3
  have t0 := HL.out.frozen 0; have t1 := HL.out.frozen 1; have t2 := HL.out.frozen 2; have t3 := HL.out.frozen 3
  have r0 : w4.cell? ⟨w.heap.size + 1, 0, none⟩ = some (.slice none 0 0) := HR.out.cell 0
  have r1 : w4.cell? ⟨w.heap.size + 1, 1, none⟩ = some (.slice none 0 0) := HR.out.cell 1
  have r2 : w4.cell? ⟨w.heap.size + 1, 2, none⟩ = some (.slice none 0 0) := HR.out.cell 2
  have r3 : w4.cell? ⟨w.heap.size + 1, 3, none⟩ = some (.slice none 0 0) := HR.out.cell 3
  have u0 := HR.out.frozen 0; have u1 := HR.out.frozen 1; have u2 := HR.out.frozen 2; have u3 := HR.out.frozen 3
  have Z := Lib.hid (((((HR.out.other (a := ⟨w.heap.size + 1 + 1, 3, none⟩) (by show w.heap.size + 1 + 1 ≠ w.heap.size + 1; omega) (.slice xy3_0 ny3_0 cy3_0)).set 0 (.slice xy0_0 ny0_0 cy0_0)).set 1 (.slice xy1_0 ny1_0 cy1_0)).set 2 (.slice xy2_0 ny2_0 cy2_0)).set 3 (.slice xy3_0 ny3_0 cy3_0))
  have ZB := Lib.hid (((((HB.out.setCell (p := ⟨w.heap.size + 1 + 1, 3, none⟩) (by show w.heap.size ≤ w.heap.size + 1 + 1; omega) (.slice xy3_0 ny3_0 cy3_0)).setCell (p := ⟨w.heap.size + 1, 0, none⟩) (by show w.heap.size ≤ w.heap.size + 1; omega) (.slice xy0_0 ny0_0 cy0_0)).setCell (p := ⟨w.heap.size + 1, 1, none⟩) (by show w.heap.size ≤ w.heap.size + 1; omega) (.slice xy1_0 ny1_0 cy1_0)).setCell (p := ⟨w.heap.size + 1, 2, none⟩) (by show w.heap.size ≤ w.heap.size + 1; omega) (.slice xy2_0 ny2_0 cy2_0)).setCell (p := ⟨w.heap.size + 1, 3, none⟩) (by show w.heap.size ≤ w.heap.size + 1; omega) (.slice xy3_0 ny3_0 cy3_0))
  have Z0 := Lib.hid (Kd.Own.set (g := w.heap.size + 1) (i := 3) (u := .slice xy3_0 ny3_0 cy3_0) (Kd.Own.set (g := w.heap.size + 1) (i := 2) (u := .slice xy2_0 ny2_0 cy2_0) (Kd.Own.set (g := w.heap.size + 1) (i := 1) (u := .slice xy1_0 ny1_0 cy1_0) (Kd.Own.set (g := w.heap.size + 1) (i := 0) (u := .slice xy0_0 ny0_0 cy0_0) (Kd.Own.set (g := w.heap.size + 1 + 1) (i := 3) (u := .slice xy3_0 ny3_0 cy3_0) O0.out (by omega)) (by omega)) (by omega)) (by omega)) (by omega))
  have Z1 := Lib.hid (Kd.Own.set (g := w.heap.size + 1) (i := 3) (u := .slice xy3_0 ny3_0 cy3_0) (Kd.Own.set (g := w.heap.size + 1) (i := 2) (u := .slice xy2_0 ny2_0 cy2_0) (Kd.Own.set (g := w.heap.size + 1) (i := 1) (u := .slice xy1_0 ny1_0 cy1_0) (Kd.Own.set (g := w.heap.size + 1) (i := 0) (u := .slice xy0_0 ny0_0 cy0_0) (Kd.Own.set (g := w.heap.size + 1 + 1) (i := 3) (u := .slice xy3_0 ny3_0 cy3_0) O1.out (by omega)) (by omega)) (by omega)) (by omega)) (by omega))
  have Z2 := Lib.hid (Kd.Own.set (g := w.heap.size + 1) (i := 3) (u := .slice xy3_0 ny3_0 cy3_0) (Kd.Own.set (g := w.heap.size + 1) (i := 2) (u := .slice xy2_0 ny2_0 cy2_0) (Kd.Own.set (g := w.heap.size + 1) (i := 1) (u := .slice xy1_0 ny1_0 cy1_0) (Kd.Own.set (g := w.heap.size + 1) (i := 0) (u := .slice xy0_0 ny0_0 cy0_0) (Kd.Own.set (g := w.heap.size + 1 + 1) (i := 3) (u := .slice xy3_0 ny3_0 cy3_0) O2.out (by omega)) (by omega)) (by omega)) (by omega)) (by omega))
  have Z3 := Lib.hid (Kd.Own.set (g := w.heap.size + 1) (i := 3) (u := .slice xy3_0 ny3_0 cy3_0) (Kd.Own.set (g := w.heap.size + 1) (i := 2) (u := .slice xy2_0 ny2_0 cy2_0) (Kd.Own.set (g := w.heap.size + 1) (i := 1) (u := .slice xy1_0 ny1_0 cy1_0) (Kd.Own.set (g := w.heap.size + 1) (i := 0) (u := .slice xy0_0 ny0_0 cy0_0) (Kd.Own.set (g := w.heap.size + 1 + 1) (i := 3) (u := .slice xy3_0 ny3_0 cy3_0) O3.out (by omega)) (by omega)) (by omega)) (by omega)) (by omega))
  go_wp2_with fail
  refine bodyPost_ret (Ret.results_c rfl _ _ (w.heap.size + 1) [.slice xy0_0 ny0_0 cy0_0, .slice xy1_0 ny1_0 cy1_0, .slice xy2_0 ny2_0 cy2_0, .slice xy3_0 ny3_0 cy3_0] rfl aggTp Z.out.cells) rfl ?_
  have hval : kTp.val (m0, m1, m2, m3) = .agg #[.slice xy0_0 ny0_0 cy0_0, .slice xy1_0 ny1_0 cy1_0, .slice xy2_0 ny2_0 cy2_0, .slice xy3_0 ny3_0 cy3_0] := by
    show Value.agg ((kLKy.cells m0 ++ (kLRl.cells m1 ++ (kLNn.cells m2 ++ (kLDz.cells m3))))).toArray = _
    rw [D0.out, D1.out, D2.out, D3.out]
    rfl
  have hstr : kTp.strip (m0, m1, m2, m3) = (l0, l1, l2, l3) := Prod.ext R0.out (Prod.ext R1.out (Prod.ext R2.out (R3.out)))
  refine ⟨_, rfl, ?_, ZB.out⟩
  rw [← hval, ← hstr]
  refine Kd.Own.in ?_
  exact (Kd.Own.pair (C := w1.heap.size) (Z0.out.mono (by omega) (by omega)) (Kd.Own.pair (C := w2.heap.size) (Z1.out.mono (by omega) (by omega)) (Kd.Own.pair (C := w3.heap.size) (Z2.out.mono (by omega) (by omega)) (Z3.out.mono (by omega) (by simp only [World.size_setCell]; omega)) (by omega) (by simp only [World.size_setCell]; omega)) (by omega) (by simp only [World.size_setCell]; omega)) (by omega) (by simp only [World.size_setCell]; omega))
set_option maxHeartbeats 4000000 in
theorem eqTrustPolicyK (V U : Value) (x y : Tpt) (w : World) (q : Bool) (hq : decide (x = y) = q) (h : kTp.At w V x) (g : kTp.At w U y) (hp : adTp x ≤ 100000000) (hy : adTp y ≤ 100000000) :
    Calls Try.prog 12 #[V, U] w fun e w' => e = .returned (.bool q) ∧ Below w.heap.size w w' := by
  obtain ⟨x0_0, n0_0, c0_0, x1_0, n1_0, c1_0, x2_0, n2_0, c2_0, x3_0, n3_0, c3_0, rfl, g0, g1, g2, g3⟩ := kTp_at h
  obtain ⟨l0, l1, l2, l3⟩ := x
  obtain ⟨xy0_0, ny0_0, cy0_0, xy1_0, ny1_0, cy1_0, xy2_0, ny2_0, cy2_0, xy3_0, ny3_0, cy3_0, rfl, gy0, gy1, gy2, gy3⟩ := kTp_at g
  obtain ⟨ly0, ly1, ly2, ly3⟩ := y
  have hp9 : bulkK adKy l0 + bulkK adRl l1 + bulkK adNn l2 + bulkK adDz l3 ≤ 100000000 := hp
  have hy9 : bulkK adKy ly0 + bulkK adRl ly1 + bulkK adNn ly2 + bulkK adDz ly3 ≤ 100000000 := hy
  have hb0 := (Below.refl w.heap.size w).alloc (Nat.le_refl _) (.cells #[.slice x0_0 n0_0 c0_0, .slice x1_0 n1_0 c1_0, .slice x2_0 n2_0 c2_0, .slice x3_0 n3_0 c3_0] 35)
  have HB := Lib.hid (hb0.alloc (by simp) (.cells #[.slice xy0_0 ny0_0 cy0_0, .slice xy1_0 ny1_0 cy1_0, .slice xy2_0 ny2_0 cy2_0, .slice xy3_0 ny3_0 cy3_0] 35))
  have HX := Lib.hid ((Ret.Blk.new w #[.slice x0_0 n0_0 c0_0, .slice x1_0 n1_0 c1_0, .slice x2_0 n2_0 c2_0, .slice x3_0 n3_0 c3_0] 35).on ((Below.refl _ _).alloc (Nat.le_refl _) (.cells #[.slice xy0_0 ny0_0 cy0_0, .slice xy1_0 ny1_0 cy1_0, .slice xy2_0 ny2_0 cy2_0, .slice xy3_0 ny3_0 cy3_0] 35)))
  have HY := Lib.hid (Ret.Blk.new' (w := w.alloc (.cells #[.slice x0_0 n0_0 c0_0, .slice x1_0 n1_0 c1_0, .slice x2_0 n2_0 c2_0, .slice x3_0 n3_0 c3_0] 35)) (n := w.heap.size + 1) #[.slice xy0_0 ny0_0 cy0_0, .slice xy1_0 ny1_0 cy1_0, .slice xy2_0 ny2_0 cy2_0, .slice xy3_0 ny3_0 cy3_0] 35 (by simp))
  have HQ := Lib.hid hq
  have G0 := Lib.hid g0; have Gy0 := Lib.hid gy0
  have G1 := Lib.hid g1; have Gy1 := Lib.hid gy1
  have G2 := Lib.hid g2; have Gy2 := Lib.hid gy2
  have G3 := Lib.hid g3; have Gy3 := Lib.hid gy3
  dsimp only at G0 Gy0 G1 Gy1 G2 Gy2 G3 Gy3 ⊢
  clear h g hq hp hy hb0 g0 gy0 g1 gy1 g2 gy2 g3 gy3
  go_enter Try.func12, Try.ntmps12
  go_wp2_with fail
  by_cases e0 : l0 = ly0
  · refine (eqKeySF _ _ l0 ly0 _ true (decide_eq_true e0) (G0.out.on HB.out) (Gy0.out.on HB.out) (by omega) (by omega)).mono ?_
    rintro e w1 ⟨rfl, hb⟩
    replace HX := Lib.hid (HX.out.on hb); replace HY := Lib.hid (HY.out.on hb)
    replace HB := Lib.hid (HB.out.trans (hb.mono HB.out.size)); clear hb
    have q0 : w1.cell? ⟨w.heap.size, 0, none⟩ = some (.slice x0_0 n0_0 c0_0) := HX.out.cell 0
    have q1 : w1.cell? ⟨w.heap.size, 1, none⟩ = some (.slice x1_0 n1_0 c1_0) := HX.out.cell 1
    have q2 : w1.cell? ⟨w.heap.size, 2, none⟩ = some (.slice x2_0 n2_0 c2_0) := HX.out.cell 2
    have q3 : w1.cell? ⟨w.heap.size, 3, none⟩ = some (.slice x3_0 n3_0 c3_0) := HX.out.cell 3
    have p0 : w1.cell? ⟨w.heap.size + 1, 0, none⟩ = some (.slice xy0_0 ny0_0 cy0_0) := HY.out.cell 0
    have p1 : w1.cell? ⟨w.heap.size + 1, 1, none⟩ = some (.slice xy1_0 ny1_0 cy1_0) := HY.out.cell 1
    have p2 : w1.cell? ⟨w.heap.size + 1, 2, none⟩ = some (.slice xy2_0 ny2_0 cy2_0) := HY.out.cell 2
    have p3 : w1.cell? ⟨w.heap.size + 1, 3, none⟩ = some (.slice xy3_0 ny3_0 cy3_0) := HY.out.cell 3
    go_wp2_with fail
    clear q0 q1 q2 q3 p0 p1 p2 p3
    by_cases e1 : l1 = ly1
    · refine (eqRuleSF _ _ l1 ly1 _ true (decide_eq_true e1) (G1.out.on HB.out) (Gy1.out.on HB.out) (by omega) (by omega)).mono ?_
      rintro e w2 ⟨rfl, hb⟩
      replace HX := Lib.hid (HX.out.on hb); replace HY := Lib.hid (HY.out.on hb)
      replace HB := Lib.hid (HB.out.trans (hb.mono HB.out.size)); clear hb
      have q0 : w2.cell? ⟨w.heap.size, 0, none⟩ = some (.slice x0_0 n0_0 c0_0) := HX.out.cell 0
      have q1 : w2.cell? ⟨w.heap.size, 1, none⟩ = some (.slice x1_0 n1_0 c1_0) := HX.out.cell 1
      have q2 : w2.cell? ⟨w.heap.size, 2, none⟩ = some (.slice x2_0 n2_0 c2_0) := HX.out.cell 2
      have q3 : w2.cell? ⟨w.heap.size, 3, none⟩ = some (.slice x3_0 n3_0 c3_0) := HX.out.cell 3
      have p0 : w2.cell? ⟨w.heap.size + 1, 0, none⟩ = some (.slice xy0_0 ny0_0 cy0_0) := HY.out.cell 0
      have p1 : w2.cell? ⟨w.heap.size + 1, 1, none⟩ = some (.slice xy1_0 ny1_0 cy1_0) := HY.out.cell 1
      have p2 : w2.cell? ⟨w.heap.size + 1, 2, none⟩ = some (.slice xy2_0 ny2_0 cy2_0) := HY.out.cell 2
      have p3 : w2.cell? ⟨w.heap.size + 1, 3, none⟩ = some (.slice xy3_0 ny3_0 cy3_0) := HY.out.cell 3
      go_wp2_with fail
      clear q0 q1 q2 q3 p0 p1 p2 p3
      by_cases e2 : l2 = ly2
      · refine (eqNameSF _ _ l2 ly2 _ true (decide_eq_true e2) (G2.out.on HB.out) (Gy2.out.on HB.out) (by omega) (by omega)).mono ?_
        rintro e w3 ⟨rfl, hb⟩
        replace HX := Lib.hid (HX.out.on hb); replace HY := Lib.hid (HY.out.on hb)
        replace HB := Lib.hid (HB.out.trans (hb.mono HB.out.size)); clear hb
        have q0 : w3.cell? ⟨w.heap.size, 0, none⟩ = some (.slice x0_0 n0_0 c0_0) := HX.out.cell 0
        have q1 : w3.cell? ⟨w.heap.size, 1, none⟩ = some (.slice x1_0 n1_0 c1_0) := HX.out.cell 1
        have q2 : w3.cell? ⟨w.heap.size, 2, none⟩ = some (.slice x2_0 n2_0 c2_0) := HX.out.cell 2
        have q3 : w3.cell? ⟨w.heap.size, 3, none⟩ = some (.slice x3_0 n3_0 c3_0) := HX.out.cell 3
        have p0 : w3.cell? ⟨w.heap.size + 1, 0, none⟩ = some (.slice xy0_0 ny0_0 cy0_0) := HY.out.cell 0
        have p1 : w3.cell? ⟨w.heap.size + 1, 1, none⟩ = some (.slice xy1_0 ny1_0 cy1_0) := HY.out.cell 1
        have p2 : w3.cell? ⟨w.heap.size + 1, 2, none⟩ = some (.slice xy2_0 ny2_0 cy2_0) := HY.out.cell 2
        have p3 : w3.cell? ⟨w.heap.size + 1, 3, none⟩ = some (.slice xy3_0 ny3_0 cy3_0) := HY.out.cell 3
        go_wp2_with fail
        clear q0 q1 q2 q3 p0 p1 p2 p3
        by_cases e3 : l3 = ly3
        · refine (eqDataSF _ _ l3 ly3 _ true (decide_eq_true e3) (G3.out.on HB.out) (Gy3.out.on HB.out) (by omega) (by omega)).mono ?_
          rintro e w4 ⟨rfl, hb⟩
          replace HX := Lib.hid (HX.out.on hb); replace HY := Lib.hid (HY.out.on hb)
          replace HB := Lib.hid (HB.out.trans (hb.mono HB.out.size)); clear hb
          have q0 : w4.cell? ⟨w.heap.size, 0, none⟩ = some (.slice x0_0 n0_0 c0_0) := HX.out.cell 0
          have q1 : w4.cell? ⟨w.heap.size, 1, none⟩ = some (.slice x1_0 n1_0 c1_0) := HX.out.cell 1
          have q2 : w4.cell? ⟨w.heap.size, 2, none⟩ = some (.slice x2_0 n2_0 c2_0) := HX.out.cell 2
          have q3 : w4.cell? ⟨w.heap.size, 3, none⟩ = some (.slice x3_0 n3_0 c3_0) := HX.out.cell 3
          have p0 : w4.cell? ⟨w.heap.size + 1, 0, none⟩ = some (.slice xy0_0 ny0_0 cy0_0) := HY.out.cell 0
          have p1 : w4.cell? ⟨w.heap.size + 1, 1, none⟩ = some (.slice xy1_0 ny1_0 cy1_0) := HY.out.cell 1
          have p2 : w4.cell? ⟨w.heap.size + 1, 2, none⟩ = some (.slice xy2_0 ny2_0 cy2_0) := HY.out.cell 2
          have p3 : w4.cell? ⟨w.heap.size + 1, 3, none⟩ = some (.slice xy3_0 ny3_0 cy3_0) := HY.out.cell 3
          have HE : Hid (q = true) := Lib.hid (by rw [← HQ.out]; simp [e0, e1, e2, e3])
          clear e0 e1 e2 e3
          go_wp2
          go_ret
          exact ⟨ret_bool HE.out.symm, HB.out⟩
        · refine (eqDataSF _ _ l3 ly3 _ false (decide_eq_false e3) (G3.out.on HB.out) (Gy3.out.on HB.out) (by omega) (by omega)).mono ?_
          rintro e w4 ⟨rfl, hb⟩
          replace HX := Lib.hid (HX.out.on hb); replace HY := Lib.hid (HY.out.on hb)
          replace HB := Lib.hid (HB.out.trans (hb.mono HB.out.size)); clear hb
          have q0 : w4.cell? ⟨w.heap.size, 0, none⟩ = some (.slice x0_0 n0_0 c0_0) := HX.out.cell 0
          have q1 : w4.cell? ⟨w.heap.size, 1, none⟩ = some (.slice x1_0 n1_0 c1_0) := HX.out.cell 1
          have q2 : w4.cell? ⟨w.heap.size, 2, none⟩ = some (.slice x2_0 n2_0 c2_0) := HX.out.cell 2
          have q3 : w4.cell? ⟨w.heap.size, 3, none⟩ = some (.slice x3_0 n3_0 c3_0) := HX.out.cell 3
          have p0 : w4.cell? ⟨w.heap.size + 1, 0, none⟩ = some (.slice xy0_0 ny0_0 cy0_0) := HY.out.cell 0
          have p1 : w4.cell? ⟨w.heap.size + 1, 1, none⟩ = some (.slice xy1_0 ny1_0 cy1_0) := HY.out.cell 1
          have p2 : w4.cell? ⟨w.heap.size + 1, 2, none⟩ = some (.slice xy2_0 ny2_0 cy2_0) := HY.out.cell 2
          have p3 : w4.cell? ⟨w.heap.size + 1, 3, none⟩ = some (.slice xy3_0 ny3_0 cy3_0) := HY.out.cell 3
          have HE : Hid (q = false) := Lib.hid (by rw [← HQ.out]; simp [e3])
          clear e3
          go_wp2
          go_ret
          exact ⟨ret_bool HE.out.symm, HB.out⟩
      · refine (eqNameSF _ _ l2 ly2 _ false (decide_eq_false e2) (G2.out.on HB.out) (Gy2.out.on HB.out) (by omega) (by omega)).mono ?_
        rintro e w3 ⟨rfl, hb⟩
        replace HX := Lib.hid (HX.out.on hb); replace HY := Lib.hid (HY.out.on hb)
        replace HB := Lib.hid (HB.out.trans (hb.mono HB.out.size)); clear hb
        have q0 : w3.cell? ⟨w.heap.size, 0, none⟩ = some (.slice x0_0 n0_0 c0_0) := HX.out.cell 0
        have q1 : w3.cell? ⟨w.heap.size, 1, none⟩ = some (.slice x1_0 n1_0 c1_0) := HX.out.cell 1
        have q2 : w3.cell? ⟨w.heap.size, 2, none⟩ = some (.slice x2_0 n2_0 c2_0) := HX.out.cell 2
        have q3 : w3.cell? ⟨w.heap.size, 3, none⟩ = some (.slice x3_0 n3_0 c3_0) := HX.out.cell 3
        have p0 : w3.cell? ⟨w.heap.size + 1, 0, none⟩ = some (.slice xy0_0 ny0_0 cy0_0) := HY.out.cell 0
        have p1 : w3.cell? ⟨w.heap.size + 1, 1, none⟩ = some (.slice xy1_0 ny1_0 cy1_0) := HY.out.cell 1
        have p2 : w3.cell? ⟨w.heap.size + 1, 2, none⟩ = some (.slice xy2_0 ny2_0 cy2_0) := HY.out.cell 2
        have p3 : w3.cell? ⟨w.heap.size + 1, 3, none⟩ = some (.slice xy3_0 ny3_0 cy3_0) := HY.out.cell 3
        have HE : Hid (q = false) := Lib.hid (by rw [← HQ.out]; simp [e2])
        clear e2
        go_wp2
        go_ret
        exact ⟨ret_bool HE.out.symm, HB.out⟩
    · refine (eqRuleSF _ _ l1 ly1 _ false (decide_eq_false e1) (G1.out.on HB.out) (Gy1.out.on HB.out) (by omega) (by omega)).mono ?_
      rintro e w2 ⟨rfl, hb⟩
      replace HX := Lib.hid (HX.out.on hb); replace HY := Lib.hid (HY.out.on hb)
      replace HB := Lib.hid (HB.out.trans (hb.mono HB.out.size)); clear hb
      have q0 : w2.cell? ⟨w.heap.size, 0, none⟩ = some (.slice x0_0 n0_0 c0_0) := HX.out.cell 0
      have q1 : w2.cell? ⟨w.heap.size, 1, none⟩ = some (.slice x1_0 n1_0 c1_0) := HX.out.cell 1
      have q2 : w2.cell? ⟨w.heap.size, 2, none⟩ = some (.slice x2_0 n2_0 c2_0) := HX.out.cell 2
      have q3 : w2.cell? ⟨w.heap.size, 3, none⟩ = some (.slice x3_0 n3_0 c3_0) := HX.out.cell 3
      have p0 : w2.cell? ⟨w.heap.size + 1, 0, none⟩ = some (.slice xy0_0 ny0_0 cy0_0) := HY.out.cell 0
      have p1 : w2.cell? ⟨w.heap.size + 1, 1, none⟩ = some (.slice xy1_0 ny1_0 cy1_0) := HY.out.cell 1
      have p2 : w2.cell? ⟨w.heap.size + 1, 2, none⟩ = some (.slice xy2_0 ny2_0 cy2_0) := HY.out.cell 2
      have p3 : w2.cell? ⟨w.heap.size + 1, 3, none⟩ = some (.slice xy3_0 ny3_0 cy3_0) := HY.out.cell 3
      have HE : Hid (q = false) := Lib.hid (by rw [← HQ.out]; simp [e1])
      clear e1
      go_wp2
      go_ret
      exact ⟨ret_bool HE.out.symm, HB.out⟩
  · refine (eqKeySF _ _ l0 ly0 _ false (decide_eq_false e0) (G0.out.on HB.out) (Gy0.out.on HB.out) (by omega) (by omega)).mono ?_
    rintro e w1 ⟨rfl, hb⟩
    replace HX := Lib.hid (HX.out.on hb); replace HY := Lib.hid (HY.out.on hb)
    replace HB := Lib.hid (HB.out.trans (hb.mono HB.out.size)); clear hb
    have q0 : w1.cell? ⟨w.heap.size, 0, none⟩ = some (.slice x0_0 n0_0 c0_0) := HX.out.cell 0
    have q1 : w1.cell? ⟨w.heap.size, 1, none⟩ = some (.slice x1_0 n1_0 c1_0) := HX.out.cell 1
    have q2 : w1.cell? ⟨w.heap.size, 2, none⟩ = some (.slice x2_0 n2_0 c2_0) := HX.out.cell 2
    have q3 : w1.cell? ⟨w.heap.size, 3, none⟩ = some (.slice x3_0 n3_0 c3_0) := HX.out.cell 3
    have p0 : w1.cell? ⟨w.heap.size + 1, 0, none⟩ = some (.slice xy0_0 ny0_0 cy0_0) := HY.out.cell 0
    have p1 : w1.cell? ⟨w.heap.size + 1, 1, none⟩ = some (.slice xy1_0 ny1_0 cy1_0) := HY.out.cell 1
    have p2 : w1.cell? ⟨w.heap.size + 1, 2, none⟩ = some (.slice xy2_0 ny2_0 cy2_0) := HY.out.cell 2
    have p3 : w1.cell? ⟨w.heap.size + 1, 3, none⟩ = some (.slice xy3_0 ny3_0 cy3_0) := HY.out.cell 3
    have HE : Hid (q = false) := Lib.hid (by rw [← HQ.out]; simp [e0])
    clear e0
    go_wp2
    go_ret
    exact ⟨ret_bool HE.out.symm, HB.out⟩
/-- It fits, and its numbers are numbers. -/
def inTp (x : Tpt) : Prop := inLKy x.1 ∧ inLRl x.2.1 ∧ inLNn x.2.2.1 ∧ inLDz x.2.2.2
theorem inTp.ok {x : Tpt} (h : inTp x) : okTp x := ⟨h.1.ok, h.2.1.ok, h.2.2.1.ok, h.2.2.2.ok⟩
theorem opens_TrustPolicy : OpensK Try.prog kTp 27 inTp := opens_struct Try.underlying27 (by kernel_rfl) (opensF_cons (ok := fun (z : List Kyt) => inLKy z) (ok' := fun (z : List Rlt × List Nnt × List Dzt) => inLRl z.1 ∧ inLNn z.2.1 ∧ inLDz z.2.2) opens_KeyS rfl (by kernel_rfl) (opensF_cons (ok := fun (z : List Rlt) => inLRl z) (ok' := fun (z : List Nnt × List Dzt) => inLNn z.1 ∧ inLDz z.2) opens_RuleS rfl (by kernel_rfl) (opensF_cons (ok := fun (z : List Nnt) => inLNn z) (ok' := fun (z : List Dzt) => inLDz z) opens_NameS rfl (by kernel_rfl) (opensF_last (ok := fun (z : List Dzt) => inLDz z) opens_DataS rfl (by kernel_rfl)))))

/-! ### in the laws' words -/
theorem adTp_le (x : Tpt) : adTp x ≤ wtTp x := by
  obtain ⟨l0, l1, l2, l3⟩ := x
  have e0 := show bulkK adKy l0 ≤ bulkK wtKy l0 from bulkK_mono adKy_le _
  have e1 := show bulkK adRl l1 ≤ bulkK wtRl l1 from bulkK_mono adRl_le _
  have e2 := show bulkK adNn l2 ≤ bulkK wtNn l2 from bulkK_mono adNn_le _
  have e3 := show bulkK adDz l3 ≤ bulkK wtDz l3 from bulkK_mono adDz_le _
  unfold adTp wtTp
  dsimp only
  omega
theorem adTp_big {x : Tpt} {n : Nat} (h : wtTp x ≤ n) : adTp x ≤ n := Nat.le_trans (adTp_le x) h
theorem szTpK (V : Value) (x : Tpt) (w : World) (left : Int) (h : kTp.At w V x) (hl : inTp x) (hs : inTp x) (h0 : 0 ≤ left) (h1 : left ≤ 1048576) :
    Calls Try.prog 8 #[V, .int .i64 left] w fun e w' => e = .returned (.int .i64 (szW (wtTp x) left)) ∧ Below w.heap.size w w' := szTrustPolicyK V x w left h hs.ok h0 h1
theorem sameTpK (V U : Value) (x : Tpt) (w : World) (h : kTp.At w V x) (g : kTp.At w U x) (hp : adTp x ≤ 100000000) :
    Calls Try.prog 12 #[V, U] w fun e w' => e = .returned (.bool true) ∧ Below w.heap.size w w' := eqTrustPolicyK V U x x w true (by simp) h g hp hp
end Go.Proofs.Ytcidfmmeonhkhaa.Row
/- Chapter 11 (trust) in the words of kinds: the model's IsAnchor. No conditions but that lengths fit. -/
namespace Go.Proofs.Ytcidfmmeonhkhaa.Row
open Go.ChangeShapes Go.WideShapes Go.ChangeAt Go.RowKit Go.Instr
set_option linter.unusedVariables false
set_option maxRecDepth 100000

/-! ### anchors -/
def anchorT (l : List Nnt) (n : List ByteArray) : Bool := l.any fun a => decide (a = n)
theorem eqNV10 {w : World} {V U : Value} {l m : List ByteArray} (z : Bool) (hz : decide (l = m) = z) (h : kN.At w V l) (g : kN.At w U m) (hl : bulk l ≤ 9000000) (hm : bulk m ≤ 9000000) :
    Calls Try.prog 65 #[V, U] w fun e w' => e = .returned (.bool z) ∧ Below w.heap.size w w' := by
  obtain ⟨v, rfl, h9⟩ := kN_at h
  obtain ⟨u, rfl, g9⟩ := kN_at g
  exact hz ▸ specEqualNames v u l m w h9 g9 (by have := bulk_len l; omega) (by have := bulk_len m; omega)

end Go.Proofs.Ytcidfmmeonhkhaa.Row
/- Lists of keys (slices of a name and a number each) in memory: a slice that holds a list of entries, each of which holds its name; one whose blocks are all the call's own and all differ. No conditions. -/
namespace Go.Proofs.Ytcidfmmeonhkhaa.Row.Ring
open Go.ChangeShapes Go.WideShapes Go.ChangeAt Go.RowKit Go.Instr
set_option linter.unusedVariables false
set_option maxRecDepth 100000

/-- An entry as it lies in memory: where its name's parts lie, what they are, and its number. -/
structure Ent where
  ad : Option Addr
  n : Nat
  cap : Nat
  ps : List ByteArray
  val : Int
instance : Inhabited Ent := ⟨⟨none, 0, 0, [], 0⟩⟩
def Ent.v (x : Ent) : Value := .slice x.ad x.n x.cap
/-- An entry as it is read. -/
def Ent.t (x : Ent) : List ByteArray × Int := (x.ps, x.val)
def Ent.whole (x : Ent) : Value := .agg #[x.v, .int .i64 x.val]
def strip (L : List Ent) : List (List ByteArray × Int) := L.map Ent.t
theorem strip_length (L : List Ent) : (strip L).length = L.length := by simp [strip]
theorem strip_nth {L : List Ent} {k : Nat} (h : k < L.length) : nth (strip L) k = (nth L k).t := by simp [strip, nth, List.getD, h]
theorem strip_append (L M : List Ent) : strip (L ++ M) = strip L ++ strip M := by simp [strip]
theorem strip_take (L : List Ent) (k : Nat) : strip (L.take k) = (strip L).take k := by simp [strip, List.map_take]
theorem strip_mem {L : List Ent} {x : Ent} (h : x ∈ L) : x.t ∈ strip L := List.mem_map_of_mem h
def encE (x : Ent) : List Value := [x.v, .int .i64 x.val]
theorem szE : Sz encE 2 := fun _ => rfl
theorem kindE : Kind Try.prog 89 encE (.agg #[.slice none 0 0, .int .i64 0]) 2 32 where
  elem := by unfold ElemK; kernel_rfl
  zs := rfl
  pos := by decide
  size := szE
  one := by intro x u hu; simp [encE, Ent.v] at hu; rcases hu with rfl | rfl <;> rfl

/-- v is a slice of the entries L, whose names are there. -/
def TabH (w : World) (v : Value) (L : List Ent) : Prop := HoldsK encE 2 w v L ∧ ∀ x ∈ L, Holds Value.string w x.v x.ps
/-- v is a slice of the entries L, all of whose blocks are from B on, and no two the same. -/
def TabO (B : Nat) (w : World) (v : Value) (L : List Ent) : Prop := OwnK 89 encE 2 B w v L ∧ (∀ x ∈ L, Own 9 Value.string B w x.v x.ps) ∧ L.Pairwise (fun a b => Apart a.v b.v)
section
variable {B : Nat} {w w' : World} {v : Value} {L : List Ent}
theorem TabO.holds (h : TabO B w v L) : TabH w v L := ⟨h.1.holds, fun x hx => (h.2.1 x hx).holds⟩
theorem TabH.on (h : TabH w v L) (hb : Below w.heap.size w w') : TabH w' v L := ⟨h.1.on hb, fun x hx => (h.2 x hx).on hb⟩
theorem TabO.on (h : TabO B w v L) (hb : Below w.heap.size w w') : TabO B w' v L := ⟨h.1.on hb, fun x hx => (h.2.1 x hx).on hb, h.2.2⟩
theorem TabO.mono (h : TabO B w v L) {B' : Nat} (hB : B' ≤ B) : TabO B' w v L := ⟨h.1.mono hB, fun x hx => (h.2.1 x hx).mono hB, h.2.2⟩
theorem TabO.nil (B : Nat) (w : World) : TabO B w (.slice none 0 0) [] := ⟨OwnK.nil _ _ _ _ _, by simp, by simp⟩
theorem TabO.empty (w : World) : TabO w.heap.size (w.alloc (.cells #[] 89)) (.slice (some ⟨w.heap.size, 0, none⟩) 0 0) [] := ⟨ownK_empty _ _ _ _, by simp, by simp⟩
theorem TabH.nil (w : World) : TabH w (.slice none 0 0) [] := ⟨HoldsK.nil _ _ _, by simp⟩
theorem TabH.shapeN (h : TabH w v L) : ∃ x n cap, v = .slice x n cap ∧ n = L.length ∧ n ≤ cap ∧ TabH w (.slice x n cap) L := by
  obtain ⟨x, n, cap, rfl, hn, hc, ho⟩ := h.1.shapeN
  exact ⟨x, n, cap, rfl, hn, hc, ho, h.2⟩
theorem TabO.shapeN (h : TabO B w v L) : ∃ x n cap, v = .slice x n cap ∧ n = L.length ∧ n ≤ cap ∧ TabO B w (.slice x n cap) L := by
  obtain ⟨x, n, cap, rfl, hn, hc, ho⟩ := h.1.shapeN
  exact ⟨x, n, cap, rfl, hn, hc, ho, h.2⟩
/-- Entry k's two cells, and its name. -/
theorem TabH.at {x : Option Addr} {n cap : Nat} (h : TabH w (.slice x n cap) L) {k : Nat} (hk : k < L.length) :
    ∃ b off, x = some ⟨b, off, none⟩ ∧ w.cell? ⟨b, off + k * 2, none⟩ = some (.slice (nth L k).ad (nth L k).n (nth L k).cap) ∧ w.cell? ⟨b, off + k * 2 + 1, none⟩ = some (.int .i64 (nth L k).val) ∧ Holds Value.string w (.slice (nth L k).ad (nth L k).n (nth L k).cap) (nth L k).ps := by
  obtain ⟨b, off, hx, hc⟩ := h.1.at szE hk
  exact ⟨b, off, hx, by have := hc 0 (by decide); simpa [encE, Ent.v] using this, by have := hc 1 (by decide); simpa [encE, Nat.add_assoc] using this, h.2 _ (nth_mem hk)⟩
theorem TabO.cells {g n cap : Nat} (h : TabO B w (.slice (some ⟨g, 0, none⟩) n cap) L) (hn : n = L.length) {k : Nat} (hk : k < L.length) :
    (w.cell? ⟨g, k * 2, none⟩ = some (.slice (nth L k).ad (nth L k).n (nth L k).cap) ∧ w.frozen? ⟨g, k * 2, none⟩ = false) ∧ (w.cell? ⟨g, k * 2 + 1, none⟩ = some (.int .i64 (nth L k).val) ∧ w.frozen? ⟨g, k * 2 + 1, none⟩ = false) ∧ Own 9 Value.string B w (.slice (nth L k).ad (nth L k).n (nth L k).cap) (nth L k).ps :=
  ⟨by simpa [encE, Ent.v] using ownK_cell szE h.1 hn hk (i := 0) (by decide), by simpa [encE] using ownK_cell szE h.1 hn hk (i := 1) (by decide), h.2.1 _ (nth_mem hk)⟩
/-- A slice of strings and a slice of entries never share a block. -/
theorem name_row {u : Value} {ps : List ByteArray} {B' : Nat} (h : Own 9 Value.string B w u ps) (g : OwnK 89 encE 2 B' w v L) : Apart u v := by
  intro k h1 h2
  rcases h.2 with ⟨rfl, _⟩ | ⟨b, cap, cur, rfl, _, hb, _⟩
  · cases h1
  · rcases g.2 with ⟨rfl, _⟩ | ⟨b', cap', cur', rfl, _, hb', _⟩
    · cases h2
    · have e1 : b = k := by simpa [Value.ownBlock] using h1
      have e2 : b' = k := by simpa [Value.ownBlock] using h2
      rw [e1] at hb; rw [e2, hb] at hb'
      cases hb'
/-- What writes into the entries' own row alone leaves the names. -/
theorem TabO.names (h : TabO B w v L) (hg : w.grownBy w' v.ownBlock) : ∀ x ∈ L, Own 9 Value.string B w' x.v x.ps := fun x hx => (h.2.1 x hx).grown hg (apart_or (name_row (h.2.1 x hx) h.1))
theorem TabO.row (h : TabO B w v L) {v' : Value} {L' : List Ent} (ho : OwnK 89 encE 2 B w' v' L') (hg : w.grownBy w' v.ownBlock) (hm : ∀ x ∈ L', ∃ y ∈ L, x.v = y.v ∧ x.ps = y.ps) (hp : L'.Pairwise (fun a b => Apart a.v b.v)) : TabO B w' v' L' := by
  refine ⟨ho, fun x hx => ?_, hp⟩
  obtain ⟨y, hy, e1, e2⟩ := hm x hx
  rw [e1, e2]
  exact h.names hg y hy
theorem TabO.lt (h : TabO B w v L) : (∀ g, v.ownBlock = some g → B ≤ g ∧ g < w.heap.size) ∧ ∀ x ∈ L, ∀ g, x.v.ownBlock = some g → B ≤ g ∧ g < w.heap.size := ⟨h.1.lt, fun x hx => (h.2.1 x hx).lt⟩
/-- A name in new memory is apart from all names that were there. -/
theorem TabO.fresh (h : TabO B w v L) {u : Value} (hu : ∀ g, u.ownBlock = some g → w.heap.size ≤ g) : ∀ y ∈ L, Apart y.v u := fun y hy g h1 h2 => by
  have := h.lt.2 y hy g h1
  have := hu g h2
  omega
theorem TabO.len (h : TabO B w v L) : L.length ≤ maxLen := h.1.len
end

/-! ### as they are read -/
def TabHolds (w : World) (v : Value) (T : List (List ByteArray × Int)) : Prop := ∃ L, strip L = T ∧ TabH w v L
def TabOwn (B : Nat) (w : World) (v : Value) (T : List (List ByteArray × Int)) : Prop := ∃ L, strip L = T ∧ TabO B w v L
def TabIn (B E : Nat) (w : World) (v : Value) (T : List (List ByteArray × Int)) : Prop := ∃ L, strip L = T ∧ TabO B w v L ∧ (∀ g, v.ownBlock = some g → g < E) ∧ ∀ x ∈ L, ∀ g, x.v.ownBlock = some g → g < E
section
variable {B E B' E' : Nat} {w w' : World} {v : Value} {l : List ByteArray} {T : List (List ByteArray × Int)}
theorem TabIn.of (h : TabOwn B w v T) : TabIn B w.heap.size w v T := by
  obtain ⟨L, e, h⟩ := h
  exact ⟨L, e, h, fun g hg => (h.lt.1 g hg).2, fun x hx g hg => (h.lt.2 x hx g hg).2⟩
theorem TabIn.on (h : TabIn B E w v T) (hb : Below w.heap.size w w') : TabIn B E w' v T := by
  obtain ⟨L, e, h, h1, h2⟩ := h
  exact ⟨L, e, h.on hb, h1, h2⟩
theorem TabIn.wrote (h : TabIn B E w v T) (hw : Wrote B' E' w w') (hn : E ≤ B' ∨ E' ≤ B) : TabIn B E w' v T := by
  obtain ⟨L, e, h, h1, h2⟩ := h
  refine ⟨L, e, ⟨hw.row h.1 (fun g hg => ?_), fun x hx => hw.row (h.2.1 x hx) (fun g hg => ?_), h.2.2⟩, h1, h2⟩
  · have := (h.lt.1 g hg).1; have := h1 g hg; omega
  · have := (h.lt.2 x hx g hg).1; have := h2 x hx g hg; omega
theorem TabIn.own (h : TabIn B E w v T) : TabOwn B w v T := by
  obtain ⟨L, e, h, -, -⟩ := h
  exact ⟨L, e, h⟩
theorem TabOwn.holds (h : TabOwn B w v T) : TabHolds w v T := by
  obtain ⟨L, e, h⟩ := h
  exact ⟨L, e, h.holds⟩
theorem TabIn.holds (h : TabIn B E w v T) : TabHolds w v T := h.own.holds
theorem TabOwn.mono (h : TabOwn B w v T) (hB : B' ≤ B) : TabOwn B' w v T := by
  obtain ⟨L, e, h⟩ := h
  exact ⟨L, e, h.mono hB⟩
theorem TabOwn.on (h : TabOwn B w v T) (hb : Below w.heap.size w w') : TabOwn B w' v T := by
  obtain ⟨L, e, h⟩ := h
  exact ⟨L, e, h.on hb⟩
theorem TabHolds.on (h : TabHolds w v T) (hb : Below w.heap.size w w') : TabHolds w' v T := by
  obtain ⟨L, e, h⟩ := h
  exact ⟨L, e, h.on hb⟩
theorem TabHolds.shapeN (h : TabHolds w v T) : ∃ x n cap, v = .slice x n cap ∧ n = T.length ∧ n ≤ cap ∧ TabHolds w (.slice x n cap) T := by
  obtain ⟨L, e, h⟩ := h
  obtain ⟨x, n, cap, rfl, hn, hc, ho⟩ := h.shapeN
  exact ⟨x, n, cap, rfl, by rw [hn, ← e, strip_length], hc, L, e, ho⟩
theorem TabOwn.shapeN (h : TabOwn B w v T) : ∃ x n cap, v = .slice x n cap ∧ n = T.length ∧ n ≤ cap ∧ TabOwn B w (.slice x n cap) T := by
  obtain ⟨L, e, h⟩ := h
  obtain ⟨x, n, cap, rfl, hn, hc, ho⟩ := h.shapeN
  exact ⟨x, n, cap, rfl, by rw [hn, ← e, strip_length], hc, L, e, ho⟩
end
end Go.Proofs.Ytcidfmmeonhkhaa.Row.Ring
