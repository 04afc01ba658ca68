/- Contracts and mathematics, joined: TrustPolicyK, TrustA, Ring, RingLaw. No conditions but those that each states. -/
import Derived.Test.YtcidfmmeonhkhaaB3
import Derived.Test.YtcidfmmeonhkhaaB4
import Derived.WalkKit
import Derived.Deep.RegionHeld3
import Derived.Test.YtcidfmmeonhkhaaB1
import Derived.Test.YtcidfmmeonhkhaaB2
/- The policy of trust in the words of kinds: the kind; sz, to, eq, mark, held. No conditions but that lengths fit. -/
namespace Go.Proofs.Ytcidfmmeonhkhaa.Row
open Go.ChangeShapes Go.WideShapes Go.ChangeAt Go.RowKit Go.Instr
set_option linter.unusedVariables false
set_option maxRecDepth 100000

abbrev Tpt := List Kyt × List Rlt × List Nnt × List Dzt
set_option synthInstance.maxSize 100000 in
instance : DecidableEq Tpt := inferInstance
abbrev Tpm := Rw Kym × Rw Rlm × Rw Nnm × Rw Dzm
def kTp : Kd Tpt Tpm := (kLKy.pair (kLRl.pair (kLNn.pair kLDz)))
theorem aggTp : Ret.AggOf Try.prog 35 4 := ⟨by kernel_rfl, by kernel_rfl⟩
def wtTp (x : Tpt) : Nat := bulkK wtKy x.1 + bulkK wtRl x.2.1 + bulkK wtNn x.2.2.1 + bulkK wtDz x.2.2.2
def adTp (x : Tpt) : Nat := bulkK adKy x.1 + bulkK adRl x.2.1 + bulkK adNn x.2.2.1 + bulkK adDz x.2.2.2
def okTp (x : Tpt) : Prop := okLKy x.1 ∧ okLRl x.2.1 ∧ okLNn x.2.2.1 ∧ okLDz x.2.2.2
section
variable {w : World} {V : Value} {x : Tpt} {B E : Nat}
theorem kTp_at (h : kTp.At w V x) : ∃ (x0_0 : Option Addr) (n0_0 c0_0 : Nat) (x1_0 : Option Addr) (n1_0 c1_0 : Nat) (x2_0 : Option Addr) (n2_0 c2_0 : Nat) (x3_0 : Option Addr) (n3_0 c3_0 : Nat), V = .agg #[.slice x0_0 n0_0 c0_0, .slice x1_0 n1_0 c1_0, .slice x2_0 n2_0 c2_0, .slice x3_0 n3_0 c3_0] ∧ kLKy.At w (.slice x0_0 n0_0 c0_0) x.1 ∧ kLRl.At w (.slice x1_0 n1_0 c1_0) x.2.1 ∧ kLNn.At w (.slice x2_0 n2_0 c2_0) x.2.2.1 ∧ kLDz.At w (.slice x3_0 n3_0 c3_0) x.2.2.2 := by
  obtain ⟨⟨m0, m1, m2, m3⟩, rfl, rfl, g0, g1, g2, g3⟩ := h
  obtain ⟨x0_0, n0_0, c0_0, e0, a0⟩ := kLKy_shapeA (Kd.at_of (k := kLKy) g0)
  have d0 : kLKy.cells m0 = [.slice x0_0 n0_0 c0_0] := by show [kLKy.val m0] = _; rw [e0]
  obtain ⟨x1_0, n1_0, c1_0, e1, a1⟩ := kLRl_shapeA (Kd.at_of (k := kLRl) g1)
  have d1 : kLRl.cells m1 = [.slice x1_0 n1_0 c1_0] := by show [kLRl.val m1] = _; rw [e1]
  obtain ⟨x2_0, n2_0, c2_0, e2, a2⟩ := kLNn_shapeA (Kd.at_of (k := kLNn) g2)
  have d2 : kLNn.cells m2 = [.slice x2_0 n2_0 c2_0] := by show [kLNn.val m2] = _; rw [e2]
  obtain ⟨x3_0, n3_0, c3_0, e3, a3⟩ := kLDz_shapeA (Kd.at_of (k := kLDz) g3)
  have d3 : kLDz.cells m3 = [.slice x3_0 n3_0 c3_0] := by show [kLDz.val m3] = _; rw [e3]
  refine ⟨x0_0, n0_0, c0_0, x1_0, n1_0, c1_0, x2_0, n2_0, c2_0, x3_0, n3_0, c3_0, ?_, e0 ▸ Kd.at_of (k := kLKy) g0, e1 ▸ Kd.at_of (k := kLRl) g1, e2 ▸ Kd.at_of (k := kLNn) g2, e3 ▸ Kd.at_of (k := kLDz) g3⟩
  show Value.agg ((kLKy.cells m0 ++ (kLRl.cells m1 ++ (kLNn.cells m2 ++ (kLDz.cells m3))))).toArray = _
  rw [d0, d1, d2, d3]
  rfl
theorem kTp_shapeA (h : kTp.At w V x) : ∃ (x0_0 : Option Addr) (n0_0 c0_0 : Nat) (x1_0 : Option Addr) (n1_0 c1_0 : Nat) (x2_0 : Option Addr) (n2_0 c2_0 : Nat) (x3_0 : Option Addr) (n3_0 c3_0 : Nat), V = .agg #[.slice x0_0 n0_0 c0_0, .slice x1_0 n1_0 c1_0, .slice x2_0 n2_0 c2_0, .slice x3_0 n3_0 c3_0] ∧ kTp.At w (.agg #[.slice x0_0 n0_0 c0_0, .slice x1_0 n1_0 c1_0, .slice x2_0 n2_0 c2_0, .slice x3_0 n3_0 c3_0]) x := by
  obtain ⟨x0_0, n0_0, c0_0, x1_0, n1_0, c1_0, x2_0, n2_0, c2_0, x3_0, n3_0, c3_0, rfl, -⟩ := kTp_at h
  exact ⟨x0_0, n0_0, c0_0, x1_0, n1_0, c1_0, x2_0, n2_0, c2_0, x3_0, n3_0, c3_0, rfl, h⟩
theorem kTp_shape (h : kTp.In B E w V x) : ∃ (x0_0 : Option Addr) (n0_0 c0_0 : Nat) (x1_0 : Option Addr) (n1_0 c1_0 : Nat) (x2_0 : Option Addr) (n2_0 c2_0 : Nat) (x3_0 : Option Addr) (n3_0 c3_0 : Nat), V = .agg #[.slice x0_0 n0_0 c0_0, .slice x1_0 n1_0 c1_0, .slice x2_0 n2_0 c2_0, .slice x3_0 n3_0 c3_0] ∧ kTp.In B E w (.agg #[.slice x0_0 n0_0 c0_0, .slice x1_0 n1_0 c1_0, .slice x2_0 n2_0 c2_0, .slice x3_0 n3_0 c3_0]) x := by
  obtain ⟨x0_0, n0_0, c0_0, x1_0, n1_0, c1_0, x2_0, n2_0, c2_0, x3_0, n3_0, c3_0, rfl, -⟩ := kTp_at h.at
  exact ⟨x0_0, n0_0, c0_0, x1_0, n1_0, c1_0, x2_0, n2_0, c2_0, x3_0, n3_0, c3_0, rfl, h⟩
end
set_option maxHeartbeats 4000000 in
theorem szTrustPolicyK (V : Value) (x : Tpt) (w : World) (left : Int) (h : kTp.At w V x) (hp : okTp x) (h0 : 0 ≤ left) (hl : left ≤ 1048576) :
    Calls Try.prog 8 #[V, .int .i64 left] w fun e w' => e = .returned (.int .i64 (szW (wtTp x) left)) ∧ Below w.heap.size w w' := by
  obtain ⟨x0_0, n0_0, c0_0, x1_0, n1_0, c1_0, x2_0, n2_0, c2_0, x3_0, n3_0, c3_0, rfl, g0, g1, g2, g3⟩ := kTp_at h
  obtain ⟨l0, l1, l2, l3⟩ := x
  obtain ⟨p0, p1, p2, p3⟩ := hp
  have HB := Lib.hid ((Below.refl w.heap.size w).alloc (Nat.le_refl _) (.cells #[.slice x0_0 n0_0 c0_0, .slice x1_0 n1_0 c1_0, .slice x2_0 n2_0 c2_0, .slice x3_0 n3_0 c3_0] 27))
  have HX := Lib.hid (Ret.Blk.new w #[.slice x0_0 n0_0 c0_0, .slice x1_0 n1_0 c1_0, .slice x2_0 n2_0 c2_0, .slice x3_0 n3_0 c3_0] 27)
  have G0 := Lib.hid g0; have P0 := Lib.hid p0
  have G1 := Lib.hid g1; have P1 := Lib.hid p1
  have G2 := Lib.hid g2; have P2 := Lib.hid p2
  have G3 := Lib.hid g3; have P3 := Lib.hid p3
  dsimp only at G0 P0 G1 P1 G2 P2 G3 P3 ⊢
  clear g0 p0 g1 p1 g2 p2 g3 p3 h
  go_enter Try.func8, Try.ntmps8
  go_wp2_with fail
  refine (szKeySF _ l0 _ (left) (G0.out.on HB.out) P0.out (by omega) (by omega)).mono ?_
  rintro e w1 ⟨rfl, hb⟩
  replace HX := Lib.hid (HX.out.on hb)
  replace HB := Lib.hid (HB.out.trans (hb.mono HB.out.size)); clear hb
  have q0 : w1.cell? ⟨w.heap.size, 0, none⟩ = some (.slice x0_0 n0_0 c0_0) := HX.out.cell 0
  have q1 : w1.cell? ⟨w.heap.size, 1, none⟩ = some (.slice x1_0 n1_0 c1_0) := HX.out.cell 1
  have q2 : w1.cell? ⟨w.heap.size, 2, none⟩ = some (.slice x2_0 n2_0 c2_0) := HX.out.cell 2
  have q3 : w1.cell? ⟨w.heap.size, 3, none⟩ = some (.slice x3_0 n3_0 c3_0) := HX.out.cell 3
  by_cases t0 : ((bulkK wtKy l0) : Int) ≤ left
  · rw [szW_fit t0]
    have b0 : ¬ left - ((bulkK wtKy l0) : Int) < 0 := by omega
    go_wp2_with fail
    clear q0 q1 q2 q3
    refine (szRuleSF _ l1 _ (left - ((bulkK wtKy l0) : Int)) (G1.out.on HB.out) P1.out (by omega) (by omega)).mono ?_
    rintro e w2 ⟨rfl, hb⟩
    replace HX := Lib.hid (HX.out.on hb)
    replace HB := Lib.hid (HB.out.trans (hb.mono HB.out.size)); clear hb
    have q0 : w2.cell? ⟨w.heap.size, 0, none⟩ = some (.slice x0_0 n0_0 c0_0) := HX.out.cell 0
    have q1 : w2.cell? ⟨w.heap.size, 1, none⟩ = some (.slice x1_0 n1_0 c1_0) := HX.out.cell 1
    have q2 : w2.cell? ⟨w.heap.size, 2, none⟩ = some (.slice x2_0 n2_0 c2_0) := HX.out.cell 2
    have q3 : w2.cell? ⟨w.heap.size, 3, none⟩ = some (.slice x3_0 n3_0 c3_0) := HX.out.cell 3
    by_cases t1 : ((bulkK wtRl l1) : Int) ≤ left - ((bulkK wtKy l0) : Int)
    · rw [szW_fit t1]
      have b1 : ¬ left - ((bulkK wtKy l0) : Int) - ((bulkK wtRl l1) : Int) < 0 := by omega
      go_wp2_with fail
      clear q0 q1 q2 q3
      refine (szNameSF _ l2 _ (left - ((bulkK wtKy l0) : Int) - ((bulkK wtRl l1) : Int)) (G2.out.on HB.out) P2.out (by omega) (by omega)).mono ?_
      rintro e w3 ⟨rfl, hb⟩
      replace HX := Lib.hid (HX.out.on hb)
      replace HB := Lib.hid (HB.out.trans (hb.mono HB.out.size)); clear hb
      have q0 : w3.cell? ⟨w.heap.size, 0, none⟩ = some (.slice x0_0 n0_0 c0_0) := HX.out.cell 0
      have q1 : w3.cell? ⟨w.heap.size, 1, none⟩ = some (.slice x1_0 n1_0 c1_0) := HX.out.cell 1
      have q2 : w3.cell? ⟨w.heap.size, 2, none⟩ = some (.slice x2_0 n2_0 c2_0) := HX.out.cell 2
      have q3 : w3.cell? ⟨w.heap.size, 3, none⟩ = some (.slice x3_0 n3_0 c3_0) := HX.out.cell 3
      by_cases t2 : ((bulkK wtNn l2) : Int) ≤ left - ((bulkK wtKy l0) : Int) - ((bulkK wtRl l1) : Int)
      · rw [szW_fit t2]
        have b2 : ¬ left - ((bulkK wtKy l0) : Int) - ((bulkK wtRl l1) : Int) - ((bulkK wtNn l2) : Int) < 0 := by omega
        go_wp2_with fail
        clear q0 q1 q2 q3
        refine (szDataSF _ l3 _ (left - ((bulkK wtKy l0) : Int) - ((bulkK wtRl l1) : Int) - ((bulkK wtNn l2) : Int)) (G3.out.on HB.out) P3.out (by omega) (by omega)).mono ?_
        rintro e w4 ⟨rfl, hb⟩
        replace HX := Lib.hid (HX.out.on hb)
        replace HB := Lib.hid (HB.out.trans (hb.mono HB.out.size)); clear hb
        have q0 : w4.cell? ⟨w.heap.size, 0, none⟩ = some (.slice x0_0 n0_0 c0_0) := HX.out.cell 0
        have q1 : w4.cell? ⟨w.heap.size, 1, none⟩ = some (.slice x1_0 n1_0 c1_0) := HX.out.cell 1
        have q2 : w4.cell? ⟨w.heap.size, 2, none⟩ = some (.slice x2_0 n2_0 c2_0) := HX.out.cell 2
        have q3 : w4.cell? ⟨w.heap.size, 3, none⟩ = some (.slice x3_0 n3_0 c3_0) := HX.out.cell 3
        by_cases t3 : ((bulkK wtDz l3) : Int) ≤ left - ((bulkK wtKy l0) : Int) - ((bulkK wtRl l1) : Int) - ((bulkK wtNn l2) : Int)
        · rw [szW_fit t3]
          have b3 : ¬ left - ((bulkK wtKy l0) : Int) - ((bulkK wtRl l1) : Int) - ((bulkK wtNn l2) : Int) - ((bulkK wtDz l3) : Int) < 0 := by omega
          have HZ : Hid (szW (((bulkK wtKy l0) + (bulkK wtRl l1) + (bulkK wtNn l2) + (bulkK wtDz l3))) left = left - ((bulkK wtKy l0) : Int) - ((bulkK wtRl l1) : Int) - ((bulkK wtNn l2) : Int) - ((bulkK wtDz l3) : Int)) := Lib.hid (by rw [szW_fit (by omega)]; (try omega))
          go_wp2
          go_ret
          exact ⟨ret_int HZ.out.symm, HB.out⟩
        · rw [szW_not t3]
          have HZ : Hid (szW (((bulkK wtKy l0) + (bulkK wtRl l1) + (bulkK wtNn l2) + (bulkK wtDz l3))) left = -1) := Lib.hid (szW_not (by omega))
          go_wp2
          go_ret
          exact ⟨ret_int HZ.out.symm, HB.out⟩
      · rw [szW_not t2]
        have HZ : Hid (szW (((bulkK wtKy l0) + (bulkK wtRl l1) + (bulkK wtNn l2) + (bulkK wtDz l3))) left = -1) := Lib.hid (szW_not (by omega))
        go_wp2
        go_ret
        exact ⟨ret_int HZ.out.symm, HB.out⟩
    · rw [szW_not t1]
      have HZ : Hid (szW (((bulkK wtKy l0) + (bulkK wtRl l1) + (bulkK wtNn l2) + (bulkK wtDz l3))) left = -1) := Lib.hid (szW_not (by omega))
      go_wp2
      go_ret
      exact ⟨ret_int HZ.out.symm, HB.out⟩
  · rw [szW_not t0]
    have HZ : Hid (szW (((bulkK wtKy l0) + (bulkK wtRl l1) + (bulkK wtNn l2) + (bulkK wtDz l3))) left = -1) := Lib.hid (szW_not (by omega))
    go_wp2
    go_ret
    exact ⟨ret_int HZ.out.symm, HB.out⟩
set_option maxHeartbeats 4000000 in
theorem toTrustPolicyK (V : Value) (x : Tpt) (w : World) (h : kTp.At w V x) (hp : adTp x ≤ 100000000) :
    Calls Try.prog 10 #[V] w fun e w' => ∃ U, e = .returned U ∧ kTp.In w.heap.size w'.heap.size w' U x ∧ Below w.heap.size w w' := by
  obtain ⟨x0_0, n0_0, c0_0, x1_0, n1_0, c1_0, x2_0, n2_0, c2_0, x3_0, n3_0, c3_0, rfl, g0, g1, g2, g3⟩ := kTp_at h
  obtain ⟨l0, l1, l2, l3⟩ := x
  have hp9 : bulkK adKy l0 + bulkK adRl l1 + bulkK adNn l2 + bulkK adDz l3 ≤ 100000000 := hp
  have hb0 := (Below.refl w.heap.size w).alloc (Nat.le_refl _) (.cells #[.slice x0_0 n0_0 c0_0, .slice x1_0 n1_0 c1_0, .slice x2_0 n2_0 c2_0, .slice x3_0 n3_0 c3_0] 27)
  have hb1 := hb0.alloc (by simp) (.cells #[.slice none 0 0, .slice none 0 0, .slice none 0 0, .slice none 0 0] 35)
  have hb2 := hb1.alloc (by simp; omega) (.cells #[.slice none 0 0, .slice none 0 0, .slice none 0 0, .slice none 0 0] 35)
  have HB := Lib.hid hb2
  have HX := Lib.hid (((Ret.Blk.new w #[.slice x0_0 n0_0 c0_0, .slice x1_0 n1_0 c1_0, .slice x2_0 n2_0 c2_0, .slice x3_0 n3_0 c3_0] 27).on ((Below.refl _ _).alloc (Nat.le_refl _) (.cells #[.slice none 0 0, .slice none 0 0, .slice none 0 0, .slice none 0 0] 35))).on ((Below.refl _ _).alloc (Nat.le_refl _) (.cells #[.slice none 0 0, .slice none 0 0, .slice none 0 0, .slice none 0 0] 35)))
  have HR := Lib.hid ((Ret.Blk.new' (w := (w.alloc (.cells #[.slice x0_0 n0_0 c0_0, .slice x1_0 n1_0 c1_0, .slice x2_0 n2_0 c2_0, .slice x3_0 n3_0 c3_0] 27))) (n := w.heap.size + 1) #[.slice none 0 0, .slice none 0 0, .slice none 0 0, .slice none 0 0] 35 (by simp)).on ((Below.refl _ _).alloc (Nat.le_refl _) (.cells #[.slice none 0 0, .slice none 0 0, .slice none 0 0, .slice none 0 0] 35)))
  have HL := Lib.hid (Ret.Blk.new' (w := (w.alloc (.cells #[.slice x0_0 n0_0 c0_0, .slice x1_0 n1_0 c1_0, .slice x2_0 n2_0 c2_0, .slice x3_0 n3_0 c3_0] 27)).alloc (.cells #[.slice none 0 0, .slice none 0 0, .slice none 0 0, .slice none 0 0] 35)) (n := w.heap.size + 1 + 1) #[.slice none 0 0, .slice none 0 0, .slice none 0 0, .slice none 0 0] 35 (by simp))
  have hz0 : (((w.alloc (.cells #[.slice x0_0 n0_0 c0_0, .slice x1_0 n1_0 c1_0, .slice x2_0 n2_0 c2_0, .slice x3_0 n3_0 c3_0] 27)).alloc (.cells #[.slice none 0 0, .slice none 0 0, .slice none 0 0, .slice none 0 0] 35)).alloc (.cells #[.slice none 0 0, .slice none 0 0, .slice none 0 0, .slice none 0 0] 35)).heap.size = w.heap.size + 3 := by simp
  have G0 := Lib.hid g0
  have G1 := Lib.hid g1
  have G2 := Lib.hid g2
  have G3 := Lib.hid g3
  dsimp only at G0 G1 G2 G3 ⊢
  clear h hp hb0 hb1 hb2 g0 g1 g2 g3
  go_enter Try.func10, Try.ntmps10
  go_wp2_with fail
  refine (toKeySF _ l0 _ (G0.out.on HB.out) (by omega)).mono ?_
  rintro e w1 ⟨U0, rfl, ho, hb⟩
  have hs0 := hb.size
  obtain ⟨m0, rfl, r0, ho⟩ := ho.split
  obtain ⟨xy0_0, ny0_0, cy0_0, e0, -⟩ := kLKy_shapeA (Kd.at_of (k := kLKy) ho.holds)
  have d0 : kLKy.cells m0 = [.slice xy0_0 ny0_0 cy0_0] := by show [kLKy.val m0] = _; rw [e0]
  rw [e0]
  rw [hz0] at ho hs0; clear hz0
  replace HX := Lib.hid (HX.out.on hb); replace HR := Lib.hid (HR.out.on hb); replace HL := Lib.hid (HL.out.on hb)
  replace HB := Lib.hid (HB.out.trans (hb.mono HB.out.size)); clear hb
  have O0 := Lib.hid ho; clear ho
  have E0 := Lib.hid e0; have D0 := Lib.hid d0; have R0 := Lib.hid r0; clear e0 d0 r0
  have q0 : w1.cell? ⟨w.heap.size, 0, none⟩ = some (.slice x0_0 n0_0 c0_0) := HX.out.cell 0
  have q1 : w1.cell? ⟨w.heap.size, 1, none⟩ = some (.slice x1_0 n1_0 c1_0) := HX.out.cell 1
  have q2 : w1.cell? ⟨w.heap.size, 2, none⟩ = some (.slice x2_0 n2_0 c2_0) := HX.out.cell 2
  have q3 : w1.cell? ⟨w.heap.size, 3, none⟩ = some (.slice x3_0 n3_0 c3_0) := HX.out.cell 3
  have p0 : w1.cell? ⟨w.heap.size + 1 + 1, 0, none⟩ = some (.slice none 0 0) := HL.out.cell 0
  have p1 : w1.cell? ⟨w.heap.size + 1 + 1, 1, none⟩ = some (.slice none 0 0) := HL.out.cell 1
  have p2 : w1.cell? ⟨w.heap.size + 1 + 1, 2, none⟩ = some (.slice none 0 0) := HL.out.cell 2
  have p3 : w1.cell? ⟨w.heap.size + 1 + 1, 3, none⟩ = some (.slice none 0 0) := HL.out.cell 3
  have t0 := HL.out.frozen 0; have t1 := HL.out.frozen 1; have t2 := HL.out.frozen 2; have t3 := HL.out.frozen 3
  go_wp2_with fail
  clear q0 q1 q2 q3 p0 p1 p2 p3 t0 t1 t2 t3
  replace HX := Lib.hid (HX.out.other (a := ⟨w.heap.size + 1 + 1, 0, none⟩) (by show w.heap.size + 1 + 1 ≠ w.heap.size; omega) (.slice xy0_0 ny0_0 cy0_0))
  replace HR := Lib.hid (HR.out.other (a := ⟨w.heap.size + 1 + 1, 0, none⟩) (by show w.heap.size + 1 + 1 ≠ w.heap.size + 1; omega) (.slice xy0_0 ny0_0 cy0_0))
  replace HL := Lib.hid (HL.out.set 0 (.slice xy0_0 ny0_0 cy0_0))
  replace HB := Lib.hid (HB.out.setCell (p := ⟨w.heap.size + 1 + 1, 0, none⟩) (by show w.heap.size ≤ w.heap.size + 1 + 1; omega) (.slice xy0_0 ny0_0 cy0_0))
  replace O0 := Lib.hid (Kd.Own.set (g := w.heap.size + 1 + 1) (i := 0) (u := .slice xy0_0 ny0_0 cy0_0) O0.out (by omega))
  refine (toRuleSF _ l1 _ (G1.out.on HB.out) (by omega)).mono ?_
  rintro e w2 ⟨U1, rfl, ho, hb⟩
  have hs1 := hb.size
  obtain ⟨m1, rfl, r1, ho⟩ := ho.split
  obtain ⟨xy1_0, ny1_0, cy1_0, e1, -⟩ := kLRl_shapeA (Kd.at_of (k := kLRl) ho.holds)
  have d1 : kLRl.cells m1 = [.slice xy1_0 ny1_0 cy1_0] := by show [kLRl.val m1] = _; rw [e1]
  rw [e1]
  simp only [World.size_setCell] at hs1 ho
  replace HX := Lib.hid (HX.out.on hb); replace HR := Lib.hid (HR.out.on hb); replace HL := Lib.hid (HL.out.on hb)
  replace O0 := Lib.hid (O0.out.on hb)
  replace HB := Lib.hid (HB.out.trans (hb.mono HB.out.size)); clear hb
  have O1 := Lib.hid ho; clear ho
  have E1 := Lib.hid e1; have D1 := Lib.hid d1; have R1 := Lib.hid r1; clear e1 d1 r1
  have q0 : w2.cell? ⟨w.heap.size, 0, none⟩ = some (.slice x0_0 n0_0 c0_0) := HX.out.cell 0
  have q1 : w2.cell? ⟨w.heap.size, 1, none⟩ = some (.slice x1_0 n1_0 c1_0) := HX.out.cell 1
  have q2 : w2.cell? ⟨w.heap.size, 2, none⟩ = some (.slice x2_0 n2_0 c2_0) := HX.out.cell 2
  have q3 : w2.cell? ⟨w.heap.size, 3, none⟩ = some (.slice x3_0 n3_0 c3_0) := HX.out.cell 3
  have p0 : w2.cell? ⟨w.heap.size + 1 + 1, 0, none⟩ = some (.slice xy0_0 ny0_0 cy0_0) := HL.out.cell 0
  have p1 : w2.cell? ⟨w.heap.size + 1 + 1, 1, none⟩ = some (.slice none 0 0) := HL.out.cell 1
  have p2 : w2.cell? ⟨w.heap.size + 1 + 1, 2, none⟩ = some (.slice none 0 0) := HL.out.cell 2
  have p3 : w2.cell? ⟨w.heap.size + 1 + 1, 3, none⟩ = some (.slice none 0 0) := HL.out.cell 3
  have t0 := HL.out.frozen 0; have t1 := HL.out.frozen 1; have t2 := HL.out.frozen 2; have t3 := HL.out.frozen 3
  go_wp2_with fail
  clear q0 q1 q2 q3 p0 p1 p2 p3 t0 t1 t2 t3
  replace HX := Lib.hid (HX.out.other (a := ⟨w.heap.size + 1 + 1, 1, none⟩) (by show w.heap.size + 1 + 1 ≠ w.heap.size; omega) (.slice xy1_0 ny1_0 cy1_0))
  replace HR := Lib.hid (HR.out.other (a := ⟨w.heap.size + 1 + 1, 1, none⟩) (by show w.heap.size + 1 + 1 ≠ w.heap.size + 1; omega) (.slice xy1_0 ny1_0 cy1_0))
  replace HL := Lib.hid (HL.out.set 1 (.slice xy1_0 ny1_0 cy1_0))
  replace HB := Lib.hid (HB.out.setCell (p := ⟨w.heap.size + 1 + 1, 1, none⟩) (by show w.heap.size ≤ w.heap.size + 1 + 1; omega) (.slice xy1_0 ny1_0 cy1_0))
  replace O0 := Lib.hid (Kd.Own.set (g := w.heap.size + 1 + 1) (i := 1) (u := .slice xy1_0 ny1_0 cy1_0) O0.out (by omega))
  replace O1 := Lib.hid (Kd.Own.set (g := w.heap.size + 1 + 1) (i := 1) (u := .slice xy1_0 ny1_0 cy1_0) O1.out (by omega))
  refine (toNameSF _ l2 _ (G2.out.on HB.out) (by omega)).mono ?_
  rintro e w3 ⟨U2, rfl, ho, hb⟩
  have hs2 := hb.size
  obtain ⟨m2, rfl, r2, ho⟩ := ho.split
  obtain ⟨xy2_0, ny2_0, cy2_0, e2, -⟩ := kLNn_shapeA (Kd.at_of (k := kLNn) ho.holds)
  have d2 : kLNn.cells m2 = [.slice xy2_0 ny2_0 cy2_0] := by show [kLNn.val m2] = _; rw [e2]
  rw [e2]
  simp only [World.size_setCell] at hs2 ho
  replace HX := Lib.hid (HX.out.on hb); replace HR := Lib.hid (HR.out.on hb); replace HL := Lib.hid (HL.out.on hb)
  replace O0 := Lib.hid (O0.out.on hb)
  replace O1 := Lib.hid (O1.out.on hb)
  replace HB := Lib.hid (HB.out.trans (hb.mono HB.out.size)); clear hb
  have O2 := Lib.hid ho; clear ho
  have E2 := Lib.hid e2; have D2 := Lib.hid d2; have R2 := Lib.hid r2; clear e2 d2 r2
  have q0 : w3.cell? ⟨w.heap.size, 0, none⟩ = some (.slice x0_0 n0_0 c0_0) := HX.out.cell 0
  have q1 : w3.cell? ⟨w.heap.size, 1, none⟩ = some (.slice x1_0 n1_0 c1_0) := HX.out.cell 1
  have q2 : w3.cell? ⟨w.heap.size, 2, none⟩ = some (.slice x2_0 n2_0 c2_0) := HX.out.cell 2
  have q3 : w3.cell? ⟨w.heap.size, 3, none⟩ = some (.slice x3_0 n3_0 c3_0) := HX.out.cell 3
  have p0 : w3.cell? ⟨w.heap.size + 1 + 1, 0, none⟩ = some (.slice xy0_0 ny0_0 cy0_0) := HL.out.cell 0
  have p1 : w3.cell? ⟨w.heap.size + 1 + 1, 1, none⟩ = some (.slice xy1_0 ny1_0 cy1_0) := HL.out.cell 1
  have p2 : w3.cell? ⟨w.heap.size + 1 + 1, 2, none⟩ = some (.slice none 0 0) := HL.out.cell 2
  have p3 : w3.cell? ⟨w.heap.size + 1 + 1, 3, none⟩ = some (.slice none 0 0) := HL.out.cell 3
  have t0 := HL.out.frozen 0; have t1 := HL.out.frozen 1; have t2 := HL.out.frozen 2; have t3 := HL.out.frozen 3
  go_wp2_with fail
  clear q0 q1 q2 q3 p0 p1 p2 p3 t0 t1 t2 t3
  replace HX := Lib.hid (HX.out.other (a := ⟨w.heap.size + 1 + 1, 2, none⟩) (by show w.heap.size + 1 + 1 ≠ w.heap.size; omega) (.slice xy2_0 ny2_0 cy2_0))
  replace HR := Lib.hid (HR.out.other (a := ⟨w.heap.size + 1 + 1, 2, none⟩) (by show w.heap.size + 1 + 1 ≠ w.heap.size + 1; omega) (.slice xy2_0 ny2_0 cy2_0))
  replace HL := Lib.hid (HL.out.set 2 (.slice xy2_0 ny2_0 cy2_0))
  replace HB := Lib.hid (HB.out.setCell (p := ⟨w.heap.size + 1 + 1, 2, none⟩) (by show w.heap.size ≤ w.heap.size + 1 + 1; omega) (.slice xy2_0 ny2_0 cy2_0))
  replace O0 := Lib.hid (Kd.Own.set (g := w.heap.size + 1 + 1) (i := 2) (u := .slice xy2_0 ny2_0 cy2_0) O0.out (by omega))
  replace O1 := Lib.hid (Kd.Own.set (g := w.heap.size + 1 + 1) (i := 2) (u := .slice xy2_0 ny2_0 cy2_0) O1.out (by omega))
  replace O2 := Lib.hid (Kd.Own.set (g := w.heap.size + 1 + 1) (i := 2) (u := .slice xy2_0 ny2_0 cy2_0) O2.out (by omega))
  refine (toDataSF _ l3 _ (G3.out.on HB.out) (by omega)).mono ?_
  rintro e w4 ⟨U3, rfl, ho, hb⟩
  have hs3 := hb.size
  obtain ⟨m3, rfl, r3, ho⟩ := ho.split
  obtain ⟨xy3_0, ny3_0, cy3_0, e3, -⟩ := kLDz_shapeA (Kd.at_of (k := kLDz) ho.holds)
  have d3 : kLDz.cells m3 = [.slice xy3_0 ny3_0 cy3_0] := by show [kLDz.val m3] = _; rw [e3]
  rw [e3]
  simp only [World.size_setCell] at hs3 ho
  replace HX := Lib.hid (HX.out.on hb); replace HR := Lib.hid (HR.out.on hb); replace HL := Lib.hid (HL.out.on hb)
  replace O0 := Lib.hid (O0.out.on hb)
  replace O1 := Lib.hid (O1.out.on hb)
  replace O2 := Lib.hid (O2.out.on hb)
  replace HB := Lib.hid (HB.out.trans (hb.mono HB.out.size)); clear hb
  have O3 := Lib.hid ho; clear ho
  have E3 := Lib.hid e3; have D3 := Lib.hid d3; have R3 := Lib.hid r3; clear e3 d3 r3
  have q0 : w4.cell? ⟨w.heap.size, 0, none⟩ = some (.slice x0_0 n0_0 c0_0) := HX.out.cell 0
  have q1 : w4.cell? ⟨w.heap.size, 1, none⟩ = some (.slice x1_0 n1_0 c1_0) := HX.out.cell 1
  have q2 : w4.cell? ⟨w.heap.size, 2, none⟩ = some (.slice x2_0 n2_0 c2_0) := HX.out.cell 2
  have q3 : w4.cell? ⟨w.heap.size, 3, none⟩ = some (.slice x3_0 n3_0 c3_0) := HX.out.cell 3
  have p0 : w4.cell? ⟨w.heap.size + 1 + 1, 0, none⟩ = some (.slice xy0_0 ny0_0 cy0_0) := HL.out.cell 0
  have p1 : w4.cell? ⟨w.heap.size + 1 + 1, 1, none⟩ = some (.slice xy1_0 ny1_0 cy1_0) := HL.out.cell 1
  have p2 : w4.cell? ⟨w.heap.size + 1 + 1, 2, none⟩ = some (.slice xy2_0 ny2_0 cy2_0) := HL.out.cell 2
  have p3 : w4.cell? ⟨w.heap.size + 1 + 1, 3, none⟩ = some (.slice none 0 0) := HL.out.cell 3
  have t0 := HL.out.frozen 0; have t1 := HL.out.frozen 1; have t2 := HL.out.frozen 2; have t3 := HL.out.frozen 3
  have r0 : w4.cell? ⟨w.heap.size + 1, 0, none⟩ = some (.slice none 0 0) := HR.out.cell 0
  have r1 : w4.cell? ⟨w.heap.size + 1, 1, none⟩ = some (.slice none 0 0) := HR.out.cell 1
  have r2 : w4.cell? ⟨w.heap.size + 1, 2, none⟩ = some (.slice none 0 0) := HR.out.cell 2
  have r3 : w4.cell? ⟨w.heap.size + 1, 3, none⟩ = some (.slice none 0 0) := HR.out.cell 3
  have u0 := HR.out.frozen 0; have u1 := HR.out.frozen 1; have u2 := HR.out.frozen 2; have u3 := HR.out.frozen 3
  have Z := Lib.hid (((((HR.out.other (a := ⟨w.heap.size + 1 + 1, 3, none⟩) (by show w.heap.size + 1 + 1 ≠ w.heap.size + 1; omega) (.slice xy3_0 ny3_0 cy3_0)).set 0 (.slice xy0_0 ny0_0 cy0_0)).set 1 (.slice xy1_0 ny1_0 cy1_0)).set 2 (.slice xy2_0 ny2_0 cy2_0)).set 3 (.slice xy3_0 ny3_0 cy3_0))
  have ZB := Lib.hid (((((HB.out.setCell (p := ⟨w.heap.size + 1 + 1, 3, none⟩) (by show w.heap.size ≤ w.heap.size + 1 + 1; omega) (.slice xy3_0 ny3_0 cy3_0)).setCell (p := ⟨w.heap.size + 1, 0, none⟩) (by show w.heap.size ≤ w.heap.size + 1; omega) (.slice xy0_0 ny0_0 cy0_0)).setCell (p := ⟨w.heap.size + 1, 1, none⟩) (by show w.heap.size ≤ w.heap.size + 1; omega) (.slice xy1_0 ny1_0 cy1_0)).setCell (p := ⟨w.heap.size + 1, 2, none⟩) (by show w.heap.size ≤ w.heap.size + 1; omega) (.slice xy2_0 ny2_0 cy2_0)).setCell (p := ⟨w.heap.size + 1, 3, none⟩) (by show w.heap.size ≤ w.heap.size + 1; omega) (.slice xy3_0 ny3_0 cy3_0))
  have Z0 := Lib.hid (Kd.Own.set (g := w.heap.size + 1) (i := 3) (u := .slice xy3_0 ny3_0 cy3_0) (Kd.Own.set (g := w.heap.size + 1) (i := 2) (u := .slice xy2_0 ny2_0 cy2_0) (Kd.Own.set (g := w.heap.size + 1) (i := 1) (u := .slice xy1_0 ny1_0 cy1_0) (Kd.Own.set (g := w.heap.size + 1) (i := 0) (u := .slice xy0_0 ny0_0 cy0_0) (Kd.Own.set (g := w.heap.size + 1 + 1) (i := 3) (u := .slice xy3_0 ny3_0 cy3_0) O0.out (by omega)) (by omega)) (by omega)) (by omega)) (by omega))
  have Z1 := Lib.hid (Kd.Own.set (g := w.heap.size + 1) (i := 3) (u := .slice xy3_0 ny3_0 cy3_0) (Kd.Own.set (g := w.heap.size + 1) (i := 2) (u := .slice xy2_0 ny2_0 cy2_0) (Kd.Own.set (g := w.heap.size + 1) (i := 1) (u := .slice xy1_0 ny1_0 cy1_0) (Kd.Own.set (g := w.heap.size + 1) (i := 0) (u := .slice xy0_0 ny0_0 cy0_0) (Kd.Own.set (g := w.heap.size + 1 + 1) (i := 3) (u := .slice xy3_0 ny3_0 cy3_0) O1.out (by omega)) (by omega)) (by omega)) (by omega)) (by omega))
  have Z2 := Lib.hid (Kd.Own.set (g := w.heap.size + 1) (i := 3) (u := .slice xy3_0 ny3_0 cy3_0) (Kd.Own.set (g := w.heap.size + 1) (i := 2) (u := .slice xy2_0 ny2_0 cy2_0) (Kd.Own.set (g := w.heap.size + 1) (i := 1) (u := .slice xy1_0 ny1_0 cy1_0) (Kd.Own.set (g := w.heap.size + 1) (i := 0) (u := .slice xy0_0 ny0_0 cy0_0) (Kd.Own.set (g := w.heap.size + 1 + 1) (i := 3) (u := .slice xy3_0 ny3_0 cy3_0) O2.out (by omega)) (by omega)) (by omega)) (by omega)) (by omega))
  have Z3 := Lib.hid (Kd.Own.set (g := w.heap.size + 1) (i := 3) (u := .slice xy3_0 ny3_0 cy3_0) (Kd.Own.set (g := w.heap.size + 1) (i := 2) (u := .slice xy2_0 ny2_0 cy2_0) (Kd.Own.set (g := w.heap.size + 1) (i := 1) (u := .slice xy1_0 ny1_0 cy1_0) (Kd.Own.set (g := w.heap.size + 1) (i := 0) (u := .slice xy0_0 ny0_0 cy0_0) (Kd.Own.set (g := w.heap.size + 1 + 1) (i := 3) (u := .slice xy3_0 ny3_0 cy3_0) O3.out (by omega)) (by omega)) (by omega)) (by omega)) (by omega))
  go_wp2_with fail
  refine bodyPost_ret (Ret.results_c rfl _ _ (w.heap.size + 1) [.slice xy0_0 ny0_0 cy0_0, .slice xy1_0 ny1_0 cy1_0, .slice xy2_0 ny2_0 cy2_0, .slice xy3_0 ny3_0 cy3_0] rfl aggTp Z.out.cells) rfl ?_
  have hval : kTp.val (m0, m1, m2, m3) = .agg #[.slice xy0_0 ny0_0 cy0_0, .slice xy1_0 ny1_0 cy1_0, .slice xy2_0 ny2_0 cy2_0, .slice xy3_0 ny3_0 cy3_0] := by
    show Value.agg ((kLKy.cells m0 ++ (kLRl.cells m1 ++ (kLNn.cells m2 ++ (kLDz.cells m3))))).toArray = _
    rw [D0.out, D1.out, D2.out, D3.out]
    rfl
  have hstr : kTp.strip (m0, m1, m2, m3) = (l0, l1, l2, l3) := Prod.ext R0.out (Prod.ext R1.out (Prod.ext R2.out (R3.out)))
  refine ⟨_, rfl, ?_, ZB.out⟩
  rw [← hval, ← hstr]
  refine Kd.Own.in ?_
  exact (Kd.Own.pair (C := w1.heap.size) (Z0.out.mono (by omega) (by omega)) (Kd.Own.pair (C := w2.heap.size) (Z1.out.mono (by omega) (by omega)) (Kd.Own.pair (C := w3.heap.size) (Z2.out.mono (by omega) (by omega)) (Z3.out.mono (by omega) (by simp only [World.size_setCell]; omega)) (by omega) (by simp only [World.size_setCell]; omega)) (by omega) (by simp only [World.size_setCell]; omega)) (by omega) (by simp only [World.size_setCell]; omega))
set_option maxHeartbeats 4000000 in
theorem eqTrustPolicyK (V U : Value) (x y : Tpt) (w : World) (q : Bool) (hq : decide (x = y) = q) (h : kTp.At w V x) (g : kTp.At w U y) (hp : adTp x ≤ 100000000) (hy : adTp y ≤ 100000000) :
    Calls Try.prog 12 #[V, U] w fun e w' => e = .returned (.bool q) ∧ Below w.heap.size w w' := by
  obtain ⟨x0_0, n0_0, c0_0, x1_0, n1_0, c1_0, x2_0, n2_0, c2_0, x3_0, n3_0, c3_0, rfl, g0, g1, g2, g3⟩ := kTp_at h
  obtain ⟨l0, l1, l2, l3⟩ := x
  obtain ⟨xy0_0, ny0_0, cy0_0, xy1_0, ny1_0, cy1_0, xy2_0, ny2_0, cy2_0, xy3_0, ny3_0, cy3_0, rfl, gy0, gy1, gy2, gy3⟩ := kTp_at g
  obtain ⟨ly0, ly1, ly2, ly3⟩ := y
  have hp9 : bulkK adKy l0 + bulkK adRl l1 + bulkK adNn l2 + bulkK adDz l3 ≤ 100000000 := hp
  have hy9 : bulkK adKy ly0 + bulkK adRl ly1 + bulkK adNn ly2 + bulkK adDz ly3 ≤ 100000000 := hy
  have hb0 := (Below.refl w.heap.size w).alloc (Nat.le_refl _) (.cells #[.slice x0_0 n0_0 c0_0, .slice x1_0 n1_0 c1_0, .slice x2_0 n2_0 c2_0, .slice x3_0 n3_0 c3_0] 35)
  have HB := Lib.hid (hb0.alloc (by simp) (.cells #[.slice xy0_0 ny0_0 cy0_0, .slice xy1_0 ny1_0 cy1_0, .slice xy2_0 ny2_0 cy2_0, .slice xy3_0 ny3_0 cy3_0] 35))
  have HX := Lib.hid ((Ret.Blk.new w #[.slice x0_0 n0_0 c0_0, .slice x1_0 n1_0 c1_0, .slice x2_0 n2_0 c2_0, .slice x3_0 n3_0 c3_0] 35).on ((Below.refl _ _).alloc (Nat.le_refl _) (.cells #[.slice xy0_0 ny0_0 cy0_0, .slice xy1_0 ny1_0 cy1_0, .slice xy2_0 ny2_0 cy2_0, .slice xy3_0 ny3_0 cy3_0] 35)))
  have HY := Lib.hid (Ret.Blk.new' (w := w.alloc (.cells #[.slice x0_0 n0_0 c0_0, .slice x1_0 n1_0 c1_0, .slice x2_0 n2_0 c2_0, .slice x3_0 n3_0 c3_0] 35)) (n := w.heap.size + 1) #[.slice xy0_0 ny0_0 cy0_0, .slice xy1_0 ny1_0 cy1_0, .slice xy2_0 ny2_0 cy2_0, .slice xy3_0 ny3_0 cy3_0] 35 (by simp))
  have HQ := Lib.hid hq
  have G0 := Lib.hid g0; have Gy0 := Lib.hid gy0
  have G1 := Lib.hid g1; have Gy1 := Lib.hid gy1
  have G2 := Lib.hid g2; have Gy2 := Lib.hid gy2
  have G3 := Lib.hid g3; have Gy3 := Lib.hid gy3
  dsimp only at G0 Gy0 G1 Gy1 G2 Gy2 G3 Gy3 ⊢
  clear h g hq hp hy hb0 g0 gy0 g1 gy1 g2 gy2 g3 gy3
  go_enter Try.func12, Try.ntmps12
  go_wp2_with fail
  by_cases e0 : l0 = ly0
  · refine (eqKeySF _ _ l0 ly0 _ true (decide_eq_true e0) (G0.out.on HB.out) (Gy0.out.on HB.out) (by omega) (by omega)).mono ?_
    rintro e w1 ⟨rfl, hb⟩
    replace HX := Lib.hid (HX.out.on hb); replace HY := Lib.hid (HY.out.on hb)
    replace HB := Lib.hid (HB.out.trans (hb.mono HB.out.size)); clear hb
    have q0 : w1.cell? ⟨w.heap.size, 0, none⟩ = some (.slice x0_0 n0_0 c0_0) := HX.out.cell 0
    have q1 : w1.cell? ⟨w.heap.size, 1, none⟩ = some (.slice x1_0 n1_0 c1_0) := HX.out.cell 1
    have q2 : w1.cell? ⟨w.heap.size, 2, none⟩ = some (.slice x2_0 n2_0 c2_0) := HX.out.cell 2
    have q3 : w1.cell? ⟨w.heap.size, 3, none⟩ = some (.slice x3_0 n3_0 c3_0) := HX.out.cell 3
    have p0 : w1.cell? ⟨w.heap.size + 1, 0, none⟩ = some (.slice xy0_0 ny0_0 cy0_0) := HY.out.cell 0
    have p1 : w1.cell? ⟨w.heap.size + 1, 1, none⟩ = some (.slice xy1_0 ny1_0 cy1_0) := HY.out.cell 1
    have p2 : w1.cell? ⟨w.heap.size + 1, 2, none⟩ = some (.slice xy2_0 ny2_0 cy2_0) := HY.out.cell 2
    have p3 : w1.cell? ⟨w.heap.size + 1, 3, none⟩ = some (.slice xy3_0 ny3_0 cy3_0) := HY.out.cell 3
    go_wp2_with fail
    clear q0 q1 q2 q3 p0 p1 p2 p3
    by_cases e1 : l1 = ly1
    · refine (eqRuleSF _ _ l1 ly1 _ true (decide_eq_true e1) (G1.out.on HB.out) (Gy1.out.on HB.out) (by omega) (by omega)).mono ?_
      rintro e w2 ⟨rfl, hb⟩
      replace HX := Lib.hid (HX.out.on hb); replace HY := Lib.hid (HY.out.on hb)
      replace HB := Lib.hid (HB.out.trans (hb.mono HB.out.size)); clear hb
      have q0 : w2.cell? ⟨w.heap.size, 0, none⟩ = some (.slice x0_0 n0_0 c0_0) := HX.out.cell 0
      have q1 : w2.cell? ⟨w.heap.size, 1, none⟩ = some (.slice x1_0 n1_0 c1_0) := HX.out.cell 1
      have q2 : w2.cell? ⟨w.heap.size, 2, none⟩ = some (.slice x2_0 n2_0 c2_0) := HX.out.cell 2
      have q3 : w2.cell? ⟨w.heap.size, 3, none⟩ = some (.slice x3_0 n3_0 c3_0) := HX.out.cell 3
      have p0 : w2.cell? ⟨w.heap.size + 1, 0, none⟩ = some (.slice xy0_0 ny0_0 cy0_0) := HY.out.cell 0
      have p1 : w2.cell? ⟨w.heap.size + 1, 1, none⟩ = some (.slice xy1_0 ny1_0 cy1_0) := HY.out.cell 1
      have p2 : w2.cell? ⟨w.heap.size + 1, 2, none⟩ = some (.slice xy2_0 ny2_0 cy2_0) := HY.out.cell 2
      have p3 : w2.cell? ⟨w.heap.size + 1, 3, none⟩ = some (.slice xy3_0 ny3_0 cy3_0) := HY.out.cell 3
      go_wp2_with fail
      clear q0 q1 q2 q3 p0 p1 p2 p3
      by_cases e2 : l2 = ly2
      · refine (eqNameSF _ _ l2 ly2 _ true (decide_eq_true e2) (G2.out.on HB.out) (Gy2.out.on HB.out) (by omega) (by omega)).mono ?_
        rintro e w3 ⟨rfl, hb⟩
        replace HX := Lib.hid (HX.out.on hb); replace HY := Lib.hid (HY.out.on hb)
        replace HB := Lib.hid (HB.out.trans (hb.mono HB.out.size)); clear hb
        have q0 : w3.cell? ⟨w.heap.size, 0, none⟩ = some (.slice x0_0 n0_0 c0_0) := HX.out.cell 0
        have q1 : w3.cell? ⟨w.heap.size, 1, none⟩ = some (.slice x1_0 n1_0 c1_0) := HX.out.cell 1
        have q2 : w3.cell? ⟨w.heap.size, 2, none⟩ = some (.slice x2_0 n2_0 c2_0) := HX.out.cell 2
        have q3 : w3.cell? ⟨w.heap.size, 3, none⟩ = some (.slice x3_0 n3_0 c3_0) := HX.out.cell 3
        have p0 : w3.cell? ⟨w.heap.size + 1, 0, none⟩ = some (.slice xy0_0 ny0_0 cy0_0) := HY.out.cell 0
        have p1 : w3.cell? ⟨w.heap.size + 1, 1, none⟩ = some (.slice xy1_0 ny1_0 cy1_0) := HY.out.cell 1
        have p2 : w3.cell? ⟨w.heap.size + 1, 2, none⟩ = some (.slice xy2_0 ny2_0 cy2_0) := HY.out.cell 2
        have p3 : w3.cell? ⟨w.heap.size + 1, 3, none⟩ = some (.slice xy3_0 ny3_0 cy3_0) := HY.out.cell 3
        go_wp2_with fail
        clear q0 q1 q2 q3 p0 p1 p2 p3
        by_cases e3 : l3 = ly3
        · refine (eqDataSF _ _ l3 ly3 _ true (decide_eq_true e3) (G3.out.on HB.out) (Gy3.out.on HB.out) (by omega) (by omega)).mono ?_
          rintro e w4 ⟨rfl, hb⟩
          replace HX := Lib.hid (HX.out.on hb); replace HY := Lib.hid (HY.out.on hb)
          replace HB := Lib.hid (HB.out.trans (hb.mono HB.out.size)); clear hb
          have q0 : w4.cell? ⟨w.heap.size, 0, none⟩ = some (.slice x0_0 n0_0 c0_0) := HX.out.cell 0
          have q1 : w4.cell? ⟨w.heap.size, 1, none⟩ = some (.slice x1_0 n1_0 c1_0) := HX.out.cell 1
          have q2 : w4.cell? ⟨w.heap.size, 2, none⟩ = some (.slice x2_0 n2_0 c2_0) := HX.out.cell 2
          have q3 : w4.cell? ⟨w.heap.size, 3, none⟩ = some (.slice x3_0 n3_0 c3_0) := HX.out.cell 3
          have p0 : w4.cell? ⟨w.heap.size + 1, 0, none⟩ = some (.slice xy0_0 ny0_0 cy0_0) := HY.out.cell 0
          have p1 : w4.cell? ⟨w.heap.size + 1, 1, none⟩ = some (.slice xy1_0 ny1_0 cy1_0) := HY.out.cell 1
          have p2 : w4.cell? ⟨w.heap.size + 1, 2, none⟩ = some (.slice xy2_0 ny2_0 cy2_0) := HY.out.cell 2
          have p3 : w4.cell? ⟨w.heap.size + 1, 3, none⟩ = some (.slice xy3_0 ny3_0 cy3_0) := HY.out.cell 3
          have HE : Hid (q = true) := Lib.hid (by rw [← HQ.out]; simp [e0, e1, e2, e3])
          clear e0 e1 e2 e3
          go_wp2
          go_ret
          exact ⟨ret_bool HE.out.symm, HB.out⟩
        · refine (eqDataSF _ _ l3 ly3 _ false (decide_eq_false e3) (G3.out.on HB.out) (Gy3.out.on HB.out) (by omega) (by omega)).mono ?_
          rintro e w4 ⟨rfl, hb⟩
          replace HX := Lib.hid (HX.out.on hb); replace HY := Lib.hid (HY.out.on hb)
          replace HB := Lib.hid (HB.out.trans (hb.mono HB.out.size)); clear hb
          have q0 : w4.cell? ⟨w.heap.size, 0, none⟩ = some (.slice x0_0 n0_0 c0_0) := HX.out.cell 0
          have q1 : w4.cell? ⟨w.heap.size, 1, none⟩ = some (.slice x1_0 n1_0 c1_0) := HX.out.cell 1
          have q2 : w4.cell? ⟨w.heap.size, 2, none⟩ = some (.slice x2_0 n2_0 c2_0) := HX.out.cell 2
          have q3 : w4.cell? ⟨w.heap.size, 3, none⟩ = some (.slice x3_0 n3_0 c3_0) := HX.out.cell 3
          have p0 : w4.cell? ⟨w.heap.size + 1, 0, none⟩ = some (.slice xy0_0 ny0_0 cy0_0) := HY.out.cell 0
          have p1 : w4.cell? ⟨w.heap.size + 1, 1, none⟩ = some (.slice xy1_0 ny1_0 cy1_0) := HY.out.cell 1
          have p2 : w4.cell? ⟨w.heap.size + 1, 2, none⟩ = some (.slice xy2_0 ny2_0 cy2_0) := HY.out.cell 2
          have p3 : w4.cell? ⟨w.heap.size + 1, 3, none⟩ = some (.slice xy3_0 ny3_0 cy3_0) := HY.out.cell 3
          have HE : Hid (q = false) := Lib.hid (by rw [← HQ.out]; simp [e3])
          clear e3
          go_wp2
          go_ret
          exact ⟨ret_bool HE.out.symm, HB.out⟩
      · refine (eqNameSF _ _ l2 ly2 _ false (decide_eq_false e2) (G2.out.on HB.out) (Gy2.out.on HB.out) (by omega) (by omega)).mono ?_
        rintro e w3 ⟨rfl, hb⟩
        replace HX := Lib.hid (HX.out.on hb); replace HY := Lib.hid (HY.out.on hb)
        replace HB := Lib.hid (HB.out.trans (hb.mono HB.out.size)); clear hb
        have q0 : w3.cell? ⟨w.heap.size, 0, none⟩ = some (.slice x0_0 n0_0 c0_0) := HX.out.cell 0
        have q1 : w3.cell? ⟨w.heap.size, 1, none⟩ = some (.slice x1_0 n1_0 c1_0) := HX.out.cell 1
        have q2 : w3.cell? ⟨w.heap.size, 2, none⟩ = some (.slice x2_0 n2_0 c2_0) := HX.out.cell 2
        have q3 : w3.cell? ⟨w.heap.size, 3, none⟩ = some (.slice x3_0 n3_0 c3_0) := HX.out.cell 3
        have p0 : w3.cell? ⟨w.heap.size + 1, 0, none⟩ = some (.slice xy0_0 ny0_0 cy0_0) := HY.out.cell 0
        have p1 : w3.cell? ⟨w.heap.size + 1, 1, none⟩ = some (.slice xy1_0 ny1_0 cy1_0) := HY.out.cell 1
        have p2 : w3.cell? ⟨w.heap.size + 1, 2, none⟩ = some (.slice xy2_0 ny2_0 cy2_0) := HY.out.cell 2
        have p3 : w3.cell? ⟨w.heap.size + 1, 3, none⟩ = some (.slice xy3_0 ny3_0 cy3_0) := HY.out.cell 3
        have HE : Hid (q = false) := Lib.hid (by rw [← HQ.out]; simp [e2])
        clear e2
        go_wp2
        go_ret
        exact ⟨ret_bool HE.out.symm, HB.out⟩
    · refine (eqRuleSF _ _ l1 ly1 _ false (decide_eq_false e1) (G1.out.on HB.out) (Gy1.out.on HB.out) (by omega) (by omega)).mono ?_
      rintro e w2 ⟨rfl, hb⟩
      replace HX := Lib.hid (HX.out.on hb); replace HY := Lib.hid (HY.out.on hb)
      replace HB := Lib.hid (HB.out.trans (hb.mono HB.out.size)); clear hb
      have q0 : w2.cell? ⟨w.heap.size, 0, none⟩ = some (.slice x0_0 n0_0 c0_0) := HX.out.cell 0
      have q1 : w2.cell? ⟨w.heap.size, 1, none⟩ = some (.slice x1_0 n1_0 c1_0) := HX.out.cell 1
      have q2 : w2.cell? ⟨w.heap.size, 2, none⟩ = some (.slice x2_0 n2_0 c2_0) := HX.out.cell 2
      have q3 : w2.cell? ⟨w.heap.size, 3, none⟩ = some (.slice x3_0 n3_0 c3_0) := HX.out.cell 3
      have p0 : w2.cell? ⟨w.heap.size + 1, 0, none⟩ = some (.slice xy0_0 ny0_0 cy0_0) := HY.out.cell 0
      have p1 : w2.cell? ⟨w.heap.size + 1, 1, none⟩ = some (.slice xy1_0 ny1_0 cy1_0) := HY.out.cell 1
      have p2 : w2.cell? ⟨w.heap.size + 1, 2, none⟩ = some (.slice xy2_0 ny2_0 cy2_0) := HY.out.cell 2
      have p3 : w2.cell? ⟨w.heap.size + 1, 3, none⟩ = some (.slice xy3_0 ny3_0 cy3_0) := HY.out.cell 3
      have HE : Hid (q = false) := Lib.hid (by rw [← HQ.out]; simp [e1])
      clear e1
      go_wp2
      go_ret
      exact ⟨ret_bool HE.out.symm, HB.out⟩
  · refine (eqKeySF _ _ l0 ly0 _ false (decide_eq_false e0) (G0.out.on HB.out) (Gy0.out.on HB.out) (by omega) (by omega)).mono ?_
    rintro e w1 ⟨rfl, hb⟩
    replace HX := Lib.hid (HX.out.on hb); replace HY := Lib.hid (HY.out.on hb)
    replace HB := Lib.hid (HB.out.trans (hb.mono HB.out.size)); clear hb
    have q0 : w1.cell? ⟨w.heap.size, 0, none⟩ = some (.slice x0_0 n0_0 c0_0) := HX.out.cell 0
    have q1 : w1.cell? ⟨w.heap.size, 1, none⟩ = some (.slice x1_0 n1_0 c1_0) := HX.out.cell 1
    have q2 : w1.cell? ⟨w.heap.size, 2, none⟩ = some (.slice x2_0 n2_0 c2_0) := HX.out.cell 2
    have q3 : w1.cell? ⟨w.heap.size, 3, none⟩ = some (.slice x3_0 n3_0 c3_0) := HX.out.cell 3
    have p0 : w1.cell? ⟨w.heap.size + 1, 0, none⟩ = some (.slice xy0_0 ny0_0 cy0_0) := HY.out.cell 0
    have p1 : w1.cell? ⟨w.heap.size + 1, 1, none⟩ = some (.slice xy1_0 ny1_0 cy1_0) := HY.out.cell 1
    have p2 : w1.cell? ⟨w.heap.size + 1, 2, none⟩ = some (.slice xy2_0 ny2_0 cy2_0) := HY.out.cell 2
    have p3 : w1.cell? ⟨w.heap.size + 1, 3, none⟩ = some (.slice xy3_0 ny3_0 cy3_0) := HY.out.cell 3
    have HE : Hid (q = false) := Lib.hid (by rw [← HQ.out]; simp [e0])
    clear e0
    go_wp2
    go_ret
    exact ⟨ret_bool HE.out.symm, HB.out⟩
/-- It fits, and its numbers are numbers. -/
def inTp (x : Tpt) : Prop := inLKy x.1 ∧ inLRl x.2.1 ∧ inLNn x.2.2.1 ∧ inLDz x.2.2.2
theorem inTp.ok {x : Tpt} (h : inTp x) : okTp x := ⟨h.1.ok, h.2.1.ok, h.2.2.1.ok, h.2.2.2.ok⟩
theorem opens_TrustPolicy : OpensK Try.prog kTp 27 inTp := opens_struct Try.underlying27 (by kernel_rfl) (opensF_cons (ok := fun (z : List Kyt) => inLKy z) (ok' := fun (z : List Rlt × List Nnt × List Dzt) => inLRl z.1 ∧ inLNn z.2.1 ∧ inLDz z.2.2) opens_KeyS rfl (by kernel_rfl) (opensF_cons (ok := fun (z : List Rlt) => inLRl z) (ok' := fun (z : List Nnt × List Dzt) => inLNn z.1 ∧ inLDz z.2) opens_RuleS rfl (by kernel_rfl) (opensF_cons (ok := fun (z : List Nnt) => inLNn z) (ok' := fun (z : List Dzt) => inLDz z) opens_NameS rfl (by kernel_rfl) (opensF_last (ok := fun (z : List Dzt) => inLDz z) opens_DataS rfl (by kernel_rfl)))))

/-! ### in the laws' words -/
theorem adTp_le (x : Tpt) : adTp x ≤ wtTp x := by
  obtain ⟨l0, l1, l2, l3⟩ := x
  have e0 := show bulkK adKy l0 ≤ bulkK wtKy l0 from bulkK_mono adKy_le _
  have e1 := show bulkK adRl l1 ≤ bulkK wtRl l1 from bulkK_mono adRl_le _
  have e2 := show bulkK adNn l2 ≤ bulkK wtNn l2 from bulkK_mono adNn_le _
  have e3 := show bulkK adDz l3 ≤ bulkK wtDz l3 from bulkK_mono adDz_le _
  unfold adTp wtTp
  dsimp only
  omega
theorem adTp_big {x : Tpt} {n : Nat} (h : wtTp x ≤ n) : adTp x ≤ n := Nat.le_trans (adTp_le x) h
theorem szTpK (V : Value) (x : Tpt) (w : World) (left : Int) (h : kTp.At w V x) (hl : inTp x) (hs : inTp x) (h0 : 0 ≤ left) (h1 : left ≤ 1048576) :
    Calls Try.prog 8 #[V, .int .i64 left] w fun e w' => e = .returned (.int .i64 (szW (wtTp x) left)) ∧ Below w.heap.size w w' := szTrustPolicyK V x w left h hs.ok h0 h1
theorem sameTpK (V U : Value) (x : Tpt) (w : World) (h : kTp.At w V x) (g : kTp.At w U x) (hp : adTp x ≤ 100000000) :
    Calls Try.prog 12 #[V, U] w fun e w' => e = .returned (.bool true) ∧ Below w.heap.size w w' := eqTrustPolicyK V U x x w true (by simp) h g hp hp
end Go.Proofs.Ytcidfmmeonhkhaa.Row
/- Chapter 11 (trust) in the words of kinds: the model's IsAnchor. No conditions but that lengths fit. -/
namespace Go.Proofs.Ytcidfmmeonhkhaa.Row
open Go.ChangeShapes Go.WideShapes Go.ChangeAt Go.RowKit Go.Instr
set_option linter.unusedVariables false
set_option maxRecDepth 100000

/-! ### anchors -/
def anchorT (l : List Nnt) (n : List ByteArray) : Bool := l.any fun a => decide (a = n)
theorem anchorT_yes {l : List Nnt} {n : List ByteArray} {k : Nat} (hk : k < l.length) (h : nth l k = n) : anchorT l n = true := by
  unfold anchorT
  rw [List.any_eq_true]
  exact ⟨nth l k, nth_mem hk, by simp [h]⟩
theorem anchorT_no {l : List Nnt} {n : List ByteArray} (h : ∀ j, j < l.length → ¬ nth l j = n) : anchorT l n = false := by
  unfold anchorT
  rw [List.any_eq_false]
  intro a ha
  obtain ⟨j, hj, rfl⟩ := List.getElem_of_mem ha
  have := h j hj
  rw [nth_eq hj] at this
  simp [this]
theorem eqNV10 {w : World} {V U : Value} {l m : List ByteArray} (z : Bool) (hz : decide (l = m) = z) (h : kN.At w V l) (g : kN.At w U m) (hl : bulk l ≤ 9000000) (hm : bulk m ≤ 9000000) :
    Calls Try.prog 65 #[V, U] w fun e w' => e = .returned (.bool z) ∧ Below w.heap.size w w' := by
  obtain ⟨v, rfl, h9⟩ := kN_at h
  obtain ⟨u, rfl, g9⟩ := kN_at g
  exact hz ▸ specEqualNames v u l m w h9 g9 (by have := bulk_len l; omega) (by have := bulk_len m; omega)

set_option maxRecDepth 100000 in
set_option maxHeartbeats 4000000 in
theorem ria {Q : Exit → Act → World → Prop} {v0 v1 v4 v6 v7 v8 v9 v10 v11 v12 v13 v14 v15 v16 v17 v18 v19 : Value} {w : World} {b off n c g r k n0 c0 nn cn : Nat} {x0 xn : Option Addr} {a m : List ByteArray} {z : Bool} (hk : k < n) (hkc : k ≤ c) (hn : n ≤ 9000000) (HZ : Hid (decide (a = m) = z)) (H_a : Hid (kN.At w (.agg #[.slice x0 n0 c0]) a)) (H_m : Hid (kN.At w (.agg #[.slice xn nn cn]) m)) (HP : Hid (bulk a ≤ 9000000)) (HM : Hid (bulk m ≤ 9000000)) (K0 : Hid (w.cell? ⟨r, 2, none⟩ = some (.slice (some ⟨b, off, none⟩) n c))) (K1 : Hid (w.cell? ⟨b, off + k, none⟩ = some (.slice x0 n0 c0))) (K2 : Hid (w.cell? ⟨g, 0, none⟩ = some (.slice xn nn cn)))
    (hQ : ∀ (u13 u14 u15 u16 u17 u18 : Value)  (wx : World), Below w.heap.size w wx → Q .normal ⟨#[v0, v1, .pointer (some ⟨r, 0, none⟩), .pointer (some ⟨g, 0, none⟩), v4, .int .i64 k, v6, v7, v8, v9, v10, v11, v12, u13, u14, u15, u16, u17, u18, .bool z], []⟩ wx) :
    (Code.region 4 #[{ dst := some 13, op := Op.fieldAddr 35 (Operand.tmp 2) 2, type := 0, pos := "l11_trust.go:68", after := #[], guard := none },
      { dst := some 14, op := Op.load 32 (Operand.tmp 13), type := 32, pos := "l11_trust.go:68", after := #[{ on := 0, ground := Ground.data }], guard := none },
      { dst := some 15, op := Op.move (Operand.tmp 5), type := 3, pos := "l11_trust.go:68", after := #[], guard := none },
      { dst := some 16, op := Op.indexAddr 32 (Operand.tmp 14) (Operand.tmp 15), type := 0, pos := "l11_trust.go:68", after := #[{ on := 1, ground := Ground.data }, { on := 2, ground := Ground.data }], guard := none },
      { dst := some 17, op := Op.load 47 (Operand.tmp 16), type := 47, pos := "l11_trust.go:68", after := #[{ on := 3, ground := Ground.data }], guard := none },
      { dst := some 18, op := Op.load 47 (Operand.tmp 3), type := 47, pos := "l11_trust.go:68", after := #[], guard := none },
      { dst := some 19, op := Op.call { callee := Callee.value (Operand.func 65), args := #[Operand.tmp 17, Operand.tmp 18], argTypes := #[47, 47] }, type := 4, pos := "l11_trust.go:68", after := #[{ on := 4, ground := Ground.data }, { on := 5, ground := Ground.data }], guard := none }] true).wp Try.prog Q ⟨#[v0, v1, .pointer (some ⟨r, 0, none⟩), .pointer (some ⟨g, 0, none⟩), v4, .int .i64 k, v6, v7, v8, v9, v10, v11, v12, v13, v14, v15, v16, v17, v18, v19], []⟩ w := by
  have HQ := Lib.hid hQ; clear hQ
  have hdr : Below w.heap.size w w.drew := (Below.refl _ _).drew
  have BB := Lib.hid hdr
  refine wp_region_noPanic ?_
  refine wp_region_held_drew (S := (fun w' => w'.cell? ⟨r, 2, none⟩ = some (.slice (some ⟨b, off, none⟩) n c) ∧ w'.cell? ⟨b, off + k, none⟩ = some (.slice x0 n0 c0) ∧ w'.cell? ⟨g, 0, none⟩ = some (.slice xn nn cn))) (by kernel_rfl) ?_ (fun hHeld => ?_)
  · exact ⟨kc K0.out BB.out, kc K1.out BB.out, kc K2.out BB.out⟩
  clear hdr
  generalize w.drew = wd at *
  refine wpAnyH_take (i := 0) (oi := { dst := some 13, op := Op.fieldAddr 35 (Operand.tmp 2) 2, type := 0, pos := "l11_trust.go:68", after := #[], guard := none }) (v := ?_) rfl (by kernel_rfl) (by kernel_rfl) (by kernel_rfl) (fun _ _ _ h => h) (Or.inl ⟨by rfl, ?_⟩) (by assumption) ?_
  rotate_left
  · intro w' hSw; (try dsimp only at hSw); first | (go_simp; done) | (go_simp; with_reducible rfl)
  (try simp only [Act.put, List.setIfInBounds_toArray, List.set_cons_zero, List.set_cons_succ])
  refine wpAnyH_take (i := 1) (oi := { dst := some 14, op := Op.load 32 (Operand.tmp 13), type := 32, pos := "l11_trust.go:68", after := #[{ on := 0, ground := Ground.data }], guard := none }) (v := ?_) rfl (by kernel_rfl) (by kernel_rfl) (by kernel_rfl) (fun _ _ _ h => h) (Or.inl ⟨by rfl, ?_⟩) (by assumption) ?_
  rotate_left
  · intro w' hSw; (try dsimp only at hSw); first | (go_simp; done) | (go_simp; with_reducible rfl)
  (try simp only [Act.put, List.setIfInBounds_toArray, List.set_cons_zero, List.set_cons_succ])
  refine wpAnyH_take (i := 2) (oi := { dst := some 15, op := Op.move (Operand.tmp 5), type := 3, pos := "l11_trust.go:68", after := #[], guard := none }) (v := ?_) rfl (by kernel_rfl) (by kernel_rfl) (by kernel_rfl) (fun _ _ _ h => h) (Or.inl ⟨by rfl, ?_⟩) (by assumption) ?_
  rotate_left
  · intro w' hSw; (try dsimp only at hSw); first | (go_simp; done) | (go_simp; with_reducible rfl)
  (try simp only [Act.put, List.setIfInBounds_toArray, List.set_cons_zero, List.set_cons_succ])
  refine wpAnyH_take (i := 3) (oi := { dst := some 16, op := Op.indexAddr 32 (Operand.tmp 14) (Operand.tmp 15), type := 0, pos := "l11_trust.go:68", after := #[{ on := 1, ground := Ground.data }, { on := 2, ground := Ground.data }], guard := none }) (v := ?_) rfl (by kernel_rfl) (by kernel_rfl) (by kernel_rfl) (fun _ _ _ h => h) (Or.inl ⟨by rfl, ?_⟩) (by assumption) ?_
  rotate_left
  · intro w' hSw; (try dsimp only at hSw); first | (go_simp; done) | (go_simp; with_reducible rfl)
  (try simp only [Act.put, List.setIfInBounds_toArray, List.set_cons_zero, List.set_cons_succ])
  refine wpAnyH_take (i := 4) (oi := { dst := some 17, op := Op.load 47 (Operand.tmp 16), type := 47, pos := "l11_trust.go:68", after := #[{ on := 3, ground := Ground.data }], guard := none }) (v := ?_) rfl (by kernel_rfl) (by kernel_rfl) (by kernel_rfl) (fun _ _ _ h => h) (Or.inl ⟨by rfl, ?_⟩) (by assumption) ?_
  rotate_left
  · intro w' hSw; (try dsimp only at hSw); first | (go_simp; done) | (go_simp; with_reducible rfl)
  (try simp only [Act.put, List.setIfInBounds_toArray, List.set_cons_zero, List.set_cons_succ])
  refine wpAnyH_take (i := 5) (oi := { dst := some 18, op := Op.load 47 (Operand.tmp 3), type := 47, pos := "l11_trust.go:68", after := #[], guard := none }) (v := ?_) rfl (by kernel_rfl) (by kernel_rfl) (by kernel_rfl) (fun _ _ _ h => h) (Or.inl ⟨by rfl, ?_⟩) (by assumption) ?_
  rotate_left
  · intro w' hSw; (try dsimp only at hSw); first | (go_simp; done) | (go_simp; with_reducible rfl)
  (try simp only [Act.put, List.setIfInBounds_toArray, List.set_cons_zero, List.set_cons_succ])
  refine wpAnyH_ready (rs := [6]) (by kernel_rfl) (by simp) ?_
  refine AllReadyH.cons (o := { dst := some 19, op := Op.call { callee := Callee.value (Operand.func 65), args := #[Operand.tmp 17, Operand.tmp 18], argTypes := #[47, 47] }, type := 4, pos := "l11_trust.go:68", after := #[{ on := 4, ground := Ground.data }, { on := 5, ground := Ground.data }], guard := none }) rfl (fun K hK => ?_) AllReadyH.nil
  go_simp
  refine (eqNV10 z HZ.out (H_a.out.on BB.out) (H_m.out.on BB.out) HP.out HM.out).mono ?_
  rintro e wn1 ⟨rfl, hb⟩
  replace BB := Lib.hid (BB.out.trans (hb.mono BB.out.size))
  clear hb
  (try go_wp2_with fail)
  clear hHeld
  refine hK.out _ _ ?_ (fun hHeld => ?_)
  · (try dsimp only); exact ⟨kc K0.out BB.out, kc K1.out BB.out, kc K2.out BB.out⟩
  clear hK K
  (try simp only [Act.put, List.setIfInBounds_toArray, List.set_cons_zero, List.set_cons_succ])
  refine wpAnyH_done (by kernel_rfl) ?_ _
  exact NoPanic.normal (HQ.out _ _ _ _ _ _  _  BB.out)

set_option maxHeartbeats 4000000 in
theorem specIsAnchor (V U : Value) (x : Tpt) (m : List ByteArray) (w : World) (z : Bool) (hz : anchorT x.2.2.1 m = z) (h : kTp.At w V x) (g : kN.At w U m) (hl : x.2.2.1.length ≤ 9000000) (hp : ∀ a ∈ x.2.2.1, bulk a ≤ 9000000) (hm : bulk m ≤ 9000000) :
    Calls Try.prog 28 #[V, U] w fun e w' => e = .returned (.bool z) ∧ Below w.heap.size w w' := by
  obtain ⟨x0, n0, c0, x1, n1, c1, x2, n2, c2, x3, n3, c3, rfl, -, -, h, -⟩ := kTp_at h
  obtain ⟨t0, t1, l, t3⟩ := x
  dsimp only at hz h hl hp
  obtain ⟨ad, n, cap, L, e9, hn, ht, hh, hel⟩ := kLNn_at h
  cases e9
  obtain ⟨xn, nn, cn, rfl, g⟩ := kN_shapeA g
  have hlen : l.length = n2 := by rw [← ht, List.length_map]; exact hn.symm
  rw [hlen] at hl
  have hcap : n2 ≤ c2 := by obtain ⟨x', n', cap', hv, hn', hc', -⟩ := hh.shapeN; cases hv; exact hc'
  have HB0 := Lib.hid (((Below.refl w.heap.size w).alloc (Nat.le_refl _) (.cells #[.slice x0 n0 c0, .slice x1 n1 c1, .slice x2 n2 c2, .slice x3 n3 c3] 35)).alloc (by simp) (.cells #[.slice xn nn cn] 47))
  have HX0 := Lib.hid ((Ret.Blk.new w #[.slice x0 n0 c0, .slice x1 n1 c1, .slice x2 n2 c2, .slice x3 n3 c3] 35).on ((Below.refl _ _).alloc (Nat.le_refl _) (.cells #[.slice xn nn cn] 47)))
  have HY0 := Lib.hid (Ret.Blk.new' (w := w.alloc (.cells #[.slice x0 n0 c0, .slice x1 n1 c1, .slice x2 n2 c2, .slice x3 n3 c3] 35)) (n := w.heap.size + 1) #[.slice xn nn cn] 47 (by simp))
  have HN := Lib.hid hn; have HT := Lib.hid ht; have HH := Lib.hid hh; have HEL := Lib.hid hel; have HP := Lib.hid hp; have HLEN := Lib.hid hlen; have HZ := Lib.hid hz; have GN := Lib.hid g; have HPN := Lib.hid hm
  clear hn h hh hp ht hel hlen hz g hm
  go_enter Try.func28, Try.ntmps28
  go_wp2_with fail
  go_loopw [5] (fun i wr => ∃ k : Nat, k ≤ n2 ∧ i = .int .i64 k ∧ Hid (∀ j, j < k → ¬ nth l j = m) ∧ Hid (Ret.Blk wr w.heap.size #[.slice x0 n0 c0, .slice x1 n1 c1, .slice x2 n2 c2, .slice x3 n3 c3] 35) ∧ Hid (Ret.Blk wr (w.heap.size + 1) #[.slice xn nn cn] 47) ∧ Hid (Below w.heap.size w wr)) (fun i _ => n2 - (intOf i).toNat)
  case atStart => exact ⟨0, Nat.zero_le _, rfl, Lib.hid (fun j hj => absurd hj (by omega)), HX0, HY0, HB0⟩
  case round =>
    obtain ⟨k, hk, rfl, ha, hx, hy, hb⟩ := hrel
    have q2 : wr.cell? ⟨w.heap.size, 2, none⟩ = some (.slice x2 n2 c2) := hx.out.cell 2
    by_cases hlt : k < n2
    · have hlen := HN.out
      obtain ⟨b, off, y0, m0, d0, rfl, -, hc0, hA⟩ := kLNn_elem (HH.out.on hb.out) (fun y hy => kNn.holds_on (HEL.out y hy) hb.out) (j := k) (by omega)
      have hpt : nth l k = kNn.strip (nth L k) := by rw [← HT.out, nth_map _ (by omega)]
      have hps := HP.out (nth l k) (nth_mem (by have := HLEN.out; omega))
      rw [← hpt] at hA
      have HA := Lib.hid hA; have HPS := Lib.hid hps; have HC0 := Lib.hid hc0
      clear hlen hpt hps hA hc0
      obtain ⟨a, ha2⟩ : ∃ a, decide (nth l k = m) = a := ⟨_, rfl⟩
      have HV := Lib.hid ha2; clear ha2
      go_wp2_with fail
      clear q2
      refine ria hlt (by omega) hl HV HA (Lib.hid (GN.out.on hb.out)) HPS HPN (Lib.hid (hx.out.cell 2)) HC0 (Lib.hid (hy.out.cell 0)) ?_
      intro u13 u14 u15 u16 u17 u18 wx hb1
      replace hx := Lib.hid (hx.out.on hb1); replace hy := Lib.hid (hy.out.on hb1); replace hb := Lib.hid (hb.out.trans (hb1.mono hb.out.size)); clear hb1
      cases a with
      | true =>
        have HF : Hid (z = true) := Lib.hid (by rw [← HZ.out]; exact anchorT_yes (by have := HLEN.out; omega) (of_decide_eq_true HV.out))
        go_wp2_with fail
        go_ret
        exact ⟨ret_bool HF.out.symm, hb.out⟩
      | false =>
        have HM := Lib.hid (show ∀ j, j < k + 1 → ¬ nth l j = m from fun j hj => by rcases Nat.lt_succ_iff_lt_or_eq.1 hj with h5 | h5; exact ha.out j h5; exact h5 ▸ of_decide_eq_false HV.out)
        go_wp2_with fail
        go_roundw
        case rel => exact ⟨k + 1, by omega, by go_num, HM, hx, hy, hb⟩
        case measure => simp [intOf]; omega
    · obtain rfl : k = n2 := by omega
      have HF : Hid (z = false) := Lib.hid (by rw [← HZ.out]; exact anchorT_no (fun j hj => ha.out j (by have := HLEN.out; omega)))
      clear hlt
      go_wp2_with fail
      go_ret
      exact ⟨ret_bool HF.out.symm, hb.out⟩
end Go.Proofs.Ytcidfmmeonhkhaa.Row
/- Lists of keys (slices of a name and a number each) in memory: a slice that holds a list of entries, each of which holds its name; one whose blocks are all the call's own and all differ. No conditions. -/
namespace Go.Proofs.Ytcidfmmeonhkhaa.Row.Ring
open Go.ChangeShapes Go.WideShapes Go.ChangeAt Go.RowKit Go.Instr
set_option linter.unusedVariables false
set_option maxRecDepth 100000

/-- An entry as it lies in memory: where its name's parts lie, what they are, and its number. -/
structure Ent where
  ad : Option Addr
  n : Nat
  cap : Nat
  ps : List ByteArray
  val : Int
instance : Inhabited Ent := ⟨⟨none, 0, 0, [], 0⟩⟩
def Ent.v (x : Ent) : Value := .slice x.ad x.n x.cap
/-- An entry as it is read. -/
def Ent.t (x : Ent) : List ByteArray × Int := (x.ps, x.val)
def Ent.whole (x : Ent) : Value := .agg #[x.v, .int .i64 x.val]
def strip (L : List Ent) : List (List ByteArray × Int) := L.map Ent.t
theorem strip_length (L : List Ent) : (strip L).length = L.length := by simp [strip]
theorem strip_nth {L : List Ent} {k : Nat} (h : k < L.length) : nth (strip L) k = (nth L k).t := by simp [strip, nth, List.getD, h]
theorem strip_append (L M : List Ent) : strip (L ++ M) = strip L ++ strip M := by simp [strip]
theorem strip_take (L : List Ent) (k : Nat) : strip (L.take k) = (strip L).take k := by simp [strip, List.map_take]
theorem strip_mem {L : List Ent} {x : Ent} (h : x ∈ L) : x.t ∈ strip L := List.mem_map_of_mem h
def encE (x : Ent) : List Value := [x.v, .int .i64 x.val]
theorem szE : Sz encE 2 := fun _ => rfl
theorem kindE : Kind Try.prog 89 encE (.agg #[.slice none 0 0, .int .i64 0]) 2 32 where
  elem := by unfold ElemK; kernel_rfl
  zs := rfl
  pos := by decide
  size := szE
  one := by intro x u hu; simp [encE, Ent.v] at hu; rcases hu with rfl | rfl <;> rfl

/-- v is a slice of the entries L, whose names are there. -/
def TabH (w : World) (v : Value) (L : List Ent) : Prop := HoldsK encE 2 w v L ∧ ∀ x ∈ L, Holds Value.string w x.v x.ps
/-- v is a slice of the entries L, all of whose blocks are from B on, and no two the same. -/
def TabO (B : Nat) (w : World) (v : Value) (L : List Ent) : Prop := OwnK 89 encE 2 B w v L ∧ (∀ x ∈ L, Own 9 Value.string B w x.v x.ps) ∧ L.Pairwise (fun a b => Apart a.v b.v)
section
variable {B : Nat} {w w' : World} {v : Value} {L : List Ent}
theorem TabO.holds (h : TabO B w v L) : TabH w v L := ⟨h.1.holds, fun x hx => (h.2.1 x hx).holds⟩
theorem TabH.on (h : TabH w v L) (hb : Below w.heap.size w w') : TabH w' v L := ⟨h.1.on hb, fun x hx => (h.2 x hx).on hb⟩
theorem TabO.on (h : TabO B w v L) (hb : Below w.heap.size w w') : TabO B w' v L := ⟨h.1.on hb, fun x hx => (h.2.1 x hx).on hb, h.2.2⟩
theorem TabO.mono (h : TabO B w v L) {B' : Nat} (hB : B' ≤ B) : TabO B' w v L := ⟨h.1.mono hB, fun x hx => (h.2.1 x hx).mono hB, h.2.2⟩
theorem TabO.nil (B : Nat) (w : World) : TabO B w (.slice none 0 0) [] := ⟨OwnK.nil _ _ _ _ _, by simp, by simp⟩
theorem TabO.empty (w : World) : TabO w.heap.size (w.alloc (.cells #[] 89)) (.slice (some ⟨w.heap.size, 0, none⟩) 0 0) [] := ⟨ownK_empty _ _ _ _, by simp, by simp⟩
theorem TabH.nil (w : World) : TabH w (.slice none 0 0) [] := ⟨HoldsK.nil _ _ _, by simp⟩
theorem TabH.shapeN (h : TabH w v L) : ∃ x n cap, v = .slice x n cap ∧ n = L.length ∧ n ≤ cap ∧ TabH w (.slice x n cap) L := by
  obtain ⟨x, n, cap, rfl, hn, hc, ho⟩ := h.1.shapeN
  exact ⟨x, n, cap, rfl, hn, hc, ho, h.2⟩
theorem TabO.shapeN (h : TabO B w v L) : ∃ x n cap, v = .slice x n cap ∧ n = L.length ∧ n ≤ cap ∧ TabO B w (.slice x n cap) L := by
  obtain ⟨x, n, cap, rfl, hn, hc, ho⟩ := h.1.shapeN
  exact ⟨x, n, cap, rfl, hn, hc, ho, h.2⟩
/-- Entry k's two cells, and its name. -/
theorem TabH.at {x : Option Addr} {n cap : Nat} (h : TabH w (.slice x n cap) L) {k : Nat} (hk : k < L.length) :
    ∃ b off, x = some ⟨b, off, none⟩ ∧ w.cell? ⟨b, off + k * 2, none⟩ = some (.slice (nth L k).ad (nth L k).n (nth L k).cap) ∧ w.cell? ⟨b, off + k * 2 + 1, none⟩ = some (.int .i64 (nth L k).val) ∧ Holds Value.string w (.slice (nth L k).ad (nth L k).n (nth L k).cap) (nth L k).ps := by
  obtain ⟨b, off, hx, hc⟩ := h.1.at szE hk
  exact ⟨b, off, hx, by have := hc 0 (by decide); simpa [encE, Ent.v] using this, by have := hc 1 (by decide); simpa [encE, Nat.add_assoc] using this, h.2 _ (nth_mem hk)⟩
theorem TabO.cells {g n cap : Nat} (h : TabO B w (.slice (some ⟨g, 0, none⟩) n cap) L) (hn : n = L.length) {k : Nat} (hk : k < L.length) :
    (w.cell? ⟨g, k * 2, none⟩ = some (.slice (nth L k).ad (nth L k).n (nth L k).cap) ∧ w.frozen? ⟨g, k * 2, none⟩ = false) ∧ (w.cell? ⟨g, k * 2 + 1, none⟩ = some (.int .i64 (nth L k).val) ∧ w.frozen? ⟨g, k * 2 + 1, none⟩ = false) ∧ Own 9 Value.string B w (.slice (nth L k).ad (nth L k).n (nth L k).cap) (nth L k).ps :=
  ⟨by simpa [encE, Ent.v] using ownK_cell szE h.1 hn hk (i := 0) (by decide), by simpa [encE] using ownK_cell szE h.1 hn hk (i := 1) (by decide), h.2.1 _ (nth_mem hk)⟩
/-- A slice of strings and a slice of entries never share a block. -/
theorem name_row {u : Value} {ps : List ByteArray} {B' : Nat} (h : Own 9 Value.string B w u ps) (g : OwnK 89 encE 2 B' w v L) : Apart u v := by
  intro k h1 h2
  rcases h.2 with ⟨rfl, _⟩ | ⟨b, cap, cur, rfl, _, hb, _⟩
  · cases h1
  · rcases g.2 with ⟨rfl, _⟩ | ⟨b', cap', cur', rfl, _, hb', _⟩
    · cases h2
    · have e1 : b = k := by simpa [Value.ownBlock] using h1
      have e2 : b' = k := by simpa [Value.ownBlock] using h2
      rw [e1] at hb; rw [e2, hb] at hb'
      cases hb'
/-- What writes into the entries' own row alone leaves the names. -/
theorem TabO.names (h : TabO B w v L) (hg : w.grownBy w' v.ownBlock) : ∀ x ∈ L, Own 9 Value.string B w' x.v x.ps := fun x hx => (h.2.1 x hx).grown hg (apart_or (name_row (h.2.1 x hx) h.1))
theorem TabO.row (h : TabO B w v L) {v' : Value} {L' : List Ent} (ho : OwnK 89 encE 2 B w' v' L') (hg : w.grownBy w' v.ownBlock) (hm : ∀ x ∈ L', ∃ y ∈ L, x.v = y.v ∧ x.ps = y.ps) (hp : L'.Pairwise (fun a b => Apart a.v b.v)) : TabO B w' v' L' := by
  refine ⟨ho, fun x hx => ?_, hp⟩
  obtain ⟨y, hy, e1, e2⟩ := hm x hx
  rw [e1, e2]
  exact h.names hg y hy
theorem TabO.lt (h : TabO B w v L) : (∀ g, v.ownBlock = some g → B ≤ g ∧ g < w.heap.size) ∧ ∀ x ∈ L, ∀ g, x.v.ownBlock = some g → B ≤ g ∧ g < w.heap.size := ⟨h.1.lt, fun x hx => (h.2.1 x hx).lt⟩
/-- A name in new memory is apart from all names that were there. -/
theorem TabO.fresh (h : TabO B w v L) {u : Value} (hu : ∀ g, u.ownBlock = some g → w.heap.size ≤ g) : ∀ y ∈ L, Apart y.v u := fun y hy g h1 h2 => by
  have := h.lt.2 y hy g h1
  have := hu g h2
  omega
theorem TabO.len (h : TabO B w v L) : L.length ≤ maxLen := h.1.len
end

/-! ### as they are read -/
def TabHolds (w : World) (v : Value) (T : List (List ByteArray × Int)) : Prop := ∃ L, strip L = T ∧ TabH w v L
def TabOwn (B : Nat) (w : World) (v : Value) (T : List (List ByteArray × Int)) : Prop := ∃ L, strip L = T ∧ TabO B w v L
def TabIn (B E : Nat) (w : World) (v : Value) (T : List (List ByteArray × Int)) : Prop := ∃ L, strip L = T ∧ TabO B w v L ∧ (∀ g, v.ownBlock = some g → g < E) ∧ ∀ x ∈ L, ∀ g, x.v.ownBlock = some g → g < E
section
variable {B E B' E' : Nat} {w w' : World} {v : Value} {l : List ByteArray} {T : List (List ByteArray × Int)}
theorem TabIn.of (h : TabOwn B w v T) : TabIn B w.heap.size w v T := by
  obtain ⟨L, e, h⟩ := h
  exact ⟨L, e, h, fun g hg => (h.lt.1 g hg).2, fun x hx g hg => (h.lt.2 x hx g hg).2⟩
theorem TabIn.on (h : TabIn B E w v T) (hb : Below w.heap.size w w') : TabIn B E w' v T := by
  obtain ⟨L, e, h, h1, h2⟩ := h
  exact ⟨L, e, h.on hb, h1, h2⟩
theorem TabIn.wrote (h : TabIn B E w v T) (hw : Wrote B' E' w w') (hn : E ≤ B' ∨ E' ≤ B) : TabIn B E w' v T := by
  obtain ⟨L, e, h, h1, h2⟩ := h
  refine ⟨L, e, ⟨hw.row h.1 (fun g hg => ?_), fun x hx => hw.row (h.2.1 x hx) (fun g hg => ?_), h.2.2⟩, h1, h2⟩
  · have := (h.lt.1 g hg).1; have := h1 g hg; omega
  · have := (h.lt.2 x hx g hg).1; have := h2 x hx g hg; omega
theorem TabIn.own (h : TabIn B E w v T) : TabOwn B w v T := by
  obtain ⟨L, e, h, -, -⟩ := h
  exact ⟨L, e, h⟩
theorem TabOwn.holds (h : TabOwn B w v T) : TabHolds w v T := by
  obtain ⟨L, e, h⟩ := h
  exact ⟨L, e, h.holds⟩
theorem TabIn.holds (h : TabIn B E w v T) : TabHolds w v T := h.own.holds
theorem TabOwn.mono (h : TabOwn B w v T) (hB : B' ≤ B) : TabOwn B' w v T := by
  obtain ⟨L, e, h⟩ := h
  exact ⟨L, e, h.mono hB⟩
theorem TabOwn.on (h : TabOwn B w v T) (hb : Below w.heap.size w w') : TabOwn B w' v T := by
  obtain ⟨L, e, h⟩ := h
  exact ⟨L, e, h.on hb⟩
theorem TabHolds.on (h : TabHolds w v T) (hb : Below w.heap.size w w') : TabHolds w' v T := by
  obtain ⟨L, e, h⟩ := h
  exact ⟨L, e, h.on hb⟩
theorem TabHolds.shapeN (h : TabHolds w v T) : ∃ x n cap, v = .slice x n cap ∧ n = T.length ∧ n ≤ cap ∧ TabHolds w (.slice x n cap) T := by
  obtain ⟨L, e, h⟩ := h
  obtain ⟨x, n, cap, rfl, hn, hc, ho⟩ := h.shapeN
  exact ⟨x, n, cap, rfl, by rw [hn, ← e, strip_length], hc, L, e, ho⟩
theorem TabOwn.shapeN (h : TabOwn B w v T) : ∃ x n cap, v = .slice x n cap ∧ n = T.length ∧ n ≤ cap ∧ TabOwn B w (.slice x n cap) T := by
  obtain ⟨L, e, h⟩ := h
  obtain ⟨x, n, cap, rfl, hn, hc, ho⟩ := h.shapeN
  exact ⟨x, n, cap, rfl, by rw [hn, ← e, strip_length], hc, L, e, ho⟩
end
end Go.Proofs.Ytcidfmmeonhkhaa.Row.Ring
/- Contracts of the helpers by which the laws measure, copy, compare, mark and look at lists of keys. No conditions but that lengths fit. -/
namespace Go.Proofs.Ytcidfmmeonhkhaa.Row.Ring
open Go.ChangeShapes Go.WideShapes Go.ChangeAt Go.RowKit Go.Instr
set_option linter.unusedVariables false
set_option maxRecDepth 100000

/-- Length and sizes of a table together, up to place k. -/
def bulkTTo (l : List (List ByteArray × Int)) (k : Nat) : Nat := l.length + ((l.take k).map (fun x => bulk x.1)).sum
def bulkT (l : List (List ByteArray × Int)) : Nat := bulkTTo l l.length
theorem bulkTTo_zero (l : List (List ByteArray × Int)) : bulkTTo l 0 = l.length := by simp [bulkTTo]
theorem bulkTTo_succ (l : List (List ByteArray × Int)) {k : Nat} (h : k < l.length) : bulkTTo l (k + 1) = bulkTTo l k + bulk (nth l k).1 := by
  unfold bulkTTo
  rw [List.take_succ_eq_append_getElem h, nth_eq h, List.map_append, List.sum_append]
  simp only [List.map_cons, List.map_nil, List.sum_cons, List.sum_nil]
  omega
theorem bulkTTo_le (l : List (List ByteArray × Int)) (k : Nat) : bulkTTo l k ≤ bulkT l := by
  unfold bulkT bulkTTo
  have := sum_take_le (l.map (fun x => bulk x.1)) k
  rw [List.take_length, List.map_take]; omega
theorem bulkT_len (l : List (List ByteArray × Int)) : l.length ≤ bulkT l := by unfold bulkT bulkTTo; omega
theorem bulkT_mem {l : List (List ByteArray × Int)} {x : List ByteArray × Int} (h : x ∈ l) : bulk x.1 ≤ bulkT l := by
  obtain ⟨k, hk, rfl⟩ := List.getElem_of_mem h
  have h1 := bulkTTo_succ l hk
  have h2 := bulkTTo_le l (k + 1)
  rw [nth_eq hk] at h1
  omega
def szLT (l : List (List ByteArray × Int)) (left : Int) : Int := if (bulkT l : Int) ≤ left then left - bulkT l else -1
theorem szLT_fit {l : List (List ByteArray × Int)} {left : Int} (h : (bulkT l : Int) ≤ left) : szLT l left = left - bulkT l := if_pos h
theorem szLT_not {l : List (List ByteArray × Int)} {left : Int} (h : left < (bulkT l : Int)) : szLT l left = -1 := if_neg (by omega)

set_option maxHeartbeats 4000000 in
theorem szKey (v : Value) (l : List ByteArray) (val : Int) (w : World) (left : Int) (h : Holds Value.string w v l) (hl : l.length ≤ 9223372036854775807) (hs : ∀ x ∈ l, x.size ≤ maxLen) (h0 : 0 ≤ left) (h1 : left ≤ 1048576) :
    Calls Try.prog 52 #[.agg #[v, .int .i64 val], .int .i64 left] w fun e w' => e = .returned (.int .i64 (szL l left)) ∧ Below w.heap.size w w' := by
  obtain ⟨x, n, cap, rfl, hn, hcap, hh⟩ := h.shapeN
  have HB := Lib.hid ((Below.refl w.heap.size w).alloc (Nat.le_refl _) (.cells #[.slice x n cap, .int .i64 val] 83))
  have HA := Lib.hid (hh.on HB.out); have HS := Lib.hid hs
  clear hh h hs hn
  go_enter Try.func52, Try.ntmps52
  go_wp2_with fail
  refine (szName _ l _ left HA.out hl HS.out h0 h1).mono ?_
  rintro e w' ⟨rfl, hb⟩
  have HB2 := Lib.hid (HB.out.trans (hb.mono HB.out.size)); clear hb
  by_cases hb : (bulk l : Int) ≤ left
  · rw [szL_fit hb]
    have h2 : ¬ left - (bulk l : Int) < 0 := by omega
    go_wp2
    go_ret
    exact ⟨ret_int (szL_fit hb).symm, HB2.out⟩
  · have hz := szL_not (l := l) (left := left) (by omega)
    rw [hz]
    have HZ := Lib.hid hz; clear hz
    go_wp2
    go_ret
    exact ⟨ret_int HZ.out.symm, HB2.out⟩

set_option maxHeartbeats 4000000 in
theorem szKeyS (v : Value) (T : List (List ByteArray × Int)) (w : World) (left : Int) (h : TabHolds w v T) (hl : T.length ≤ 9223372036854775807) (hs : ∀ t ∈ T, t.1.length ≤ 9223372036854775807 ∧ ∀ x ∈ t.1, x.size ≤ maxLen) (h0 : 0 ≤ left) (h1 : left ≤ 1048576) :
    Calls Try.prog 13 #[v, .int .i64 left] w fun e w' => e = .returned (.int .i64 (szLT T left)) ∧ Below w.heap.size w w' := by
  obtain ⟨L, hT, h⟩ := h
  obtain ⟨x, n, cap, rfl, hn, hcap, hh⟩ := h.shapeN
  have hle := bulkTTo_le T
  have hb0 := bulkTTo_zero T
  have hlen : T.length = n := by rw [← hT, strip_length]; exact hn.symm
  rw [hlen] at hl hb0
  by_cases hbig : left < (n : Int)
  · have hS : szLT T left = -1 := szLT_not (by have := bulkT_len T; omega)
    rw [hS]
    clear hh h hs hle hn hb0 hS hT hlen
    go_enter Try.func13, Try.ntmps13
    go_wp2
    go_ret
    exact ⟨rfl, Below.refl _ _⟩
  have HN := Lib.hid hn
  have HT := Lib.hid hT
  have HH := Lib.hid hh
  have HS := Lib.hid hs
  have HLE := Lib.hid hle
  have HB0 := Lib.hid hb0
  have HLEN := Lib.hid hlen
  clear hn h hh hs hle hb0 hT hlen
  go_enter Try.func13, Try.ntmps13
  go_wp2
  go_loopw [1, 5] (fun lv i wr => ∃ k : Nat, k ≤ n ∧ i = .int .i64 k ∧ ∃ u : Int, lv = .int .i64 u ∧ u = left - bulkTTo T k ∧ 0 ≤ u ∧ Hid (Below w.heap.size w wr)) (fun _ i _ => n - (intOf i).toNat)
  case atStart => exact ⟨0, Nat.zero_le _, rfl, _, rfl, by rw [HB0.out], by omega, Lib.hid (Below.refl _ _)⟩
  case round =>
    obtain ⟨k, hk, rfl, u, rfl, hu, h0u, hb⟩ := hrel
    have hub : u ≤ left := by omega
    have HU := Lib.hid hu
    clear hu
    by_cases hlt : k < n
    · have hlen := HN.out
      obtain ⟨b, off, rfl, hc1, hc2, hnm⟩ := (HH.out.on hb.out).at (k := k) (by omega)
      have hpt : (nth T k).1 = (nth L k).ps := by rw [← HT.out, strip_nth (by omega)]; rfl
      have hsz := HS.out (nth T k) (nth_mem (by have := HLEN.out; omega))
      rw [hpt] at hsz
      have HNM := Lib.hid hnm
      have HSZ := Lib.hid hsz
      have hstep := Lib.hid (bulkTTo_succ T (k := k) (by have := HLEN.out; omega))
      rw [hpt] at hstep
      have hall := HLE.out (k + 1)
      have HALL := Lib.hid hall
      clear hlen hall hsz hpt hnm
      go_wp2_with fail
      refine (szKey _ (nth L k).ps _ wr u HNM.out HSZ.out.1 HSZ.out.2 h0u (by omega)).mono ?_
      rintro e w1 ⟨rfl, hb1⟩
      have HB1 := Lib.hid (hb.out.trans (hb1.mono hb.out.size))
      clear hb1 hc1 hc2
      by_cases c1 : (bulk (nth L k).ps : Int) ≤ u
      · rw [szL_fit c1]
        have h2 : ¬ u - (bulk (nth L k).ps : Int) < 0 := by omega
        go_wp2
        go_roundw
        case rel => exact ⟨k + 1, by omega, by go_num, _, rfl, by rw [hstep.out, HU.out]; omega, by omega, HB1⟩
        case measure => simp [intOf]; omega
      · rw [szL_not (by omega)]
        have HZ : Hid (szLT T left = -1) := by
          have e1 := HALL.out; have e2 := HU.out; have e3 := hstep.out
          exact szLT_not (by omega)
        clear c1
        go_wp2
        go_ret
        exact ⟨ret_int HZ.out.symm, HB1.out⟩
    · obtain rfl : k = n := by omega
      clear hlt
      go_wp2
      go_ret
      refine ⟨ret_int ?_, hb.out⟩
      have := HU.out
      rw [← HLEN.out] at this
      rw [szLT_fit (by unfold bulkT; omega)]
      exact this

set_option maxHeartbeats 4000000 in
theorem toKey (v : Value) (l : List ByteArray) (val : Int) (w : World) (h : Holds Value.string w v l) (hl : l.length ≤ 100000000) :
    Calls Try.prog 57 #[.agg #[v, .int .i64 val]] w fun e w' => ∃ v', e = .returned (.agg #[v', .int .i64 val]) ∧ Own 9 Value.string w.heap.size w' v' l ∧ Below w.heap.size w w' := by
  obtain ⟨x, n, cap, rfl, hn, hcap, hh⟩ := h.shapeN
  have HB := Lib.hid ((((Below.refl w.heap.size w).alloc (Nat.le_refl _) (.cells #[.slice x n cap, .int .i64 val] 83)).alloc (by simp) (.cells #[.slice none 0 0, .int .i64 0] 89)).alloc (by simp; omega) (.cells #[.slice none 0 0, .int .i64 0] 89))
  have HA := Lib.hid (hh.on HB.out)
  clear hh h hn
  go_enter Try.func57, Try.ntmps57
  go_wp2_with fail
  refine (toName _ l _ HA.out hl).mono ?_
  rintro e w1 ⟨v1, rfl, ho, hb⟩
  obtain ⟨x1, n1, c1, rfl, -, hc1, ho1⟩ := ho.shapeN
  have HO := Lib.hid ho1
  have HB1 := Lib.hid hb
  clear ho ho1 hb
  have hq0 : w1.cell? ⟨w.heap.size, 1, none⟩ = some (.int .i64 val) := by rw [HB1.out.cell (by simp <;> omega), World.cell?_alloc_past _ _ _ (by simp <;> omega), World.cell?_alloc_past _ _ _ (by simp <;> omega), World.cell?_alloc_at _ _ _ _ rfl]; rfl
  have hk0 : w1.cell? ⟨w.heap.size + 1, 0, none⟩ = some (.slice none 0 0) := by rw [HB1.out.cell (by simp), World.cell?_alloc_past _ _ _ (by simp), World.cell?_alloc_at _ _ _ _ (by simp)]; rfl
  have hk1 : w1.cell? ⟨w.heap.size + 1, 1, none⟩ = some (.int .i64 0) := by rw [HB1.out.cell (by simp), World.cell?_alloc_past _ _ _ (by simp), World.cell?_alloc_at _ _ _ _ (by simp)]; rfl
  have hm0 : w1.cell? ⟨w.heap.size + 1 + 1, 0, none⟩ = some (.slice none 0 0) := by rw [HB1.out.cell (by simp), World.cell?_alloc_at _ _ _ _ (by simp)]; rfl
  have hm1 : w1.cell? ⟨w.heap.size + 1 + 1, 1, none⟩ = some (.int .i64 0) := by rw [HB1.out.cell (by simp), World.cell?_alloc_at _ _ _ _ (by simp)]; rfl
  have hf0 : w1.frozen? ⟨w.heap.size + 1, 0, none⟩ = false := by rw [HB1.out.frozen (by simp), World.frozen?_alloc_past _ _ _ (by simp), World.frozen?_alloc_at _ _ _ _ (by simp)]
  have hf1 : w1.frozen? ⟨w.heap.size + 1, 1, none⟩ = false := by rw [HB1.out.frozen (by simp), World.frozen?_alloc_past _ _ _ (by simp), World.frozen?_alloc_at _ _ _ _ (by simp)]
  have hg0 : w1.frozen? ⟨w.heap.size + 1 + 1, 0, none⟩ = false := by rw [HB1.out.frozen (by simp), World.frozen?_alloc_at _ _ _ _ (by simp)]
  have hg1 : w1.frozen? ⟨w.heap.size + 1 + 1, 1, none⟩ = false := by rw [HB1.out.frozen (by simp), World.frozen?_alloc_at _ _ _ _ (by simp)]
  go_wp2
  have hk4 := Ret.set_same (v := .int .i64 val) (a := ⟨w.heap.size + 1, 1, none⟩) (w := ((w1.setCell ⟨w.heap.size + 1 + 1, 0, none⟩ (.slice x1 n1 c1)).setCell ⟨w.heap.size + 1 + 1, 1, none⟩ (.int .i64 val)).setCell ⟨w.heap.size + 1, 0, none⟩ (.slice x1 n1 c1)) (u := .int .i64 0) (by rw [World.cell?_setCell_other _ _ _ _ (by simp), World.cell?_setCell_other _ _ _ _ (by simp), World.cell?_setCell_other _ _ _ _ (by simp)]; exact hk1)
  have hk3 := Ret.set_same (v := .slice x1 n1 c1) (a := ⟨w.heap.size + 1, 0, none⟩) (w := (w1.setCell ⟨w.heap.size + 1 + 1, 0, none⟩ (.slice x1 n1 c1)).setCell ⟨w.heap.size + 1 + 1, 1, none⟩ (.int .i64 val)) (u := .slice none 0 0) (by rw [World.cell?_setCell_other _ _ _ _ (by simp), World.cell?_setCell_other _ _ _ _ (by simp)]; exact hk0)
  refine bodyPost_ret (Ret.results_c rfl _ _ (w.heap.size + 1) [.slice x1 n1 c1, .int .i64 val] rfl (by unfold Ret.AggOf; exact ⟨by kernel_rfl, by kernel_rfl⟩) (Ret.two (by rw [World.cell?_setCell_other _ _ _ _ (by simp)]; exact hk3) hk4)) rfl ?_
  have hs := HB1.out.size
  simp at hs
  have hO2 := (((HO.out.grown (Ret.grownBy_set w1 ⟨w.heap.size + 1 + 1, 0, none⟩ (.slice x1 n1 c1)) (nb HO.out (by simp))).grown (Ret.grownBy_set _ ⟨w.heap.size + 1 + 1, 1, none⟩ (.int .i64 val)) (nb HO.out (by simp))).grown (Ret.grownBy_set _ ⟨w.heap.size + 1, 0, none⟩ (.slice x1 n1 c1)) (nb HO.out (by simp))).grown (Ret.grownBy_set _ ⟨w.heap.size + 1, 1, none⟩ (.int .i64 val)) (nb HO.out (by simp))
  exact ⟨_, rfl, hO2.mono (by simp; omega), ((((HB.out.trans (HB1.out.mono (by simp; omega))).setCell (by simp; omega) _).setCell (by simp; omega) _).setCell (by simp) _).setCell (by simp) _⟩

/-! ### a table's copy -/
theorem pairwise_set {α : Type} {R : α → α → Prop} {x : α} : ∀ {L : List α} (k : Nat), L.Pairwise R → (∀ y ∈ L, R y x ∧ R x y) → (L.set k x).Pairwise R
  | [], _, _, _ => by simp
  | a :: r, 0, h, g => by
    rw [List.set_cons_zero, List.pairwise_cons]
    rw [List.pairwise_cons] at h
    exact ⟨fun y hy => (g y (by simp [hy])).2, h.2⟩
  | a :: r, k + 1, h, g => by
    rw [List.set_cons_succ, List.pairwise_cons]
    rw [List.pairwise_cons] at h
    refine ⟨fun y hy => ?_, pairwise_set k h.2 (fun y hy => g y (by simp [hy]))⟩
    rcases List.mem_or_eq_of_mem_set hy with hy | hy
    · exact h.1 y hy
    · rw [hy]; exact (g a (by simp)).1
theorem ent_store {B : Nat} {w : World} {g n cap : Nat} {L : List Ent} (h : OwnK 89 encE 2 B w (.slice (some ⟨g, 0, none⟩) n cap) L) (hn : n = L.length) {k : Nat} (hk : k < L.length) (x : Ent) :
    OwnK 89 encE 2 B ((w.setCell ⟨g, k * 2, none⟩ x.v).setCell ⟨g, k * 2 + 1, none⟩ (.int .i64 x.val)) (.slice (some ⟨g, 0, none⟩) n cap) (L.set k x) ∧ w.grownBy ((w.setCell ⟨g, k * 2, none⟩ x.v).setCell ⟨g, k * 2 + 1, none⟩ (.int .i64 x.val)) (some g) := by
  obtain ⟨a1, a2⟩ := ownK_store szE h hn hk (i := 0) (by decide) (y := ⟨x.ad, x.n, x.cap, x.ps, (nth L k).val⟩) (u := x.v) rfl
  obtain ⟨b1, b2⟩ := ownK_store szE a1 (by simpa using hn) (j := k) (by simpa using hk) (i := 1) (by decide) (y := x) (u := .int .i64 x.val) (by rw [nth_set hk]; rfl)
  rw [List.set_set] at b1
  exact ⟨b1, Go.World.grownBy.trans a2 b2⟩
/-- An entry of its own is stored. -/
theorem TabO.put {B : Nat} {w : World} {g n cap : Nat} {L : List Ent} (h : TabO B w (.slice (some ⟨g, 0, none⟩) n cap) L) (hn : n = L.length) {k : Nat} (hk : k < L.length) {x : Ent} (hx : Own 9 Value.string B w x.v x.ps) (hap : ∀ y ∈ L, Apart y.v x.v) :
    TabO B ((w.setCell ⟨g, k * 2, none⟩ x.v).setCell ⟨g, k * 2 + 1, none⟩ (.int .i64 x.val)) (.slice (some ⟨g, 0, none⟩) n cap) (L.set k x) ∧ w.grownBy ((w.setCell ⟨g, k * 2, none⟩ x.v).setCell ⟨g, k * 2 + 1, none⟩ (.int .i64 x.val)) (some g) := by
  obtain ⟨a1, a2⟩ := ent_store h.1 hn hk x
  refine ⟨⟨a1, fun y hy => ?_, pairwise_set k h.2.2 (fun y hy => ⟨hap y hy, (hap y hy).symm⟩)⟩, a2⟩
  rcases List.mem_or_eq_of_mem_set hy with hy | hy
  · exact h.names a2 y hy
  · rw [hy]; exact hx.grown a2 (apart_or (name_row hx h.1))
/-- The list behind j stores of a copy: j entries made, the others empty. -/
def madeTo (M : List Ent) (n : Nat) : List Ent := M ++ List.replicate (n - M.length) default
theorem madeTo_length {M : List Ent} {n : Nat} (h : M.length ≤ n) : (madeTo M n).length = n := by simp [madeTo]; omega
theorem madeTo_step {M : List Ent} {n : Nat} (h : M.length < n) (x : Ent) : (madeTo M n).set M.length x = madeTo (M ++ [x]) n := by
  unfold madeTo
  rw [List.set_append_right _ _ (Nat.le_refl _), Nat.sub_self, show n - M.length = (n - (M ++ [x]).length) + 1 by simp; omega, List.replicate_succ, List.set_cons_zero, List.append_assoc]
  rfl
theorem madeTo_all {M : List Ent} {n : Nat} (h : M.length = n) : madeTo M n = M := by simp [madeTo, h]

set_option maxHeartbeats 2000000 in
theorem toKeyS (v : Value) (T : List (List ByteArray × Int)) (w : World) (h : TabHolds w v T) (hl : T.length ≤ 100000000) (hs : ∀ t ∈ T, t.1.length ≤ 100000000) :
    Calls Try.prog 16 #[v] w fun e w' => ∃ v', e = .returned v' ∧ TabOwn w.heap.size w' v' T ∧ Below w.heap.size w w' := by
  obtain ⟨L, rfl, h⟩ := h
  obtain ⟨x, n, cap, rfl, hn, hcap, hh⟩ := h.shapeN
  obtain ⟨i0, hi, hz0, hz1, hz2⟩ := info_parts kindE.elem
  rw [strip_length, ← hn] at hl
  have HN := Lib.hid hn
  have HH := Lib.hid hh
  have HS := Lib.hid hs
  have HI := Lib.hid hi; have HZ0 := Lib.hid hz0; have HZ1 := Lib.hid hz1; have HZ2 := Lib.hid hz2
  clear hn h hh hi hz0 hz1 hz2 hs
  go_enter Try.func16, Try.ntmps16
  go_wp2_with (at_make; refine wpList_make_full _ rfl _ _ 30 rfl w.heap.size 89 i0 (.agg #[.slice none 0 0, .int .i64 0]) 2 Try.underlying30 HI.out HZ0.out HZ1.out _ _ _ _ n rfl rfl rfl rfl (by rw [HZ2.out]; omega) (by unfold maxLen; omega) (Nat.le_refl _) ?_)
  intro w1 hown hgrow
  have ho : TabO w.heap.size w1 (.slice (some ⟨w.heap.size, 0, none⟩) n n) (madeTo [] n) := by
    have e1 : madeTo [] n = List.replicate n default := by simp [madeTo]
    rw [e1]
    refine ⟨?_, ?_, ?_⟩
    · unfold OwnK
      rw [List.length_replicate, ← madeK szE (by decide) (z := .agg #[.slice none 0 0, .int .i64 0]) rfl n]
      exact hown
    · intro y hy
      rw [List.eq_of_mem_replicate hy]
      exact Own.nil _ _ _ _
    · rw [List.pairwise_replicate]
      exact Or.inr (fun g h1 => by cases h1)
  have HO := Lib.hid ho
  have HB := Lib.hid ((Below.refl w.heap.size w).grown hgrow (Nat.le_refl _) (fun g hg => by cases hg))
  clear ho hown hgrow
  go_wp2
  go_loopw [4] (fun i wr => ∃ j : Nat, j ≤ n ∧ i = .int .i64 j ∧ ∃ M : List Ent, Hid (M.length = j) ∧ Hid (strip M = (strip L).take j) ∧ Hid (TabO w.heap.size wr (.slice (some ⟨w.heap.size, 0, none⟩) n n) (madeTo M n)) ∧ Hid (Below w.heap.size w wr)) (fun i _ => n - (intOf i).toNat)
  case atStart => exact ⟨0, Nat.zero_le _, rfl, [], Lib.hid rfl, Lib.hid (by simp [strip]), HO, HB⟩
  case round =>
    obtain ⟨j, hj, rfl, M, hM, hst, ho, hb⟩ := hrel
    by_cases hlt : j < n
    · have hlen := HN.out
      obtain ⟨b, off, rfl, hc1, hc2, hnm⟩ := (HH.out.on hb.out).at (k := j) (by omega)
      have HNM := Lib.hid hnm
      have HPS := Lib.hid (HS.out _ (strip_mem (nth_mem (L := L) (k := j) (by omega))))
      have HST := Lib.hid (show (strip L).take (j + 1) = (strip L).take j ++ [(nth L j).t] by rw [List.take_succ_eq_append_getElem (by rw [strip_length]; omega), ← nth_eq, strip_nth (by omega)])
      clear hlen hnm
      go_wp2_with fail
      refine (toKey _ (nth L j).ps _ wr HNM.out HPS.out).mono ?_
      rintro e w1 ⟨v1, rfl, ho1, hb1⟩
      obtain ⟨x1, n1, c1, rfl, -, hc1', ho1⟩ := ho1.shapeN
      have HO1 := Lib.hid (ho.out.on hb1)
      have HA := Lib.hid (ho.out.fresh (fun g hg => (ho1.lt g hg).1))
      have HX := Lib.hid (ho1.mono hb.out.size)
      have HB1 := Lib.hid (hb.out.trans (hb1.mono hb.out.size))
      have hml : n = (madeTo M n).length := (madeTo_length (by have := hM.out; omega)).symm
      have hmj : j < (madeTo M n).length := by omega
      obtain ⟨⟨k1, k2⟩, ⟨k3, k4⟩, -⟩ := HO1.out.cells hml hmj
      obtain ⟨p1, p2⟩ := HO1.out.put hml hmj (x := ⟨x1, n1, c1, (nth L j).ps, (nth L j).val⟩) HX.out HA.out
      have HP1 := Lib.hid p1
      have HP2 := Lib.hid p2
      clear hc1 hc2 ho1 hb1 hml hmj p1 p2
      go_wp2
      go_roundw
      case rel =>
        refine ⟨j + 1, by omega, by go_num, M ++ [⟨x1, n1, c1, (nth L j).ps, (nth L j).val⟩], Lib.hid (by simp [hM.out]), Lib.hid ?_, Lib.hid ?_, Lib.hid (HB1.out.grown HP2.out HB1.out.size (fun g hg => by cases hg; exact Nat.le_refl _))⟩
        · rw [strip_append, hst.out, HST.out]; rfl
        · rw [← madeTo_step (by have := hM.out; omega), hM.out]; exact HP1.out
      case measure => simp [intOf]; omega
    · obtain rfl : j = n := by omega
      clear hlt
      go_wp2
      go_ret
      refine ⟨_, rfl, ⟨M, ?_, ?_⟩, hb.out⟩
      · rw [hst.out, List.take_of_length_le (by rw [strip_length, ← HN.out]; omega)]
      · have := ho.out
        rw [madeTo_all hM.out] at this
        exact this

/-- All names have parts few and small enough for the contracts. -/
def smT (T : List (List ByteArray × Int)) : Prop := ∀ t ∈ T, bulk t.1 ≤ 9000000
theorem smT_of {T : List (List ByteArray × Int)} (h : bulkT T ≤ 9000000) : smT T := fun t ht => Nat.le_trans (bulkT_mem ht) h
theorem smT_ps {L : List Ent} (h : smT (strip L)) {k : Nat} (hk : k < L.length) : bulk (nth L k).ps ≤ 9000000 := h _ (strip_mem (nth_mem hk))
theorem smT_psl {L : List Ent} (h : smT (strip L)) {k : Nat} (hk : k < L.length) : (nth L k).ps.length ≤ 9000000 := Nat.le_trans (bulk_len _) (smT_ps h hk)
def eqT (l m : List (List ByteArray × Int)) : Bool := decide (l = m)
theorem eqT_self (l : List (List ByteArray × Int)) : eqT l l = true := by simp [eqT]
theorem eqT_true {l m : List (List ByteArray × Int)} (h : l = m) : eqT l m = true := by simp [eqT, h]
theorem eqT_false {l m : List (List ByteArray × Int)} (h : l ≠ m) : eqT l m = false := by simp [eqT, h]

theorem eqKey (v u : Value) (x y : List ByteArray × Int) (w : World) (q : Bool) (hq : decide (x = y) = q) (h : Holds Value.string w v x.1) (g : Holds Value.string w u y.1) (hl : x.1.length ≤ 140737488351232) (hm : y.1.length ≤ 140737488351232) :
    Calls Try.prog 62 #[.agg #[v, .int .i64 x.2], .agg #[u, .int .i64 y.2]] w fun e w' => e = .returned (.bool q) ∧ Below w.heap.size w w' := by
  obtain ⟨ps, a⟩ := x
  obtain ⟨qs, b⟩ := y
  simp only at h g hl hm ⊢
  obtain ⟨x, n, cap, rfl, -, hcap, hh⟩ := h.shapeN
  obtain ⟨y, m, cap', rfl, -, hcap', hg⟩ := g.shapeN
  have HB := Lib.hid (((Below.refl w.heap.size w).alloc (Nat.le_refl _) (.cells #[.slice x n cap, .int .i64 a] 89)).alloc (Nat.le_trans (Nat.le_refl _) (by simp)) (.cells #[.slice y m cap', .int .i64 b] 89))
  have HH := Lib.hid (hh.on HB.out); have HG := Lib.hid (hg.on HB.out)
  have HQ := Lib.hid hq
  clear hh hg h g hq
  go_enter Try.func62, Try.ntmps62
  go_wp2_with fail
  refine (eqName _ _ ps qs _ HH.out HG.out hl hm).mono ?_
  rintro e w1 ⟨rfl, hb⟩
  have hq0 : w1.cell? ⟨w.heap.size, 1, none⟩ = some (.int .i64 a) := by rw [hb.cell (by simp <;> omega), World.cell?_alloc_past _ _ _ (by simp <;> omega), World.cell?_alloc_at _ _ _ _ rfl]; rfl
  have hq1 : w1.cell? ⟨w.heap.size + 1, 1, none⟩ = some (.int .i64 b) := by rw [hb.cell (by simp <;> omega), World.cell?_alloc_at _ _ _ _ (by simp)]; rfl
  have HB2 := Lib.hid (HB.out.trans (hb.mono HB.out.size)); clear hb
  by_cases he : ps = qs
  · rw [eqB_true he]
    by_cases hv : a = b
    · have HE : Hid (q = true) := Lib.hid (by rw [← HQ.out]; simp [he, hv])
      have ht : (a != b) = false := by simp [hv]
      clear he hv
      go_wp2
      go_ret
      exact ⟨ret_bool HE.out.symm, HB2.out⟩
    · have HE : Hid (q = false) := Lib.hid (by rw [← HQ.out]; simp [hv])
      have ht : (a != b) = true := by simpa using hv
      clear he hv
      go_wp2
      go_ret
      exact ⟨ret_bool HE.out.symm, HB2.out⟩
  · rw [eqB_false he]
    have HE : Hid (q = false) := Lib.hid (by rw [← HQ.out]; simp [he])
    clear he
    go_wp2
    go_ret
    exact ⟨ret_bool HE.out.symm, HB2.out⟩

theorem eqKeyS_len (x y : Option Addr) (n m cx cy : Nat) (w : World) (h : (((n : Nat) : Int) != ((m : Nat) : Int)) = true) :
    Calls Try.prog 20 #[.slice x n cx, .slice y m cy] w fun e w' => e = .returned (.bool false) ∧ w = w' := by
  go_enter Try.func20, Try.ntmps20
  go_wp2
  go_ret
  exact ⟨rfl, rfl⟩

/-- All names are of lengths for the contracts. -/
def lnT (T : List (List ByteArray × Int)) : Prop := ∀ t ∈ T, t.1.length ≤ 9000000
theorem lnT_psl {L : List Ent} (h : lnT (strip L)) {k : Nat} (hk : k < L.length) : (nth L k).ps.length ≤ 9000000 := h _ (strip_mem (nth_mem hk))

set_option maxHeartbeats 4000000 in
theorem eqKeyS (v u : Value) (T U : List (List ByteArray × Int)) (w : World) (h : TabHolds w v T) (g : TabHolds w u U) (hl : T.length ≤ 140737488351232) (hm : U.length ≤ 140737488351232) (hT : lnT T) (hU : lnT U) :
    Calls Try.prog 20 #[v, u] w fun e w' => e = .returned (.bool (eqT T U)) ∧ Below w.heap.size w w' := by
  obtain ⟨L, rfl, h⟩ := h
  obtain ⟨M, rfl, g⟩ := g
  obtain ⟨x, n, cx, rfl, hn, hcx, hh⟩ := h.shapeN
  obtain ⟨y, m, cy, rfl, hm2, hcy, hg⟩ := g.shapeN
  rw [strip_length, ← hn] at hl
  rw [strip_length, ← hm2] at hm
  by_cases he : n = m
  · subst he
    have HN := Lib.hid hn
    have HM := Lib.hid hm2
    have HH := Lib.hid hh
    have HG := Lib.hid hg
    have HT := Lib.hid hT
    have HU := Lib.hid hU
    have htest : (((n : Nat) : Int) != ((n : Nat) : Int)) = false := by simp
    clear hn h hh g hg hm2 hT hU hm
    go_enter Try.func20, Try.ntmps20
    go_wp2
    go_loopw [5] (fun i wr => ∃ k : Nat, k ≤ n ∧ i = .int .i64 k ∧ Hid (agree (strip L) (strip M) k) ∧ Hid (Below w.heap.size w wr)) (fun i _ => n - (intOf i).toNat)
    case atStart => exact ⟨0, Nat.zero_le _, rfl, Lib.hid (agree_zero _ _), Lib.hid (Below.refl _ _)⟩
    case round =>
      obtain ⟨k, hk, rfl, ha, hb⟩ := hrel
      by_cases hlt : k < n
      · have hlen := HN.out
        have hlen2 := HM.out
        obtain ⟨b, off, rfl, hc, hd, hnm⟩ := (HH.out.on hb.out).at (k := k) (by omega)
        obtain ⟨b', off', rfl, hc', hd', hnm'⟩ := (HG.out.on hb.out).at (k := k) (by omega)
        have HL := Lib.hid (lnT_psl HT.out (k := k) (by omega)); have HL' := Lib.hid (lnT_psl HU.out (k := k) (by omega))
        have e1 := strip_nth (L := L) (k := k) (by omega)
        have e2 := strip_nth (L := M) (k := k) (by omega)
        have HC := Lib.hid hc; have HD := Lib.hid hd; have HC' := Lib.hid hc'; have HD' := Lib.hid hd'
        have HNM := Lib.hid hnm; have HNM' := Lib.hid hnm'
        by_cases hq : (nth L k).t = (nth M k).t
        · have HE1 : Hid (decide ((nth L k).t = (nth M k).t) = true) := Lib.hid (decide_eq_true hq)
          have HA := Lib.hid (agree_succ ha.out (by rw [e1, e2, hq]))
          clear hq hlen hlen2 e1 e2 hc hd hc' hd' hnm hnm'
          go_wp2_with fail
          go_region_held3 (fun w' => w'.cell? ⟨b, off + k * 2, none⟩ = some (.slice (nth L k).ad (nth L k).n (nth L k).cap) ∧ w'.cell? ⟨b, off + k * 2 + 1, none⟩ = some (.int .i64 (nth L k).val) ∧ w'.cell? ⟨b', off' + k * 2, none⟩ = some (.slice (nth M k).ad (nth M k).n (nth M k).cap) ∧ w'.cell? ⟨b', off' + k * 2 + 1, none⟩ = some (.int .i64 (nth M k).val) ∧ Below w.heap.size w w') (first | exact keep4 HC.out HD.out HC'.out HD'.out hb.out (Below.refl _ _).drew | exact keep4 HC.out HD.out HC'.out HD'.out hb.out (hb1.mono (Nat.le_refl _)) | exact keep4 HC.out HD.out HC'.out HD'.out hb.out ((Below.refl _ _).drew.trans (hb1.mono (Nat.le_refl _)))) ((go_at_call 62; refine (eqKey _ _ (nth L k).t (nth M k).t _ _ HE1.out (HNM.out.on (Below.refl _ _).drew) (HNM'.out.on (Below.refl _ _).drew) (Nat.le_trans HL.out (by decide)) (Nat.le_trans HL'.out (by decide))).mono ?_; rintro e w1 ⟨rfl, hb1⟩))
          all_goals
            have HB2 := Lib.hid (hb.out.drew.trans (hb1.mono hb.out.size))
            clear hb1
            go_wp2_with fail
            go_roundw
            case rel => exact ⟨k + 1, by omega, by go_num, HA, HB2⟩
            case measure => simp [intOf]; omega
        · have HE1 : Hid (decide ((nth L k).t = (nth M k).t) = false) := Lib.hid (decide_eq_false hq)
          have HA := Lib.hid (eqT_false (differ_at (k := k) (a := strip L) (b := strip M) (by rw [e1, e2]; exact hq)))
          clear hq hlen hlen2 e1 e2 hc hd hc' hd' hnm hnm'
          go_wp2_with fail
          go_region_held3 (fun w' => w'.cell? ⟨b, off + k * 2, none⟩ = some (.slice (nth L k).ad (nth L k).n (nth L k).cap) ∧ w'.cell? ⟨b, off + k * 2 + 1, none⟩ = some (.int .i64 (nth L k).val) ∧ w'.cell? ⟨b', off' + k * 2, none⟩ = some (.slice (nth M k).ad (nth M k).n (nth M k).cap) ∧ w'.cell? ⟨b', off' + k * 2 + 1, none⟩ = some (.int .i64 (nth M k).val) ∧ Below w.heap.size w w') (first | exact keep4 HC.out HD.out HC'.out HD'.out hb.out (Below.refl _ _).drew | exact keep4 HC.out HD.out HC'.out HD'.out hb.out (hb1.mono (Nat.le_refl _)) | exact keep4 HC.out HD.out HC'.out HD'.out hb.out ((Below.refl _ _).drew.trans (hb1.mono (Nat.le_refl _)))) ((go_at_call 62; refine (eqKey _ _ (nth L k).t (nth M k).t _ _ HE1.out (HNM.out.on (Below.refl _ _).drew) (HNM'.out.on (Below.refl _ _).drew) (Nat.le_trans HL.out (by decide)) (Nat.le_trans HL'.out (by decide))).mono ?_; rintro e w1 ⟨rfl, hb1⟩))
          all_goals
            have HB2 := Lib.hid (hb.out.drew.trans (hb1.mono hb.out.size))
            clear hb1
            go_wp2_with fail
            go_ret
            exact ⟨ret_bool HA.out.symm, HB2.out⟩
      · obtain rfl : k = n := by omega
        have HD := Lib.hid (eqT_true (agree_all (a := strip L) (b := strip M) (by rw [strip_length, strip_length, ← HN.out, ← HM.out]) (by rw [strip_length, ← HN.out]; exact ha.out)))
        clear hlt
        go_wp2
        go_ret
        exact ⟨ret_bool HD.out.symm, hb.out⟩
  · have htest : (((n : Nat) : Int) != ((m : Nat) : Int)) = true := by
      rw [bne_iff_ne]; omega
    rw [eqT_false (fun e => he (by have := congrArg List.length e; rw [strip_length, strip_length] at this; omega))]
    exact (eqKeyS_len x y _ _ cx cy w htest).mono fun e w' ⟨h1, h2⟩ => ⟨h1, by subst h2; exact Below.refl _ _⟩
end Go.Proofs.Ytcidfmmeonhkhaa.Row.Ring
