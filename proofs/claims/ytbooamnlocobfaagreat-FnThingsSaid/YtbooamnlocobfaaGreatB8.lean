/- Contracts and mathematics, joined: ThingR, KFunD, EncMath, ThingMath, Draw, DrawOne, DrawW, DrawName, DrawAny, DrawB. No conditions but those that each states. -/
import Derived.Test.YtbooamnlocobfaaGreatB7
import Derived.Test.YtbooamnlocobfaaGreatB1
import Derived.Test.YtbooamnlocobfaaGreatB6
import Derived.Test.YtbooamnlocobfaaGreatB3
import Derived.Test.YtbooamnlocobfaaGreatRows
import Derived.WalkKit
import Derived.ProofKit
import Derived.WalkLawsBesides
import Derived.Lib.Hide
import Derived.LoopTactic
import Derived.Below
import Derived.WalkSmall
import Derived.Deep.QuietTactic
import Derived.BigQuiet
import Derived.Lib.SmallJoins
import Derived.OwnWalk
import Derived.Test.YtbooamnlocobfaaGreatB2
import Derived.Deep.RegionLaw
/- Contract of the program's read and DecodeData. No conditions but that lengths fit. -/
namespace Go.Proofs.YtbooamnlocobfaaGreat.Row
open Go.ChangeShapes Go.WideShapes Go.ChangeAt Go.RowKit Go.Instr
set_option linter.unusedVariables false
set_option maxRecDepth 100000

/-- What read leaves: the packet at block g, or nothing. -/
def ReadPost (w : World) (g : Nat) (b : List Int) (e : Ending) (w' : World) : Prop :=
  (okD b ∧ e = .returned (.tuple #[.int .i64 (rI1 b).2.1, .bool true]) ∧ w.grownBy w' (some g) ∧ ∃ a1 b1 c1, Ret.Blk w' g (dc a1 b1 c1 (gotD b).2.2.2.1 (gotD b).2.2.2.2) 28 ∧ DOwn w.heap.size w' a1 b1 c1 (gotD b)) ∨
  (¬ okD b ∧ e = .returned (.tuple #[.int .i64 0, .bool false]) ∧ Below w.heap.size w w')
set_option maxHeartbeats 8000000 in
theorem readD (g : Nat) (v : Value) (b : List Int) (w : World) (hx : Ret.Blk w g (dc (.slice none 0 0) (.slice none 0 0) (.slice none 0 0) 0 0) 28) (h : Sl.Holds .u8 w v b) (hB : Sl.Byt b) (hl : b.length ≤ 100000000) :
    Calls Tryz.prog 39 #[.pointer (some ⟨g, 0, none⟩), v] w (ReadPost w g b) := by
  obtain ⟨x, cx, rfl, hcx, hh⟩ := h.shape
  obtain ⟨m, hm⟩ : ∃ m, m = b.length := ⟨_, rfl⟩
  have HL := Lib.hid hl
  rw [← hm] at hcx hh hl ⊢
  have HB := Lib.hid (Below.refl w.heap.size w)
  have HX := Lib.hid hx
  have HG0 := Lib.hid hx.lt
  have HH := Lib.hid hh; have HBY := Lib.hid hB
  clear h hh hB hm hx
  go_enter Tryz.func39, Tryz.ntmps39
  have HR := Lib.hid (implReadName _ b 0 _ (HH.out.on HB.out) HBY.out HL.out)
  rw [show rdN b 0 = rN1 b from rfl] at HR
  obtain ⟨l1, hl1⟩ : ∃ z, z = (rN1 b).1 := ⟨_, rfl⟩
  obtain ⟨j1, hj1⟩ : ∃ z, z = (rN1 b).2.1 := ⟨_, rfl⟩
  obtain ⟨k1, hk1⟩ : ∃ z, z = (rN1 b).2.2 := ⟨_, rfl⟩
  rw [← hl1, ← hj1, ← hk1] at HR
  have HL1 := Lib.hid hl1; have HJ1 := Lib.hid hj1; have HK1 := Lib.hid hk1
  clear hl1 hj1 hk1
  go_wp2_with fail
  refine HR.out.mono ?_
  rintro e w1 ⟨v1, rfl, ho1, hb1⟩
  obtain ⟨x1, n1, c1, rfl, -, -, ho1⟩ := ho1.shapeN
  clear HR
  have hal := (Below.refl w1.heap.size w1).alloc (Nat.le_refl _) (.cells #[.slice x1 n1 c1] 26)
  have O1 := Lib.hid (ho1.on hal)
  have LT1 := Lib.hid (show ∀ g, (.slice x1 n1 c1 : Value).ownBlock = some g → g < w1.heap.size from fun g e => (ho1.lt g e).2)
  have Y1 := Lib.hid (Ret.Box.new w1 (.slice x1 n1 c1) 26)
  have S1 := Lib.hid hb1.size
  replace HX := Lib.hid (HX.out.on hb1); replace HB := Lib.hid (HB.out.trans (hb1.mono HB.out.size))
  replace HX := Lib.hid (HX.out.on hal); replace HB := Lib.hid (HB.out.trans (hal.mono HB.out.size))
  clear ho1 hb1 hal
  cases k1 with
  | false =>
    have HN := Lib.hid (show ¬ okD b from fun e => by have h9 := e.1; rw [← HK1.out] at h9; cases h9)
    go_wp2_with fail
    go_ret2
    exact Or.inr ⟨HN.out, rfl, HB.out⟩
  | true =>
    have HR := Lib.hid (Sl.implReadBytes _ b j1 60 (w1.alloc (.cells #[.slice x1 n1 c1] 26)) (HH.out.on HB.out) HBY.out HL.out)
    rw [show Sl.readB b j1 60 = rB1 b by rw [HJ1.out]; rfl] at HR
    obtain ⟨l2, hl2⟩ : ∃ z, z = (rB1 b).1 := ⟨_, rfl⟩
    obtain ⟨j2, hj2⟩ : ∃ z, z = (rB1 b).2.1 := ⟨_, rfl⟩
    obtain ⟨k2, hk2⟩ : ∃ z, z = (rB1 b).2.2 := ⟨_, rfl⟩
    rw [← hl2, ← hj2, ← hk2] at HR
    have HL2 := Lib.hid hl2; have HJ2 := Lib.hid hj2; have HK2 := Lib.hid hk2
    clear hl2 hj2 hk2
    go_wp2_with fail
    refine HR.out.mono ?_
    rintro e w2 ⟨v2, rfl, ho2, hb2⟩
    obtain ⟨x2, n2, c2, rfl, -, -, ho2⟩ := Own.shapeN (enc := Value.int .u8) ho2
    replace ho2 : Sl.Own 5 .u8 _ w2 (.slice x2 n2 c2) l2 := ho2
    clear HR
    have O2 := Lib.hid ho2
    have LT2 := Lib.hid (show ∀ g, (.slice x2 n2 c2 : Value).ownBlock = some g → g < w2.heap.size from fun g e => (Sl.Own.lt ho2 g e).2)
    have GE2 := Lib.hid (show ∀ g, (.slice x2 n2 c2 : Value).ownBlock = some g → w1.heap.size ≤ g from fun g e => by have h5 := (Sl.Own.lt ho2 g e).1; simp only [World.size_alloc] at h5; omega)
    have S2 := Lib.hid (show w1.heap.size + 1 ≤ w2.heap.size by have h5 := hb2.size; simp only [World.size_alloc] at h5; exact h5)
    replace HX := Lib.hid (HX.out.on hb2); replace O1 := Lib.hid (O1.out.on hb2); replace Y1 := Lib.hid (Y1.out.on hb2); replace HB := Lib.hid (HB.out.trans (hb2.mono HB.out.size))
    clear ho2 hb2
    cases k2 with
    | false =>
      have HN := Lib.hid (show ¬ okD b from fun e => by have h9 := e.2.1; rw [← HK2.out] at h9; cases h9)
      go_wp2_with fail
      go_ret2
      exact Or.inr ⟨HN.out, rfl, HB.out⟩
    | true =>
      have HR := Lib.hid (implReadName _ b j2 w2 (HH.out.on HB.out) HBY.out HL.out)
      rw [show rdN b j2 = rN2 b by rw [HJ2.out]; rfl] at HR
      obtain ⟨l3, hl3⟩ : ∃ z, z = (rN2 b).1 := ⟨_, rfl⟩
      obtain ⟨j3, hj3⟩ : ∃ z, z = (rN2 b).2.1 := ⟨_, rfl⟩
      obtain ⟨k3, hk3⟩ : ∃ z, z = (rN2 b).2.2 := ⟨_, rfl⟩
      rw [← hl3, ← hj3, ← hk3] at HR
      have HL3 := Lib.hid hl3; have HJ3 := Lib.hid hj3; have HK3 := Lib.hid hk3
      clear hl3 hj3 hk3
      go_wp2_with fail
      refine HR.out.mono ?_
      rintro e w3 ⟨v3, rfl, ho3, hb3⟩
      obtain ⟨x3, n3, c3, rfl, -, -, ho3⟩ := ho3.shapeN
      clear HR
      have hal := (Below.refl w3.heap.size w3).alloc (Nat.le_refl _) (.cells #[.slice x3 n3 c3] 26)
      have O3 := Lib.hid (ho3.on hal)
      have GE3 := Lib.hid (show ∀ g, (.slice x3 n3 c3 : Value).ownBlock = some g → w2.heap.size ≤ g from fun g e => (ho3.lt g e).1)
      have Y3 := Lib.hid (Ret.Box.new w3 (.slice x3 n3 c3) 26)
      have S3 := Lib.hid hb3.size
      replace HX := Lib.hid (HX.out.on hb3); replace O1 := Lib.hid (O1.out.on hb3); replace O2 := Lib.hid (O2.out.on hb3); replace Y1 := Lib.hid (Y1.out.on hb3); replace HB := Lib.hid (HB.out.trans (hb3.mono HB.out.size))
      replace HX := Lib.hid (HX.out.on hal); replace O1 := Lib.hid (O1.out.on hal); replace O2 := Lib.hid (O2.out.on hal); replace Y1 := Lib.hid (Y1.out.on hal); replace HB := Lib.hid (HB.out.trans (hal.mono HB.out.size))
      have hA : Apart (.slice x1 n1 c1) (.slice x2 n2 c2) ∧ Apart (.slice x1 n1 c1) (.slice x3 n3 c3) ∧ Apart (.slice x2 n2 c2) (.slice x3 n3 c3) := by
        refine ⟨fun g e1 e2 => ?_, fun g e1 e2 => ?_, fun g e1 e2 => ?_⟩
        · have h5 := LT1.out g e1; have h6 := GE2.out g e2; have h7 := S2.out; omega
        · have h5 := LT1.out g e1; have h6 := GE3.out g e2; have h7 := S2.out; omega
        · have h5 := LT2.out g e1; have h6 := GE3.out g e2; have h7 := S2.out; omega
      have HAP := Lib.hid hA; clear hA
      clear ho3 hb3 hal
      cases k3 with
      | false =>
        have HN := Lib.hid (show ¬ okD b from fun e => by have h9 := e.2.2.1; rw [← HK3.out] at h9; cases h9)
        go_wp2_with fail
        go_ret2
        exact Or.inr ⟨HN.out, rfl, HB.out⟩
      | true =>
        have HR := Lib.hid (Sl.implDecodeInts _ b j3 2 (w3.alloc (.cells #[.slice x3 n3 c3] 26)) (HH.out.on HB.out) HBY.out HL.out)
        rw [show Sl.readIs b j3 2 = rI1 b by rw [HJ3.out]; rfl] at HR
        obtain ⟨is_, his⟩ : ∃ z, z = (rI1 b).1 := ⟨_, rfl⟩
        obtain ⟨j4, hj4⟩ : ∃ z, z = (rI1 b).2.1 := ⟨_, rfl⟩
        obtain ⟨k4, hk4⟩ : ∃ z, z = (rI1 b).2.2 := ⟨_, rfl⟩
        rw [← his, ← hj4, ← hk4] at HR
        have HIS := Lib.hid his; have HJ4 := Lib.hid hj4; have HK4 := Lib.hid hk4
        clear his hj4 hk4
        go_wp2_with fail
        refine HR.out.mono ?_
        rintro e w4 ⟨v4, rfl, ho4, hb4⟩
        obtain ⟨x4, c4, rfl, hc4, ho4⟩ := ho4.holds.shape
        obtain ⟨n4, hn4⟩ : ∃ n, n = is_.length := ⟨_, rfl⟩
        rw [← hn4] at ho4
        have HN4 := Lib.hid hn4
        rw [← hn4]
        have HI4 := Lib.hid ho4
        clear ho4 hc4 hn4 HR
        replace HX := Lib.hid (HX.out.on hb4); replace O1 := Lib.hid (O1.out.on hb4); replace O2 := Lib.hid (O2.out.on hb4); replace O3 := Lib.hid (O3.out.on hb4); replace Y1 := Lib.hid (Y1.out.on hb4); replace Y3 := Lib.hid (Y3.out.on hb4); replace HB := Lib.hid (HB.out.trans (hb4.mono HB.out.size))
        clear hb4
        cases k4 with
        | false =>
          have HN := Lib.hid (show ¬ okD b from fun e => by have h9 := e.2.2.2; rw [← HK4.out] at h9; cases h9)
          go_wp2_with fail
          go_ret2
          exact Or.inr ⟨HN.out, rfl, HB.out⟩
        | true =>
          have h2 : n4 = 2 := by rw [HN4.out, HIS.out]; exact readI2 HK4.out.symm
          subst h2
          obtain ⟨bb, off, hx4, hc⟩ := HI4.out.at (j := 0) (by rw [← HN4.out]; omega)
          subst hx4
          obtain ⟨i0, hi0⟩ : ∃ z, z = Sl.nth is_ 0 := ⟨_, rfl⟩
          obtain ⟨i1, hi1⟩ : ∃ z, z = Sl.nth is_ 1 := ⟨_, rfl⟩
          have q0 : w4.cell? ⟨bb, off, none⟩ = some (.int .i64 i0) := by rw [hi0]; exact hc
          have q1 : w4.cell? ⟨bb, off + 1, none⟩ = some (.int .i64 i1) := by
            obtain ⟨b', o', e, hc1⟩ := HI4.out.at (j := 1) (by rw [← HN4.out]; omega)
            cases e; rw [hi1]; exact hc1
          have HG : Hid (gotD b = (l1, l2, l3, i0, i1)) := Lib.hid (by unfold gotD; rw [← HL1.out, ← HL2.out, ← HL3.out, ← HIS.out, ← hi0, ← hi1])
          have y1 : w4.cell? ⟨w1.heap.size, 0, none⟩ = some (.slice x1 n1 c1) := Y1.out.cell
          have y3 : w4.cell? ⟨w3.heap.size, 0, none⟩ = some (.slice x3 n3 c3) := Y3.out.cell
          clear hc hi0 hi1
          have t0 := HX.out.frozen 0; have t1 := HX.out.frozen 1; have t2 := HX.out.frozen 2; have t3 := HX.out.frozen 3; have t4 := HX.out.frozen 4
          have r0 : w4.cell? ⟨g, 0, none⟩ = some (.slice none 0 0) := HX.out.cell 0
          have r1 : w4.cell? ⟨g, 1, none⟩ = some (.slice none 0 0) := HX.out.cell 1
          have r2 : w4.cell? ⟨g, 2, none⟩ = some (.slice none 0 0) := HX.out.cell 2
          have r3 : w4.cell? ⟨g, 3, none⟩ = some (.int .i64 0) := HX.out.cell 3
          have r4 : w4.cell? ⟨g, 4, none⟩ = some (.int .i64 0) := HX.out.cell 4
          have HO := Lib.hid (show DOwn w.heap.size (((((w4.setCell ⟨g, 0, none⟩ (.slice x1 n1 c1)).setCell ⟨g, 1, none⟩ (.slice x2 n2 c2)).setCell ⟨g, 2, none⟩ (.slice x3 n3 c3)).setCell ⟨g, 3, none⟩ (.int .i64 i0)).setCell ⟨g, 4, none⟩ (.int .i64 i1)) (.slice x1 n1 c1) (.slice x2 n2 c2) (.slice x3 n3 c3) (l1, l2, l3, i0, i1) from ⟨Own.mono (own_set (g := g) (i := 4) (u := .int .i64 i1) (own_set (g := g) (i := 3) (u := .int .i64 i0) (own_set (g := g) (i := 2) (u := .slice x3 n3 c3) (own_set (g := g) (i := 1) (u := .slice x2 n2 c2) (own_set (g := g) (i := 0) (u := .slice x1 n1 c1) O1.out (by have h5 := HG0.out; have h6 := S1.out; have h7 := S2.out; (try simp only [World.size_alloc]); omega)) (by have h5 := HG0.out; have h6 := S1.out; have h7 := S2.out; (try simp only [World.size_alloc]); omega)) (by have h5 := HG0.out; have h6 := S1.out; have h7 := S2.out; (try simp only [World.size_alloc]); omega)) (by have h5 := HG0.out; have h6 := S1.out; have h7 := S2.out; (try simp only [World.size_alloc]); omega)) (by have h5 := HG0.out; have h6 := S1.out; have h7 := S2.out; (try simp only [World.size_alloc]); omega)) (Nat.le_refl _), Sl.Own.mono (sl_own_set (g := g) (i := 4) (u := .int .i64 i1) (sl_own_set (g := g) (i := 3) (u := .int .i64 i0) (sl_own_set (g := g) (i := 2) (u := .slice x3 n3 c3) (sl_own_set (g := g) (i := 1) (u := .slice x2 n2 c2) (sl_own_set (g := g) (i := 0) (u := .slice x1 n1 c1) O2.out (by have h5 := HG0.out; have h6 := S1.out; have h7 := S2.out; (try simp only [World.size_alloc]); omega)) (by have h5 := HG0.out; have h6 := S1.out; have h7 := S2.out; (try simp only [World.size_alloc]); omega)) (by have h5 := HG0.out; have h6 := S1.out; have h7 := S2.out; (try simp only [World.size_alloc]); omega)) (by have h5 := HG0.out; have h6 := S1.out; have h7 := S2.out; (try simp only [World.size_alloc]); omega)) (by have h5 := HG0.out; have h6 := S1.out; have h7 := S2.out; (try simp only [World.size_alloc]); omega)) (by have h5 := HG0.out; have h6 := S1.out; have h7 := S2.out; (try simp only [World.size_alloc]); omega), Own.mono (own_set (g := g) (i := 4) (u := .int .i64 i1) (own_set (g := g) (i := 3) (u := .int .i64 i0) (own_set (g := g) (i := 2) (u := .slice x3 n3 c3) (own_set (g := g) (i := 1) (u := .slice x2 n2 c2) (own_set (g := g) (i := 0) (u := .slice x1 n1 c1) O3.out (by have h5 := HG0.out; have h6 := S1.out; have h7 := S2.out; (try simp only [World.size_alloc]); omega)) (by have h5 := HG0.out; have h6 := S1.out; have h7 := S2.out; (try simp only [World.size_alloc]); omega)) (by have h5 := HG0.out; have h6 := S1.out; have h7 := S2.out; (try simp only [World.size_alloc]); omega)) (by have h5 := HG0.out; have h6 := S1.out; have h7 := S2.out; (try simp only [World.size_alloc]); omega)) (by have h5 := HG0.out; have h6 := S1.out; have h7 := S2.out; (try simp only [World.size_alloc]); omega)) (by have h5 := HG0.out; have h6 := S1.out; have h7 := S2.out; (try simp only [World.size_alloc]); omega), HAP.out⟩)
          have HXX := Lib.hid (((((HX.out.set 0 (.slice x1 n1 c1)).set 1 (.slice x2 n2 c2)).set 2 (.slice x3 n3 c3)).set 3 (.int .i64 i0)).set 4 (.int .i64 i1))
          have HGG := Lib.hid ((((((Sl.grown_of_below HB.out (some g)).trans (Ret.grownBy_set w4 ⟨g, 0, none⟩ (.slice x1 n1 c1))).trans (Ret.grownBy_set (w4.setCell ⟨g, 0, none⟩ (.slice x1 n1 c1)) ⟨g, 1, none⟩ (.slice x2 n2 c2))).trans (Ret.grownBy_set ((w4.setCell ⟨g, 0, none⟩ (.slice x1 n1 c1)).setCell ⟨g, 1, none⟩ (.slice x2 n2 c2)) ⟨g, 2, none⟩ (.slice x3 n3 c3))).trans (Ret.grownBy_set (((w4.setCell ⟨g, 0, none⟩ (.slice x1 n1 c1)).setCell ⟨g, 1, none⟩ (.slice x2 n2 c2)).setCell ⟨g, 2, none⟩ (.slice x3 n3 c3)) ⟨g, 3, none⟩ (.int .i64 i0))).trans (Ret.grownBy_set ((((w4.setCell ⟨g, 0, none⟩ (.slice x1 n1 c1)).setCell ⟨g, 1, none⟩ (.slice x2 n2 c2)).setCell ⟨g, 2, none⟩ (.slice x3 n3 c3)).setCell ⟨g, 3, none⟩ (.int .i64 i0)) ⟨g, 4, none⟩ (.int .i64 i1)))
          go_wp2_with fail
          go_region
          clear q0 q1 y1 y3 t0 t1 t2 t3 t4 r0 r1 r2 r3 r4
          go_wp2_with fail
          go_ret2
          refine Or.inl ⟨⟨HK1.out.symm, HK2.out.symm, HK3.out.symm, HK4.out.symm⟩, by rw [HJ4.out]; rfl, HGG.out.trans (Sl.grown_of_below (Below.refl _ _).drew _), .slice x1 n1 c1, .slice x2 n2 c2, .slice x3 n3 c3, ?_, ?_⟩
          · rw [HG.out]; exact HXX.out.on (Below.refl _ _).drew
          · rw [HG.out]; exact HO.out.on (Below.refl _ _).drew

set_option maxHeartbeats 8000000 in
theorem implDecodeData (v : Value) (b : List Int) (w : World) (h : Sl.Holds .u8 w v b) (hB : Sl.Byt b) (hl : b.length ≤ 100000000) :
    Calls Tryz.prog 8 #[v] w (GivesDB w (dcD b).1 (dcD b).2) := by
  unfold GivesDB
  obtain ⟨x, cx, rfl, hcx, hh⟩ := h.shape
  obtain ⟨m, hm⟩ : ∃ m, m = b.length := ⟨_, rfl⟩
  rw [← hm] at hcx hh ⊢
  have hb0 := (Below.refl w.heap.size w).alloc (Nat.le_refl _) (.cells (dc (.slice none 0 0) (.slice none 0 0) (.slice none 0 0) 0 0) 28)
  have HB := Lib.hid (hb0.alloc (by simp) (.cells (dc (.slice none 0 0) (.slice none 0 0) (.slice none 0 0) 0 0) 28))
  have HX := Lib.hid ((Ret.Blk.new w (dc (.slice none 0 0) (.slice none 0 0) (.slice none 0 0) 0 0) 28).on ((Below.refl _ _).alloc (Nat.le_refl _) (.cells (dc (.slice none 0 0) (.slice none 0 0) (.slice none 0 0) 0 0) 28)))
  have HC := Lib.hid (readD (w.heap.size + 1) _ b ((w.alloc (.cells (dc (.slice none 0 0) (.slice none 0 0) (.slice none 0 0) 0 0) 28)).alloc (.cells (dc (.slice none 0 0) (.slice none 0 0) (.slice none 0 0) 0 0) 28)) (Ret.Blk.new' (dc (.slice none 0 0) (.slice none 0 0) (.slice none 0 0) 0 0) 28 (by simp)) (hh.on HB.out) hB hl)
  have HZS := Lib.hid (show ((w.alloc (.cells (dc (.slice none 0 0) (.slice none 0 0) (.slice none 0 0) 0 0) 28)).alloc (.cells (dc (.slice none 0 0) (.slice none 0 0) (.slice none 0 0) 0 0) 28)).heap.size = w.heap.size + 2 by simp)
  have HM := Lib.hid hm
  clear h hh hB hm hb0 hl
  go_enter Tryz.func8, Tryz.ntmps8
  go_wp2_with fail
  refine HC.out.mono ?_
  rintro e w1 (⟨hok, rfl, hg, a1, b1, c1, hx1, ho⟩ | ⟨hno, rfl, hb⟩)
  · obtain ⟨x1, n1, c1, x2, n2, c2, x3, n3, c3, rfl, rfl, rfl⟩ := ho.hold.shape
    have HO := Lib.hid (show DOwn (w.heap.size + 2) w1 (.slice x1 n1 c1) (.slice x2 n2 c2) (.slice x3 n3 c3) (gotD b) from by rw [← HZS.out]; exact ho)
    replace HX := Lib.hid (HX.out.grown hg (by intro e; have h5 := Option.some.inj e; omega))
    replace HB := Lib.hid (HB.out.grown hg HB.out.size (fun g e => by have h5 := Option.some.inj e; omega))
    obtain ⟨y, hy⟩ : ∃ y, y = gotD b := ⟨_, rfl⟩
    rw [← hy] at HO hx1
    have HG := Lib.hid hy.symm
    obtain ⟨l1, l2, l3, i0, i1⟩ := y
    have HZ1 := Lib.hid (show Ret.Blk w1 (w.heap.size + 1) (dc (.slice x1 n1 c1) (.slice x2 n2 c2) (.slice x3 n3 c3) i0 i1) 28 from hx1)
    obtain ⟨j4, hj4⟩ : ∃ z, z = (rI1 b).2.1 := ⟨_, rfl⟩
    rw [← hj4]
    have HJ4 := Lib.hid hj4
    have HBK1 := Lib.hid (show bulk l1 ≤ 60 from bulk_valid (by have h8 := congrArg (fun y : Dt => y.1) HG.out; simp only at h8; rw [← h8]; exact rdN_valid hok.1))
    have HBK3 := Lib.hid (show bulk l3 ≤ 60 from bulk_valid (by have h8 := congrArg (fun y : Dt => y.2.2.1) HG.out; simp only at h8; rw [← h8]; exact rdN_valid hok.2.2.1))
    have HOK := Lib.hid hok
    clear ho hx1 hg hy hj4 hok HC
    by_cases hnm : j4 = (m : Int)
    · have hd : (j4 != (m : Int)) = false := by simp [hnm]
      have HNM : Hid (j4 = (b.length : Int)) := Lib.hid (by rw [hnm, HM.out])
      clear hnm
      obtain ⟨z, hz⟩ : ∃ z, validD (l1, l2, l3, i0, i1) = z := ⟨_, rfl⟩
      have HZ := Lib.hid hz
      have p0 : w1.cell? ⟨w.heap.size + 1, 0, none⟩ = some (.slice x1 n1 c1) := HZ1.out.cell 0
      have p1 : w1.cell? ⟨w.heap.size + 1, 1, none⟩ = some (.slice x2 n2 c2) := HZ1.out.cell 1
      have p2 : w1.cell? ⟨w.heap.size + 1, 2, none⟩ = some (.slice x3 n3 c3) := HZ1.out.cell 2
      have p3 : w1.cell? ⟨w.heap.size + 1, 3, none⟩ = some (.int .i64 i0) := HZ1.out.cell 3
      have p4 : w1.cell? ⟨w.heap.size + 1, 4, none⟩ = some (.int .i64 i1) := HZ1.out.cell 4
      go_wp2_with fail
      clear p0 p1 p2 p3 p4
      refine (implValidData _ _ _ (l1, l2, l3, i0, i1) _ HO.out.hold (by have := HBK1.out; simp only; omega) (by have := HBK3.out; simp only; omega)).mono ?_
      rintro e w6 ⟨rfl, hb6⟩
      rw [hz]
      replace HX := Lib.hid (HX.out.on hb6); replace HO := Lib.hid (HO.out.on hb6); replace HZ1 := Lib.hid (HZ1.out.on hb6); replace HB := Lib.hid (HB.out.trans (hb6.mono HB.out.size))
      clear hb6 hz
      cases z with
      | false =>
        have HV := Lib.hid (dcD_no (b := b) (fun e => by have h9 := e.2.2; rw [HG.out, HZ.out] at h9; cases h9))
        have HE := Lib.hid (endD (f := 0) (s := 0) HX.out (DOwn.nil (w.heap.size + 1) _) (Nat.lt_succ_self _) HB.out)
        have t0 := HX.out.frozen 0; have t1 := HX.out.frozen 1; have t2 := HX.out.frozen 2; have t3 := HX.out.frozen 3; have t4 := HX.out.frozen 4
        have r0 : w6.cell? ⟨w.heap.size, 0, none⟩ = some (.slice none 0 0) := HX.out.cell 0
        have r1 : w6.cell? ⟨w.heap.size, 1, none⟩ = some (.slice none 0 0) := HX.out.cell 1
        have r2 : w6.cell? ⟨w.heap.size, 2, none⟩ = some (.slice none 0 0) := HX.out.cell 2
        have r3 : w6.cell? ⟨w.heap.size, 3, none⟩ = some (.int .i64 0) := HX.out.cell 3
        have r4 : w6.cell? ⟨w.heap.size, 4, none⟩ = some (.int .i64 0) := HX.out.cell 4
        go_wp2_with fail
        refine bodyPost_ret (Ret.results_ct rfl _ _ w.heap.size (dc (.slice none 0 0) (.slice none 0 0) (.slice none 0 0) 0 0).toList rfl aggD HE.out.1.cells) rfl ?_
        rw [HV.out]
        exact ⟨_, _, _, rfl, HE.out.2.1, HE.out.2.2⟩
      | true =>
        have HV := Lib.hid (dcD_yes (b := b) ⟨HOK.out, by rw [← HJ4.out]; exact HNM.out, by rw [HG.out]; exact HZ.out⟩)
        have HE := Lib.hid (endD (f := i0) (s := i1) HX.out HO.out (by omega) HB.out)
        have t0 := HX.out.frozen 0; have t1 := HX.out.frozen 1; have t2 := HX.out.frozen 2; have t3 := HX.out.frozen 3; have t4 := HX.out.frozen 4
        have r0 : w6.cell? ⟨w.heap.size, 0, none⟩ = some (.slice none 0 0) := HX.out.cell 0
        have r1 : w6.cell? ⟨w.heap.size, 1, none⟩ = some (.slice none 0 0) := HX.out.cell 1
        have r2 : w6.cell? ⟨w.heap.size, 2, none⟩ = some (.slice none 0 0) := HX.out.cell 2
        have r3 : w6.cell? ⟨w.heap.size, 3, none⟩ = some (.int .i64 0) := HX.out.cell 3
        have r4 : w6.cell? ⟨w.heap.size, 4, none⟩ = some (.int .i64 0) := HX.out.cell 4
        have p0 : w6.cell? ⟨w.heap.size + 1, 0, none⟩ = some (.slice x1 n1 c1) := HZ1.out.cell 0
        have p1 : w6.cell? ⟨w.heap.size + 1, 1, none⟩ = some (.slice x2 n2 c2) := HZ1.out.cell 1
        have p2 : w6.cell? ⟨w.heap.size + 1, 2, none⟩ = some (.slice x3 n3 c3) := HZ1.out.cell 2
        have p3 : w6.cell? ⟨w.heap.size + 1, 3, none⟩ = some (.int .i64 i0) := HZ1.out.cell 3
        have p4 : w6.cell? ⟨w.heap.size + 1, 4, none⟩ = some (.int .i64 i1) := HZ1.out.cell 4
        go_wp2_with fail
        refine bodyPost_ret (Ret.results_ct rfl _ _ w.heap.size (dc (.slice x1 n1 c1) (.slice x2 n2 c2) (.slice x3 n3 c3) i0 i1).toList rfl aggD HE.out.1.cells) rfl ?_
        rw [HV.out, HG.out]
        exact ⟨_, _, _, rfl, HE.out.2.1, HE.out.2.2⟩
    · have hd : (j4 != (m : Int)) = true := by simpa using hnm
      have HV := Lib.hid (dcD_no (b := b) (fun e => hnm (by have h9 := e.2.1; rw [← HJ4.out, ← HM.out] at h9; exact h9)))
      clear hnm
      have HE := Lib.hid (endD (f := 0) (s := 0) HX.out (DOwn.nil (w.heap.size + 1) _) (Nat.lt_succ_self _) HB.out)
      have t0 := HX.out.frozen 0; have t1 := HX.out.frozen 1; have t2 := HX.out.frozen 2; have t3 := HX.out.frozen 3; have t4 := HX.out.frozen 4
      have r0 : w1.cell? ⟨w.heap.size, 0, none⟩ = some (.slice none 0 0) := HX.out.cell 0
      have r1 : w1.cell? ⟨w.heap.size, 1, none⟩ = some (.slice none 0 0) := HX.out.cell 1
      have r2 : w1.cell? ⟨w.heap.size, 2, none⟩ = some (.slice none 0 0) := HX.out.cell 2
      have r3 : w1.cell? ⟨w.heap.size, 3, none⟩ = some (.int .i64 0) := HX.out.cell 3
      have r4 : w1.cell? ⟨w.heap.size, 4, none⟩ = some (.int .i64 0) := HX.out.cell 4
      go_wp2_with fail
      refine bodyPost_ret (Ret.results_ct rfl _ _ w.heap.size (dc (.slice none 0 0) (.slice none 0 0) (.slice none 0 0) 0 0).toList rfl aggD HE.out.1.cells) rfl ?_
      rw [HV.out]
      exact ⟨_, _, _, rfl, HE.out.2.1, HE.out.2.2⟩
  · have HV := Lib.hid (dcD_no (b := b) (fun e => hno e.1))
    replace HX := Lib.hid (HX.out.on hb); replace HB := Lib.hid (HB.out.trans (hb.mono HB.out.size))
    clear hb hno HC
    have HE := Lib.hid (endD (f := 0) (s := 0) HX.out (DOwn.nil (w.heap.size + 1) _) (Nat.lt_succ_self _) HB.out)
    have t0 := HX.out.frozen 0; have t1 := HX.out.frozen 1; have t2 := HX.out.frozen 2; have t3 := HX.out.frozen 3; have t4 := HX.out.frozen 4
    have r0 : w1.cell? ⟨w.heap.size, 0, none⟩ = some (.slice none 0 0) := HX.out.cell 0
    have r1 : w1.cell? ⟨w.heap.size, 1, none⟩ = some (.slice none 0 0) := HX.out.cell 1
    have r2 : w1.cell? ⟨w.heap.size, 2, none⟩ = some (.slice none 0 0) := HX.out.cell 2
    have r3 : w1.cell? ⟨w.heap.size, 3, none⟩ = some (.int .i64 0) := HX.out.cell 3
    have r4 : w1.cell? ⟨w.heap.size, 4, none⟩ = some (.int .i64 0) := HX.out.cell 4
    go_wp2_with fail
    refine bodyPost_ret (Ret.results_ct rfl _ _ w.heap.size (dc (.slice none 0 0) (.slice none 0 0) (.slice none 0 0) 0 0).toList rfl aggD HE.out.1.cells) rfl ?_
    rw [HV.out]
    exact ⟨_, _, _, rfl, HE.out.2.1, HE.out.2.2⟩
end Go.Proofs.YtbooamnlocobfaaGreat.Row
/- Chapter 8's functions, the model's and the program's, in the words of kinds. No conditions but that lengths fit. -/
namespace Go.Proofs.YtbooamnlocobfaaGreat.Row
open Go.ChangeShapes Go.WideShapes Go.ChangeAt Go.RowKit Go.Instr
set_option linter.unusedVariables false
set_option maxRecDepth 100000

def eqD (x y : Dt) : Bool := decide (x = y)
theorem WfD.byt {x : Dt} (h : WfD x) : Sl.Byt x.2.1 := Sl.byt_of_wf h.2.1
section
variable {P : Program} {f : FuncId} {args : Array Value} {w : World}
theorem giveB {l : List Int} (h : Calls P f args w (Sl.GivesB w l)) : Calls P f args w fun e w' => ∃ U, e = .returned U ∧ kB.In w.heap.size w'.heap.size w' U l ∧ Below w.heap.size w w' := h.mono fun e w' ⟨v, a, b, c⟩ => ⟨v, a, kB_own b, c⟩
theorem giveI {l : List Int} (h : Calls P f args w (Sl.GivesI w l)) : Calls P f args w fun e w' => ∃ U, e = .returned U ∧ kI.In w.heap.size w'.heap.size w' U l ∧ Below w.heap.size w w' := h.mono fun e w' ⟨v, a, b, c⟩ => ⟨v, a, kI_own b, c⟩
theorem giveD {x : Dt} (h : Calls P f args w (GivesD w x)) : Calls P f args w fun e w' => ∃ U, e = .returned U ∧ kD.In w.heap.size w'.heap.size w' U x ∧ Below w.heap.size w w' := h.mono fun e w' ⟨a, b, c, p, q, r⟩ => ⟨_, p, kD_own q, r⟩
theorem giveDB {x : Dt} {z : Bool} (h : Calls P f args w (GivesDB w x z)) : Calls P f args w fun e w' => ∃ U, e = .returned (.tuple #[U, .bool z]) ∧ kD.In w.heap.size w'.heap.size w' U x ∧ Below w.heap.size w w' := h.mono fun e w' ⟨a, b, c, p, q, r⟩ => ⟨_, p, kD_own q, r⟩
end
theorem specSignedPortionK (V : Value) (x : Dt) (w : World) (h : kD.At w V x) (hn : WfD x) (hl : bulkD x ≤ 1200000) :
    Calls Tryz.prog 28 #[V] w fun e w' => ∃ U, e = .returned U ∧ kI.In w.heap.size w'.heap.size w' U (portD x) ∧ Below w.heap.size w w' := by
  obtain ⟨a, b, c, rfl, h9⟩ := kD_at h
  exact giveI (specSignedPortion a b c x w h9 hn.byt hl)
theorem specSignDataK (V : Value) (t : Int) (x : Dt) (w : World) (h : kD.At w V x) (hn : WfD x) (hl : bulkD x ≤ 1200000) :
    Calls Tryz.prog 18 #[.int .i64 t, V] w fun e w' => ∃ U, e = .returned U ∧ kD.In w.heap.size w'.heap.size w' U (sgD t x) ∧ Below w.heap.size w w' := by
  obtain ⟨a, b, c, rfl, h9⟩ := kD_at h
  exact giveD (specSignData a b c x t w h9 hn.byt hl)
theorem specEncodeDataK (V : Value) (x : Dt) (w : World) (h : kD.At w V x) (hl : bulkD x ≤ 1200000) :
    Calls Tryz.prog 15 #[V] w fun e w' => ∃ U, e = .returned U ∧ kB.In w.heap.size w'.heap.size w' U (encD x) ∧ Below w.heap.size w w' := by
  obtain ⟨a, b, c, rfl, h9⟩ := kD_at h
  exact giveB (specEncodeData a b c x w h9 hl)
theorem specDecodeDataK (V : Value) (b : List Int) (w : World) (h : kB.At w V b) (hB : Sl.Byt b) (hl : b.length ≤ 100000000) :
    Calls Tryz.prog 9 #[V] w fun e w' => ∃ U, e = .returned (.tuple #[U, .bool (dcD b).2]) ∧ kD.In w.heap.size w'.heap.size w' U (dcD b).1 ∧ Below w.heap.size w w' := by
  exact giveDB (specDecodeData V b w (kS_at h) hB hl)
theorem implSignedPortionK (V : Value) (x : Dt) (w : World) (h : kD.At w V x) (hn : WfD x) (hl : bulkD x ≤ 1200000) :
    Calls Tryz.prog 27 #[V] w fun e w' => ∃ U, e = .returned U ∧ kI.In w.heap.size w'.heap.size w' U (portD x) ∧ Below w.heap.size w w' := by
  obtain ⟨a, b, c, rfl, h9⟩ := kD_at h
  exact giveI (implSignedPortion a b c x w h9 hn.byt hl)
theorem implSignDataK (V : Value) (t : Int) (x : Dt) (w : World) (h : kD.At w V x) (hn : WfD x) (hl : bulkD x ≤ 1200000) :
    Calls Tryz.prog 17 #[.int .i64 t, V] w fun e w' => ∃ U, e = .returned U ∧ kD.In w.heap.size w'.heap.size w' U (sgD t x) ∧ Below w.heap.size w w' := by
  obtain ⟨a, b, c, rfl, h9⟩ := kD_at h
  exact giveD (implSignData a b c x t w h9 hn.byt hl)
theorem implEncodeDataK (V : Value) (x : Dt) (w : World) (h : kD.At w V x) (hl : bulkD x ≤ 1200000) :
    Calls Tryz.prog 6 #[V] w fun e w' => ∃ U, e = .returned U ∧ kB.In w.heap.size w'.heap.size w' U (encD x) ∧ Below w.heap.size w w' := by
  obtain ⟨a, b, c, rfl, h9⟩ := kD_at h
  exact giveB (implEncodeData a b c x w h9 hl)
theorem implDecodeDataK (V : Value) (b : List Int) (w : World) (h : kB.At w V b) (hB : Sl.Byt b) (hl : b.length ≤ 100000000) :
    Calls Tryz.prog 8 #[V] w fun e w' => ∃ U, e = .returned (.tuple #[U, .bool (dcD b).2]) ∧ kD.In w.heap.size w'.heap.size w' U (dcD b).1 ∧ Below w.heap.size w w' := by
  exact giveDB (implDecodeData V b w (kS_at h) hB hl)
theorem implEqualDataK (V U : Value) (x y : Dt) (w : World) (h : kD.At w V x) (g : kD.At w U y) (hn : WfD x) (gn : WfD y) (hl : advD x ≤ 9000000) (hm : advD y ≤ 9000000) :
    Calls Tryz.prog 21 #[V, U] w fun e w' => e = .returned (.bool (eqD x y)) ∧ Below w.heap.size w w' := by
  obtain ⟨a, b, c, rfl, h9⟩ := kD_at h
  obtain ⟨a2, b2, c2, rfl, g9⟩ := kD_at g
  unfold advD at hl hm
  exact implEqualData a b c a2 b2 c2 x y w _ rfl h9 g9 hn.byt gn.byt (by omega) (by omega) (by omega) (by omega) (by omega) (by omega)
end Go.Proofs.YtbooamnlocobfaaGreat.Row
/- Plain mathematics of encodings: what is encoded is read back, what is read is what is encoded. No conditions but those that are named. -/
namespace Go.Proofs.YtbooamnlocobfaaGreat.Row
open Go.RowKit
set_option linter.unusedVariables false
set_option maxRecDepth 100000

/-! ### what is read is what is encoded -/
theorem nums_back {l : List Int} (h : Sl.Byt l) : Sl.bytesOf (strOfNums l) = l := by
  unfold Sl.bytesOf
  rw [strOfNums_data, List.map_map]
  conv => rhs; rw [← List.map_id l]
  apply List.map_congr_left
  intro x hx
  have := h x hx
  simp only [Function.comp, id, UInt8.toNat_ofNat']
  omega
theorem readB_back {l : List Int} {i most : Int} (hB : Sl.Byt l) (h : (Sl.readB l i most).2.2 = true) :
    0 ≤ i ∧ i ≤ (Sl.readB l i most).2.1 ∧ (Sl.readB l i most).2.1 ≤ l.length ∧ Sl.Byt (Sl.readB l i most).1 ∧ l.take i.toNat ++ (Var.var (Sl.readB l i most).1.length ++ (Sl.readB l i most).1) = l.take (Sl.readB l i most).2.1.toNat := by
  by_cases h0 : (Var.readV l i).2.2 = false ∨ most < (Var.readV l i).1 ∨ (l.length : Int) - (Var.readV l i).2.1 < (Var.readV l i).1
  · rw [Sl.readB_no h0] at h; cases h
  · have hv : (Var.readV l i).2.2 = true := by
      cases e : (Var.readV l i).2.2 with
      | true => rfl
      | false => exact absurd (Or.inl e) h0
    obtain ⟨b1, b2, b3, b4⟩ := Var.enc_readV hB hv
    have bd := Sl.readV_bounds hB hv
    have h2 : ¬ ((l.length : Int) - (Var.readV l i).2.1 < (Var.readV l i).1) := fun e => h0 (Or.inr (Or.inr e))
    rw [Sl.readB_yes h0]
    simp only
    obtain ⟨n, hn⟩ : ∃ n : Nat, (Var.readV l i).1 = n := Int.eq_ofNat_of_zero_le bd.1
    obtain ⟨j, hj⟩ : ∃ j : Nat, (Var.readV l i).2.1 = j := Int.eq_ofNat_of_zero_le (by omega)
    rw [hj] at b2 b3
    rw [hn, hj] at b4 h2
    rw [hn, hj]
    have hl : ((l.drop j).take n).length = n := by rw [List.length_take, List.length_drop]; omega
    refine ⟨b1, by omega, by omega, fun x hx => hB x (List.mem_of_mem_drop (List.mem_of_mem_take hx)), ?_⟩
    rw [Int.toNat_natCast, Int.toNat_natCast, hl, ← List.append_assoc, b4, Int.toNat_natCast, show ((j : Int) + (n : Int)).toNat = j + n by omega, List.take_add]
theorem rdP_back : ∀ (k : Nat) (b : List Int) (i : Int) (acc l : List ByteArray) (j : Int), Sl.Byt b → 0 ≤ i → i ≤ b.length → rdP k b i acc = some (l, j) →
    ∃ r, l = acc ++ r ∧ r.length = k ∧ i ≤ j ∧ j ≤ b.length ∧ b.take i.toNat ++ encPs r = b.take j.toNat
  | 0, b, i, acc, l, j, _, h0, h1, h => by
    simp only [rdP, Option.some.injEq, Prod.mk.injEq] at h
    obtain ⟨rfl, rfl⟩ := h
    exact ⟨[], by simp, rfl, by omega, h1, by simp [encPs]⟩
  | k + 1, b, i, acc, l, j, hB, h0, h1, h => by
    unfold rdP at h
    by_cases hr : (Sl.readB b i 8).2.2 = true
    · rw [if_pos hr] at h
      obtain ⟨b1, b2, b3, b4, b5⟩ := readB_back hB hr
      obtain ⟨r, e1, e2, e3, e4, e5⟩ := rdP_back k b _ _ l j hB (by omega) b3 h
      refine ⟨strOfNums (Sl.readB b i 8).1 :: r, by rw [e1, List.append_assoc]; rfl, by simp [e2], by omega, e4, ?_⟩
      have : encPs (strOfNums (Sl.readB b i 8).1 :: r) = (Var.var (Sl.readB b i 8).1.length ++ (Sl.readB b i 8).1) ++ encPs r := by
        show (Var.var (strOfNums (Sl.readB b i 8).1).size ++ Sl.bytesOf (strOfNums (Sl.readB b i 8).1)) ++ encPs r = _
        rw [strOfNums_size, nums_back b4]
      rw [this, ← List.append_assoc, b5, e5]
    · rw [if_neg hr] at h; cases h
theorem rdN_back {b : List Int} {i : Int} (hB : Sl.Byt b) (h : (rdN b i).2.2 = true) :
    0 ≤ i ∧ i ≤ (rdN b i).2.1 ∧ (rdN b i).2.1 ≤ b.length ∧ appName (b.take i.toNat) (rdN b i).1 = b.take (rdN b i).2.1.toNat := by
  have hv := rdN_valid h
  by_cases h0 : (Var.readV b i).2.2 = false ∨ 6 < (Var.readV b i).1
  · rw [rdN_no h0] at h; cases h
  · have hr : (Var.readV b i).2.2 = true := by
      cases e : (Var.readV b i).2.2 with
      | true => rfl
      | false => exact absurd (Or.inl e) h0
    obtain ⟨b1, b2, b3, b4⟩ := Var.enc_readV hB hr
    have bd := Sl.readV_bounds hB hr
    obtain ⟨n, hn⟩ : ∃ n : Nat, (Var.readV b i).1 = n := Int.eq_ofNat_of_zero_le bd.1
    rw [rdN_go h0] at h hv ⊢
    rw [hn] at h hv b4 ⊢
    rw [Int.toNat_natCast] at h hv ⊢
    cases hp : rdP n b (Var.readV b i).2.1 [] with
    | none => rw [hp] at h; cases h
    | some p =>
      obtain ⟨l, j⟩ := p
      rw [hp] at h hv
      by_cases hval : validN l = true
      · obtain ⟨r, e1, e2, e3, e4, e5⟩ := rdP_back n b _ [] l j hB (by omega) b3 hp
        rw [List.nil_append] at e1
        subst e1
        simp only [hval, if_true]
        refine ⟨b1, by omega, e4, ?_⟩
        unfold appName
        rw [if_pos hval]
        unfold encN
        rw [e2, ← List.append_assoc, b4, e5]
      · simp [hval] at h
theorem decA_back : ∀ (k : Nat) (l : List Int) (i : Int) (acc : List Int), Sl.Byt l → 0 ≤ i → i ≤ l.length → (Sl.decA k l i acc).2.2 = true →
    ∃ s, (Sl.decA k l i acc).1 = acc ++ s ∧ i ≤ (Sl.decA k l i acc).2.1 ∧ (Sl.decA k l i acc).2.1 ≤ l.length ∧ l.take i.toNat ++ Sl.encs s = l.take (Sl.decA k l i acc).2.1.toNat
  | 0, l, i, acc, _, h0, h1, _ => ⟨[], by simp [Sl.decA], by simp [Sl.decA], by simpa [Sl.decA] using h1, by simp [Sl.decA, Sl.encs]⟩
  | k + 1, l, i, acc, hB, h0, h1, h => by
    by_cases hr : (Var.readV l i).2.2 = true
    · obtain ⟨b1, b2, b3, b4⟩ := Var.enc_readV hB hr
      simp only [Sl.decA, if_pos hr] at h ⊢
      obtain ⟨s, e1, e2, e3, e4⟩ := decA_back k l _ (acc ++ [(Var.readV l i).1]) hB (by omega) b3 h
      refine ⟨(Var.readV l i).1 :: s, by rw [e1, List.append_assoc]; rfl, by omega, e3, ?_⟩
      have : Sl.encs ((Var.readV l i).1 :: s) = Var.var (Var.readV l i).1 ++ Sl.encs s := by simp [Sl.encs]
      rw [this, ← List.append_assoc, b4, e4]
    · simp only [Sl.decA, if_neg hr] at h; cases h
/-! ### what is encoded is read back -/
theorem str_back (s : ByteArray) : strOfNums (Sl.bytesOf s) = s := by
  obtain ⟨⟨d⟩⟩ := s
  unfold strOfNums Sl.bytesOf
  simp only [List.map_map]
  congr 1
  congr 1
  conv => rhs; rw [← List.map_id d]
  apply List.map_congr_left
  intro x hx
  simp only [Function.comp, id, Int.toNat_natCast, UInt8.ofNat_toNat]
theorem readB_encM (a s b : List Int) (most : Nat) (hs : s.length ≤ most) (hm : most ≤ 1000) : Sl.readB (a ++ (Var.var s.length ++ s) ++ b) a.length most = (s, (a.length : Int) + ((Var.var s.length ++ s).length : Int), true) := by
  have e := Var.readV_enc a (s ++ b) (n := (s.length : Int)) (by omega) (by omega)
  have e0 : a ++ (Var.var s.length ++ s) ++ b = a ++ Var.var s.length ++ (s ++ b) := by simp
  rw [e0, Sl.readB_yes (by rw [e]; simp; omega), e]
  simp only [Prod.mk.injEq, and_true]
  refine ⟨?_, by simp; omega⟩
  rw [show ((a.length : Int) + ((Var.var (s.length : Int)).length : Int)).toNat = (a ++ Var.var s.length).length by rw [List.length_append]; omega, List.drop_left, Int.toNat_natCast, List.take_left]
theorem readB_enc (a s b : List Int) (hs : s.length ≤ 8) : Sl.readB (a ++ (Var.var s.length ++ s) ++ b) a.length 8 = (s, (a.length : Int) + ((Var.var s.length ++ s).length : Int), true) := readB_encM a s b 8 hs (by decide)
theorem rdP_enc : ∀ (l : List ByteArray) (a b : List Int) (acc : List ByteArray), (∀ s ∈ l, s.size ≤ 8) → rdP l.length (a ++ encPs l ++ b) a.length acc = some (acc ++ l, (a.length : Int) + ((encPs l).length : Int))
  | [], a, b, acc, _ => by simp [rdP, encPs]
  | s :: l, a, b, acc, h => by
    have h8 := h s (by simp)
    have e0 : encPs (s :: l) = (Var.var (Sl.bytesOf s).length ++ Sl.bytesOf s) ++ encPs l := by rw [Sl.bytesOf_length]; rfl
    have er := readB_enc a (Sl.bytesOf s) (encPs l ++ b) (by rw [Sl.bytesOf_length]; exact h8)
    have e1 : a ++ encPs (s :: l) ++ b = a ++ (Var.var (Sl.bytesOf s).length ++ Sl.bytesOf s) ++ (encPs l ++ b) := by rw [e0]; simp
    have ih := rdP_enc l (a ++ (Var.var (Sl.bytesOf s).length ++ Sl.bytesOf s)) b (acc ++ [s]) (fun t ht => h t (by simp [ht]))
    have e2 : a ++ (Var.var (Sl.bytesOf s).length ++ Sl.bytesOf s) ++ encPs l ++ b = a ++ (Var.var (Sl.bytesOf s).length ++ Sl.bytesOf s) ++ (encPs l ++ b) := by simp
    rw [e2] at ih
    rw [List.length_cons, e1]
    unfold rdP
    rw [er]
    simp only [if_true, str_back]
    rw [show (a.length : Int) + ((Var.var ((Sl.bytesOf s).length : Int) ++ Sl.bytesOf s).length : Int) = ((a ++ (Var.var (Sl.bytesOf s).length ++ Sl.bytesOf s)).length : Int) by simp only [List.length_append]; omega, ih, e0]
    simp only [Option.some.injEq, Prod.mk.injEq]
    refine ⟨by simp, by simp; omega⟩
theorem rdN_enc (a b : List Int) {l : List ByteArray} (h : validN l = true) : rdN (a ++ encN l ++ b) a.length = (l, (a.length : Int) + ((encN l).length : Int), true) := by
  obtain ⟨h6, hp⟩ := validN_iff.1 h
  have e := Var.readV_enc a (encPs l ++ b) (n := (l.length : Int)) (by omega) (by omega)
  have e0 : a ++ encN l ++ b = a ++ Var.var l.length ++ (encPs l ++ b) := by unfold encN; simp
  rw [e0, rdN_go (by rw [e]; simp; omega), e]
  have ep := rdP_enc l (a ++ Var.var l.length) b [] (fun s hs => (validP_iff.1 (hp s hs)).2.1)
  have e1 : a ++ Var.var l.length ++ encPs l ++ b = a ++ Var.var l.length ++ (encPs l ++ b) := by simp
  rw [e1] at ep
  simp only [Int.toNat_natCast]
  rw [show (a.length : Int) + ((Var.var (l.length : Int)).length : Int) = ((a ++ Var.var l.length).length : Int) by rw [List.length_append]; omega, ep]
  simp only [List.nil_append, h, if_true, Prod.mk.injEq, true_and, and_true]
  unfold encN
  simp; omega
theorem decA_enc : ∀ (s a acc : List Int), (∀ x ∈ s, 0 ≤ x ∧ x ≤ 1000000000000) → Sl.decA s.length (a ++ Sl.encs s) a.length acc = (acc ++ s, ((a ++ Sl.encs s).length : Int), true)
  | [], a, acc, _ => by simp [Sl.decA, Sl.encs]
  | x :: s, a, acc, h => by
    have hx := h x (by simp)
    have e := Var.readV_enc a (Sl.encs s) hx.1 hx.2
    have e0 : a ++ Sl.encs (x :: s) = a ++ Var.var x ++ Sl.encs s := by simp [Sl.encs]
    have ih := decA_enc s (a ++ Var.var x) (acc ++ [x]) (fun y hy => h y (by simp [hy]))
    rw [List.length_cons, e0]
    simp only [Sl.decA]
    rw [e]
    simp only [if_true]
    rw [show (a.length : Int) + ((Var.var x).length : Int) = ((a ++ Var.var x).length : Int) by rw [List.length_append]; omega, ih]
    simp
end Go.Proofs.YtbooamnlocobfaaGreat.Row
/- Plain mathematics of chapter 8: what is encoded is read back, what is read is what is encoded; a MAC tells what was signed. No conditions but those that are named. -/
namespace Go.Proofs.YtbooamnlocobfaaGreat.Row
open Go.RowKit
set_option linter.unusedVariables false
set_option maxRecDepth 100000

theorem two {l : List Int} (h : l.length = 2) : l = [Sl.nth l 0, Sl.nth l 1] := by
  match l, h with
  | [a, b], _ => rfl
/-- Decoded data are valid, and their encoding is what was read. -/
theorem dcD_back {c : List Int} (hB : Sl.Byt c) (h : (dcD c).2 = true) : validD (dcD c).1 = true ∧ encD (dcD c).1 = c := by
  by_cases hc : okD c ∧ (rI1 c).2.1 = c.length ∧ validD (gotD c) = true
  · rw [dcD_yes hc]
    refine ⟨hc.2.2, ?_⟩
    obtain ⟨⟨o1, o2, o3, o4⟩, hn, hv⟩ := hc
    obtain ⟨a1, a2, a3, a4⟩ := rdN_back hB o1
    obtain ⟨b1, b2, b3, -, b5⟩ := readB_back hB o2
    obtain ⟨c1, c2, c3, c4⟩ := rdN_back hB o3
    have hs : (0 : Int) ≤ 2 ∧ (2 : Int) ≤ 100 := by omega
    have h2 := readI2 o4
    have e2 := two h2
    have o4' : (Sl.readIs c (rN2 c).2.1 2).2.2 = true := o4
    have hn' : (Sl.readIs c (rN2 c).2.1 2).2.1 = c.length := hn
    have k0 : 0 ≤ (rN2 c).2.1 := by show 0 ≤ (rdN c (rB1 c).2.1).2.1; omega
    have k1 : (rN2 c).2.1 ≤ c.length := c3
    rw [Sl.readIs_yes (l := c) (i := (rN2 c).2.1) (n := 2) ⟨hs, k0, k1⟩] at o4' hn' e2
    obtain ⟨s, e3, -, -, e4⟩ := decA_back (2 : Int).toNat c (rN2 c).2.1 [] hB k0 k1 o4'
    rw [List.nil_append] at e3
    unfold encD
    rw [if_pos hv]
    show appName (appName [] (rN1 c).1 ++ Var.var (rB1 c).1.length ++ (rB1 c).1) (rN2 c).1 ++ Sl.encs [Sl.nth (rI1 c).1 0, Sl.nth (rI1 c).1 1] = c
    have h0 : c.take (0 : Int).toNat = [] := by simp
    rw [h0] at a4
    have q1 : appName [] (rN1 c).1 = c.take (rN1 c).2.1.toNat := a4
    have q2 : c.take (rN1 c).2.1.toNat ++ (Var.var (rB1 c).1.length ++ (rB1 c).1) = c.take (rB1 c).2.1.toNat := b5
    have q3 : appName (c.take (rB1 c).2.1.toNat) (rN2 c).1 = c.take (rN2 c).2.1.toNat := c4
    have q5 : [Sl.nth (rI1 c).1 0, Sl.nth (rI1 c).1 1] = s := by
      show [Sl.nth (Sl.readIs c (rN2 c).2.1 2).1 0, Sl.nth (Sl.readIs c (rN2 c).2.1 2).1 1] = s
      rw [Sl.readIs_yes (l := c) (i := (rN2 c).2.1) (n := 2) ⟨hs, k0, k1⟩, ← e2, e3]
    rw [q1, List.append_assoc, q2, q3, q5, e4, hn', Int.toNat_natCast, List.take_length]
  · rw [dcD_no hc] at h; cases h
/-- A packet's encoding is read back; what is not valid is encoded as nothing, and nothing is read from that. -/
theorem dcD_enc (x : Dt) : dcD (encD x) = if validD x = true then (x, true) else (d0, false) := by
  by_cases hv : validD x = true
  · rw [if_pos hv]
    obtain ⟨h1, -, h3, h4, h5, h6⟩ := validD_iff.1 hv
    have e0 : encD x = [] ++ encN x.1 ++ ((Var.var x.2.1.length ++ x.2.1) ++ encN x.2.2.1 ++ Sl.encs [x.2.2.2.1, x.2.2.2.2]) := by
      unfold encD appName
      rw [if_pos hv, if_pos h1, if_pos h4]
      simp
    have z0 : ((([] : List Int).length : Nat) : Int) = 0 := rfl
    have r1 := rdN_enc [] ((Var.var x.2.1.length ++ x.2.1) ++ encN x.2.2.1 ++ Sl.encs [x.2.2.2.1, x.2.2.2.2]) h1
    rw [← e0, z0] at r1
    have r1' : rN1 (encD x) = (x.1, ((encN x.1).length : Int), true) := by
      show rdN (encD x) 0 = _
      rw [r1]; simp
    have e1 : encD x = encN x.1 ++ (Var.var x.2.1.length ++ x.2.1) ++ (encN x.2.2.1 ++ Sl.encs [x.2.2.2.1, x.2.2.2.2]) := by rw [e0]; simp
    have r2 := readB_encM (encN x.1) x.2.1 (encN x.2.2.1 ++ Sl.encs [x.2.2.2.1, x.2.2.2.2]) 60 h3 (by decide)
    rw [← e1] at r2
    have r2' : rB1 (encD x) = (x.2.1, ((encN x.1 ++ (Var.var x.2.1.length ++ x.2.1)).length : Int), true) := by
      unfold rB1
      rw [r1']
      refine r2.trans ?_
      rw [@List.length_append _ (encN x.1) _]
      simp only [Int.natCast_add]
    have e2 : encD x = (encN x.1 ++ (Var.var x.2.1.length ++ x.2.1)) ++ encN x.2.2.1 ++ Sl.encs [x.2.2.2.1, x.2.2.2.2] := by rw [e0]; simp
    have r3 := rdN_enc (encN x.1 ++ (Var.var x.2.1.length ++ x.2.1)) (Sl.encs [x.2.2.2.1, x.2.2.2.2]) h4
    rw [← e2] at r3
    have r3' : rN2 (encD x) = (x.2.2.1, ((encN x.1 ++ (Var.var x.2.1.length ++ x.2.1) ++ encN x.2.2.1).length : Int), true) := by
      unfold rN2
      rw [r2']
      refine r3.trans ?_
      rw [@List.length_append _ (encN x.1 ++ (Var.var x.2.1.length ++ x.2.1)) _]
      simp only [Int.natCast_add]
    have r4 := decA_enc [x.2.2.2.1, x.2.2.2.2] (encN x.1 ++ (Var.var x.2.1.length ++ x.2.1) ++ encN x.2.2.1) [] (fun w hw => by
      simp only [List.mem_cons, List.not_mem_nil, or_false] at hw
      rcases hw with rfl | rfl <;> omega)
    rw [← e2] at r4
    have r4' : rI1 (encD x) = ([x.2.2.2.1, x.2.2.2.2], ((encD x).length : Int), true) := by
      unfold rI1
      rw [r3']
      rw [Sl.readIs_yes ⟨by omega, by simp only; omega, by
        simp only
        have := congrArg List.length e2
        simp only [List.length_append] at this ⊢
        omega⟩]
      exact r4
    have hg : gotD (encD x) = x := by
      unfold gotD
      rw [r1', r2', r3', r4']
      rfl
    rw [dcD_yes ⟨⟨by rw [r1'], by rw [r2'], by rw [r3'], by rw [r4']⟩, by rw [r4'], by rw [hg]; exact hv⟩, hg]
  · rw [if_neg hv]
    have e0 : encD x = [] := if_neg hv
    rw [e0]
    refine dcD_no (fun e => ?_)
    have h1 : (rdN ([] : List Int) 0).2.2 = true := e.1.1
    have h2 : (Var.readV ([] : List Int) 0).2.2 = false := by decide
    rw [rdN_no (Or.inl h2)] at h1
    cases h1

/-! ### signatures -/
/-- A MAC with one number turned, modulo the prime, is another one. -/
theorem mac_set (s : Int) {l : List Int} {i : Nat} (hi : i < l.length) (y : Int) (hy : y % 2147483647 ≠ Sl.nth l i % 2147483647) : Seal.mac s (l.set i y) ≠ Seal.mac s l := by
  intro h
  have e1 : l = l.take i ++ [Sl.nth l i] ++ l.drop (i + 1) := by
    rw [Sl.nth_eq hi]; simp
  have e2 : l.set i y = l.take i ++ [y] ++ l.drop (i + 1) := by
    rw [List.set_eq_take_append_cons_drop, if_pos hi]; simp
  generalize Sl.nth l i = x at *
  rw [e2] at h
  conv at h => rhs; rw [e1]
  unfold Seal.mac Seal.digest at h
  simp only [List.foldl_append, List.foldl_cons, List.foldl_nil] at h
  have p0 := Seal.dstep_in 11 s
  have p1 := Seal.foldl_in (l.take i) _ p0.1 p0.2
  have q := fun y => Seal.dstep_in (List.foldl Seal.dstep (Seal.dstep 11 s) (l.take i)) y
  have r := fun y => Seal.foldl_in (l.drop (i + 1)) _ (q y).1 (q y).2
  have h1 := Seal.dstep_left s (r _).1 (r _).2 (r _).1 (r _).2 h
  have h2 := Seal.foldl_inj _ _ _ (q _).1 (q _).2 (q _).1 (q _).2 h1
  exact hy (Seal.dstep_right h2)
theorem set_mid (A B R : List Int) {j : Nat} (hj : j < B.length) (y : Int) : A ++ B.set j y ++ R = (A ++ B ++ R).set (A.length + j) y := by
  rw [List.append_assoc A B R, List.set_append_right _ _ (Nat.le_add_right _ _), Nat.add_sub_cancel_left, List.set_append_left _ _ hj, List.append_assoc]
theorem nth_mid (A B R : List Int) {j : Nat} (hj : j < B.length) : Sl.nth (A ++ B ++ R) (A.length + j) = Sl.nth B j := by
  unfold Sl.nth
  rw [List.getD_eq_getElem?_getD, List.append_assoc, List.getElem?_append_right (Nat.le_add_right _ _), Nat.add_sub_cancel_left, List.getElem?_append_left hj, List.getD_eq_getElem?_getD]
def preD (a : List ByteArray) (b : List Int) (c : List ByteArray) : List Int := Seal.b2i (appName [] a) ++ Seal.b2i b ++ Seal.b2i (appName [] c)
theorem portD_pre (a : List ByteArray) (b : List Int) (c : List ByteArray) (f s : Int) : portD (a, b, c, f, s) = preD a b c ++ [f] ++ [] := (List.append_nil _).symm
theorem portD_until (a : List ByteArray) (b : List Int) (c : List ByteArray) (f g s t : Int) : portD (a, b, c, g, t) = (portD (a, b, c, f, s)).set ((preD a b c).length + 0) g := by
  rw [portD_pre, portD_pre, ← set_mid (preD a b c) [f] [] (j := 0) (by simp) g]
  rfl
theorem portD_mid (a : List ByteArray) (b : List Int) (c : List ByteArray) (f s : Int) : portD (a, b, c, f, s) = Seal.b2i (appName [] a) ++ Seal.b2i b ++ (Seal.b2i (appName [] c) ++ [f]) := by
  unfold portD
  exact List.append_assoc _ _ _
theorem portD_content (a : List ByteArray) (b : List Int) (c : List ByteArray) (f s : Int) {i : Nat} (hi : i < b.length) (y : Int) : portD (a, b.set i y, c, f, s) = (portD (a, b, c, f, s)).set ((Seal.b2i (appName [] a)).length + (i + 1)) y ∧ Sl.nth (portD (a, b, c, f, s)) ((Seal.b2i (appName [] a)).length + (i + 1)) = Sl.nth b i ∧ (Seal.b2i (appName [] a)).length + (i + 1) < (portD (a, b, c, f, s)).length := by
  have e1 : Seal.b2i (b.set i y) = (Seal.b2i b).set (i + 1) y := by unfold Seal.b2i; simp
  have hl : i + 1 < (Seal.b2i b).length := by rw [Seal.b2i_length]; omega
  rw [portD_mid, portD_mid, e1]
  refine ⟨set_mid _ _ _ hl y, ?_, ?_⟩
  · rw [nth_mid _ _ _ hl]
    rfl
  · simp only [List.length_append]
    omega
theorem portD_last (a : List ByteArray) (b : List Int) (c : List ByteArray) (f s : Int) : Sl.nth (portD (a, b, c, f, s)) ((preD a b c).length + 0) = f ∧ (preD a b c).length + 0 < (portD (a, b, c, f, s)).length := by
  rw [portD_pre]
  refine ⟨?_, ?_⟩
  · rw [nth_mid _ _ _ (by simp)]
    rfl
  · simp only [List.length_append, List.length_cons, List.length_nil]
    omega
theorem portD_sg (t : Int) (x : Dt) : portD (sgD t x) = portD x := rfl
/-- What was signed verifies, exactly for a valid secret. -/
theorem verD_sg (t : Int) (x : Dt) : verD t (sgD t x) = Num.inB t 1 2147483646 := by
  unfold verD
  rw [portD_sg]
  simp [sgD]
theorem wrapNext {f : Int} (h : (Lit.int .i64 f).wf = true) : IntKind.i64.wrap (f + 1) % 2147483647 ≠ f % 2147483647 := by
  have e1 : IntKind.i64.min = -9223372036854775808 := rfl
  have e2 : IntKind.i64.max = 9223372036854775807 := rfl
  simp only [Lit.wf, e1, e2, Bool.and_eq_true, decide_eq_true_eq] at h
  by_cases h2 : f = 9223372036854775807
  · subst h2
    decide
  · have h3 : IntKind.i64.wrap (f + 1) = f + 1 := by rw [IntKind.wrap_i64]; omega
    rw [h3]
    omega
theorem verD_until (t : Int) (x : Dt) (hw : (Lit.int .i64 x.2.2.2.1).wf = true) : verD t (x.1, x.2.1, x.2.2.1, IntKind.i64.wrap (x.2.2.2.1 + 1), Seal.mac t (portD x)) = false := by
  obtain ⟨a, b, c, f, s⟩ := x
  unfold verD
  simp only
  have h1 := portD_last a b c f s
  have h2 := mac_set t h1.2 (IntKind.i64.wrap (f + 1)) (by rw [h1.1]; exact wrapNext hw)
  rw [← portD_until a b c f (IntKind.i64.wrap (f + 1)) s (Seal.mac t (portD (a, b, c, f, s)))] at h2
  have h3 : (Seal.mac t (portD (a, b, c, f, s)) == Seal.mac t (portD (a, b, c, IntKind.i64.wrap (f + 1), Seal.mac t (portD (a, b, c, f, s))))) = false := by simpa using fun e => h2 e.symm
  rw [h3, Bool.and_false]
theorem verD_sig (t : Int) (x : Dt) : verD t (x.1, x.2.1, x.2.2.1, x.2.2.2.1, (Seal.mac t (portD x) + 1) % 2147483647) = false := by
  obtain ⟨a, b, c, f, s⟩ := x
  unfold verD
  simp only
  have h1 := Seal.mac_in t (portD (a, b, c, f, s))
  have h2 : portD (a, b, c, f, (Seal.mac t (portD (a, b, c, f, s)) + 1) % 2147483647) = portD (a, b, c, f, s) := rfl
  rw [h2]
  have h3 : ((Seal.mac t (portD (a, b, c, f, s)) + 1) % 2147483647 == Seal.mac t (portD (a, b, c, f, s))) = false := by
    simp only [beq_eq_false_iff_ne, ne_eq]; omega
  rw [h3, Bool.and_false]
theorem verD_content (t : Int) (x : Dt) {i : Nat} (hi : i < x.2.1.length) (y : Int) (h0 : 0 ≤ y ∧ y ≤ 255) (h1 : 0 ≤ Sl.nth x.2.1 i ∧ Sl.nth x.2.1 i ≤ 255) (hn : y ≠ Sl.nth x.2.1 i) : verD t (x.1, x.2.1.set i y, x.2.2.1, x.2.2.2.1, Seal.mac t (portD x)) = false := by
  obtain ⟨a, b, c, f, s⟩ := x
  simp only at hi h1 hn
  unfold verD
  simp only
  obtain ⟨p1, p2, p3⟩ := portD_content a b c f s hi y
  have h2 := mac_set t p3 y (by rw [p2]; omega)
  rw [← p1] at h2
  have e : portD (a, b.set i y, c, f, Seal.mac t (portD (a, b, c, f, s))) = portD (a, b.set i y, c, f, s) := rfl
  rw [e]
  have h3 : (Seal.mac t (portD (a, b, c, f, s)) == Seal.mac t (portD (a, b.set i y, c, f, s))) = false := by simpa using fun e => h2 e.symm
  rw [h3, Bool.and_false]
end Go.Proofs.YtbooamnlocobfaaGreat.Row
/- Contracts of the reference model's draws: a cursor over the bytes of the argument; each draw gives a number, a bool or a text within its bounds and leaves all but the cursor as it was. -/
namespace Go.Proofs.YtbooamnlocobfaaGreat.Draw
open Go.ChangeShapes Go.WideShapes Go.ChangeAt Go.RowKit Go.Instr
set_option linter.unusedVariables false
set_option maxRecDepth 100000

/-- Old blocks but p are as they were. -/
structure Keep (p : Nat) (w w' : World) : Prop where
  os : w'.os = w.os
  tape : w'.tape = w.tape
  output : w'.output = w.output
  size : w.heap.size ≤ w'.heap.size
  block : ∀ k, k < w.heap.size → k ≠ p → w'.heap[k]? = w.heap[k]?

theorem Keep.refl (p : Nat) (w : World) : Keep p w w := ⟨rfl, rfl, rfl, Nat.le_refl _, fun _ _ _ => rfl⟩
theorem Keep.trans {p : Nat} {a b c : World} (h : Keep p a b) (k : Keep p b c) : Keep p a c :=
  ⟨k.os.trans h.os, k.tape.trans h.tape, k.output.trans h.output, Nat.le_trans h.size k.size, fun i hi hp => (k.block i (Nat.lt_of_lt_of_le hi h.size) hp).trans (h.block i hi hp)⟩
theorem Keep.below {B p : Nat} {w0 w w' : World} (h : Keep p w w') (hb : Below B w0 w) (hB : B ≤ p) (hw : B ≤ w.heap.size) : Below B w0 w' :=
  hb.trans ⟨h.os, h.tape, h.output, h.size, fun k hk => h.block k (by omega) (by omega)⟩
theorem Keep.of_below {p : Nat} {w w' : World} (h : Below w.heap.size w w') : Keep p w w' := ⟨h.os, h.tape, h.output, h.size, fun k hk _ => h.block k hk⟩
theorem Keep.cell {p : Nat} {w w' : World} (h : Keep p w w') {a : Addr} {v : Value} (hc : w.cell? a = some v) (hp : a.block ≠ p) : w'.cell? a = some v := by
  rw [← hc]; exact World.cell?_of_block (w := w) (h.block a.block (Frame.cell_lt hc) hp)

/-- The cursor: block p holds the slice v, a place within it, and a number. -/
structure Cur (w0 : World) (p : Nat) (v : Value) (l : List UInt8) (w : World) : Prop where
  bytes : Frame.Bytes w0 v l
  below : Below w0.heap.size w0 w
  place : w0.heap.size ≤ p
  row : ∃ i h : Int, 0 ≤ i ∧ i ≤ l.length ∧ w.heap[p]? = some (.cells #[v, .int .i64 i, .int .i64 h] 81 (0, 0))

theorem Cur.bytesNow {w0 : World} {p : Nat} {v : Value} {l : List UInt8} {w : World} (h : Cur w0 p v l w) : Frame.Bytes w v l := h.bytes.on h.below

/-- What a draw gives: a value that meets Q, the cursor anew, all else as it was. -/
def Drawn (w0 : World) (p : Nat) (v : Value) (l : List UInt8) (w : World) (Q : Value → Prop) (e : Ending) (w' : World) : Prop :=
  ∃ x, e = .returned x ∧ Q x ∧ Cur w0 p v l w' ∧ Keep p w w'

def IntIn (a b : Int) (x : Value) : Prop := ∃ n : Int, x = .int .i64 n ∧ a ≤ n ∧ n ≤ b

theorem cur_cells {w : World} {p : Nat} {a b c : Value} {t : TypeId} (h : w.heap[p]? = some (.cells #[a, b, c] t (0, 0))) :
    w.cell? ⟨p, 0, none⟩ = some a ∧ w.cell? ⟨p, 1, none⟩ = some b ∧ w.cell? ⟨p, 2, none⟩ = some c ∧ (∀ o, w.frozen? ⟨p, o, none⟩ = false) := by
  refine ⟨?_, ?_, ?_, fun o => ?_⟩ <;> simp [World.cell?, World.frozen?, h]

theorem and255 (n : Int) : 0 ≤ bits .and .i64 n 255 ∧ bits .and .i64 n 255 ≤ 255 := by
  have h255 : (BitVec.ofInt 64 255).toNat = 2 ^ 8 - 1 := by decide
  have key : (BitVec.ofInt 64 n &&& BitVec.ofInt 64 255).toNat = (n % ((2 ^ 64 : Nat) : Int)).toNat % 2 ^ 8 := by
    rw [BitVec.toNat_and, BitVec.toNat_ofInt, h255, Nat.and_two_pow_sub_one_eq_mod]
  have e : bits .and .i64 n 255 = IntKind.i64.wrap ((BitVec.ofInt 64 n &&& BitVec.ofInt 64 255).toNat : Nat) := rfl
  rw [e, key, IntKind.wrap_i64]
  omega

theorem bytes_le {w : World} {v : Value} {l : List UInt8} (h : Frame.Bytes w v l) : l.length ≤ 140737488351232 := by
  rcases h with ⟨rfl, rfl⟩ | ⟨a, cap, rfl, h1, h2, _⟩
  · simp
  · omega

theorem bytes_at {w : World} {v : Value} {l : List UInt8} (h : Frame.Bytes w v l) :
    ∃ x cap, v = .slice x l.length cap ∧ (∀ j (hj : j < l.length), ∃ b off, x = some ⟨b, off, none⟩ ∧ w.cell? ⟨b, off + j, none⟩ = some (.int .u8 l[j].toNat)) := by
  rcases h with ⟨rfl, rfl⟩ | ⟨a, cap, rfl, _, _, hc⟩
  · exact ⟨none, 0, rfl, fun j hj => absurd hj (by simp)⟩
  · refine ⟨some a, cap, rfl, fun j hj => ?_⟩
    obtain ⟨b, off, spot⟩ := a
    have hs : spot = none := by simpa [Addr.add] using World.cell?_spot (hc 0 (by omega))
    subst hs
    exact ⟨b, off, rfl, by rw [← Go.WideShapes.add_plain]; exact hc j hj⟩

theorem cur_set {w0 : World} {p : Nat} {v : Value} {l : List UInt8} {w : World} (hc : Cur w0 p v l w) {i h i' h' : Int} (hr : w.heap[p]? = some (.cells #[v, .int .i64 i, .int .i64 h] 81 (0, 0)))
    {w' : World} (h0 : 0 ≤ i') (h1 : i' ≤ l.length) (hk : Keep p w w') (hr' : w'.heap[p]? = some (.cells #[v, .int .i64 i', .int .i64 h'] 81 (0, 0))) : Cur w0 p v l w' ∧ Keep p w w' :=
  ⟨⟨hc.bytes, hk.below hc.below hc.place hc.below.size, hc.place, i', h', h0, h1, hr'⟩, hk⟩

theorem keep_set (w : World) (p o : Nat) (x : Value) : Keep p w (w.setCell ⟨p, o, none⟩ x) :=
  ⟨rfl, rfl, rfl, by simp [World.setCell], fun k _ hk => Below.heap_setCell _ _ _ _ hk⟩
theorem keep_draw (p : Nat) (w : World) (n : Nat) : Keep p w (w.drewN n) := ⟨rfl, rfl, rfl, Nat.le_refl _, fun _ _ _ => rfl⟩

theorem row_set {w : World} {p : Nat} {a b c : Value} {t : TypeId} (h : w.heap[p]? = some (.cells #[a, b, c] t (0, 0))) (x : Value) :
    (w.setCell ⟨p, 1, none⟩ x).heap[p]? = some (.cells #[a, x, c] t (0, 0)) ∧ (w.setCell ⟨p, 2, none⟩ x).heap[p]? = some (.cells #[a, b, x] t (0, 0)) := by
  constructor <;> simp [World.setCell, Array.getElem?_modify, h]

theorem row_draw {w : World} {p : Nat} {o : Obj} (h : w.heap[p]? = some o) (n : Nat) : (w.drewN n).heap[p]? = some o := h

set_option maxHeartbeats 1000000 in
theorem byte_out (w0 : World) (p : Nat) (x : Option Addr) (cap n : Nat) (l : List UInt8) (hn : l.length = n) (w : World) (hc : Cur w0 p (.slice x n cap) l w) (i h : Int) (hi0 : 0 ≤ i) (hi1 : i ≤ l.length) (hlt : ¬ i < l.length)
    (hr : w.heap[p]? = some (.cells #[.slice x n cap, .int .i64 i, .int .i64 h] 81 (0, 0))) :
    Calls Tryz.prog 79 #[.pointer (some ⟨p, 0, none⟩)] w (Drawn w0 p (.slice x n cap) l w (IntIn 0 255)) := by
  obtain ⟨c0, c1, c2, cf⟩ := cur_cells hr
  have hcmp : decide (i < (n : Int)) = false := by simp; omega
  have HC := Lib.hid hc
  have HR := Lib.hid hr
  have HI := Lib.hid (And.intro hi0 hi1)
  clear hc hr hn hi0 hi1 hlt
  go_enter Tryz.func79, Tryz.ntmps79
  go_wp2_with fail
  go_quiet (fail)
  go_wp2_with fail
  go_quiet (fail)
  go_wp2_with fail
  go_ret
  refine ⟨_, rfl, ⟨_, rfl, (and255 _).1, (and255 _).2⟩, cur_set HC.out HR.out HI.out.1 HI.out.2 ?_ (row_set HR.out _).2⟩
  exact (keep_set _ _ _ _).trans ((keep_draw _ _ _).trans (keep_draw _ _ _))

set_option maxHeartbeats 1000000 in
theorem byte_in (w0 : World) (p b off cap n : Nat) (l : List UInt8) (hn : l.length = n) (w : World) (hc : Cur w0 p (.slice (some ⟨b, off, none⟩) n cap) l w) (k : Nat) (h : Int) (hlt : k < n) (hbig : (k : Int) ≤ 140737488351232) (c : UInt8)
    (hbp : b ≠ p) (hcell : w.cell? ⟨b, off + k, none⟩ = some (.int .u8 c.toNat)) (hr : w.heap[p]? = some (.cells #[.slice (some ⟨b, off, none⟩) n cap, .int .i64 k, .int .i64 h] 81 (0, 0))) :
    Calls Tryz.prog 79 #[.pointer (some ⟨p, 0, none⟩)] w (Drawn w0 p (.slice (some ⟨b, off, none⟩) n cap) l w (IntIn 0 255)) := by
  obtain ⟨c0, c1, c2, cf⟩ := cur_cells hr
  have hcmp : (k : Int) < (n : Int) := by omega
  have HC := Lib.hid hc
  have HR := Lib.hid hr
  have HN := Lib.hid (And.intro hn hlt)
  clear hc hr hn hlt
  go_enter Tryz.func79, Tryz.ntmps79
  go_wp2_with fail
  go_quiet (fail)
  go_wp2_with fail
  go_quiet (fail)
  go_wp2_with fail
  go_quiet (fail)
  go_wp2_with fail
  go_ret
  refine ⟨_, rfl, ⟨_, rfl, (and255 _).1, (and255 _).2⟩, cur_set (i' := (k : Int) + 1) HC.out HR.out (by omega) (by have := HN.out; omega) ?_ (row_set (row_draw (row_set HR.out _).2 _) _).1⟩
  exact (keep_set _ _ _ _).trans ((keep_draw _ _ _).trans (keep_set _ _ _ _))

theorem byte (w0 : World) (p : Nat) (v : Value) (l : List UInt8) (w : World) (hc : Cur w0 p v l w) :
    Calls Tryz.prog 79 #[.pointer (some ⟨p, 0, none⟩)] w (Drawn w0 p v l w (IntIn 0 255)) := by
  obtain ⟨i, h, hi0, hi1, hr⟩ := hc.row
  obtain ⟨x, cap, rfl, hat⟩ := bytes_at hc.bytesNow
  by_cases hlt : i < l.length
  · obtain ⟨k, rfl⟩ : ∃ k : Nat, i = k := ⟨i.toNat, by omega⟩
    have hk : k < l.length := by omega
    obtain ⟨b, off, rfl, hcell⟩ := hat k hk
    refine byte_in w0 p b off cap l.length l rfl w hc k h hk (by have := bytes_le hc.bytes; omega) l[k] ?_ hcell hr
    rintro rfl
    obtain ⟨x2, cap2, e, hat2⟩ := bytes_at hc.bytes
    obtain ⟨b2, off2, rfl, h2⟩ := hat2 k hk
    simp only [Value.slice.injEq, Option.some.injEq, Addr.mk.injEq] at e
    have := Frame.cell_lt h2
    have := hc.place
    simp only at *
    omega
  · exact byte_out w0 p x cap l.length l rfl w hc i h hi0 hi1 hlt hr

def BelowOf (n : Int) (x : Value) : Prop := ∃ r : Int, x = .int .i64 r ∧ (0 < n → 0 ≤ r ∧ r < n) ∧ (¬ 0 < n → r = 0)

set_option maxHeartbeats 1000000 in
theorem below (w0 : World) (p : Nat) (v : Value) (l : List UInt8) (w : World) (n : Int) (hc : Cur w0 p v l w) :
    Calls Tryz.prog 48 #[.pointer (some ⟨p, 0, none⟩), .int .i64 n] w (Drawn w0 p v l w (BelowOf n)) := by
  by_cases h0 : n ≤ 0
  · have HC := Lib.hid hc; clear hc
    go_enter Tryz.func48, Tryz.ntmps48
    go_wp2
    go_ret
    exact ⟨_, rfl, ⟨0, rfl, fun h => by omega, fun _ => rfl⟩, HC.out, Keep.refl _ _⟩
  · by_cases h1 : n ≤ 256
    · have hb := byte w0 p v l w hc
      have HB := Lib.hid hb; clear hb hc
      go_enter Tryz.func48, Tryz.ntmps48
      go_wp2_with fail
      refine HB.out.mono ?_
      rintro e w1 ⟨y, rfl, ⟨m, rfl, m0, m1⟩, hc1, hk1⟩
      have HC := Lib.hid (And.intro hc1 hk1); clear hc1 hk1
      go_wp2
      go_ret
      exact ⟨_, rfl, ⟨m % n, rfl, fun _ => ⟨Int.emod_nonneg _ (by omega), Int.emod_lt_of_pos _ (by omega)⟩, fun h => by omega⟩, HC.out.1, HC.out.2⟩
    · have hb := byte w0 p v l w hc
      have HB := Lib.hid hb; clear hb hc
      go_enter Tryz.func48, Tryz.ntmps48
      go_wp2_with fail
      refine HB.out.mono ?_
      rintro e w1 ⟨y, rfl, ⟨m, rfl, m0, m1⟩, hc1, hk1⟩
      have hb2 := byte w0 p v l w1 hc1
      have HB2 := Lib.hid hb2; have HK1 := Lib.hid hk1; clear hb2 hc1 hk1
      go_wp2_with fail
      refine HB2.out.mono ?_
      rintro e w2 ⟨y2, rfl, ⟨m2, rfl, m02, m12⟩, hc2, hk2⟩
      have hb3 := byte w0 p v l w2 hc2
      have HB3 := Lib.hid hb3; have HK2 := Lib.hid (HK1.out.trans hk2); clear hb3 hc2 hk2
      go_wp2_with fail
      refine HB3.out.mono ?_
      rintro e w3 ⟨y3, rfl, ⟨m3, rfl, m03, m13⟩, hc3, hk3⟩
      have HK3 := Lib.hid (HK2.out.trans hk3); have HC := Lib.hid hc3; clear hc3 hk3
      go_wp2
      go_ret
      exact ⟨_, rfl, ⟨_, rfl, fun _ => ⟨Int.emod_nonneg _ (by omega), Int.emod_lt_of_pos _ (by omega)⟩, fun h => by omega⟩, HC.out, HK3.out⟩

def IsBool (x : Value) : Prop := ∃ b : Bool, x = .bool b
theorem once (w0 : World) (p : Nat) (v : Value) (l : List UInt8) (w : World) (n : Int) (hc : Cur w0 p v l w) :
    Calls Tryz.prog 45 #[.pointer (some ⟨p, 0, none⟩), .int .i64 n] w (Drawn w0 p v l w IsBool) := by
  have hb := below w0 p v l w n hc
  have HB := Lib.hid hb; clear hb hc
  go_enter Tryz.func45, Tryz.ntmps45
  go_wp2_with fail
  refine HB.out.mono ?_
  rintro e w1 ⟨y, rfl, ⟨m, rfl, hm⟩, hc1, hk1⟩
  have HC := Lib.hid (And.intro hc1 hk1); clear hc1 hk1 hm
  go_wp2
  go_ret
  exact ⟨_, rfl, ⟨_, rfl⟩, HC.out.1, HC.out.2⟩

/-- One of a list's values, chosen by a draw. -/
theorem choose (w0 : World) (p : Nat) (v : Value) (l : List UInt8) (w : World) (q : Nat) (xs : List Value) (hx : 0 < xs.length) (hbig : xs.length < 1000) (hc : Cur w0 p v l w) (hq : q ≠ p)
    (hcells : ∀ j (h : j < xs.length), w.cell? ⟨q, j, none⟩ = some xs[j]) :
    ∀ e w1, Drawn w0 p v l w (BelowOf (xs.length : Int)) e w1 → ∃ j, ∃ h : j < xs.length, e = .returned (.int .i64 (j : Int)) ∧ w1.cell? ⟨q, j, none⟩ = some xs[j] ∧ Cur w0 p v l w1 ∧ Keep p w w1 := by
  rintro e w1 ⟨y, rfl, ⟨r, rfl, hr, _⟩, hc1, hk1⟩
  have hr := hr (by omega)
  obtain ⟨j, rfl⟩ : ∃ j : Nat, r = j := ⟨r.toNat, by omega⟩
  exact ⟨j, by omega, rfl, hk1.cell (hcells j (by omega)) hq, hc1, hk1⟩

set_option maxHeartbeats 1000000 in
theorem int (w0 : World) (p : Nat) (v : Value) (l : List UInt8) (w : World) (q : Nat) (xs : List Value) (n : Nat) (hn : xs.length = n) (hx : 0 < n) (hbig : n < 1000) (hc : Cur w0 p v l w) (hq : q ≠ p)
    (hcells : ∀ j (h : j < xs.length), w.cell? ⟨q, j, none⟩ = some xs[j]) :
    Calls Tryz.prog 46 #[.pointer (some ⟨p, 0, none⟩), .slice (some ⟨q, 0, none⟩) n n] w (Drawn w0 p v l w (fun x => x ∈ xs)) := by
  subst hn
  have hb := (below w0 p v l w xs.length hc).mono (choose w0 p v l w q xs hx hbig hc hq hcells)
  have HB := Lib.hid hb; clear hb hc hcells
  go_enter Tryz.func46, Tryz.ntmps46
  go_wp2_with fail
  refine HB.out.mono ?_
  rintro e w1 ⟨j, hj, rfl, hcell, hc1, hk1⟩
  have HC := Lib.hid (And.intro hc1 hk1); clear hc1 hk1
  have hji : (j : Int) < (xs.length : Int) := by omega
  go_wp2_with fail
  go_ret
  exact ⟨_, rfl, List.getElem_mem hj, HC.out.1, HC.out.2⟩

set_option maxHeartbeats 1000000 in
theorem strOf (w0 : World) (p : Nat) (v : Value) (l : List UInt8) (w : World) (q : Nat) (xs : List Value) (n : Nat) (hn : xs.length = n) (hx : 0 < n) (hbig : n < 1000) (hc : Cur w0 p v l w) (hq : q ≠ p)
    (hcells : ∀ j (h : j < xs.length), w.cell? ⟨q, j, none⟩ = some xs[j]) :
    Calls Tryz.prog 73 #[.pointer (some ⟨p, 0, none⟩), .slice (some ⟨q, 0, none⟩) n n] w (Drawn w0 p v l w (fun x => x ∈ xs)) := by
  subst hn
  have hb := (below w0 p v l w xs.length hc).mono (choose w0 p v l w q xs hx hbig hc hq hcells)
  have HB := Lib.hid hb; clear hb hc hcells
  go_enter Tryz.func73, Tryz.ntmps73
  go_wp2_with fail
  refine HB.out.mono ?_
  rintro e w1 ⟨j, hj, rfl, hcell, hc1, hk1⟩
  have HC := Lib.hid (And.intro hc1 hk1); clear hc1 hk1
  have hji : (j : Int) < (xs.length : Int) := by omega
  go_wp2_with fail
  go_ret
  exact ⟨_, rfl, List.getElem_mem hj, HC.out.1, HC.out.2⟩

theorem new_cur {w : World} {x : Option Addr} {cap n : Nat} {l : List UInt8} (hb : Frame.Bytes w (.slice x n cap) l) (hn : n = l.length) (h : Int) :
    Cur w w.heap.size (.slice x n cap) l (w.alloc (.cells #[.slice x n cap, .int .i64 0, .int .i64 h] 81)) :=
  ⟨hb, Joins.below_alloc1 _ _, Nat.le_refl _, 0, h, by omega, by omega, (MapKept.heap_alloc w _).1⟩

set_option maxHeartbeats 1000000 in
theorem new (w : World) (v : Value) (l : List UInt8) (hb : Frame.Bytes w v l) :
    Calls Tryz.prog 31 #[v] w fun e w' => e = .returned (.pointer (some ⟨w.heap.size, 0, none⟩)) ∧ Cur w w.heap.size v l w' := by
  have hle := bytes_le hb
  obtain ⟨x, cap, rfl, hat⟩ := bytes_at hb
  have HB := Lib.hid hb
  have HAT := Lib.hid hat
  obtain ⟨n, hn⟩ : ∃ n, n = l.length := ⟨_, rfl⟩
  rw [← hn] at HB hle ⊢
  have HN := Lib.hid hn
  clear hb hat hn
  go_enter Tryz.func31, Tryz.ntmps31
  go_wp2_with fail
  go_loop [3, 4] (fun hv iv => ∃ (h : Int) (k : Nat), k ≤ n ∧ hv = .int .i64 h ∧ iv = .int .i64 k) (fun _ iv => n - (intOf iv).toNat)
  case atStart => exact ⟨_, 0, by omega, rfl, rfl⟩
  case round =>
    obtain ⟨h, k, hk, rfl, rfl⟩ := hrel
    by_cases hlt : k < n
    · have hlti : (k : Int) < (n : Int) := by omega
      obtain ⟨b, off, hx, hcell⟩ := HAT.out k (by have := HN.out; omega)
      subst hx
      by_cases h4 : (k : Int) < 4000
      · go_wp2_with fail
        go_round
        case rel => exact ⟨_, k + 1, by omega, rfl, by go_num⟩
        case measure => simp [intOf]; omega
      · have h4f : decide ((k : Int) < 4000) = false := by simpa using h4
        go_wp2_with fail
        go_ret
        exact ⟨rfl, new_cur HB.out HN.out _⟩
    · have hlti : decide ((k : Int) < (n : Int)) = false := by simp; omega
      go_wp2_with fail
      go_ret
      exact ⟨rfl, new_cur HB.out HN.out _⟩
end Go.Proofs.YtbooamnlocobfaaGreat.Draw
/- Contracts of the reference model's draws of numbers, over the cursor of Draw: each gives a number that fits its kind, and leaves all but the cursor as it was. -/
namespace Go.Proofs.YtbooamnlocobfaaGreat.Draw
open Go.ChangeShapes Go.WideShapes Go.ChangeAt Go.RowKit Go.Instr
set_option linter.unusedVariables false
set_option maxRecDepth 100000

theorem wf_of {n : Int} (h0 : -9223372036854775808 ≤ n) (h1 : n ≤ 9223372036854775807) : (Lit.int .i64 n).wf = true := by
  have e1 : IntKind.i64.min = -9223372036854775808 := rfl
  have e2 : IntKind.i64.max = 9223372036854775807 := rfl
  simp [Lit.wf, e1, e2, h0, h1]
theorem keep_alloc (p : Nat) (w : World) (o : Obj) : Keep p w (w.alloc o) := Keep.of_below (Joins.below_alloc1 w o)
theorem Cur.lt {w0 : World} {p : Nat} {v : Value} {l : List UInt8} {w : World} (hc : Cur w0 p v l w) : p < w.heap.size := by
  obtain ⟨i, h, _, _, hr⟩ := hc.row
  exact (Array.getElem?_eq_some_iff.1 hr).1
theorem Cur.alloc {w0 : World} {p : Nat} {v : Value} {l : List UInt8} {w : World} (hc : Cur w0 p v l w) (o : Obj) : Cur w0 p v l (w.alloc o) := by
  obtain ⟨i, h, h0, h1, hr⟩ := hc.row
  refine ⟨hc.bytes, hc.below.trans (below_le' ?_), hc.place, i, h, h0, h1, ?_⟩
  · exact (Joins.below_alloc1 w o).mono hc.below.size
  · rw [Below.heap_alloc w o p hc.lt]; exact hr
where below_le' {a b : World} {B : Nat} (h : Below B a b) : Below B a b := h

/-- The cursor and its world, whatever was laid beside it. -/
theorem Drawn.from {w0 : World} {p : Nat} {v : Value} {l : List UInt8} {w w1 : World} {Q : Value → Prop} {e : Ending} {w' : World} (h : Drawn w0 p v l w1 Q e w') (hk : Keep p w w1) : Drawn w0 p v l w Q e w' := by
  obtain ⟨x, h1, h2, h3, h4⟩ := h
  exact ⟨x, h1, h2, h3, hk.trans h4⟩
theorem Drawn.imp {w0 : World} {p : Nat} {v : Value} {l : List UInt8} {w : World} {Q R : Value → Prop} {e : Ending} {w' : World} (h : Drawn w0 p v l w Q e w') (hq : ∀ x, Q x → R x) : Drawn w0 p v l w R e w' := by
  obtain ⟨x, h1, h2, h3, h4⟩ := h
  exact ⟨x, h1, hq x h2, h3, h4⟩

def Is64 (x : Value) : Prop := ∃ n : Int, x = .int .i64 n ∧ (Lit.int .i64 n).wf = true

theorem intLit (w0 : World) (p : Nat) (v : Value) (l : List UInt8) (w : World) (hc : Cur w0 p v l w) (xs : List Int) (C : Array Value) (hC : C = (xs.map (Value.int .i64)).toArray) (n : Nat) (hn : xs.length = n) (h0 : 0 < n) (h1 : n < 1000)
    (Q : Value → Prop) (hQ : ∀ x ∈ xs, Q (.int .i64 x)) :
    Calls Tryz.prog 46 #[.pointer (some ⟨p, 0, none⟩), .slice (some ⟨w.heap.size, 0, none⟩) n n] (w.alloc (.cells C 3)) (Drawn w0 p v l w Q) := by
  subst hC
  have hlt := hc.lt
  refine (int w0 p v l _ w.heap.size (xs.map (Value.int .i64)) n (by simpa using hn) h0 h1 (hc.alloc _) (by omega) (fun j hj => ?_)).mono fun e w' h => ?_
  · rw [World.cell?_alloc_mark]; simp at hj; simp [hj]
  · refine (h.from (keep_alloc p w _)).imp fun x hx => ?_
    obtain ⟨y, hy, rfl⟩ := List.mem_map.1 hx
    exact hQ y hy

theorem wf_lits {xs : List Int} (h : xs.all (fun n => (Lit.int .i64 n).wf) = true) : ∀ x ∈ xs, Is64 (.int .i64 x) := fun x hx => ⟨x, rfl, List.all_eq_true.1 h x hx⟩

theorem big_no (x : Option Addr) (n cap : Nat) (w : World) (h : decide ((1048576 : Int) < (n : Int)) = false) :
    Calls Tryz.prog 4 #[.slice x n cap] w fun e w' => e = .returned (.bool false) ∧ w = w' := by
  go_enter Tryz.func4, Tryz.ntmps4
  go_wp2
  go_ret
  exact ⟨rfl, rfl⟩
theorem big_yes (x : Option Addr) (n cap : Nat) (w : World) (h : decide ((1048576 : Int) < (n : Int)) = true) :
    Calls Tryz.prog 4 #[.slice x n cap] w fun e w' => e = .returned (.bool true) ∧ w = w' := by
  go_enter Tryz.func4, Tryz.ntmps4
  go_wp2
  go_ret
  exact ⟨rfl, rfl⟩

end Go.Proofs.YtbooamnlocobfaaGreat.Draw
/- Draws over the cursor that make memory: what keeps the cursor; texts out of a list. -/
namespace Go.Proofs.YtbooamnlocobfaaGreat.Draw
open Go.ChangeShapes Go.WideShapes Go.ChangeAt Go.RowKit Go.Instr
set_option linter.unusedVariables false
set_option maxRecDepth 100000

/-- What a draw of something in memory gives. -/
def DrawnW (w0 : World) (p : Nat) (v : Value) (l : List UInt8) (w : World) (Q : Value → World → Prop) (e : Ending) (w' : World) : Prop :=
  ∃ x, e = .returned x ∧ Q x w' ∧ Cur w0 p v l w' ∧ Keep p w w'

theorem Keep.grown {p : Nat} {w w1 w2 : World} {row : Option Nat} (h : Keep p w w1) (hg : w1.grownBy w2 row) (hr : ∀ g, row = some g → w.heap.size ≤ g) : Keep p w w2 :=
  ⟨hg.os.trans h.os, hg.tape.trans h.tape, hg.output.trans h.output, Nat.le_trans h.size hg.size, fun k hk hp => (hg.block k (Nat.lt_of_lt_of_le hk h.size) (fun e => by have := hr k e.symm; omega)).trans (h.block k hk hp)⟩
theorem Cur.grown {w0 : World} {p : Nat} {v : Value} {l : List UInt8} {w w' : World} {row : Option Nat} (hc : Cur w0 p v l w) (hg : w.grownBy w' row) (hr : ∀ g, row = some g → w0.heap.size ≤ g ∧ g ≠ p) : Cur w0 p v l w' := by
  obtain ⟨i, h, h0, h1, hrow⟩ := hc.row
  refine ⟨hc.bytes, hc.below.grown hg hc.below.size (fun g hk => (hr g hk).1), hc.place, i, h, h0, h1, ?_⟩
  rw [hg.block p (Array.getElem?_eq_some_iff.1 hrow).1 (fun e => (hr p e.symm).2 rfl)]
  exact hrow
theorem Cur.on {w0 : World} {p : Nat} {v : Value} {l : List UInt8} {w w' : World} (hc : Cur w0 p v l w) (hb : Below w.heap.size w w') : Cur w0 p v l w' :=
  hc.grown (row := none) ⟨hb.os, hb.tape, hb.output, hb.size, fun i hi _ => hb.block i hi⟩ (fun g h => by cases h)
/-- A text of at most so many bytes. -/
def StrUpto (k : Nat) (x : Value) : Prop := ∃ t : ByteArray, x = .string t ∧ t.size ≤ k
/-- A text out of a list that lies in block q, in whatever world. -/
theorem strAt (w0 : World) (p : Nat) (v : Value) (l : List UInt8) (W : World) (hc : Cur w0 p v l W) (q : Nat) (hq : q ≠ p) (xs : List ByteArray) (n : Nat) (hn : xs.length = n) (h0 : 0 < n) (h1 : n < 1000) (k : Nat) (hk : (xs.all fun t => decide (t.size ≤ k)) = true)
    (hcells : ∀ j (h : j < xs.length), W.cell? ⟨q, j, none⟩ = some (.string xs[j])) :
    Calls Tryz.prog 73 #[.pointer (some ⟨p, 0, none⟩), .slice (some ⟨q, 0, none⟩) n n] W (Drawn w0 p v l W (StrUpto k)) := by
  refine (strOf w0 p v l W q (xs.map Value.string) n (by simpa using hn) h0 h1 hc hq (fun j hj => ?_)).mono fun e w' h => ?_
  · simp at hj; rw [hcells j hj]; simp
  · refine h.imp fun x hx => ?_
    obtain ⟨y, hy, rfl⟩ := List.mem_map.1 hx
    exact ⟨y, rfl, by have := List.all_eq_true.1 hk y hy; simpa using this⟩
theorem lits_at {w : World} {q : Nat} (hq : q = w.heap.size) {xs : List ByteArray} {t : TypeId} {C : Array Value} (hC : C = (xs.map Value.string).toArray) : ∀ j (h : j < xs.length), (w.alloc (.cells C t)).cell? ⟨q, j, none⟩ = some (.string xs[j]) := by
  intro j hj
  subst hC hq
  rw [World.cell?_alloc_mark]; simp [hj]
end Go.Proofs.YtbooamnlocobfaaGreat.Draw
/- Contracts of the reference model's draws of names: what is drawn lies in memory of the call's own; all else but the cursor is as it was. -/
namespace Go.Proofs.YtbooamnlocobfaaGreat.Draw
open Go.ChangeShapes Go.WideShapes Go.ChangeAt Go.RowKit Go.Instr
open Go.Proofs.YtbooamnlocobfaaGreat.Row (bulk bulk_append bulk_one bulk_nil elemSTR oneStr)
open Go.Proofs.YtbooamnlocobfaaGreat.Ret (NC)
set_option linter.unusedVariables false
set_option maxRecDepth 100000

theorem NC.keep {w w' : World} {g p : Nat} {u : Value} (h : NC w g u) (hk : Keep p w w') (hne : g ≠ p) : NC w' g u :=
  ⟨hk.cell h.1 hne, (World.frozen?_of_block (hk.block g h.lt hne)).trans h.2⟩
theorem rown_keep {α : Type} [Inhabited α] {enc : α → Value} {e : TypeId} {B p : Nat} {w w' : World} {x : Value} {m : List α} (h : Row.Own e enc B w x m) (hk : Keep p w w') (hp : p < B) : Row.Own e enc B w' x m := by
  refine ⟨h.1, ?_⟩
  rcases h.2 with h2 | ⟨g, cap, cur, hv, hg, hh, r⟩
  · exact Or.inl h2
  · exact Or.inr ⟨g, cap, cur, hv, hg, by rw [hk.block g (Array.getElem?_eq_some_iff.1 hh).1 (by omega)]; exact hh, r⟩
theorem NC.set_same {w : World} {g : Nat} {u : Value} (h : NC w g u) (v : Value) : NC (w.setCell ⟨g, 0, none⟩ v) g v := ⟨Ret.set_same h.1, by rw [World.frozen?_setCell]; exact h.2⟩
theorem Cur.set {w0 : World} {p : Nat} {v : Value} {l : List UInt8} {w : World} (hc : Cur w0 p v l w) {g : Nat} (hg : w0.heap.size ≤ g) (hp : g ≠ p) (u : Value) : Cur w0 p v l (w.setCell ⟨g, 0, none⟩ u) :=
  hc.grown (Ret.grownBy_set w ⟨g, 0, none⟩ u) (fun q hq => by
    have : g = q := by simpa using hq
    subst this; exact ⟨hg, hp⟩)
theorem Keep.set {p : Nat} {w w1 : World} (hk : Keep p w w1) {g : Nat} (hg : w.heap.size ≤ g) (u : Value) : Keep p w (w1.setCell ⟨g, 0, none⟩ u) :=
  hk.grown (Ret.grownBy_set w1 ⟨g, 0, none⟩ u) (fun q hq => by
    have : g = q := by simpa using hq
    subst this; exact hg)
/-- A name of the call's own, so great at most. -/
def NameIn (B K : Nat) (x : Value) (w : World) : Prop := ∃ u m, x = .agg #[u] ∧ Row.Own 9 Value.string B w u m ∧ bulk m ≤ K
theorem bulk_appN (m : List ByteArray) (s : ByteArray) : bulk (Row.appN m s) ≤ bulk m + 1 + s.size := by
  unfold Row.appN; split
  · rw [bulk_append, bulk_one]; omega
  · omega

set_option maxRecDepth 100000 in
set_option maxHeartbeats 2000000 in
theorem l4Name (w0 : World) (p : Nat) (v : Value) (l : List UInt8) (w : World) (hc : Cur w0 p v l w) :
    Calls Tryz.prog 70 #[.pointer (some ⟨p, 0, none⟩)] w (DrawnW w0 p v l w (NameIn w.heap.size 100)) := by
  have hpl := hc.lt
  have hca := (hc.alloc (.cells #[.slice none 0 0] 26)).alloc (.cells #[.slice none 0 0] 26)
  have HK0 := Lib.hid ((keep_alloc p w (.cells #[.slice none 0 0] 26)).trans (keep_alloc p _ (.cells #[.slice none 0 0] 26)))
  have HR0 := Lib.hid ((NC.new' (w := w) (.slice none 0 0) 26 rfl).alloc (.cells #[.slice none 0 0] 26))
  have HX0 := Lib.hid (NC.new' (w := w.alloc (.cells #[.slice none 0 0] 26)) (.slice none 0 0) 26 (n := w.heap.size + 1) (by simp))
  have HC0 := Lib.hid hc
  have hb := below w0 p v l _ 4 hca
  have HB := Lib.hid hb
  clear hc hca hb
  go_enter Tryz.func70, Tryz.ntmps70
  go_wp2_with fail
  refine HB.out.mono ?_
  rintro e w1 ⟨y, rfl, ⟨r, rfl, hr, _⟩, hc1, hk1⟩
  have hr := hr (by omega)
  obtain ⟨r, rfl⟩ := Int.eq_ofNat_of_zero_le hr.1
  have hr4 : r < 4 := by omega
  have HC1 := Lib.hid hc1
  have HK1 := Lib.hid (HK0.out.trans hk1)
  have HR1 := Lib.hid (NC.keep HR0.out hk1 (by omega))
  have HX1 := Lib.hid (NC.keep HX0.out hk1 (by omega))
  clear hc1 hk1 hr HB
  go_wp2_with fail
  go_loopw [4] (fun iv wr => ∃ (k j : Nat) (u : Value) (m : List ByteArray), k + j ≤ 3 ∧ iv = .int .i64 k ∧ bulk m ≤ 20 * j ∧ Hid (NC wr w.heap.size (.slice none 0 0)) ∧ Hid (NC wr (w.heap.size + 1) u) ∧ Hid (Row.Own 9 Value.string (w.heap.size + 2) wr u m) ∧ Hid (Cur w0 p v l wr) ∧ Hid (Keep p w wr)) (fun iv _ => (intOf iv).toNat)
  case atStart => exact ⟨r, 0, _, [], by omega, rfl, by rw [bulk_nil]; omega, HR1, HX1, Lib.hid (Row.Own.nil _ _ _ _), HC1, HK1⟩
  case round =>
    obtain ⟨k, j, u, m, hkj, rfl, hm, hR, hX, hO, hC, hK⟩ := hrel
    obtain ⟨x, n, c, rfl, hn, hcap, ho⟩ := hO.out.shapeN
    clear hn
    have hx1 := hX.out.1
    have hx2 := hX.out.2
    by_cases hk0 : 0 < k
    · have hal : Below wr.heap.size wr (wr.alloc (.cells #[.string { data := #[97] }, .string { data := #[98] }, .string { data := #[110, 101, 119, 115] }, .string { data := #[120, 45, 49] }, .string { data := #[49] }, .string { data := #[107, 101, 121] }] 9)).drew := ((Below.refl _ _).alloc (Nat.le_refl _) _).drew
      have HCA := Lib.hid (hC.out.on hal)
      have HKA := Lib.hid (hK.out.trans (Keep.of_below (p := p) hal))
      have HRA := Lib.hid (hR.out.on hal)
      have HXA := Lib.hid (hX.out.on hal)
      have HOA := Lib.hid (ho.on hal)
      have hxA : (wr.alloc (.cells #[.string { data := #[97] }, .string { data := #[98] }, .string { data := #[110, 101, 119, 115] }, .string { data := #[120, 45, 49] }, .string { data := #[49] }, .string { data := #[107, 101, 121] }] 9)).cell? ⟨w.heap.size + 1, 0, none⟩ = some (.slice x n c) := HXA.out.1
      have hpr := hC.out.lt
      have hwp : w.heap.size ≠ p := by omega
      have hwp1 : w.heap.size + 1 ≠ p := by omega
      have hwp2 : p < w.heap.size + 2 := by omega
      have hbm : bulk m ≤ 10000000 := by omega
      clear ho hal
      go_wp2_with fail
      go_region_with (first | (go_at_call 73; refine (strAt w0 p v l (wr.alloc (.cells #[.string { data := #[97] }, .string { data := #[98] }, .string { data := #[110, 101, 119, 115] }, .string { data := #[120, 45, 49] }, .string { data := #[49] }, .string { data := #[107, 101, 121] }] 9)).drew HCA.out wr.heap.size (by omega) [{ data := #[97] }, { data := #[98] }, { data := #[110, 101, 119, 115] }, { data := #[120, 45, 49] }, { data := #[49] }, { data := #[107, 101, 121] }] 6 rfl (by decide) (by decide) 8 (by decide) (fun j h => lits_at rfl rfl j h)).mono ?_; rintro e w2 ⟨y2, rfl, ⟨t2, rfl, ht2⟩, hc2, hk2⟩; have ht2b : t2.size ≤ 10000000 := Nat.le_trans ht2 (by decide); have HC2 := Lib.hid hc2; have HK2 := Lib.hid (HKA.out.trans hk2); have HR2 := Lib.hid (NC.keep HRA.out hk2 hwp); have HX2 := Lib.hid (NC.keep HXA.out hk2 hwp1); have hxc2 := HX2.out.1; have HO2 := Lib.hid (rown_keep HOA.out hk2 hwp2); clear hc2 hk2) | (go_at_call 93; refine (Row.specAppendPart (.slice x n c) m t2 w2 HO2.out.holds hbm ht2b).mono ?_; rintro e w3 ⟨v3, rfl, ho3, hb3⟩; obtain ⟨x3, n3, c3, rfl, -, -, ho3⟩ := ho3.shapeN; have HC3 := Lib.hid (HC2.out.on hb3); have HK3 := Lib.hid (HK2.out.trans (Keep.of_below hb3)); have HR3 := Lib.hid (HR2.out.on hb3); have HX3 := Lib.hid (HX2.out.on hb3); have HO3 := Lib.hid ho3; have hx3 := HX3.out.1; have hx4 := HX3.out.2; clear ho3 hb3))
      all_goals
        have hlt2 := HX2.out.lt
        have hov := (HO3.out.mono (B' := w.heap.size + 2) (by omega)).grown (Ret.grownBy_set w3 ⟨w.heap.size + 1, 0, none⟩ (.slice x3 n3 c3)) (Row.nb (HO3.out.mono (B' := w.heap.size + 2) (by omega)) (b := w.heap.size + 1) (by omega))
        have HO4 := Lib.hid hov
        have HC4 := Lib.hid (HC3.out.set (g := w.heap.size + 1) (by have := HC0.out.below.size; omega) (by omega) (.slice x3 n3 c3))
        have HK4 := Lib.hid (HK3.out.set (g := w.heap.size + 1) (by omega) (.slice x3 n3 c3))
        have HR4 := Lib.hid (HR3.out.other (a := ⟨w.heap.size + 1, 0, none⟩) (by show w.heap.size + 1 ≠ w.heap.size; omega) (.slice x3 n3 c3))
        have HX4 := Lib.hid (NC.set_same HX3.out (.slice x3 n3 c3))
        have hbk := bulk_appN m t2
        clear hov hlt2
        go_wp2_with fail
        go_roundw
        case rel => exact ⟨k - 1, j + 1, _, _, by omega, by first | go_num | (congr 1; omega), by omega, HR4, HX4, HO4, HC4, HK4⟩
        case measure => simp only [intOf]; omega
    · obtain rfl : k = 0 := by omega
      obtain ⟨hk2, hf2⟩ := hR.out
      obtain ⟨q1, q2, q3⟩ : (wr.setCell ⟨w.heap.size, 0, none⟩ (.slice x n c)).cell? ⟨w.heap.size, 0, none⟩ = some (.slice x n c) ∧ Row.Own 9 Value.string w.heap.size (wr.setCell ⟨w.heap.size, 0, none⟩ (.slice x n c)) (.slice x n c) m ∧ (Cur w0 p v l (wr.setCell ⟨w.heap.size, 0, none⟩ (.slice x n c)) ∧ Keep p w (wr.setCell ⟨w.heap.size, 0, none⟩ (.slice x n c))) :=
        ⟨Ret.set_same hk2, (ho.grown (Ret.grownBy_set wr ⟨w.heap.size, 0, none⟩ (.slice x n c)) (Row.nb ho (b := w.heap.size) (by omega))).mono (by omega), hC.out.set HC0.out.below.size (by omega) _, hK.out.set (Nat.le_refl _) _⟩
      have HQ1 := Lib.hid q1; have HQ2 := Lib.hid q2; have HQ3 := Lib.hid q3
      clear q1 q2 q3 ho
      go_wp2
      refine bodyPost_ret (Ret.results_c rfl _ _ w.heap.size [_] rfl Row.aggN (Ret.one HQ1.out)) rfl ?_
      exact ⟨_, rfl, ⟨_, m, rfl, HQ2.out, by omega⟩, HQ3.out.1, HQ3.out.2⟩

end Go.Proofs.YtbooamnlocobfaaGreat.Draw
/- Contracts of the reference model's draws of names that may be wrong: what is drawn lies in memory of the call's own; all else but the cursor is as it was. -/
namespace Go.Proofs.YtbooamnlocobfaaGreat.Draw
open Go.ChangeShapes Go.WideShapes Go.ChangeAt Go.RowKit Go.Instr
open Go.Proofs.YtbooamnlocobfaaGreat.Row (bulk bulk_append bulk_one bulk_nil elemSTR oneStr)
open Go.Proofs.YtbooamnlocobfaaGreat.Ret (NC)
set_option linter.unusedVariables false
set_option maxRecDepth 100000

/-- append to a slice of strings of the call's own, as a step of a statement that draws its order. -/
theorem step_app {P : Program} {ops : Array Oper} {o : Oper} {a : Act} {w : World} {K : Act → World → Prop} {Q : Exit → Act → World → Prop} {E : Prop} {α : Type} [Inhabited α] {enc : α → Value} {e t : TypeId} {bytes : Nat} {z : Value}
    (hg : o.guard = none) (s x : Operand) (hop : o.op = Op.call { callee := Callee.builtin Builtin.append, args := #[s, x], argTypes := #[t, t] }) (ht : P.underlying t = some (.slice e)) (hi : Row.Elem P e z bytes) (hz : z.cells.size = 1)
    {B : Nat} {v : Value} {ad : Addr} {n c : Nat} {l m : List α} (hs : a.eval s = v) (hx : a.eval x = .slice (some ad) n c) (hown : Row.Own e enc B w v l) (hsrc : Row.Holds enc w (.slice (some ad) n c) m) (h1c : ∀ x, (enc x).oneCell' = true) (hlen : (l.length + m.length) * bytes ≤ 140737488355328) (hmx : l.length + m.length ≤ maxLen) (hB : B ≤ w.heap.size)
    (hK : ∀ v' w', Row.Own e enc B w' v' (l ++ m) → w.grownBy w' v.ownBlock → K (a.put o.dst v') w') :
    if Region.wanted o (yielded ops a.tmps) = true then Oper.wp P o a w K Q else E := by
  have hw : Region.wanted o (yielded ops a.tmps) = true := by simp [Region.wanted, hg]
  rw [if_pos hw]
  obtain ⟨i, h1, h2, h3, h4⟩ := info_parts hi
  obtain rfl := hsrc.lenEq
  obtain ⟨v', w', hrun, r1, r2, _⟩ := run_append_own (P := P) w B t o.type e i z 1 bytes ht h1 h2 h3 h4 hz (by decide) v l.length (l.map enc) hown ad m.length c (m.map enc) (by simp) hsrc.cells (Row.oneCell h1c m) hmx hlen hB
  unfold Oper.wp
  simp [execOp, hop, resolve, invoke, builtin, hs, hx, hrun, Result.andThen]
  refine hK v' w' ?_ r2
  unfold Row.Own
  rw [List.length_append, List.map_append]; exact r1

/-- The length of the slice that lies in block g. -/
def lenAt (w : World) (g : Nat) : Nat := match w.cell? ⟨g, 0, none⟩ with
  | some (.slice _ n _) => n
  | _ => 0
theorem lenAt_of {w : World} {g : Nat} {x : Option Addr} {n c : Nat} (h : w.cell? ⟨g, 0, none⟩ = some (.slice x n c)) : lenAt w g = n := by simp [lenAt, h]

theorem box_keep {w w' : World} {g p : Nat} {u : Value} {t : TypeId} (h : Ret.Box w g u t) (hk : Keep p w w') (hne : g ≠ p) : Ret.Box w' g u t := (hk.block g h.lt hne).trans h
/-- The last store of a draw that gives a name. -/
theorem endA {w0 : World} {p : Nat} {v : Value} {l : List UInt8} {w W : World} {g : Nat} {s : Value} {m : List ByteArray} (hc0 : Cur w0 p v l w) (hgw : w.heap.size < g) (hwp : w.heap.size ≠ p)
    (ho : Row.Own 9 Value.string (w.heap.size + 1) W s m) (hc : Cur w0 p v l W) (hk : Keep p w W) (hr : NC W w.heap.size (.slice none 0 0)) :
    (W.setCell ⟨w.heap.size, 0, none⟩ s).cell? ⟨w.heap.size, 0, none⟩ = some s ∧ Row.Own 9 Value.string w.heap.size (W.setCell ⟨w.heap.size, 0, none⟩ s) s m ∧ Cur w0 p v l (W.setCell ⟨w.heap.size, 0, none⟩ s) ∧ Keep p w (W.setCell ⟨w.heap.size, 0, none⟩ s) :=
  ⟨Ret.set_same hr.1, (ho.grown (Ret.grownBy_set W ⟨w.heap.size, 0, none⟩ s) (Row.nb ho (b := w.heap.size) (by omega))).mono (by omega), hc.set hc0.below.size hwp _, hk.set (Nat.le_refl _) _⟩

/-- Behind an append whose slice is stored back into the variable g. -/
theorem storeA {w0 : World} {p : Nat} {v : Value} {l : List UInt8} {w w3 w4 : World} {g : Nat} {s s4 u : Value} {m m4 : List ByteArray} (hc0 : Cur w0 p v l w) (hgw : w.heap.size < g) (hgp : g ≠ p) (hwp : w.heap.size ≠ p) (hpw : p < w.heap.size + 1)
    (ho3 : Row.Own 9 Value.string (w.heap.size + 1) w3 s m) (hc : Cur w0 p v l w3) (hk : Keep p w w3) (hr : NC w3 w.heap.size (.slice none 0 0)) (hg : w3.grownBy w4 s.ownBlock) (ho : Row.Own 9 Value.string (w.heap.size + 1) w4 s4 m4) (hx : Ret.Box w4 g u 26) :
    Row.Own 9 Value.string (w.heap.size + 1) (w4.setCell ⟨g, 0, none⟩ s4) s4 m4 ∧ Cur w0 p v l (w4.setCell ⟨g, 0, none⟩ s4) ∧ Keep p w (w4.setCell ⟨g, 0, none⟩ s4) ∧ NC (w4.setCell ⟨g, 0, none⟩ s4) w.heap.size (.slice none 0 0) ∧ Ret.Box (w4.setCell ⟨g, 0, none⟩ s4) g s4 26 := by
  have hlt := fun q hq => (ho3.lt q hq).1
  have h0 := hc0.below.size
  refine ⟨ho.grown (Ret.grownBy_set w4 ⟨g, 0, none⟩ s4) (Or.inr fun e => Row.Own.notBox ho hx (by decide) e.symm), (hc.grown hg (fun q hq => ⟨by have := hlt q hq; omega, by have := hlt q hq; omega⟩)).set (by omega) hgp _, (hk.grown hg (fun q hq => by have := hlt q hq; omega)).set (by omega) _, ?_, hx.set s4⟩
  exact (hr.grown hg (fun e => by have := hlt _ e.symm; omega)).other (a := ⟨g, 0, none⟩) (by show g ≠ w.heap.size; omega) _

set_option maxRecDepth 100000 in
set_option maxHeartbeats 4000000 in
theorem l4Any (w0 : World) (p : Nat) (v : Value) (l : List UInt8) (w : World) (hc : Cur w0 p v l w) :
    Calls Tryz.prog 67 #[.pointer (some ⟨p, 0, none⟩)] w (DrawnW w0 p v l w (NameIn w.heap.size 1000)) := by
  have hpl := hc.lt
  have HB := Lib.hid (l4Name w0 p v l _ (hc.alloc (.cells #[.slice none 0 0] 26)))
  have HK0 := Lib.hid (keep_alloc p w (.cells #[.slice none 0 0] 26))
  have HR0 := Lib.hid (NC.new' (w := w) (.slice none 0 0) 26 rfl)
  have HC0 := Lib.hid hc
  have hwp : w.heap.size ≠ p := by omega
  clear hc
  go_enter Tryz.func67, Tryz.ntmps67
  go_wp2_with fail
  refine HB.out.mono ?_
  rintro e w1 ⟨y, rfl, ⟨u, m, rfl, ho, hm⟩, hc1, hk1⟩
  obtain ⟨x, n, c, rfl, hn, hcap, ho⟩ := ho.shapeN
  have hz1 := hk1.size
  simp only [World.size_alloc] at hz1 ho
  have hal : Below w1.heap.size w1 (w1.alloc (.cells #[.slice x n c] 26)) := (Below.refl _ _).alloc (Nat.le_refl _) _
  have HC1 := Lib.hid (hc1.on hal)
  have HK1 := Lib.hid ((HK0.out.trans hk1).trans (Keep.of_below (p := p) hal))
  have HR1 := Lib.hid ((NC.keep HR0.out hk1 hwp).on hal)
  have HX1 := Lib.hid (Ret.Box.new' (w := w1) (.slice x n c) 26 rfl)
  have HO1 := Lib.hid (ho.on hal)
  have hb := below w0 p v l _ 8 HC1.out
  have HB2 := Lib.hid hb
  obtain ⟨g, hg⟩ : ∃ g, g = w1.heap.size := ⟨_, rfl⟩
  have hgp : g ≠ p := by have := hc1.lt; omega
  have hgw : w.heap.size < g := by omega
  have hpw : p < w.heap.size + 1 := by omega
  have hnm : n ≤ 100 := by have := Row.bigLen hm; omega
  have HN := Lib.hid hn
  clear hc1 hk1 ho hal hb HB hn
  go_wp2_with fail
  rw [← hg] at HX1 ⊢
  refine HB2.out.mono ?_
  rintro e w2 ⟨y, rfl, ⟨r, rfl, hr, _⟩, hc2, hk2⟩
  have hr := hr (by omega)
  obtain ⟨r, rfl⟩ := Int.eq_ofNat_of_zero_le hr.1
  have HC2 := Lib.hid hc2
  have HK2 := Lib.hid (HK1.out.trans hk2)
  have HR2 := Lib.hid (NC.keep HR1.out hk2 hwp)
  have HX2 := Lib.hid (box_keep HX1.out hk2 hgp)
  have HO2 := Lib.hid (rown_keep HO1.out hk2 hpw)
  clear hc2 hk2 HB2 HC1 HK1 HR1 HX1 HO1 hg
  by_cases h0 : r = 0
  · subst h0
    have hx2 := HX2.out.cell
    have hx3 := HX2.out.frozen
    have hal : Below w2.heap.size w2 (w2.alloc (.cells #[.string { data := #[] }, .string { data := #[65] }, .string { data := #[116, 111, 111, 108, 111, 110, 103, 120, 120] }, .string { data := #[97, 47, 98] }, .string { data := #[32] }, .string { data := #[101, 105, 103, 104, 116, 56, 56, 56] }] 9)).drew := ((Below.refl _ _).alloc (Nat.le_refl _) _).drew
    have HCA := Lib.hid (HC2.out.on hal)
    have HKA := Lib.hid (HK2.out.trans (Keep.of_below (p := p) hal))
    have HRA := Lib.hid (HR2.out.on hal)
    have HXA := Lib.hid (HX2.out.on hal)
    have HOA := Lib.hid (HO2.out.on hal)
    have hxA : (w2.alloc (.cells #[.string { data := #[] }, .string { data := #[65] }, .string { data := #[116, 111, 111, 108, 111, 110, 103, 120, 120] }, .string { data := #[97, 47, 98] }, .string { data := #[32] }, .string { data := #[101, 105, 103, 104, 116, 56, 56, 56] }] 9)).cell? ⟨g, 0, none⟩ = some (.slice x n c) := HXA.out.cell
    have hpr := HC2.out.lt
    have HLM := Lib.hid (show (m.length + 1) * 16 ≤ 140737488355328 by rw [← HN.out]; omega)
    have HLX := Lib.hid (show m.length + 1 ≤ maxLen by rw [← HN.out]; unfold maxLen; omega)
    clear hal
    go_wp2_with fail
    go_region_law (first | (refine step_app (enc := Value.string) (B := w.heap.size + 1) (l := m) (m := [t3]) rfl _ _ (by rfl) Tryz.underlying24 elemSTR rfl (by rfl) (by rfl) HO3A.out (Row.holds_one Value.string 9 w3 t3) oneStr HLM.out HLX.out hB3 ?_; intro v4 w4 ho4 hg4; obtain ⟨x4, n4, c4, rfl, hn4, hcc4, ho4⟩ := ho4.shapeN; have HO4 := Lib.hid ho4; have HG4 := Lib.hid hg4; have HX4 := Lib.hid ((HX3.out.on ((Below.refl _ _).alloc (Nat.le_refl _) (.cells #[.string t3] 9))).grown hg4 (Row.Own.notBox HO3A.out (HX3.out.on ((Below.refl _ _).alloc (Nat.le_refl _) (.cells #[.string t3] 9))) (by decide))); have hx4 := HX4.out.cell; have hx5 := HX4.out.frozen; clear ho4 hg4 hn4) | (go_simp; go_at_call 73; refine (strAt w0 p v l (w2.alloc (.cells #[.string { data := #[] }, .string { data := #[65] }, .string { data := #[116, 111, 111, 108, 111, 110, 103, 120, 120] }, .string { data := #[97, 47, 98] }, .string { data := #[32] }, .string { data := #[101, 105, 103, 104, 116, 56, 56, 56] }] 9)).drew HCA.out w2.heap.size (by omega) [{ data := #[] }, { data := #[65] }, { data := #[116, 111, 111, 108, 111, 110, 103, 120, 120] }, { data := #[97, 47, 98] }, { data := #[32] }, { data := #[101, 105, 103, 104, 116, 56, 56, 56] }] 6 rfl (by decide) (by decide) 20 (by decide) (fun j h => lits_at rfl rfl j h)).mono ?_; rintro e w3 ⟨y3, rfl, ⟨t3, rfl, ht3⟩, hc3, hk3⟩; have HC3 := Lib.hid hc3; have HK3 := Lib.hid (HKA.out.trans hk3); have HR3 := Lib.hid (NC.keep HRA.out hk3 hwp); have HX3 := Lib.hid (box_keep HXA.out hk3 hgp); have HO3 := Lib.hid (rown_keep HOA.out hk3 hpw); have HO3A := Lib.hid (HO3.out.on ((Below.refl _ _).alloc (Nat.le_refl _) (.cells #[.string t3] 9))); have hxc3 := HX3.out.cell; have hxa3 := (HX3.out.on ((Below.refl _ _).alloc (Nat.le_refl _) (.cells #[.string t3] 9))).cell; have hB3 : w.heap.size + 1 ≤ (w3.alloc (.cells #[.string t3] 9)).heap.size := (by have := HX3.out.lt; simp; omega); clear hc3 hk3))
    all_goals
      have HZ5 := Lib.hid (storeA HC0.out hgw hgp hwp hpw HO3A.out (HC3.out.on ((Below.refl _ _).alloc (Nat.le_refl _) _)) (HK3.out.trans (keep_alloc p w3 _)) (HR3.out.alloc _) HG4.out HO4.out HX4.out)
      have HO5 := Lib.hid HZ5.out.1
      have HC5 := Lib.hid HZ5.out.2.1
      have HK5 := Lib.hid HZ5.out.2.2.1
      have HR5 := Lib.hid HZ5.out.2.2.2.1
      have HX5 := Lib.hid HZ5.out.2.2.2.2
      clear hx2 hx3 hxA hxc3 hxa3 hx4 hx5 HZ5
      obtain ⟨hk8, hf8⟩ := HR5.out
      have hx8 := HX5.out.cell
      have HZ := Lib.hid (endA HC0.out hgw hwp HO5.out HC5.out HK5.out HR5.out)
      go_wp2_with fail
      refine bodyPost_ret (Ret.results_c rfl _ _ w.heap.size [_] rfl Row.aggN (Ret.one HZ.out.1)) rfl ?_
      exact ⟨_, rfl, ⟨_, _, rfl, HZ.out.2.1, by first | omega | (rw [bulk_append, bulk_one]; omega)⟩, HZ.out.2.2.1, HZ.out.2.2.2⟩
  · have h0b : ((r : Int) == 0) = false := by simpa using h0
    by_cases h1 : r = 1
    · subst h1
      have hx2 := HX2.out.cell
      have hbn : bulk m ≤ 100 + 2 * n := by omega
      have hnm2 : n ≤ 107 := by omega
      have HI := Lib.hid HX2.out.cell
      clear hx2 hm hnm
      go_wp2_with fail
      go_loopw [] (fun wr => ∃ (x : Option Addr) (n c : Nat) (m : List ByteArray), n ≤ 107 ∧ bulk m ≤ 100 + 2 * n ∧ lenAt wr g = n ∧ Hid (n = m.length) ∧ Hid (NC wr w.heap.size (.slice none 0 0)) ∧ Hid (Ret.Box wr g (.slice x n c) 26) ∧ Hid (Row.Own 9 Value.string (w.heap.size + 1) wr (.slice x n c) m) ∧ Hid (Cur w0 p v l wr) ∧ Hid (Keep p w wr)) (fun wr => 200 - lenAt wr g)
      case atStart => exact ⟨x, n, c, m, hnm2, hbn, lenAt_of HI.out, HN, HR2, HX2, HO2, HC2, HK2⟩
      case round =>
        obtain ⟨x, n, c, m, hn7, hbn, hla, HN, HR, HX, HO, HC, HK⟩ := hrel
        have HLA := Lib.hid hla
        have hx := HX.out.cell
        have hdr : Below wr.heap.size wr wr.drew := (Below.refl _ _).drew
        have HCD := Lib.hid (HC.out.on hdr)
        have HKD := Lib.hid (HK.out.trans (Keep.of_below (p := p) hdr))
        have HRD := Lib.hid (HR.out.on hdr)
        have HXD := Lib.hid (HX.out.on hdr)
        have HOD := Lib.hid (HO.out.on hdr)
        clear hla hdr
        go_wp2_with fail
        go_region_held3 (fun w' => w'.cell? ⟨g, 0, none⟩ = some (.slice x n c)) (first | exact HXD.out.cell | exact hxc3) ((go_at_call 48; refine (below w0 p v l wr.drew 3 HCD.out).mono ?_; rintro e w3 ⟨y, rfl, ⟨q, rfl, hq, hq2⟩, hc3, hk3⟩; have hxc3 := (box_keep HXD.out hk3 hgp).cell))
        have hq := hq (by omega)
        have HC3 := Lib.hid hc3
        have HK3 := Lib.hid (HKD.out.trans hk3)
        have HR3 := Lib.hid (NC.keep HRD.out hk3 hwp)
        have HX3 := Lib.hid (box_keep HXD.out hk3 hgp)
        have HO3 := Lib.hid (rown_keep HOD.out hk3 hpw)
        have hwq : IntKind.i64.wrap (5 + q) = 5 + q := by rw [IntKind.wrap_i64]; omega
        obtain ⟨q0, q1⟩ := hq
        clear hc3 hk3 hq2 hx
        rw [hwq]
        clear hwq
        by_cases hlt : (n : Int) < 5 + q
        · have HO3A := Lib.hid (HO3.out.on ((Below.refl _ _).alloc (Nat.le_refl _) (.cells #[.string { data := #[109] }] 9)))
          have HX3A := Lib.hid (HX3.out.on ((Below.refl _ _).alloc (Nat.le_refl _) (.cells #[.string { data := #[109] }] 9)))
          have HLM := Lib.hid (show (m.length + ([{ data := #[109] }] : List ByteArray).length) * 16 ≤ 140737488355328 by rw [← HN.out]; simp; omega)
          have HLX := Lib.hid (show m.length + ([{ data := #[109] }] : List ByteArray).length ≤ maxLen by rw [← HN.out]; unfold maxLen; simp; omega)
          have hB3 : w.heap.size + 1 ≤ (w3.alloc (.cells #[.string { data := #[109] }] 9)).heap.size := by have := HX3.out.lt; simp; omega
          go_wp2_with (at_builtin; refine Row.wpList_app (enc := Value.string) (B := w.heap.size + 1) (l := m) (m := [{ data := #[109] }]) rfl _ _ rfl Tryz.underlying24 elemSTR rfl rfl rfl HO3A.out (Row.holds_one Value.string 9 w3 _) oneStr HLM.out HLX.out hB3 ?_)
          intro v4 w4 ho4 hg4
          obtain ⟨x4, n4, c4, rfl, hn4, hcc4, ho4⟩ := ho4.shapeN
          have HX4 := Lib.hid (HX3A.out.grown hg4 (Row.Own.notBox HO3A.out HX3A.out (by decide)))
          have hx4 := HX4.out.cell
          have hx5 := HX4.out.frozen
          have HZ5 := Lib.hid (storeA HC0.out hgw hgp hwp hpw HO3A.out (HC3.out.on ((Below.refl _ _).alloc (Nat.le_refl _) _)) (HK3.out.trans (keep_alloc p w3 _)) (HR3.out.alloc _) hg4 ho4 HX4.out)
          have hn4' : n4 = n + 1 := by rw [hn4, List.length_append, HN.out]; rfl
          have HN4 := Lib.hid hn4
          have HNE := Lib.hid hn4'
          have hbk : bulk (m ++ [{ data := #[109] }]) ≤ 100 + 2 * (n + 1) := by
            rw [bulk_append, bulk_one]
            have : (ByteArray.mk #[109]).size = 1 := rfl
            omega
          clear ho4 hg4 hn4 hxc3 hn4'
          go_wp2_with fail
          go_roundw
          case rel => exact ⟨x4, n4, c4, _, by rw [HNE.out]; omega, by rw [HNE.out]; exact hbk, lenAt_of HZ5.out.2.2.2.2.cell, HN4, Lib.hid HZ5.out.2.2.2.1, Lib.hid HZ5.out.2.2.2.2, Lib.hid HZ5.out.1, Lib.hid HZ5.out.2.1, Lib.hid HZ5.out.2.2.1⟩
          case measure => rw [lenAt_of HZ5.out.2.2.2.2.cell, HLA.out, HNE.out]; omega
        · clear hxc3
          obtain ⟨hk8, hf8⟩ := HR3.out
          have hx8 := HX3.out.cell
          have HZ := Lib.hid (endA HC0.out hgw hwp HO3.out HC3.out HK3.out HR3.out)
          go_wp2_with fail
          refine bodyPost_ret (Ret.results_c rfl _ _ w.heap.size [_] rfl Row.aggN (Ret.one HZ.out.1)) rfl ?_
          exact ⟨_, rfl, ⟨_, _, rfl, HZ.out.2.1, by first | omega | (rw [bulk_append, bulk_one]; omega)⟩, HZ.out.2.2.1, HZ.out.2.2.2⟩
    · have h1b : ((r : Int) == 1) = false := beq_eq_false_iff_ne.2 (by omega)
      clear h0 h1
      obtain ⟨hk8, hf8⟩ := HR2.out
      have hx8 := HX2.out.cell
      have HZ := Lib.hid (endA HC0.out hgw hwp HO2.out HC2.out HK2.out HR2.out)
      go_wp2_with fail
      refine bodyPost_ret (Ret.results_c rfl _ _ w.heap.size [_] rfl Row.aggN (Ret.one HZ.out.1)) rfl ?_
      exact ⟨_, rfl, ⟨_, _, rfl, HZ.out.2.1, by omega⟩, HZ.out.2.2.1, HZ.out.2.2.2⟩

end Go.Proofs.YtbooamnlocobfaaGreat.Draw
/- Contracts of the reference model's draws of byte slices and of slices of integers: what is drawn lies in memory of the call's own; all else but the cursor is as it was. -/
namespace Go.Proofs.YtbooamnlocobfaaGreat.Draw
open Go.ChangeShapes Go.WideShapes Go.ChangeAt Go.RowKit Go.Instr
open Sl (Holds Own Byt nth wpList_app holds_one own_empty elemBYTE elemINT)
set_option linter.unusedVariables false
set_option maxRecDepth 100000

theorem own_keep {e : TypeId} {k : IntKind} {B p : Nat} {w w' : World} {x : Value} {m : List Int} (h : Own e k B w x m) (hk : Keep p w w') (hp : p < B) : Own e k B w' x m := by
  refine ⟨h.1, ?_⟩
  rcases h.2 with h2 | ⟨g, cap, cur, hv, hg, hh, r⟩
  · exact Or.inl h2
  · exact Or.inr ⟨g, cap, cur, hv, hg, by rw [hk.block g (Array.getElem?_eq_some_iff.1 hh).1 (by omega)]; exact hh, r⟩
theorem own_cut {e : TypeId} {k : IntKind} {B : Nat} {w : World} {g n cap : Nat} {m : List Int} (h : Own e k B w (.slice (some ⟨g, 0, none⟩) n cap) m) (hn : n = m.length) {j : Nat} (hj : j ≤ n) :
    Own e k B w (.slice (some ⟨g, 0, none⟩) j cap) (m.take j) := by
  subst hn
  have hl : (m.take j).length = j := by simp; omega
  refine ⟨by simp, ?_⟩
  rcases h.2 with ⟨hv, _⟩ | ⟨g', cap', cur, hv, hg, hh, h1, h2, h3, h4⟩
  · simp at hv
  · simp only [Value.slice.injEq, Option.some.injEq, Addr.mk.injEq, and_true, true_and] at hv
    obtain ⟨rfl, rfl⟩ := hv
    refine Or.inr ⟨g, cap, cur, by rw [hl], hg, hh, by omega, h2, h3, ?_⟩
    rw [hl, Nat.mul_one, List.map_take, ← h4, List.take_take]
    congr 1; omega
theorem byt_nil : Byt [] := fun x hx => by simp at hx
theorem byt_app {a b : List Int} (h : Byt a) (k : Byt b) : Byt (a ++ b) := fun x hx => by
  rcases List.mem_append.1 hx with h1 | h1
  · exact h x h1
  · exact k x h1
theorem byt_one {x : Int} (h0 : 0 ≤ x) (h1 : x ≤ 255) : Byt [x] := fun y hy => by
  obtain rfl : y = x := by simpa using hy
  exact ⟨h0, h1⟩
theorem byt_take {a : List Int} (h : Byt a) (j : Nat) : Byt (a.take j) := fun x hx => h x (List.mem_of_mem_take hx)
theorem byt_set {a : List Int} (h : Byt a) (j : Nat) {x : Int} (h0 : 0 ≤ x) (h1 : x ≤ 255) : Byt (a.set j x) := fun y hy => by
  rcases List.mem_or_eq_of_mem_set hy with h2 | h2
  · exact h y h2
  · subst h2; exact ⟨h0, h1⟩
/-- A slice of bytes of the call's own, so long at most. -/
def BytesIn (B a b : Nat) (x : Value) (w : World) : Prop := ∃ m, Own 5 .u8 B w x m ∧ Byt m ∧ a ≤ m.length ∧ m.length ≤ b

set_option maxHeartbeats 1000000 in
theorem bytes (w0 : World) (p : Nat) (v : Value) (l : List UInt8) (w : World) (n : Nat) (hn : n ≤ 100000) (hc : Cur w0 p v l w) :
    Calls Tryz.prog 71 #[.pointer (some ⟨p, 0, none⟩), .int .i64 n] w (DrawnW w0 p v l w (BytesIn w.heap.size n n)) := by
  have hpl := hc.lt
  have HC := Lib.hid hc
  have H0 := Lib.hid (own_empty .u8 5 w)
  have C0 := Lib.hid (And.intro (hc.alloc (.cells #[] 5)) (keep_alloc p w (.cells #[] 5)))
  clear hc
  go_enter Tryz.func71, Tryz.ntmps71
  go_wp2_with fail
  go_loopw [5, 6] (fun ov iv wr => ∃ (k : Nat) (m : List Int), k ≤ n ∧ iv = .int .i64 k ∧ m.length = k ∧ Hid (Byt m) ∧ Hid (Own 5 .u8 w.heap.size wr ov m) ∧ Hid (Cur w0 p v l wr ∧ Keep p w wr)) (fun _ iv _ => n - (intOf iv).toNat)
  case atStart => exact ⟨0, [], Nat.zero_le _, rfl, rfl, Lib.hid byt_nil, H0, C0⟩
  case round =>
    obtain ⟨k, m, hk, rfl, hm, hB, ho, hcu⟩ := hrel
    have HM := Lib.hid hm; clear hm
    by_cases hlt : k < n
    · have hb := byte w0 p v l wr hcu.out.1
      have HB := Lib.hid hb; clear hb
      go_wp2_with fail
      refine HB.out.mono ?_
      rintro e w1 ⟨y, rfl, ⟨a, rfl, a0, a1⟩, hc1, hk1⟩
      have O1 := Lib.hid (own_keep ho.out hk1 hpl)
      have C1 := Lib.hid (And.intro hc1 (hcu.out.2.trans hk1))
      clear hc1 hk1
      go_wp2_with (at_builtin; refine wpList_app (k := .u8) (B := w.heap.size) (l := m) (m := [a]) rfl _ _ rfl Tryz.underlying22 elemBYTE rfl rfl rfl (O1.out.on ((Below.refl _ _).alloc (Nat.le_refl _) _)) (holds_one .u8 _ _ _) ?_ (by decide) ?_ ?_)
      · have := HM.out; simp; omega
      · have := C1.out.2.size; simp; omega
      intro v2 w2 ho2 hg
      have hlt2 := fun g hh => (O1.out.lt g hh).1
      have hc2 := (C1.out.1.alloc (.cells #[.int .u8 a] 5)).grown hg (fun g hh => ⟨by have := hlt2 g hh; have := HC.out.below.size; omega, by have := hlt2 g hh; omega⟩)
      have hk2 := (C1.out.2.trans (keep_alloc p w1 (.cells #[.int .u8 a] 5))).grown hg hlt2
      have HO2 := Lib.hid ho2; have C2 := Lib.hid (And.intro hc2 hk2)
      clear ho2 hg hc2 hk2 hlt2
      go_wp2_with fail
      go_roundw
      case rel => exact ⟨k + 1, m ++ [a], by omega, by go_num, by rw [List.length_append, HM.out]; rfl, Lib.hid (byt_app hB.out (byt_one a0 a1)), HO2, C2⟩
      case measure => simp [intOf]; omega
    · obtain rfl : k = n := by omega
      clear hlt
      go_wp2_with fail
      go_ret
      exact ⟨_, rfl, ⟨m, ho.out, hB.out, by rw [HM.out]; omega, by rw [HM.out]; omega⟩, hcu.out.1, hcu.out.2⟩

/-- A slice of integers of the call's own. -/
def IntsIn (B b : Nat) (x : Value) (w : World) : Prop := ∃ m, Own 3 .i64 B w x m ∧ (∀ y ∈ m, (Lit.int .i64 y).wf = true) ∧ m.length ≤ b

theorem intLit2 (w0 : World) (p : Nat) (v : Value) (l : List UInt8) (w : World) (hc : Cur w0 p v l w) (xs : List Int) (C : Array Value) (hC : C = (xs.map (Value.int .i64)).toArray) (n : Nat) (hn : xs.length = n) (hx : 0 < n) (hbig : n < 1000) (a b : Int) (hab : ∀ x ∈ xs, a ≤ x ∧ x ≤ b) :
    Calls Tryz.prog 46 #[.pointer (some ⟨p, 0, none⟩), .slice (some ⟨w.heap.size, 0, none⟩) n n] (w.alloc (.cells C 3)) (Drawn w0 p v l w (IntIn a b)) :=
  intLit w0 p v l w hc xs C hC n hn hx hbig (IntIn a b) (fun x hx => ⟨x, rfl, hab x hx⟩)

set_option maxHeartbeats 2000000 in
theorem bent (w0 : World) (p : Nat) (v : Value) (l : List UInt8) (w : World) (bv : Value) (lb : List Int) (hb : Holds .u8 w bv lb) (hB : Byt lb) (hl : lb.length ≤ 1000000) (hc : Cur w0 p v l w) :
    Calls Tryz.prog 37 #[.pointer (some ⟨p, 0, none⟩), bv] w (DrawnW w0 p v l w (BytesIn w.heap.size 0 (lb.length + 1))) := by
  have hpl := hc.lt
  obtain ⟨x, cap, rfl, hcap, hh⟩ := hb.shape
  obtain ⟨n, hn⟩ : ∃ n, n = lb.length := ⟨_, rfl⟩
  rw [← hn] at hcap hh hl ⊢
  have HN := Lib.hid hn; have HH := Lib.hid hh; have HBY := Lib.hid hB; have HC := Lib.hid hc
  clear hn hh hb hB hc
  go_enter Tryz.func37, Tryz.ntmps37
  go_wp2_with (at_builtin; refine Sl.wpList_app_nn (k := .u8) (B := w.heap.size) (l := []) (m := lb) rfl _ _ rfl Tryz.underlying22 elemBYTE rfl rfl rfl (own_empty .u8 _ w) (HH.out.on ((Below.refl _ _).alloc (Nat.le_refl _) _)) ?_ (by decide) ?_ ?_)
  · have := HN.out; simp; omega
  · simp
  intro v1 w1 ho hg hnn
  have hlt1 : ∀ g, (Value.slice (some ⟨w.heap.size, 0, none⟩) 0 0).ownBlock = some g → w.heap.size ≤ g := fun g hh => by cases hh; exact Nat.le_refl _
  have hc1 := (HC.out.alloc (.cells #[] 5)).grown hg (fun g hh => ⟨by have := hlt1 g hh; have := HC.out.below.size; omega, by have := hlt1 g hh; omega⟩)
  have hk1 := (keep_alloc p w (.cells #[] 5)).grown hg hlt1
  obtain ⟨g, cap1, rfl, g1, g2, g3⟩ := ho.block hnn
  have HN1 := HN.out
  rw [← HN1] at ho g3 ⊢
  have O1 := Lib.hid ho
  have HK1 := Lib.hid hk1
  have hb6 := below w0 p v l w1 6 hc1
  have HB6 := Lib.hid hb6
  clear ho hg hnn hlt1 hc1 hk1 hb6 HN1
  go_wp2_with fail
  refine HB6.out.mono ?_
  rintro e w2 ⟨y, rfl, ⟨r, rfl, hr, _⟩, hc2, hk2⟩
  have hr := hr (by omega)
  have O2 := Lib.hid (own_keep O1.out hk2 hpl)
  have C2 := Lib.hid (And.intro hc2 (HK1.out.trans hk2))
  have gw2 : g < w2.heap.size := by have := hk2.size; omega
  clear hc2 hk2
  by_cases r0 : r = 0
  · subst r0
    clear hr
    by_cases hn0 : 0 < n
    · have hb1 := below w0 p v l w2 n C2.out.1
      have HB1 := Lib.hid hb1; clear hb1
      go_wp2_with fail
      refine HB1.out.mono ?_
      rintro e w3 ⟨y, rfl, ⟨r, rfl, hr, _⟩, hc3, hk3⟩
      have hr := hr (by omega)
      obtain ⟨j, rfl⟩ := Int.eq_ofNat_of_zero_le hr.1
      have hj : j < n := by omega
      have O3 := Lib.hid (own_keep O2.out hk3 hpl)
      have HK3 := Lib.hid (C2.out.2.trans hk3)
      have hb2 := below w0 p v l w3 256 hc3
      have HB2 := Lib.hid hb2
      clear hc3 hk3 hr hb2
      go_wp2_with fail
      refine HB2.out.mono ?_
      rintro e w4 ⟨y, rfl, ⟨z, rfl, hz, _⟩, hc4, hk4⟩
      have hz := hz (by omega)
      have O4 := Lib.hid (own_keep O3.out hk4 hpl)
      have C4 := Lib.hid (And.intro hc4 (HK3.out.trans hk4))
      clear hc4 hk4
      have hlen := HN.out
      obtain ⟨hc2, hf2⟩ := Sl.own_cell O4.out hlen (j := j) (by omega)
      obtain ⟨hs1, hs2⟩ := Sl.own_store O4.out hlen j z
      have hlt5 : ∀ g', some g = some g' → w.heap.size ≤ g' := fun g' hh => by cases hh; exact g1
      have hc5 := C4.out.1.grown hs2 (fun g' hh => ⟨by have := hlt5 g' hh; have := HC.out.below.size; omega, by have := hlt5 g' hh; omega⟩)
      have hk5 := C4.out.2.grown hs2 hlt5
      have O5 := Lib.hid hs1; have C5 := Lib.hid (And.intro hc5 hk5)
      clear hs1 hs2 hlt5 hc5 hk5 hlen
      go_wp2_with fail
      go_ret
      exact ⟨_, rfl, ⟨lb.set j z, O5.out, byt_set HBY.out j hz.1 (by omega), by omega, by rw [List.length_set]; have := HN.out; omega⟩, C5.out.1, C5.out.2⟩
    · obtain rfl : n = 0 := by omega
      clear hn0
      go_wp2_with fail
      go_ret
      exact ⟨_, rfl, ⟨lb, O2.out, HBY.out, by omega, by have := HN.out; omega⟩, C2.out.1, C2.out.2⟩
  · by_cases r1 : r = 1
    · subst r1
      clear hr r0
      have hb1 := below w0 p v l w2 ((n : Int) + 1) C2.out.1
      have HB1 := Lib.hid hb1; clear hb1
      go_wp2_with fail
      refine HB1.out.mono ?_
      rintro e w3 ⟨y, rfl, ⟨r, rfl, hr, _⟩, hc3, hk3⟩
      have hr := hr (by omega)
      obtain ⟨j, rfl⟩ := Int.eq_ofNat_of_zero_le hr.1
      have hj : j ≤ n := by omega
      have O3 := Lib.hid (own_cut (own_keep O2.out hk3 hpl) HN.out hj)
      have C3 := Lib.hid (And.intro hc3 (C2.out.2.trans hk3))
      clear hc3 hk3 hr
      go_wp2_with fail
      go_ret
      exact ⟨_, rfl, ⟨lb.take j, O3.out, byt_take HBY.out j, by omega, by rw [List.length_take]; have := HN.out; omega⟩, C3.out.1, C3.out.2⟩
    · by_cases r2 : r = 2
      · subst r2
        clear hr r0 r1
        have hb1 := intLit2 w0 p v l w2 C2.out.1 [0, 1, 128, 255] _ rfl 4 rfl (by decide) (by decide) 0 255 (by decide)
        have HB1 := Lib.hid hb1; clear hb1
        go_wp2_with fail
        refine HB1.out.mono ?_
        rintro e w3 ⟨y, rfl, ⟨a, rfl, a0, a1⟩, hc3, hk3⟩
        have O3 := Lib.hid (own_keep O2.out hk3 hpl)
        have C3 := Lib.hid (And.intro hc3 (C2.out.2.trans hk3))
        clear hc3 hk3
        go_wp2_with (at_builtin; refine wpList_app (k := .u8) (B := w.heap.size) (l := lb) (m := [a]) rfl _ _ rfl Tryz.underlying22 elemBYTE rfl rfl rfl (O3.out.on ((Below.refl _ _).alloc (Nat.le_refl _) _)) (holds_one .u8 _ _ _) ?_ (by decide) ?_ ?_)
        · have := HN.out; simp; omega
        · have := C3.out.2.size; simp; omega
        intro v4 w4 ho4 hg
        have hlt4 := fun g hh => (O3.out.lt g hh).1
        have hc4 := (C3.out.1.alloc (.cells #[.int .u8 a] 5)).grown hg (fun g hh => ⟨by have := hlt4 g hh; have := HC.out.below.size; omega, by have := hlt4 g hh; omega⟩)
        have hk4 := (C3.out.2.trans (keep_alloc p w3 (.cells #[.int .u8 a] 5))).grown hg hlt4
        have HO4 := Lib.hid ho4; have C4 := Lib.hid (And.intro hc4 hk4)
        clear ho4 hg hc4 hk4 hlt4
        go_wp2_with fail
        go_ret
        exact ⟨_, rfl, ⟨lb ++ [a], HO4.out, byt_app HBY.out (byt_one a0 a1), by omega, by rw [List.length_append, List.length_singleton]; have := HN.out; omega⟩, C4.out.1, C4.out.2⟩
      · have e0 : (r == 0) = false := by simpa using r0
        have e1 : (r == 1) = false := by simpa using r1
        have e2 : (r == 2) = false := by simpa using r2
        clear hr r0 r1 r2
        go_wp2_with fail
        go_ret
        exact ⟨_, rfl, ⟨lb, O2.out, HBY.out, by omega, by have := HN.out; omega⟩, C2.out.1, C2.out.2⟩
end Go.Proofs.YtbooamnlocobfaaGreat.Draw
