/- Contracts and mathematics, joined: ThingR, KFunD, Open. No conditions but those that each states. -/
import Derived.Test.YtbooamnlocobfaaB8
import Derived.Test.YtbooamnlocobfaaB2
import Derived.Test.YtbooamnlocobfaaB7
import Derived.SizedLaws
import Derived.ChangeSlices
import Derived.Lib.SmallJoins
/- Contract of the program's read and DecodeData. No conditions but that lengths fit. -/
namespace Go.Proofs.Ytbooamnlocobfaa.Row
open Go.ChangeShapes Go.WideShapes Go.ChangeAt Go.RowKit Go.Instr
set_option linter.unusedVariables false
set_option maxRecDepth 100000

/-- What read leaves: the packet at block g, or nothing. -/
def ReadPost (w : World) (g : Nat) (b : List Int) (e : Ending) (w' : World) : Prop :=
  (okD b ∧ e = .returned (.tuple #[.int .i64 (rI1 b).2.1, .bool true]) ∧ w.grownBy w' (some g) ∧ ∃ a1 b1 c1, Ret.Blk w' g (dc a1 b1 c1 (gotD b).2.2.2.1 (gotD b).2.2.2.2) 32 ∧ DOwn w.heap.size w' a1 b1 c1 (gotD b)) ∨
  (¬ okD b ∧ e = .returned (.tuple #[.int .i64 0, .bool false]) ∧ Below w.heap.size w w')
set_option maxHeartbeats 8000000 in
theorem readD (g : Nat) (v : Value) (b : List Int) (w : World) (hx : Ret.Blk w g (dc (.slice none 0 0) (.slice none 0 0) (.slice none 0 0) 0 0) 32) (h : Sl.Holds .u8 w v b) (hB : Sl.Byt b) (hl : b.length ≤ 100000000) :
    Calls Try.prog 68 #[.pointer (some ⟨g, 0, none⟩), v] w (ReadPost w g b) := by
  obtain ⟨x, cx, rfl, hcx, hh⟩ := h.shape
  obtain ⟨m, hm⟩ : ∃ m, m = b.length := ⟨_, rfl⟩
  have HL := Lib.hid hl
  rw [← hm] at hcx hh hl ⊢
  have HB := Lib.hid (Below.refl w.heap.size w)
  have HX := Lib.hid hx
  have HG0 := Lib.hid hx.lt
  have HH := Lib.hid hh; have HBY := Lib.hid hB
  clear h hh hB hm hx
  go_enter Try.func68, Try.ntmps68
  have HR := Lib.hid (implReadName _ b 0 _ (HH.out.on HB.out) HBY.out HL.out)
  rw [show rdN b 0 = rN1 b from rfl] at HR
  obtain ⟨l1, hl1⟩ : ∃ z, z = (rN1 b).1 := ⟨_, rfl⟩
  obtain ⟨j1, hj1⟩ : ∃ z, z = (rN1 b).2.1 := ⟨_, rfl⟩
  obtain ⟨k1, hk1⟩ : ∃ z, z = (rN1 b).2.2 := ⟨_, rfl⟩
  rw [← hl1, ← hj1, ← hk1] at HR
  have HL1 := Lib.hid hl1; have HJ1 := Lib.hid hj1; have HK1 := Lib.hid hk1
  clear hl1 hj1 hk1
  go_wp2_with fail
  refine HR.out.mono ?_
  rintro e w1 ⟨v1, rfl, ho1, hb1⟩
  obtain ⟨x1, n1, c1, rfl, -, -, ho1⟩ := ho1.shapeN
  clear HR
  have hal := (Below.refl w1.heap.size w1).alloc (Nat.le_refl _) (.cells #[.slice x1 n1 c1] 30)
  have O1 := Lib.hid (ho1.on hal)
  have LT1 := Lib.hid (show ∀ g, (.slice x1 n1 c1 : Value).ownBlock = some g → g < w1.heap.size from fun g e => (ho1.lt g e).2)
  have Y1 := Lib.hid (Ret.Box.new w1 (.slice x1 n1 c1) 30)
  have S1 := Lib.hid hb1.size
  replace HX := Lib.hid (HX.out.on hb1); replace HB := Lib.hid (HB.out.trans (hb1.mono HB.out.size))
  replace HX := Lib.hid (HX.out.on hal); replace HB := Lib.hid (HB.out.trans (hal.mono HB.out.size))
  clear ho1 hb1 hal
  cases k1 with
  | false =>
    have HN := Lib.hid (show ¬ okD b from fun e => by have h9 := e.1; rw [← HK1.out] at h9; cases h9)
    go_wp2_with fail
    go_ret2
    exact Or.inr ⟨HN.out, rfl, HB.out⟩
  | true =>
    have HR := Lib.hid (Sl.implReadBytes _ b j1 60 (w1.alloc (.cells #[.slice x1 n1 c1] 30)) (HH.out.on HB.out) HBY.out HL.out)
    rw [show Sl.readB b j1 60 = rB1 b by rw [HJ1.out]; rfl] at HR
    obtain ⟨l2, hl2⟩ : ∃ z, z = (rB1 b).1 := ⟨_, rfl⟩
    obtain ⟨j2, hj2⟩ : ∃ z, z = (rB1 b).2.1 := ⟨_, rfl⟩
    obtain ⟨k2, hk2⟩ : ∃ z, z = (rB1 b).2.2 := ⟨_, rfl⟩
    rw [← hl2, ← hj2, ← hk2] at HR
    have HL2 := Lib.hid hl2; have HJ2 := Lib.hid hj2; have HK2 := Lib.hid hk2
    clear hl2 hj2 hk2
    go_wp2_with fail
    refine HR.out.mono ?_
    rintro e w2 ⟨v2, rfl, ho2, hb2⟩
    obtain ⟨x2, n2, c2, rfl, -, -, ho2⟩ := Own.shapeN (enc := Value.int .u8) ho2
    replace ho2 : Sl.Own 5 .u8 _ w2 (.slice x2 n2 c2) l2 := ho2
    clear HR
    have O2 := Lib.hid ho2
    have LT2 := Lib.hid (show ∀ g, (.slice x2 n2 c2 : Value).ownBlock = some g → g < w2.heap.size from fun g e => (Sl.Own.lt ho2 g e).2)
    have GE2 := Lib.hid (show ∀ g, (.slice x2 n2 c2 : Value).ownBlock = some g → w1.heap.size ≤ g from fun g e => by have h5 := (Sl.Own.lt ho2 g e).1; simp only [World.size_alloc] at h5; omega)
    have S2 := Lib.hid (show w1.heap.size + 1 ≤ w2.heap.size by have h5 := hb2.size; simp only [World.size_alloc] at h5; exact h5)
    replace HX := Lib.hid (HX.out.on hb2); replace O1 := Lib.hid (O1.out.on hb2); replace Y1 := Lib.hid (Y1.out.on hb2); replace HB := Lib.hid (HB.out.trans (hb2.mono HB.out.size))
    clear ho2 hb2
    cases k2 with
    | false =>
      have HN := Lib.hid (show ¬ okD b from fun e => by have h9 := e.2.1; rw [← HK2.out] at h9; cases h9)
      go_wp2_with fail
      go_ret2
      exact Or.inr ⟨HN.out, rfl, HB.out⟩
    | true =>
      have HR := Lib.hid (implReadName _ b j2 w2 (HH.out.on HB.out) HBY.out HL.out)
      rw [show rdN b j2 = rN2 b by rw [HJ2.out]; rfl] at HR
      obtain ⟨l3, hl3⟩ : ∃ z, z = (rN2 b).1 := ⟨_, rfl⟩
      obtain ⟨j3, hj3⟩ : ∃ z, z = (rN2 b).2.1 := ⟨_, rfl⟩
      obtain ⟨k3, hk3⟩ : ∃ z, z = (rN2 b).2.2 := ⟨_, rfl⟩
      rw [← hl3, ← hj3, ← hk3] at HR
      have HL3 := Lib.hid hl3; have HJ3 := Lib.hid hj3; have HK3 := Lib.hid hk3
      clear hl3 hj3 hk3
      go_wp2_with fail
      refine HR.out.mono ?_
      rintro e w3 ⟨v3, rfl, ho3, hb3⟩
      obtain ⟨x3, n3, c3, rfl, -, -, ho3⟩ := ho3.shapeN
      clear HR
      have hal := (Below.refl w3.heap.size w3).alloc (Nat.le_refl _) (.cells #[.slice x3 n3 c3] 30)
      have O3 := Lib.hid (ho3.on hal)
      have GE3 := Lib.hid (show ∀ g, (.slice x3 n3 c3 : Value).ownBlock = some g → w2.heap.size ≤ g from fun g e => (ho3.lt g e).1)
      have Y3 := Lib.hid (Ret.Box.new w3 (.slice x3 n3 c3) 30)
      have S3 := Lib.hid hb3.size
      replace HX := Lib.hid (HX.out.on hb3); replace O1 := Lib.hid (O1.out.on hb3); replace O2 := Lib.hid (O2.out.on hb3); replace Y1 := Lib.hid (Y1.out.on hb3); replace HB := Lib.hid (HB.out.trans (hb3.mono HB.out.size))
      replace HX := Lib.hid (HX.out.on hal); replace O1 := Lib.hid (O1.out.on hal); replace O2 := Lib.hid (O2.out.on hal); replace Y1 := Lib.hid (Y1.out.on hal); replace HB := Lib.hid (HB.out.trans (hal.mono HB.out.size))
      have hA : Apart (.slice x1 n1 c1) (.slice x2 n2 c2) ∧ Apart (.slice x1 n1 c1) (.slice x3 n3 c3) ∧ Apart (.slice x2 n2 c2) (.slice x3 n3 c3) := by
        refine ⟨fun g e1 e2 => ?_, fun g e1 e2 => ?_, fun g e1 e2 => ?_⟩
        · have h5 := LT1.out g e1; have h6 := GE2.out g e2; have h7 := S2.out; omega
        · have h5 := LT1.out g e1; have h6 := GE3.out g e2; have h7 := S2.out; omega
        · have h5 := LT2.out g e1; have h6 := GE3.out g e2; have h7 := S2.out; omega
      have HAP := Lib.hid hA; clear hA
      clear ho3 hb3 hal
      cases k3 with
      | false =>
        have HN := Lib.hid (show ¬ okD b from fun e => by have h9 := e.2.2.1; rw [← HK3.out] at h9; cases h9)
        go_wp2_with fail
        go_ret2
        exact Or.inr ⟨HN.out, rfl, HB.out⟩
      | true =>
        have HR := Lib.hid (Sl.implDecodeInts _ b j3 2 (w3.alloc (.cells #[.slice x3 n3 c3] 30)) (HH.out.on HB.out) HBY.out HL.out)
        rw [show Sl.readIs b j3 2 = rI1 b by rw [HJ3.out]; rfl] at HR
        obtain ⟨is_, his⟩ : ∃ z, z = (rI1 b).1 := ⟨_, rfl⟩
        obtain ⟨j4, hj4⟩ : ∃ z, z = (rI1 b).2.1 := ⟨_, rfl⟩
        obtain ⟨k4, hk4⟩ : ∃ z, z = (rI1 b).2.2 := ⟨_, rfl⟩
        rw [← his, ← hj4, ← hk4] at HR
        have HIS := Lib.hid his; have HJ4 := Lib.hid hj4; have HK4 := Lib.hid hk4
        clear his hj4 hk4
        go_wp2_with fail
        refine HR.out.mono ?_
        rintro e w4 ⟨v4, rfl, ho4, hb4⟩
        obtain ⟨x4, c4, rfl, hc4, ho4⟩ := ho4.holds.shape
        obtain ⟨n4, hn4⟩ : ∃ n, n = is_.length := ⟨_, rfl⟩
        rw [← hn4] at ho4
        have HN4 := Lib.hid hn4
        rw [← hn4]
        have HI4 := Lib.hid ho4
        clear ho4 hc4 hn4 HR
        replace HX := Lib.hid (HX.out.on hb4); replace O1 := Lib.hid (O1.out.on hb4); replace O2 := Lib.hid (O2.out.on hb4); replace O3 := Lib.hid (O3.out.on hb4); replace Y1 := Lib.hid (Y1.out.on hb4); replace Y3 := Lib.hid (Y3.out.on hb4); replace HB := Lib.hid (HB.out.trans (hb4.mono HB.out.size))
        clear hb4
        cases k4 with
        | false =>
          have HN := Lib.hid (show ¬ okD b from fun e => by have h9 := e.2.2.2; rw [← HK4.out] at h9; cases h9)
          go_wp2_with fail
          go_ret2
          exact Or.inr ⟨HN.out, rfl, HB.out⟩
        | true =>
          have h2 : n4 = 2 := by rw [HN4.out, HIS.out]; exact readI2 HK4.out.symm
          subst h2
          obtain ⟨bb, off, hx4, hc⟩ := HI4.out.at (j := 0) (by rw [← HN4.out]; omega)
          subst hx4
          obtain ⟨i0, hi0⟩ : ∃ z, z = Sl.nth is_ 0 := ⟨_, rfl⟩
          obtain ⟨i1, hi1⟩ : ∃ z, z = Sl.nth is_ 1 := ⟨_, rfl⟩
          have q0 : w4.cell? ⟨bb, off, none⟩ = some (.int .i64 i0) := by rw [hi0]; exact hc
          have q1 : w4.cell? ⟨bb, off + 1, none⟩ = some (.int .i64 i1) := by
            obtain ⟨b', o', e, hc1⟩ := HI4.out.at (j := 1) (by rw [← HN4.out]; omega)
            cases e; rw [hi1]; exact hc1
          have HG : Hid (gotD b = (l1, l2, l3, i0, i1)) := Lib.hid (by unfold gotD; rw [← HL1.out, ← HL2.out, ← HL3.out, ← HIS.out, ← hi0, ← hi1])
          have y1 : w4.cell? ⟨w1.heap.size, 0, none⟩ = some (.slice x1 n1 c1) := Y1.out.cell
          have y3 : w4.cell? ⟨w3.heap.size, 0, none⟩ = some (.slice x3 n3 c3) := Y3.out.cell
          clear hc hi0 hi1
          have t0 := HX.out.frozen 0; have t1 := HX.out.frozen 1; have t2 := HX.out.frozen 2; have t3 := HX.out.frozen 3; have t4 := HX.out.frozen 4
          have r0 : w4.cell? ⟨g, 0, none⟩ = some (.slice none 0 0) := HX.out.cell 0
          have r1 : w4.cell? ⟨g, 1, none⟩ = some (.slice none 0 0) := HX.out.cell 1
          have r2 : w4.cell? ⟨g, 2, none⟩ = some (.slice none 0 0) := HX.out.cell 2
          have r3 : w4.cell? ⟨g, 3, none⟩ = some (.int .i64 0) := HX.out.cell 3
          have r4 : w4.cell? ⟨g, 4, none⟩ = some (.int .i64 0) := HX.out.cell 4
          have HO := Lib.hid (show DOwn w.heap.size (((((w4.setCell ⟨g, 0, none⟩ (.slice x1 n1 c1)).setCell ⟨g, 1, none⟩ (.slice x2 n2 c2)).setCell ⟨g, 2, none⟩ (.slice x3 n3 c3)).setCell ⟨g, 3, none⟩ (.int .i64 i0)).setCell ⟨g, 4, none⟩ (.int .i64 i1)) (.slice x1 n1 c1) (.slice x2 n2 c2) (.slice x3 n3 c3) (l1, l2, l3, i0, i1) from ⟨Own.mono (own_set (g := g) (i := 4) (u := .int .i64 i1) (own_set (g := g) (i := 3) (u := .int .i64 i0) (own_set (g := g) (i := 2) (u := .slice x3 n3 c3) (own_set (g := g) (i := 1) (u := .slice x2 n2 c2) (own_set (g := g) (i := 0) (u := .slice x1 n1 c1) O1.out (by have h5 := HG0.out; have h6 := S1.out; have h7 := S2.out; (try simp only [World.size_alloc]); omega)) (by have h5 := HG0.out; have h6 := S1.out; have h7 := S2.out; (try simp only [World.size_alloc]); omega)) (by have h5 := HG0.out; have h6 := S1.out; have h7 := S2.out; (try simp only [World.size_alloc]); omega)) (by have h5 := HG0.out; have h6 := S1.out; have h7 := S2.out; (try simp only [World.size_alloc]); omega)) (by have h5 := HG0.out; have h6 := S1.out; have h7 := S2.out; (try simp only [World.size_alloc]); omega)) (Nat.le_refl _), Sl.Own.mono (sl_own_set (g := g) (i := 4) (u := .int .i64 i1) (sl_own_set (g := g) (i := 3) (u := .int .i64 i0) (sl_own_set (g := g) (i := 2) (u := .slice x3 n3 c3) (sl_own_set (g := g) (i := 1) (u := .slice x2 n2 c2) (sl_own_set (g := g) (i := 0) (u := .slice x1 n1 c1) O2.out (by have h5 := HG0.out; have h6 := S1.out; have h7 := S2.out; (try simp only [World.size_alloc]); omega)) (by have h5 := HG0.out; have h6 := S1.out; have h7 := S2.out; (try simp only [World.size_alloc]); omega)) (by have h5 := HG0.out; have h6 := S1.out; have h7 := S2.out; (try simp only [World.size_alloc]); omega)) (by have h5 := HG0.out; have h6 := S1.out; have h7 := S2.out; (try simp only [World.size_alloc]); omega)) (by have h5 := HG0.out; have h6 := S1.out; have h7 := S2.out; (try simp only [World.size_alloc]); omega)) (by have h5 := HG0.out; have h6 := S1.out; have h7 := S2.out; (try simp only [World.size_alloc]); omega), Own.mono (own_set (g := g) (i := 4) (u := .int .i64 i1) (own_set (g := g) (i := 3) (u := .int .i64 i0) (own_set (g := g) (i := 2) (u := .slice x3 n3 c3) (own_set (g := g) (i := 1) (u := .slice x2 n2 c2) (own_set (g := g) (i := 0) (u := .slice x1 n1 c1) O3.out (by have h5 := HG0.out; have h6 := S1.out; have h7 := S2.out; (try simp only [World.size_alloc]); omega)) (by have h5 := HG0.out; have h6 := S1.out; have h7 := S2.out; (try simp only [World.size_alloc]); omega)) (by have h5 := HG0.out; have h6 := S1.out; have h7 := S2.out; (try simp only [World.size_alloc]); omega)) (by have h5 := HG0.out; have h6 := S1.out; have h7 := S2.out; (try simp only [World.size_alloc]); omega)) (by have h5 := HG0.out; have h6 := S1.out; have h7 := S2.out; (try simp only [World.size_alloc]); omega)) (by have h5 := HG0.out; have h6 := S1.out; have h7 := S2.out; (try simp only [World.size_alloc]); omega), HAP.out⟩)
          have HXX := Lib.hid (((((HX.out.set 0 (.slice x1 n1 c1)).set 1 (.slice x2 n2 c2)).set 2 (.slice x3 n3 c3)).set 3 (.int .i64 i0)).set 4 (.int .i64 i1))
          have HGG := Lib.hid ((((((Sl.grown_of_below HB.out (some g)).trans (Ret.grownBy_set w4 ⟨g, 0, none⟩ (.slice x1 n1 c1))).trans (Ret.grownBy_set (w4.setCell ⟨g, 0, none⟩ (.slice x1 n1 c1)) ⟨g, 1, none⟩ (.slice x2 n2 c2))).trans (Ret.grownBy_set ((w4.setCell ⟨g, 0, none⟩ (.slice x1 n1 c1)).setCell ⟨g, 1, none⟩ (.slice x2 n2 c2)) ⟨g, 2, none⟩ (.slice x3 n3 c3))).trans (Ret.grownBy_set (((w4.setCell ⟨g, 0, none⟩ (.slice x1 n1 c1)).setCell ⟨g, 1, none⟩ (.slice x2 n2 c2)).setCell ⟨g, 2, none⟩ (.slice x3 n3 c3)) ⟨g, 3, none⟩ (.int .i64 i0))).trans (Ret.grownBy_set ((((w4.setCell ⟨g, 0, none⟩ (.slice x1 n1 c1)).setCell ⟨g, 1, none⟩ (.slice x2 n2 c2)).setCell ⟨g, 2, none⟩ (.slice x3 n3 c3)).setCell ⟨g, 3, none⟩ (.int .i64 i0)) ⟨g, 4, none⟩ (.int .i64 i1)))
          go_wp2_with fail
          go_region
          clear q0 q1 y1 y3 t0 t1 t2 t3 t4 r0 r1 r2 r3 r4
          go_wp2_with fail
          go_ret2
          refine Or.inl ⟨⟨HK1.out.symm, HK2.out.symm, HK3.out.symm, HK4.out.symm⟩, by rw [HJ4.out]; rfl, HGG.out.trans (Sl.grown_of_below (Below.refl _ _).drew _), .slice x1 n1 c1, .slice x2 n2 c2, .slice x3 n3 c3, ?_, ?_⟩
          · rw [HG.out]; exact HXX.out.on (Below.refl _ _).drew
          · rw [HG.out]; exact HO.out.on (Below.refl _ _).drew

set_option maxHeartbeats 8000000 in
theorem implDecodeData (v : Value) (b : List Int) (w : World) (h : Sl.Holds .u8 w v b) (hB : Sl.Byt b) (hl : b.length ≤ 100000000) :
    Calls Try.prog 34 #[v] w (GivesDB w (dcD b).1 (dcD b).2) := by
  unfold GivesDB
  obtain ⟨x, cx, rfl, hcx, hh⟩ := h.shape
  obtain ⟨m, hm⟩ : ∃ m, m = b.length := ⟨_, rfl⟩
  rw [← hm] at hcx hh ⊢
  have hb0 := (Below.refl w.heap.size w).alloc (Nat.le_refl _) (.cells (dc (.slice none 0 0) (.slice none 0 0) (.slice none 0 0) 0 0) 32)
  have HB := Lib.hid (hb0.alloc (by simp) (.cells (dc (.slice none 0 0) (.slice none 0 0) (.slice none 0 0) 0 0) 32))
  have HX := Lib.hid ((Ret.Blk.new w (dc (.slice none 0 0) (.slice none 0 0) (.slice none 0 0) 0 0) 32).on ((Below.refl _ _).alloc (Nat.le_refl _) (.cells (dc (.slice none 0 0) (.slice none 0 0) (.slice none 0 0) 0 0) 32)))
  have HC := Lib.hid (readD (w.heap.size + 1) _ b ((w.alloc (.cells (dc (.slice none 0 0) (.slice none 0 0) (.slice none 0 0) 0 0) 32)).alloc (.cells (dc (.slice none 0 0) (.slice none 0 0) (.slice none 0 0) 0 0) 32)) (Ret.Blk.new' (dc (.slice none 0 0) (.slice none 0 0) (.slice none 0 0) 0 0) 32 (by simp)) (hh.on HB.out) hB hl)
  have HZS := Lib.hid (show ((w.alloc (.cells (dc (.slice none 0 0) (.slice none 0 0) (.slice none 0 0) 0 0) 32)).alloc (.cells (dc (.slice none 0 0) (.slice none 0 0) (.slice none 0 0) 0 0) 32)).heap.size = w.heap.size + 2 by simp)
  have HM := Lib.hid hm
  clear h hh hB hm hb0 hl
  go_enter Try.func34, Try.ntmps34
  go_wp2_with fail
  refine HC.out.mono ?_
  rintro e w1 (⟨hok, rfl, hg, a1, b1, c1, hx1, ho⟩ | ⟨hno, rfl, hb⟩)
  · obtain ⟨x1, n1, c1, x2, n2, c2, x3, n3, c3, rfl, rfl, rfl⟩ := ho.hold.shape
    have HO := Lib.hid (show DOwn (w.heap.size + 2) w1 (.slice x1 n1 c1) (.slice x2 n2 c2) (.slice x3 n3 c3) (gotD b) from by rw [← HZS.out]; exact ho)
    replace HX := Lib.hid (HX.out.grown hg (by intro e; have h5 := Option.some.inj e; omega))
    replace HB := Lib.hid (HB.out.grown hg HB.out.size (fun g e => by have h5 := Option.some.inj e; omega))
    obtain ⟨y, hy⟩ : ∃ y, y = gotD b := ⟨_, rfl⟩
    rw [← hy] at HO hx1
    have HG := Lib.hid hy.symm
    obtain ⟨l1, l2, l3, i0, i1⟩ := y
    have HZ1 := Lib.hid (show Ret.Blk w1 (w.heap.size + 1) (dc (.slice x1 n1 c1) (.slice x2 n2 c2) (.slice x3 n3 c3) i0 i1) 32 from hx1)
    obtain ⟨j4, hj4⟩ : ∃ z, z = (rI1 b).2.1 := ⟨_, rfl⟩
    rw [← hj4]
    have HJ4 := Lib.hid hj4
    have HBK1 := Lib.hid (show bulk l1 ≤ 60 from bulk_valid (by have h8 := congrArg (fun y : Dt => y.1) HG.out; simp only at h8; rw [← h8]; exact rdN_valid hok.1))
    have HBK3 := Lib.hid (show bulk l3 ≤ 60 from bulk_valid (by have h8 := congrArg (fun y : Dt => y.2.2.1) HG.out; simp only at h8; rw [← h8]; exact rdN_valid hok.2.2.1))
    have HOK := Lib.hid hok
    clear ho hx1 hg hy hj4 hok HC
    by_cases hnm : j4 = (m : Int)
    · have hd : (j4 != (m : Int)) = false := by simp [hnm]
      have HNM : Hid (j4 = (b.length : Int)) := Lib.hid (by rw [hnm, HM.out])
      clear hnm
      obtain ⟨z, hz⟩ : ∃ z, validD (l1, l2, l3, i0, i1) = z := ⟨_, rfl⟩
      have HZ := Lib.hid hz
      have p0 : w1.cell? ⟨w.heap.size + 1, 0, none⟩ = some (.slice x1 n1 c1) := HZ1.out.cell 0
      have p1 : w1.cell? ⟨w.heap.size + 1, 1, none⟩ = some (.slice x2 n2 c2) := HZ1.out.cell 1
      have p2 : w1.cell? ⟨w.heap.size + 1, 2, none⟩ = some (.slice x3 n3 c3) := HZ1.out.cell 2
      have p3 : w1.cell? ⟨w.heap.size + 1, 3, none⟩ = some (.int .i64 i0) := HZ1.out.cell 3
      have p4 : w1.cell? ⟨w.heap.size + 1, 4, none⟩ = some (.int .i64 i1) := HZ1.out.cell 4
      go_wp2_with fail
      clear p0 p1 p2 p3 p4
      refine (implValidData _ _ _ (l1, l2, l3, i0, i1) _ HO.out.hold (by have := HBK1.out; simp only; omega) (by have := HBK3.out; simp only; omega)).mono ?_
      rintro e w6 ⟨rfl, hb6⟩
      rw [hz]
      replace HX := Lib.hid (HX.out.on hb6); replace HO := Lib.hid (HO.out.on hb6); replace HZ1 := Lib.hid (HZ1.out.on hb6); replace HB := Lib.hid (HB.out.trans (hb6.mono HB.out.size))
      clear hb6 hz
      cases z with
      | false =>
        have HV := Lib.hid (dcD_no (b := b) (fun e => by have h9 := e.2.2; rw [HG.out, HZ.out] at h9; cases h9))
        have HE := Lib.hid (endD (f := 0) (s := 0) HX.out (DOwn.nil (w.heap.size + 1) _) (Nat.lt_succ_self _) HB.out)
        have t0 := HX.out.frozen 0; have t1 := HX.out.frozen 1; have t2 := HX.out.frozen 2; have t3 := HX.out.frozen 3; have t4 := HX.out.frozen 4
        have r0 : w6.cell? ⟨w.heap.size, 0, none⟩ = some (.slice none 0 0) := HX.out.cell 0
        have r1 : w6.cell? ⟨w.heap.size, 1, none⟩ = some (.slice none 0 0) := HX.out.cell 1
        have r2 : w6.cell? ⟨w.heap.size, 2, none⟩ = some (.slice none 0 0) := HX.out.cell 2
        have r3 : w6.cell? ⟨w.heap.size, 3, none⟩ = some (.int .i64 0) := HX.out.cell 3
        have r4 : w6.cell? ⟨w.heap.size, 4, none⟩ = some (.int .i64 0) := HX.out.cell 4
        go_wp2_with fail
        refine bodyPost_ret (Ret.results_ct rfl _ _ w.heap.size (dc (.slice none 0 0) (.slice none 0 0) (.slice none 0 0) 0 0).toList rfl aggD HE.out.1.cells) rfl ?_
        rw [HV.out]
        exact ⟨_, _, _, rfl, HE.out.2.1, HE.out.2.2⟩
      | true =>
        have HV := Lib.hid (dcD_yes (b := b) ⟨HOK.out, by rw [← HJ4.out]; exact HNM.out, by rw [HG.out]; exact HZ.out⟩)
        have HE := Lib.hid (endD (f := i0) (s := i1) HX.out HO.out (by omega) HB.out)
        have t0 := HX.out.frozen 0; have t1 := HX.out.frozen 1; have t2 := HX.out.frozen 2; have t3 := HX.out.frozen 3; have t4 := HX.out.frozen 4
        have r0 : w6.cell? ⟨w.heap.size, 0, none⟩ = some (.slice none 0 0) := HX.out.cell 0
        have r1 : w6.cell? ⟨w.heap.size, 1, none⟩ = some (.slice none 0 0) := HX.out.cell 1
        have r2 : w6.cell? ⟨w.heap.size, 2, none⟩ = some (.slice none 0 0) := HX.out.cell 2
        have r3 : w6.cell? ⟨w.heap.size, 3, none⟩ = some (.int .i64 0) := HX.out.cell 3
        have r4 : w6.cell? ⟨w.heap.size, 4, none⟩ = some (.int .i64 0) := HX.out.cell 4
        have p0 : w6.cell? ⟨w.heap.size + 1, 0, none⟩ = some (.slice x1 n1 c1) := HZ1.out.cell 0
        have p1 : w6.cell? ⟨w.heap.size + 1, 1, none⟩ = some (.slice x2 n2 c2) := HZ1.out.cell 1
        have p2 : w6.cell? ⟨w.heap.size + 1, 2, none⟩ = some (.slice x3 n3 c3) := HZ1.out.cell 2
        have p3 : w6.cell? ⟨w.heap.size + 1, 3, none⟩ = some (.int .i64 i0) := HZ1.out.cell 3
        have p4 : w6.cell? ⟨w.heap.size + 1, 4, none⟩ = some (.int .i64 i1) := HZ1.out.cell 4
        go_wp2_with fail
        refine bodyPost_ret (Ret.results_ct rfl _ _ w.heap.size (dc (.slice x1 n1 c1) (.slice x2 n2 c2) (.slice x3 n3 c3) i0 i1).toList rfl aggD HE.out.1.cells) rfl ?_
        rw [HV.out, HG.out]
        exact ⟨_, _, _, rfl, HE.out.2.1, HE.out.2.2⟩
    · have hd : (j4 != (m : Int)) = true := by simpa using hnm
      have HV := Lib.hid (dcD_no (b := b) (fun e => hnm (by have h9 := e.2.1; rw [← HJ4.out, ← HM.out] at h9; exact h9)))
      clear hnm
      have HE := Lib.hid (endD (f := 0) (s := 0) HX.out (DOwn.nil (w.heap.size + 1) _) (Nat.lt_succ_self _) HB.out)
      have t0 := HX.out.frozen 0; have t1 := HX.out.frozen 1; have t2 := HX.out.frozen 2; have t3 := HX.out.frozen 3; have t4 := HX.out.frozen 4
      have r0 : w1.cell? ⟨w.heap.size, 0, none⟩ = some (.slice none 0 0) := HX.out.cell 0
      have r1 : w1.cell? ⟨w.heap.size, 1, none⟩ = some (.slice none 0 0) := HX.out.cell 1
      have r2 : w1.cell? ⟨w.heap.size, 2, none⟩ = some (.slice none 0 0) := HX.out.cell 2
      have r3 : w1.cell? ⟨w.heap.size, 3, none⟩ = some (.int .i64 0) := HX.out.cell 3
      have r4 : w1.cell? ⟨w.heap.size, 4, none⟩ = some (.int .i64 0) := HX.out.cell 4
      go_wp2_with fail
      refine bodyPost_ret (Ret.results_ct rfl _ _ w.heap.size (dc (.slice none 0 0) (.slice none 0 0) (.slice none 0 0) 0 0).toList rfl aggD HE.out.1.cells) rfl ?_
      rw [HV.out]
      exact ⟨_, _, _, rfl, HE.out.2.1, HE.out.2.2⟩
  · have HV := Lib.hid (dcD_no (b := b) (fun e => hno e.1))
    replace HX := Lib.hid (HX.out.on hb); replace HB := Lib.hid (HB.out.trans (hb.mono HB.out.size))
    clear hb hno HC
    have HE := Lib.hid (endD (f := 0) (s := 0) HX.out (DOwn.nil (w.heap.size + 1) _) (Nat.lt_succ_self _) HB.out)
    have t0 := HX.out.frozen 0; have t1 := HX.out.frozen 1; have t2 := HX.out.frozen 2; have t3 := HX.out.frozen 3; have t4 := HX.out.frozen 4
    have r0 : w1.cell? ⟨w.heap.size, 0, none⟩ = some (.slice none 0 0) := HX.out.cell 0
    have r1 : w1.cell? ⟨w.heap.size, 1, none⟩ = some (.slice none 0 0) := HX.out.cell 1
    have r2 : w1.cell? ⟨w.heap.size, 2, none⟩ = some (.slice none 0 0) := HX.out.cell 2
    have r3 : w1.cell? ⟨w.heap.size, 3, none⟩ = some (.int .i64 0) := HX.out.cell 3
    have r4 : w1.cell? ⟨w.heap.size, 4, none⟩ = some (.int .i64 0) := HX.out.cell 4
    go_wp2_with fail
    refine bodyPost_ret (Ret.results_ct rfl _ _ w.heap.size (dc (.slice none 0 0) (.slice none 0 0) (.slice none 0 0) 0 0).toList rfl aggD HE.out.1.cells) rfl ?_
    rw [HV.out]
    exact ⟨_, _, _, rfl, HE.out.2.1, HE.out.2.2⟩
end Go.Proofs.Ytbooamnlocobfaa.Row
/- Chapter 8's functions, the model's and the program's, in the words of kinds. No conditions but that lengths fit. -/
namespace Go.Proofs.Ytbooamnlocobfaa.Row
open Go.ChangeShapes Go.WideShapes Go.ChangeAt Go.RowKit Go.Instr
set_option linter.unusedVariables false
set_option maxRecDepth 100000

def eqD (x y : Dt) : Bool := decide (x = y)
theorem sgD_adv (t : Int) (x : Dt) : advD (sgD t x) = advD x := rfl
theorem WfD.byt {x : Dt} (h : WfD x) : Sl.Byt x.2.1 := Sl.byt_of_wf h.2.1
section
variable {P : Program} {f : FuncId} {args : Array Value} {w : World}
theorem giveB {l : List Int} (h : Calls P f args w (Sl.GivesB w l)) : Calls P f args w fun e w' => ∃ U, e = .returned U ∧ kB.In w.heap.size w'.heap.size w' U l ∧ Below w.heap.size w w' := h.mono fun e w' ⟨v, a, b, c⟩ => ⟨v, a, kB_own b, c⟩
theorem giveI {l : List Int} (h : Calls P f args w (Sl.GivesI w l)) : Calls P f args w fun e w' => ∃ U, e = .returned U ∧ kI.In w.heap.size w'.heap.size w' U l ∧ Below w.heap.size w w' := h.mono fun e w' ⟨v, a, b, c⟩ => ⟨v, a, kI_own b, c⟩
theorem giveD {x : Dt} (h : Calls P f args w (GivesD w x)) : Calls P f args w fun e w' => ∃ U, e = .returned U ∧ kD.In w.heap.size w'.heap.size w' U x ∧ Below w.heap.size w w' := h.mono fun e w' ⟨a, b, c, p, q, r⟩ => ⟨_, p, kD_own q, r⟩
theorem giveDB {x : Dt} {z : Bool} (h : Calls P f args w (GivesDB w x z)) : Calls P f args w fun e w' => ∃ U, e = .returned (.tuple #[U, .bool z]) ∧ kD.In w.heap.size w'.heap.size w' U x ∧ Below w.heap.size w w' := h.mono fun e w' ⟨a, b, c, p, q, r⟩ => ⟨_, p, kD_own q, r⟩
end
theorem specSignedPortionK (V : Value) (x : Dt) (w : World) (h : kD.At w V x) (hn : WfD x) (hl : bulkD x ≤ 1200000) :
    Calls Try.prog 16 #[V] w fun e w' => ∃ U, e = .returned U ∧ kI.In w.heap.size w'.heap.size w' U (portD x) ∧ Below w.heap.size w w' := by
  obtain ⟨a, b, c, rfl, h9⟩ := kD_at h
  exact giveI (specSignedPortion a b c x w h9 hn.byt hl)
theorem specSignDataK (V : Value) (t : Int) (x : Dt) (w : World) (h : kD.At w V x) (hn : WfD x) (hl : bulkD x ≤ 1200000) :
    Calls Try.prog 22 #[.int .i64 t, V] w fun e w' => ∃ U, e = .returned U ∧ kD.In w.heap.size w'.heap.size w' U (sgD t x) ∧ Below w.heap.size w w' := by
  obtain ⟨a, b, c, rfl, h9⟩ := kD_at h
  exact giveD (specSignData a b c x t w h9 hn.byt hl)
theorem specVerifyDataK (V : Value) (t : Int) (x : Dt) (w : World) (h : kD.At w V x) (hn : WfD x) (hl : bulkD x ≤ 1200000) :
    Calls Try.prog 25 #[.int .i64 t, V] w fun e w' => e = .returned (.bool (verD t x)) ∧ Below w.heap.size w w' := by
  obtain ⟨a, b, c, rfl, h9⟩ := kD_at h
  exact specVerifyData a b c x t w h9 hn.byt hl
theorem specEncodeDataK (V : Value) (x : Dt) (w : World) (h : kD.At w V x) (hl : bulkD x ≤ 1200000) :
    Calls Try.prog 27 #[V] w fun e w' => ∃ U, e = .returned U ∧ kB.In w.heap.size w'.heap.size w' U (encD x) ∧ Below w.heap.size w w' := by
  obtain ⟨a, b, c, rfl, h9⟩ := kD_at h
  exact giveB (specEncodeData a b c x w h9 hl)
theorem specDecodeDataK (V : Value) (b : List Int) (w : World) (h : kB.At w V b) (hB : Sl.Byt b) (hl : b.length ≤ 100000000) :
    Calls Try.prog 32 #[V] w fun e w' => ∃ U, e = .returned (.tuple #[U, .bool (dcD b).2]) ∧ kD.In w.heap.size w'.heap.size w' U (dcD b).1 ∧ Below w.heap.size w w' := by
  exact giveDB (specDecodeData V b w (kS_at h) hB hl)
theorem specEqualDataK (V U : Value) (x y : Dt) (w : World) (h : kD.At w V x) (g : kD.At w U y) (hn : WfD x) (gn : WfD y) (hl : advD x ≤ 9000000) (hm : advD y ≤ 9000000) :
    Calls Try.prog 37 #[V, U] w fun e w' => e = .returned (.bool (eqD x y)) ∧ Below w.heap.size w w' := by
  obtain ⟨a, b, c, rfl, h9⟩ := kD_at h
  obtain ⟨a2, b2, c2, rfl, g9⟩ := kD_at g
  unfold advD at hl hm
  exact specEqualData a b c a2 b2 c2 x y w _ rfl h9 g9 hn.byt gn.byt (by omega) (by omega) (by omega) (by omega) (by omega) (by omega)
theorem implSignedPortionK (V : Value) (x : Dt) (w : World) (h : kD.At w V x) (hn : WfD x) (hl : bulkD x ≤ 1200000) :
    Calls Try.prog 17 #[V] w fun e w' => ∃ U, e = .returned U ∧ kI.In w.heap.size w'.heap.size w' U (portD x) ∧ Below w.heap.size w w' := by
  obtain ⟨a, b, c, rfl, h9⟩ := kD_at h
  exact giveI (implSignedPortion a b c x w h9 hn.byt hl)
theorem implSignDataK (V : Value) (t : Int) (x : Dt) (w : World) (h : kD.At w V x) (hn : WfD x) (hl : bulkD x ≤ 1200000) :
    Calls Try.prog 23 #[.int .i64 t, V] w fun e w' => ∃ U, e = .returned U ∧ kD.In w.heap.size w'.heap.size w' U (sgD t x) ∧ Below w.heap.size w w' := by
  obtain ⟨a, b, c, rfl, h9⟩ := kD_at h
  exact giveD (implSignData a b c x t w h9 hn.byt hl)
theorem implVerifyDataK (V : Value) (t : Int) (x : Dt) (w : World) (h : kD.At w V x) (hn : WfD x) (hl : bulkD x ≤ 1200000) :
    Calls Try.prog 26 #[.int .i64 t, V] w fun e w' => e = .returned (.bool (verD t x)) ∧ Below w.heap.size w w' := by
  obtain ⟨a, b, c, rfl, h9⟩ := kD_at h
  exact implVerifyData a b c x t w h9 hn.byt hl
theorem implEncodeDataK (V : Value) (x : Dt) (w : World) (h : kD.At w V x) (hl : bulkD x ≤ 1200000) :
    Calls Try.prog 28 #[V] w fun e w' => ∃ U, e = .returned U ∧ kB.In w.heap.size w'.heap.size w' U (encD x) ∧ Below w.heap.size w w' := by
  obtain ⟨a, b, c, rfl, h9⟩ := kD_at h
  exact giveB (implEncodeData a b c x w h9 hl)
theorem implDecodeDataK (V : Value) (b : List Int) (w : World) (h : kB.At w V b) (hB : Sl.Byt b) (hl : b.length ≤ 100000000) :
    Calls Try.prog 34 #[V] w fun e w' => ∃ U, e = .returned (.tuple #[U, .bool (dcD b).2]) ∧ kD.In w.heap.size w'.heap.size w' U (dcD b).1 ∧ Below w.heap.size w w' := by
  exact giveDB (implDecodeData V b w (kS_at h) hB hl)
theorem implEqualDataK (V U : Value) (x y : Dt) (w : World) (h : kD.At w V x) (g : kD.At w U y) (hn : WfD x) (gn : WfD y) (hl : advD x ≤ 9000000) (hm : advD y ≤ 9000000) :
    Calls Try.prog 38 #[V, U] w fun e w' => e = .returned (.bool (eqD x y)) ∧ Below w.heap.size w w' := by
  obtain ⟨a, b, c, rfl, h9⟩ := kD_at h
  obtain ⟨a2, b2, c2, rfl, g9⟩ := kD_at g
  unfold advD at hl hm
  exact implEqualData a b c a2 b2 c2 x y w _ rfl h9 g9 hn.byt gn.byt (by omega) (by omega) (by omega) (by omega) (by omega) (by omega)
end Go.Proofs.Ytbooamnlocobfaa.Row
/- A slice of numbers that came in as an argument: it holds a list, its numbers fit their kind, its length is within the reach. No conditions. -/
namespace Go.Proofs.Ytbooamnlocobfaa.Sl
open Go.ChangeShapes Go.WideShapes Go.ChangeAt Go.RowKit

theorem open_holds {H : Type} {enc : TypeId × Value → H} {P : Program} {w : World} {base b2 : Nat} {held : Bool} {t e : TypeId} {v : Value} {d : DataW H} {p : List MemPlace} {ts : List TypeId} {ds : List (DataW H)} {j : Nat} {k : IntKind}
    (ht : P.underlying t = some (.slice e)) (he : P.underlying e = some (.int k)) (hc : P.cellsOf e = 1) (hz : 1 ≤ P.bytesOf e) (hv : Value.okWide P w .any base t v)
    (h : DataW.Trod enc P w b2 (fun _ => true) held t v d p) (hsz : (DataW.weightsEach P ts ds).all (· ≤ reachBytes) = true) (htj : ts[j]? = some t) (hdj : ds[j]? = some d) :
    ∃ l, Holds k w v l ∧ (∀ n ∈ l, (Lit.int k n).wf = true) ∧ l.length ≤ 140737488351232 := by
  obtain ⟨a0, len, cap, rfl⟩ := okWide_slice ht hv
  obtain ⟨fuel, hf⟩ := h
  rcases open_ints ht he hc hf with ⟨hcs, hx⟩ | ⟨a, len', cap', zs, hcs, hb, hl, hm, hn, hx, hcell, hwz⟩
  · refine ⟨[], ?_, by simp, by simp⟩
    have : Value.slice a0 len cap = .slice none 0 0 := by simpa [Value.cells] using hcs
    rw [this]; exact Holds.nil k w
  · have hcs' : Value.slice a0 len cap = .slice (some a) len' cap' := by simpa [Value.cells] using hcs
    simp only [Prod.mk.injEq] at hx
    obtain ⟨hd, -⟩ := hx
    subst hd
    have hw := sized_slice hsz htj hdj ht
    simp only [if_true] at hn
    have er : reachBytes = 140737488351232 := by decide
    have hlen : (zs.take len').length = len' := by rw [List.length_take]; omega
    refine ⟨zs.take len', ?_, fun n hnn => hwz n (List.mem_of_mem_take hnn), ?_⟩
    · rw [hcs']
      refine ⟨some a, cap', by rw [hlen], by rw [hlen]; exact hl, ?_⟩
      by_cases h0 : len' = 0
      · left; subst h0; simp
      · right
        obtain ⟨b, off, spot⟩ := a
        have h1 := hcell 0 (by omega)
        have hs : spot = none := by simpa [Addr.add] using World.cell?_spot h1
        subst hs
        refine ⟨b, off, rfl, fun i hi => ?_⟩
        rw [hlen] at hi
        have h2 := hcell i (by omega)
        rw [Go.WideShapes.add_plain] at h2
        rw [h2]
        simp only [nth, List.getD, List.getElem?_take, if_pos hi]
    · rw [hlen]
      have h3 : zs.length * 1 ≤ zs.length * P.bytesOf e := Nat.mul_le_mul_left _ hz
      simp [lits] at hw
      have h4 : len' + (zs.length - len') = zs.length := by omega
      have h5 : min len' zs.length = len' := by omega
      rw [h5, h4] at hw
      omega
end Go.Proofs.Ytbooamnlocobfaa.Sl
