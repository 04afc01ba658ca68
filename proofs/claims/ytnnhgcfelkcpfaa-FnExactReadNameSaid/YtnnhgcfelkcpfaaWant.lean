/- Contracts of the helpers by which the laws measure, copy, compare, mark and look at interests (a name and three numbers). No conditions but that lengths fit. -/
import Derived.Test.YtnnhgcfelkcpfaaBlk
namespace Go.Proofs.Ytnnhgcfelkcpfaa.Row
open Go.ChangeShapes Go.WideShapes Go.ChangeAt Go.RowKit Go.Instr
set_option linter.unusedVariables false
set_option maxRecDepth 100000

/-- An interest's cells. -/
abbrev wc (v : Value) (a b c : Int) : Array Value := #[v, .int .i64 a, .int .i64 b, .int .i64 c]
theorem aggW : Ret.AggOf Try.prog 31 4 := ⟨by kernel_rfl, by kernel_rfl⟩

theorem own_set {α : Type} [Inhabited α] {enc : α → Value} {e : TypeId} {B g i : Nat} {w : World} {v u : Value} {l : List α} (h : Own e enc B w v l) (hg : g < B) : Own e enc B (w.setCell ⟨g, i, none⟩ u) v l := h.grown (Ret.grownBy_set w ⟨g, i, none⟩ u) (nb h hg)
theorem wc_set (v u : Value) (a b c d : Int) : (wc v a b c).setIfInBounds 0 u = wc u a b c ∧ (wc v a b c).setIfInBounds 1 (.int .i64 d) = wc v d b c ∧ (wc v a b c).setIfInBounds 2 (.int .i64 d) = wc v a d c ∧ (wc v a b c).setIfInBounds 3 (.int .i64 d) = wc v a b d := ⟨rfl, rfl, rfl, rfl⟩

set_option maxHeartbeats 1000000 in
theorem szInterest (v : Value) (l : List ByteArray) (a b c : Int) (w : World) (left : Int) (h : Holds Value.string w v l) (hl : l.length ≤ 9223372036854775807) (hs : ∀ x ∈ l, x.size ≤ maxLen) (h0 : 0 ≤ left) (h1 : left ≤ 1048576) :
    Calls Try.prog 10 #[.agg (wc v a b c), .int .i64 left] w fun e w' => e = .returned (.int .i64 (szL l left)) ∧ Below w.heap.size w w' := by
  obtain ⟨x, n, cap, rfl, hn, hcap, hh⟩ := h.shapeN
  have HB := Lib.hid ((Below.refl w.heap.size w).alloc (Nat.le_refl _) (.cells (wc (.slice x n cap) a b c) 26))
  have HA := Lib.hid (hh.on HB.out); have HS := Lib.hid hs
  clear hh h hs hn
  go_enter Try.func10, Try.ntmps10
  go_wp2_with fail
  refine (szName _ l _ left HA.out hl HS.out h0 h1).mono ?_
  rintro e w' ⟨rfl, hb⟩
  have HB2 := Lib.hid (HB.out.trans (hb.mono HB.out.size)); clear hb
  by_cases hb : (bulk l : Int) ≤ left
  · rw [szL_fit hb]
    have h2 : ¬ left - (bulk l : Int) < 0 := by omega
    go_wp2
    go_ret
    exact ⟨ret_int (szL_fit hb).symm, HB2.out⟩
  · have hz := szL_not (l := l) (left := left) (by omega)
    rw [hz]
    have HZ := Lib.hid hz; clear hz
    go_wp2
    go_ret
    exact ⟨ret_int HZ.out.symm, HB2.out⟩

set_option maxHeartbeats 2000000 in
theorem toInterest (v : Value) (l : List ByteArray) (a b c : Int) (w : World) (h : Holds Value.string w v l) (hl : l.length ≤ 100000000) :
    Calls Try.prog 12 #[.agg (wc v a b c)] w fun e w' => ∃ v', e = .returned (.agg (wc v' a b c)) ∧ Own 9 Value.string w.heap.size w' v' l ∧ Below w.heap.size w w' := by
  obtain ⟨x, n, cap, rfl, hn, hcap, hh⟩ := h.shapeN
  have hb0 := (Below.refl w.heap.size w).alloc (Nat.le_refl _) (.cells (wc (.slice x n cap) a b c) 26)
  have hb1 := hb0.alloc (by simp) (.cells (wc (.slice none 0 0) 0 0 0) 31)
  have hb2 := hb1.alloc (by simp; omega) (.cells (wc (.slice none 0 0) 0 0 0) 31)
  have HB := Lib.hid hb2
  have HA := Lib.hid (hh.on hb2)
  have X0 := Lib.hid (((Ret.Blk.new w (wc (.slice x n cap) a b c) 26).on ((Below.refl _ _).alloc (Nat.le_refl _) (.cells (wc (.slice none 0 0) 0 0 0) 31))).on ((Below.refl _ _).alloc (Nat.le_refl _) (.cells (wc (.slice none 0 0) 0 0 0) 31)))
  have X1 := Lib.hid ((Ret.Blk.new' (w := w.alloc (.cells (wc (.slice x n cap) a b c) 26)) (n := w.heap.size + 1) (wc (.slice none 0 0) 0 0 0) 31 (by simp)).on ((Below.refl _ _).alloc (Nat.le_refl _) (.cells (wc (.slice none 0 0) 0 0 0) 31)))
  have X2 := Lib.hid (Ret.Blk.new' (w := (w.alloc (.cells (wc (.slice x n cap) a b c) 26)).alloc (.cells (wc (.slice none 0 0) 0 0 0) 31)) (n := w.heap.size + 1 + 1) (wc (.slice none 0 0) 0 0 0) 31 (by simp))
  clear hh h hn hb0 hb1 hb2
  go_enter Try.func12, Try.ntmps12
  go_wp2_with fail
  refine (toName _ l _ HA.out hl).mono ?_
  rintro e w1 ⟨v1, rfl, ho, hb⟩
  obtain ⟨x1, n1, c1, rfl, -, hc1, ho1⟩ := ho.shapeN
  have HO := Lib.hid ho1
  have Y0 := Lib.hid (X0.out.on hb); have Y1 := Lib.hid (X1.out.on hb); have Y2 := Lib.hid (X2.out.on hb)
  have HB1 := Lib.hid (HB.out.trans (hb.mono HB.out.size))
  clear ho ho1 hb X0 X1 X2
  have q1 : w1.cell? ⟨w.heap.size, 1, none⟩ = some (.int .i64 a) := Y0.out.cell 1
  have q2 : w1.cell? ⟨w.heap.size, 2, none⟩ = some (.int .i64 b) := Y0.out.cell 2
  have q3 : w1.cell? ⟨w.heap.size, 3, none⟩ = some (.int .i64 c) := Y0.out.cell 3
  have r0 : w1.cell? ⟨w.heap.size + 1, 0, none⟩ = some (.slice none 0 0) := Y1.out.cell 0
  have r1 : w1.cell? ⟨w.heap.size + 1, 1, none⟩ = some (.int .i64 0) := Y1.out.cell 1
  have r2 : w1.cell? ⟨w.heap.size + 1, 2, none⟩ = some (.int .i64 0) := Y1.out.cell 2
  have r3 : w1.cell? ⟨w.heap.size + 1, 3, none⟩ = some (.int .i64 0) := Y1.out.cell 3
  have s0 : w1.cell? ⟨w.heap.size + 1 + 1, 0, none⟩ = some (.slice none 0 0) := Y2.out.cell 0
  have s1 : w1.cell? ⟨w.heap.size + 1 + 1, 1, none⟩ = some (.int .i64 0) := Y2.out.cell 1
  have s2 : w1.cell? ⟨w.heap.size + 1 + 1, 2, none⟩ = some (.int .i64 0) := Y2.out.cell 2
  have s3 : w1.cell? ⟨w.heap.size + 1 + 1, 3, none⟩ = some (.int .i64 0) := Y2.out.cell 3
  have t0 := Y1.out.frozen 0; have t1 := Y1.out.frozen 1; have t2 := Y1.out.frozen 2; have t3 := Y1.out.frozen 3
  have u0_ := Y2.out.frozen 0; have u1_ := Y2.out.frozen 1; have u2_ := Y2.out.frozen 2; have u3_ := Y2.out.frozen 3
  have Z1 := Lib.hid ((((((((Y1.out.other (a := ⟨w.heap.size + 1 + 1, 0, none⟩) (by simp) (.slice x1 n1 c1)).other (a := ⟨w.heap.size + 1 + 1, 1, none⟩) (by simp) (.int .i64 a)).other (a := ⟨w.heap.size + 1 + 1, 2, none⟩) (by simp) (.int .i64 b)).other (a := ⟨w.heap.size + 1 + 1, 3, none⟩) (by simp) (.int .i64 c)).set 0 (.slice x1 n1 c1)).set 1 (.int .i64 a)).set 2 (.int .i64 b)).set 3 (.int .i64 c))
  have Z2 := Lib.hid (own_set (g := w.heap.size + 1) (i := 3) (u := (.int .i64 c)) (own_set (g := w.heap.size + 1) (i := 2) (u := (.int .i64 b)) (own_set (g := w.heap.size + 1) (i := 1) (u := (.int .i64 a)) (own_set (g := w.heap.size + 1) (i := 0) (u := (.slice x1 n1 c1)) (own_set (g := w.heap.size + 1 + 1) (i := 3) (u := (.int .i64 c)) (own_set (g := w.heap.size + 1 + 1) (i := 2) (u := (.int .i64 b)) (own_set (g := w.heap.size + 1 + 1) (i := 1) (u := (.int .i64 a)) (own_set (g := w.heap.size + 1 + 1) (i := 0) (u := (.slice x1 n1 c1)) HO.out (by simp)) (by simp)) (by simp)) (by simp)) (by simp)) (by simp)) (by simp)) (by simp))
  have Z3 := Lib.hid ((((((((HB1.out.setCell (p := ⟨w.heap.size + 1 + 1, 0, none⟩) (by simp; omega) (.slice x1 n1 c1)).setCell (p := ⟨w.heap.size + 1 + 1, 1, none⟩) (by simp; omega) (.int .i64 a)).setCell (p := ⟨w.heap.size + 1 + 1, 2, none⟩) (by simp; omega) (.int .i64 b)).setCell (p := ⟨w.heap.size + 1 + 1, 3, none⟩) (by simp; omega) (.int .i64 c)).setCell (p := ⟨w.heap.size + 1, 0, none⟩) (by simp) (.slice x1 n1 c1)).setCell (p := ⟨w.heap.size + 1, 1, none⟩) (by simp) (.int .i64 a)).setCell (p := ⟨w.heap.size + 1, 2, none⟩) (by simp) (.int .i64 b)).setCell (p := ⟨w.heap.size + 1, 3, none⟩) (by simp) (.int .i64 c))
  clear Y0 Y1 Y2
  go_wp2_with fail
  refine bodyPost_ret (Ret.results_c rfl _ _ (w.heap.size + 1) (wc (.slice x1 n1 c1) a b c).toList rfl aggW Z1.out.cells) rfl ?_
  exact ⟨_, rfl, Z2.out.mono (by simp; omega), Z3.out⟩

set_option maxHeartbeats 2000000 in
theorem eqInterest (v u : Value) (x y : List ByteArray × Int × Int × Int) (w : World) (q : Bool) (hq : decide (x = y) = q) (h : Holds Value.string w v x.1) (g : Holds Value.string w u y.1) (hl : x.1.length ≤ 140737488351232) (hm : y.1.length ≤ 140737488351232) :
    Calls Try.prog 14 #[.agg (wc v x.2.1 x.2.2.1 x.2.2.2), .agg (wc u y.2.1 y.2.2.1 y.2.2.2)] w fun e w' => e = .returned (.bool q) ∧ Below w.heap.size w w' := by
  obtain ⟨ps, a1, a2, a3⟩ := x
  obtain ⟨qs, b1, b2, b3⟩ := y
  simp only at h g hl hm ⊢
  obtain ⟨x, n, cap, rfl, -, hcap, hh⟩ := h.shapeN
  obtain ⟨y, m, cap', rfl, -, hcap', hg⟩ := g.shapeN
  have hb0 := (Below.refl w.heap.size w).alloc (Nat.le_refl _) (.cells (wc (.slice x n cap) a1 a2 a3) 31)
  have HB := Lib.hid (hb0.alloc (by simp) (.cells (wc (.slice y m cap') b1 b2 b3) 31))
  have HH := Lib.hid (hh.on HB.out); have HG := Lib.hid (hg.on HB.out)
  have X0 := Lib.hid ((Ret.Blk.new w (wc (.slice x n cap) a1 a2 a3) 31).on ((Below.refl _ _).alloc (Nat.le_refl _) (.cells (wc (.slice y m cap') b1 b2 b3) 31)))
  have X1 := Lib.hid (Ret.Blk.new' (w := w.alloc (.cells (wc (.slice x n cap) a1 a2 a3) 31)) (n := w.heap.size + 1) (wc (.slice y m cap') b1 b2 b3) 31 (by simp))
  have HQ := Lib.hid hq
  clear hh hg h g hq hb0
  go_enter Try.func14, Try.ntmps14
  go_wp2_with fail
  refine (eqName _ _ ps qs _ HH.out HG.out hl hm).mono ?_
  rintro e w1 ⟨rfl, hb⟩
  have Y0 := Lib.hid (X0.out.on hb); have Y1 := Lib.hid (X1.out.on hb)
  have HB2 := Lib.hid (HB.out.trans (hb.mono HB.out.size)); clear hb X0 X1
  have q1 : w1.cell? ⟨w.heap.size, 1, none⟩ = some (.int .i64 a1) := Y0.out.cell 1
  have q2 : w1.cell? ⟨w.heap.size, 2, none⟩ = some (.int .i64 a2) := Y0.out.cell 2
  have q3 : w1.cell? ⟨w.heap.size, 3, none⟩ = some (.int .i64 a3) := Y0.out.cell 3
  have r1 : w1.cell? ⟨w.heap.size + 1, 1, none⟩ = some (.int .i64 b1) := Y1.out.cell 1
  have r2 : w1.cell? ⟨w.heap.size + 1, 2, none⟩ = some (.int .i64 b2) := Y1.out.cell 2
  have r3 : w1.cell? ⟨w.heap.size + 1, 3, none⟩ = some (.int .i64 b3) := Y1.out.cell 3
  by_cases he : ps = qs
  · rw [eqB_true he]
    by_cases h1 : a1 = b1
    · have t1 : (a1 != b1) = false := by simp [h1]
      by_cases h2 : a2 = b2
      · have t2 : (a2 != b2) = false := by simp [h2]
        by_cases h3 : a3 = b3
        · have t3 : (a3 != b3) = false := by simp [h3]
          have HE : Hid (q = true) := Lib.hid (by rw [← HQ.out]; simp [he, h1, h2, h3])
          clear he h1 h2 h3
          go_wp2
          go_ret
          exact ⟨ret_bool HE.out.symm, HB2.out⟩
        · have t3 : (a3 != b3) = true := by simpa using h3
          have HE : Hid (q = false) := Lib.hid (by rw [← HQ.out]; simp [h3])
          clear he h1 h2 h3
          go_wp2
          go_ret
          exact ⟨ret_bool HE.out.symm, HB2.out⟩
      · have t2 : (a2 != b2) = true := by simpa using h2
        have HE : Hid (q = false) := Lib.hid (by rw [← HQ.out]; simp [h2])
        clear he h1 h2
        go_wp2
        go_ret
        exact ⟨ret_bool HE.out.symm, HB2.out⟩
    · have t1 : (a1 != b1) = true := by simpa using h1
      have HE : Hid (q = false) := Lib.hid (by rw [← HQ.out]; simp [h1])
      clear he h1
      go_wp2
      go_ret
      exact ⟨ret_bool HE.out.symm, HB2.out⟩
  · rw [eqB_false he]
    have HE : Hid (q = false) := Lib.hid (by rw [← HQ.out]; simp [he])
    clear he
    go_wp2
    go_ret
    exact ⟨ret_bool HE.out.symm, HB2.out⟩

set_option maxHeartbeats 1000000 in
theorem markInterest (B : Nat) (v : Value) (l : List ByteArray) (a b c : Int) (w : World) (k : Int) (h : Own 9 Value.string B w v l) (hl : l.length ≤ 100000000) (h0 : 0 ≤ k) (h1 : k ≤ 100000000000) :
    Calls Try.prog 30 #[.agg (wc v a b c), .int .i64 k] w fun e w' => e = .returned (.int .i64 (k + l.length)) ∧ Own 9 Value.string B w' v (marks markT k l.length) ∧ w.grownBy w' v.ownBlock := by
  obtain ⟨x, n, cap, rfl, hn, hcap, hh⟩ := h.shapeN
  have hb0 := (Below.refl w.heap.size w).alloc (Nat.le_refl _) (.cells (wc (.slice x n cap) a b c) 31)
  have HB := Lib.hid hb0
  have HH := Lib.hid (hh.on hb0)
  have HLT := Lib.hid hh.lt
  clear hh h hn hb0
  go_enter Try.func30, Try.ntmps30
  go_wp2_with fail
  refine (markName B _ l _ k HH.out hl h0 h1).mono ?_
  rintro e w1 ⟨rfl, ho, hg⟩
  have HO := Lib.hid ho
  have HG := Lib.hid (Go.World.grownBy.trans (grown_of_below HB.out (Value.slice x n cap).ownBlock) hg)
  clear ho hg
  go_wp2_with fail
  go_ret
  exact ⟨rfl, HO.out, HG.out⟩

set_option maxHeartbeats 1000000 in
theorem heldInterest (v : Value) (a b c : Int) (w : World) (k : Int) (n : Nat) (h : Holds Value.string w v (marks markT k n)) (hl : n ≤ 100000000) (h0 : 0 ≤ k) (h1 : k ≤ 100000000000) :
    Calls Try.prog 33 #[.agg (wc v a b c), .int .i64 k] w fun e w' => e = .returned (.int .i64 (k + n)) ∧ Below w.heap.size w w' := by
  obtain ⟨x, n1, cap, rfl, hn, hcap, hh⟩ := h.shapeN
  have HB := Lib.hid ((Below.refl w.heap.size w).alloc (Nat.le_refl _) (.cells (wc (.slice x n1 cap) a b c) 31))
  have HH := Lib.hid (hh.on HB.out)
  clear hh h hn
  go_enter Try.func33, Try.ntmps33
  go_wp2_with fail
  refine (heldName _ _ k n HH.out hl h0 h1).mono ?_
  rintro e w1 ⟨rfl, hb⟩
  have HB2 := Lib.hid (HB.out.trans (hb.mono HB.out.size))
  have hk : ¬ k + (n : Int) < 0 := by omega
  clear hb
  go_wp2_with fail
  go_ret
  exact ⟨rfl, HB2.out⟩
end Go.Proofs.Ytnnhgcfelkcpfaa.Row
