/- Contracts of the program's functions on interests: the numbers, copy, the hop limit. No conditions but that lengths fit. -/
import Derived.Test.YtnnhgcfelkcpfaaWantE
import Derived.Test.YtnnhgcfelkcpfaaClone
namespace Go.Proofs.Ytnnhgcfelkcpfaa.Row
open Go.ChangeShapes Go.WideShapes Go.ChangeAt Go.RowKit Go.Instr
set_option linter.unusedVariables false
set_option maxRecDepth 100000

theorem ownI3 (w : World) (a b c : Int) : Sl.Own 3 .i64 w.heap.size (w.alloc (.cells #[.int .i64 a, .int .i64 b, .int .i64 c] 3)) (.slice (some ⟨w.heap.size, 0, none⟩) 3 3) [a, b, c] := World.ownsRow_lit w #[.int .i64 a, .int .i64 b, .int .i64 c] 3 (Nat.le_refl _) (by unfold maxLen; omega) rfl

set_option maxHeartbeats 2000000 in
theorem numbers (v : Value) (a b c : Int) (w : World) (hv : ∃ x n cap, v = .slice x n cap) :
    Calls Try.prog 58 #[.agg (wc v a b c)] w (Sl.GivesI w [a, b, c]) := by
  obtain ⟨x, n, cap, rfl⟩ := hv
  have hb0 := (Below.refl w.heap.size w).alloc (Nat.le_refl _) (.cells (wc (.slice x n cap) a b c) 31)
  have HB := Lib.hid (hb0.alloc (by simp) (.cells #[.int .i64 a, .int .i64 b, .int .i64 c] 3))
  have HO := Lib.hid (ownI3 (w.alloc (.cells (wc (.slice x n cap) a b c) 31)) a b c)
  clear hb0
  go_enter Try.func58, Try.ntmps58
  go_wp2_with fail
  go_ret
  exact ⟨_, rfl, by have h := HO.out; simp only [World.size_alloc] at h; exact h.mono (by omega), HB.out⟩

set_option maxHeartbeats 2000000 in
theorem cloneW (v : Value) (x : Wt) (w : World) (h : Holds Value.string w v x.1) (hl : x.1.length ≤ 9000000) :
    Calls Try.prog 62 #[.agg (wc v x.2.1 x.2.2.1 x.2.2.2)] w (GivesW w x) := by
  obtain ⟨l, a, b, c⟩ := x
  unfold GivesW
  simp only at h hl ⊢
  obtain ⟨x, n, cap, rfl, hn, hcap, hh⟩ := h.shapeN
  have hb0 := (Below.refl w.heap.size w).alloc (Nat.le_refl _) (.cells (wc (.slice x n cap) a b c) 31)
  have hb1 := hb0.alloc (by simp) (.cells (wc (.slice none 0 0) 0 0 0) 31)
  have HB := Lib.hid hb1
  have HA := Lib.hid (hh.on hb1)
  have X0 := Lib.hid ((Ret.Blk.new w (wc (.slice x n cap) a b c) 31).on ((Below.refl _ _).alloc (Nat.le_refl _) (.cells (wc (.slice none 0 0) 0 0 0) 31)))
  have X1 := Lib.hid (Ret.Blk.new' (w := w.alloc (.cells (wc (.slice x n cap) a b c) 31)) (n := w.heap.size + 1) (wc (.slice none 0 0) 0 0 0) 31 (by simp))
  clear hh h hn hb0 hb1
  go_enter Try.func62, Try.ntmps62
  go_wp2_with fail
  refine (cloneName _ l _ HA.out hl).mono ?_
  rintro e w1 ⟨v1, rfl, ho, hb⟩
  obtain ⟨x1, n1, c1, rfl, -, hc1, ho1⟩ := ho.shapeN
  have HO := Lib.hid ho1
  have Y0 := Lib.hid (X0.out.on hb); have Y1 := Lib.hid (X1.out.on hb)
  have HB1 := Lib.hid (HB.out.trans (hb.mono HB.out.size))
  clear ho ho1 hb X0 X1
  have r0 : w1.cell? ⟨w.heap.size, 0, none⟩ = some (.slice x n cap) := Y0.out.cell 0
  have r1 : w1.cell? ⟨w.heap.size, 1, none⟩ = some (.int .i64 a) := Y0.out.cell 1
  have r2 : w1.cell? ⟨w.heap.size, 2, none⟩ = some (.int .i64 b) := Y0.out.cell 2
  have r3 : w1.cell? ⟨w.heap.size, 3, none⟩ = some (.int .i64 c) := Y0.out.cell 3
  have s0 : w1.cell? ⟨w.heap.size + 1, 0, none⟩ = some (.slice none 0 0) := Y1.out.cell 0
  have s1 : w1.cell? ⟨w.heap.size + 1, 1, none⟩ = some (.int .i64 0) := Y1.out.cell 1
  have s2 : w1.cell? ⟨w.heap.size + 1, 2, none⟩ = some (.int .i64 0) := Y1.out.cell 2
  have s3 : w1.cell? ⟨w.heap.size + 1, 3, none⟩ = some (.int .i64 0) := Y1.out.cell 3
  have t0 := Y1.out.frozen 0; have t1 := Y1.out.frozen 1; have t2 := Y1.out.frozen 2; have t3 := Y1.out.frozen 3
  have k0_ := Y0.out.frozen 0
  have Z1 := Lib.hid (((((Y1.out.other (a := ⟨w.heap.size, 0, none⟩) (by simp) (.slice x1 n1 c1)).set 0 (.slice x1 n1 c1)).set 1 (.int .i64 a)).set 2 (.int .i64 b)).set 3 (.int .i64 c))
  have Z2 := Lib.hid (own_set (g := w.heap.size + 1) (i := 3) (u := (.int .i64 c)) (own_set (g := w.heap.size + 1) (i := 2) (u := (.int .i64 b)) (own_set (g := w.heap.size + 1) (i := 1) (u := (.int .i64 a)) (own_set (g := w.heap.size + 1) (i := 0) (u := (.slice x1 n1 c1)) (own_set (g := w.heap.size) (i := 0) (u := (.slice x1 n1 c1)) HO.out (by simp; omega)) (by simp)) (by simp)) (by simp)) (by simp))
  have Z3 := Lib.hid (((((HB1.out.setCell (p := ⟨w.heap.size, 0, none⟩) (by simp) (.slice x1 n1 c1)).setCell (p := ⟨w.heap.size + 1, 0, none⟩) (by simp) (.slice x1 n1 c1)).setCell (p := ⟨w.heap.size + 1, 1, none⟩) (by simp) (.int .i64 a)).setCell (p := ⟨w.heap.size + 1, 2, none⟩) (by simp) (.int .i64 b)).setCell (p := ⟨w.heap.size + 1, 3, none⟩) (by simp) (.int .i64 c))
  clear Y0 Y1
  go_wp2_with fail
  refine bodyPost_ret (Ret.results_c rfl _ _ (w.heap.size + 1) (wc (.slice x1 n1 c1) a b c).toList rfl aggW Z1.out.cells) rfl ?_
  exact ⟨_, rfl, Z2.out.mono (by simp; omega), Z3.out⟩

set_option maxHeartbeats 4000000 in
theorem fewerW (v : Value) (x : Wt) (w : World) (h : Holds Value.string w v x.1) (hl : x.1.length ≤ 9000000) (hb0 : 1 ≤ x.2.2.1) (hb1 : x.2.2.1 ≤ 9223372036854775807) :
    Calls Try.prog 63 #[.agg (wc v x.2.1 x.2.2.1 x.2.2.2)] w (GivesW w (x.1, x.2.1, x.2.2.1 - 1, x.2.2.2)) := by
  obtain ⟨l, a, b, c⟩ := x
  unfold GivesW
  simp only at h hl hb0 hb1 ⊢
  obtain ⟨x, n, cap, rfl, hn, hcap, hh⟩ := h.shapeN
  have hw : IntKind.i64.wrap (b - 1) = b - 1 := by rw [IntKind.wrap_i64]; omega
  have h0 := (Below.refl w.heap.size w).alloc (Nat.le_refl _) (.cells (wc (.slice x n cap) a b c) 31)
  have h1 := h0.alloc (by simp) (.cells (wc (.slice none 0 0) 0 0 0) 31)
  have HB := Lib.hid h1
  have HA := Lib.hid (hh.on h1)
  have X1 := Lib.hid (Ret.Blk.new' (w := w.alloc (.cells (wc (.slice x n cap) a b c) 31)) (n := w.heap.size + 1) (wc (.slice none 0 0) 0 0 0) 31 (by simp))
  clear hh h hn h0 h1
  go_enter Try.func63, Try.ntmps63
  go_wp2_with fail
  refine (cloneW _ (l, a, b, c) _ HA.out hl).mono ?_
  rintro e w1 ⟨v1, rfl, ho, hb⟩
  simp only at ho
  obtain ⟨x1, n1, c1, rfl, -, hc1, ho1⟩ := ho.shapeN
  have hal : Below w1.heap.size w1 (w1.alloc (.cells (wc (.slice x1 n1 c1) a b c) 31)) := (Below.refl _ _).alloc (Nat.le_refl _) _
  have HO := Lib.hid (ho1.on hal)
  have HLT := Lib.hid (fun b e => (ho1.lt b e).2)
  have Y1 := Lib.hid ((X1.out.on hb).on hal)
  have Y2 := Lib.hid (Ret.Blk.new w1 (wc (.slice x1 n1 c1) a b c) 31)
  have HB1 := Lib.hid ((HB.out.trans (hb.mono HB.out.size)).trans (hal.mono (Nat.le_trans HB.out.size hb.size)))
  have hsz := hb.size
  simp only [World.size_alloc] at hsz
  have hne : (⟨w1.heap.size, 2, none⟩ : Addr).block ≠ w.heap.size + 1 := by show w1.heap.size ≠ _; omega
  have hge : w.heap.size ≤ (⟨w1.heap.size, 2, none⟩ : Addr).block := by show _ ≤ w1.heap.size; omega
  have hn1 : ¬ w1.heap.size = w.heap.size + 1 := by omega
  have hn2 : ¬ w.heap.size + 1 = w1.heap.size := by omega
  clear ho ho1 hb X1 hal hc1
  have r0 := Y1.out.cell 0; have r1 := Y1.out.cell 1; have r2 := Y1.out.cell 2; have r3 := Y1.out.cell 3
  have s0 := Y2.out.cell 0; have s1 := Y2.out.cell 1; have s2 := Y2.out.cell 2; have s3 := Y2.out.cell 3
  have t0 := Y1.out.frozen 0; have t1 := Y1.out.frozen 1; have t2 := Y1.out.frozen 2; have t3 := Y1.out.frozen 3
  have k2_ := Y2.out.frozen 2
  simp only [wc, List.getElem?_toArray, List.getElem?_cons_zero, List.getElem?_cons_succ] at r0 r1 r2 r3 s0 s1 s2 s3
  go_upto_region 2 with fail
  generalize w1.alloc (.cells (wc (.slice x1 n1 c1) a b c) 31) = W at *
  generalize w1.heap.size = g at *
  have Z1 := Lib.hid (((((Y1.out.other (a := ⟨g, 2, none⟩) hne (.int .i64 (b - 1))).set 0 (.slice x1 n1 c1)).set 1 (.int .i64 a)).set 2 (.int .i64 (b - 1))).set 3 (.int .i64 c))
  have Z2 := Lib.hid (own_set (g := w.heap.size + 1) (i := 3) (u := (.int .i64 c)) (own_set (g := w.heap.size + 1) (i := 2) (u := (.int .i64 (b - 1))) (own_set (g := w.heap.size + 1) (i := 1) (u := (.int .i64 a)) (own_set (g := w.heap.size + 1) (i := 0) (u := (.slice x1 n1 c1)) (own_set' (g := g) (i := 2) (u := .int .i64 (b - 1)) HO.out HLT.out) (by simp)) (by simp)) (by simp)) (by simp))
  have Z3 := Lib.hid (((((HB1.out.setCell (p := ⟨g, 2, none⟩) hge (.int .i64 (b - 1))).setCell (p := ⟨w.heap.size + 1, 0, none⟩) (by simp) (.slice x1 n1 c1)).setCell (p := ⟨w.heap.size + 1, 1, none⟩) (by simp) (.int .i64 a)).setCell (p := ⟨w.heap.size + 1, 2, none⟩) (by simp) (.int .i64 (b - 1))).setCell (p := ⟨w.heap.size + 1, 3, none⟩) (by simp) (.int .i64 c))
  clear Y1 Y2
  go_wp2_with fail
  refine bodyPost_ret (Ret.results_c rfl _ _ (w.heap.size + 1) (wc (.slice x1 n1 c1) a (b - 1) c).toList rfl aggW Z1.out.cells) rfl ?_
  exact ⟨_, rfl, Z2.out.mono (by simp; omega), Z3.out⟩

set_option maxHeartbeats 4000000 in
theorem implDecrementHops (v : Value) (x : Wt) (w : World) (h : Holds Value.string w v x.1) (hl : x.1.length ≤ 9000000) (hb : x.2.2.1 ≤ 9223372036854775807) :
    Calls Try.prog 35 #[.agg (wc v x.2.1 x.2.2.1 x.2.2.2)] w (GivesWB w (decW x) (decOk x)) := by
  have hmf : ∀ (fn : Fn) (first cap : Array Value) (w : World), (Instr.makeFunc fn first cap).run Try.prog w = .ok (.func fn first cap) w := fun _ _ _ _ => rfl
  obtain ⟨l, a, b, c⟩ := x
  unfold GivesWB
  simp only at h hl hb ⊢
  obtain ⟨x, n, cap, rfl, hn, hcap, hh⟩ := h.shapeN
  have hb0 := (Below.refl w.heap.size w).alloc (Nat.le_refl _) (.cells (wc (.slice x n cap) a b c) 31)
  have hb1 := hb0.alloc (by simp) (.cells (wc (.slice none 0 0) 0 0 0) 31)
  have HB := Lib.hid hb1
  have HA := Lib.hid (hh.on hb1)
  have X1 := Lib.hid (Ret.Blk.new' (w := w.alloc (.cells (wc (.slice x n cap) a b c) 31)) (n := w.heap.size + 1) (wc (.slice none 0 0) 0 0 0) 31 (by simp))
  have HC := Lib.hid (cloneW (.slice x n cap) (l, a, b, c) _ HA.out hl)
  clear hh h hn hb0 hb1
  go_enter Try.func35, Try.ntmps35
  by_cases hlt : 1 ≤ b
  · have HD : Hid (decW (l, a, b, c) = (l, a, b - 1, c) ∧ decOk (l, a, b, c) = true) := Lib.hid ⟨if_neg (by show ¬ b < 1; omega), decide_eq_true (by show 1 ≤ b; omega)⟩
    have hd : decide (1 ≤ b) = true := decide_eq_true hlt
    have HF := Lib.hid (fewerW (.slice x n cap) (l, a, b, c) _ HA.out hl hlt hb)
    clear hlt
    go_wp2_with fail
    refine HF.out.mono ?_
    rintro e w1 ⟨v1, rfl, ho, hbb⟩
    simp only at ho
    obtain ⟨x1, n1, c1, rfl, -, hc1, ho1⟩ := ho.shapeN
    have HO := Lib.hid ho1
    have Y1 := Lib.hid (X1.out.on hbb)
    have HB1 := Lib.hid (HB.out.trans (hbb.mono HB.out.size))
    clear ho ho1 hbb X1
    have r0 : w1.cell? ⟨w.heap.size + 1, 0, none⟩ = some (.slice none 0 0) := Y1.out.cell 0
    have r1 : w1.cell? ⟨w.heap.size + 1, 1, none⟩ = some (.int .i64 0) := Y1.out.cell 1
    have r2 : w1.cell? ⟨w.heap.size + 1, 2, none⟩ = some (.int .i64 0) := Y1.out.cell 2
    have r3 : w1.cell? ⟨w.heap.size + 1, 3, none⟩ = some (.int .i64 0) := Y1.out.cell 3
    have t0 := Y1.out.frozen 0; have t1 := Y1.out.frozen 1; have t2 := Y1.out.frozen 2; have t3 := Y1.out.frozen 3
    have Z1 := Lib.hid ((((Y1.out.set 0 (.slice x1 n1 c1)).set 1 (.int .i64 a)).set 2 (.int .i64 (b - 1))).set 3 (.int .i64 c))
    have Z2 := Lib.hid (own_set (g := w.heap.size + 1) (i := 3) (u := (.int .i64 c)) (own_set (g := w.heap.size + 1) (i := 2) (u := (.int .i64 (b - 1))) (own_set (g := w.heap.size + 1) (i := 1) (u := (.int .i64 a)) (own_set (g := w.heap.size + 1) (i := 0) (u := (.slice x1 n1 c1)) HO.out (by simp)) (by simp)) (by simp)) (by simp))
    have Z3 := Lib.hid ((((HB1.out.setCell (p := ⟨w.heap.size + 1, 0, none⟩) (by simp) (.slice x1 n1 c1)).setCell (p := ⟨w.heap.size + 1, 1, none⟩) (by simp) (.int .i64 a)).setCell (p := ⟨w.heap.size + 1, 2, none⟩) (by simp) (.int .i64 (b - 1))).setCell (p := ⟨w.heap.size + 1, 3, none⟩) (by simp) (.int .i64 c))
    clear Y1
    go_wp2_with fail
    refine bodyPost_ret (Ret.results_ct rfl _ _ (w.heap.size + 1) (wc (.slice x1 n1 c1) a (b - 1) c).toList rfl aggW Z1.out.cells) rfl ?_
    rw [HD.out.1, HD.out.2]
    exact ⟨_, rfl, Z2.out.mono (by simp; omega), Z3.out⟩
  · have HD : Hid (decW (l, a, b, c) = (l, a, b, c) ∧ decOk (l, a, b, c) = false) := Lib.hid ⟨if_pos (by show b < 1; omega), decide_eq_false (by show ¬ 1 ≤ b; omega)⟩
    have hd : decide (1 ≤ b) = false := decide_eq_false hlt
    clear hlt
    go_wp2_with fail
    refine HC.out.mono ?_
    rintro e w1 ⟨v1, rfl, ho, hbb⟩
    simp only at ho
    obtain ⟨x1, n1, c1, rfl, -, hc1, ho1⟩ := ho.shapeN
    have HO := Lib.hid ho1
    have Y1 := Lib.hid (X1.out.on hbb)
    have HB1 := Lib.hid (HB.out.trans (hbb.mono HB.out.size))
    clear ho ho1 hbb X1
    have r0 : w1.cell? ⟨w.heap.size + 1, 0, none⟩ = some (.slice none 0 0) := Y1.out.cell 0
    have r1 : w1.cell? ⟨w.heap.size + 1, 1, none⟩ = some (.int .i64 0) := Y1.out.cell 1
    have r2 : w1.cell? ⟨w.heap.size + 1, 2, none⟩ = some (.int .i64 0) := Y1.out.cell 2
    have r3 : w1.cell? ⟨w.heap.size + 1, 3, none⟩ = some (.int .i64 0) := Y1.out.cell 3
    have t0 := Y1.out.frozen 0; have t1 := Y1.out.frozen 1; have t2 := Y1.out.frozen 2; have t3 := Y1.out.frozen 3
    have Z1 := Lib.hid ((((Y1.out.set 0 (.slice x1 n1 c1)).set 1 (.int .i64 a)).set 2 (.int .i64 b)).set 3 (.int .i64 c))
    have Z2 := Lib.hid (own_set (g := w.heap.size + 1) (i := 3) (u := (.int .i64 c)) (own_set (g := w.heap.size + 1) (i := 2) (u := (.int .i64 b)) (own_set (g := w.heap.size + 1) (i := 1) (u := (.int .i64 a)) (own_set (g := w.heap.size + 1) (i := 0) (u := (.slice x1 n1 c1)) HO.out (by simp)) (by simp)) (by simp)) (by simp))
    have Z3 := Lib.hid ((((HB1.out.setCell (p := ⟨w.heap.size + 1, 0, none⟩) (by simp) (.slice x1 n1 c1)).setCell (p := ⟨w.heap.size + 1, 1, none⟩) (by simp) (.int .i64 a)).setCell (p := ⟨w.heap.size + 1, 2, none⟩) (by simp) (.int .i64 b)).setCell (p := ⟨w.heap.size + 1, 3, none⟩) (by simp) (.int .i64 c))
    clear Y1
    go_wp2_with fail
    refine bodyPost_ret (Ret.results_ct rfl _ _ (w.heap.size + 1) (wc (.slice x1 n1 c1) a b c).toList rfl aggW Z1.out.cells) rfl ?_
    rw [HD.out.1, HD.out.2]
    exact ⟨_, rfl, Z2.out.mono (by simp; omega), Z3.out⟩
end Go.Proofs.Ytnnhgcfelkcpfaa.Row
