/- The program's chapter 10: allowancesOf, an array of function values. No conditions but that lengths fit. -/
import Derived.WalkKit
import Derived.Deep.RegionHeld3
import Derived.Laws.EntriesVeiled
import Derived.Test.YtkojeajjappchaaRuleQ
namespace Go.Proofs.Ytkojeajjappchaa.Row
open Go.ChangeShapes Go.WideShapes Go.ChangeAt Go.RowKit Go.Instr
set_option linter.unusedVariables false
set_option maxRecDepth 100000

/-- An array of eight values. -/
def arr8 (f : Nat → Value) : Array Value := #[f 0, f 1, f 2, f 3, f 4, f 5, f 6, f 7]
theorem arr8_set (f : Nat → Value) {k : Nat} (hk : k < 8) (u : Value) : (arr8 f).setIfInBounds k u = arr8 (fun j => if j = k then u else f j) := by
  match k, hk with
  | 0, _ => simp [arr8]
  | 1, _ => simp [arr8]
  | 2, _ => simp [arr8]
  | 3, _ => simp [arr8]
  | 4, _ => simp [arr8]
  | 5, _ => simp [arr8]
  | 6, _ => simp [arr8]
  | 7, _ => simp [arr8]
theorem arr8_at (f : Nat → Value) {k : Nat} (hk : k < 8) : (arr8 f)[k]? = some (f k) := by
  match k, hk with
  | 0, _ => rfl
  | 1, _ => rfl
  | 2, _ => rfl
  | 3, _ => rfl
  | 4, _ => rfl
  | 5, _ => rfl
  | 6, _ => rfl
  | 7, _ => rfl
/-- The function value u is, in w', the allowance of the rule x, which lies in w. -/
def AlwL (w w' : World) (u : Value) (x : Rlt) : Prop := ∃ (x0 : Option Addr) (n0 c0 : Nat) (x1 : Option Addr) (n1 c1 : Nat), AlwV w' u x0 n0 c0 x1 n1 c1 x ∧ kRl.At w (.agg #[.slice x0 n0 c0, .slice x1 n1 c1]) x
theorem AlwL.on {w w1 w2 : World} {u : Value} {x : Rlt} (h : AlwL w w1 u x) (hb : Below w1.heap.size w1 w2) : AlwL w w2 u x := by
  obtain ⟨x0, n0, c0, x1, n1, c1, a, b⟩ := h
  exact ⟨x0, n0, c0, x1, n1, c1, a.on hb, b⟩
theorem AlwL.set {w w1 : World} {u : Value} {x : Rlt} {g i : Nat} {cs : Array Value} {t : TypeId} (h : AlwL w w1 u x) (hg : Ret.Blk w1 g cs t) (ht : t ≠ 31) (v : Value) : AlwL w (w1.setCell ⟨g, i, none⟩ v) u x := by
  obtain ⟨x0, n0, c0, x1, n1, c1, a, b⟩ := h
  exact ⟨x0, n0, c0, x1, n1, c1, a.set hg ht v, b⟩
theorem AlwL.alw {w w1 : World} {u : Value} {x : Rlt} (h : AlwL w w1 u x) (hb : Below w.heap.size w w1) : Alw w1 u x := by
  obtain ⟨x0, n0, c0, x1, n1, c1, a, b⟩ := h
  exact a.alw (b.on hb)
theorem aggA8 : Ret.AggOf Try.prog 74 8 := ⟨by kernel_rfl, by kernel_rfl⟩
set_option maxHeartbeats 4000000 in
theorem allowancesOf (V : Value) (l : List Rlt) (w : World) (h : kLRl.At w V l) (hl : l.length ≤ 8) (hp : ∀ x ∈ l, wtRl x ≤ 9000000) :
    Calls Try.prog 52 #[V] w fun e w' => ∃ f : Nat → Value, e = .returned (.agg #[f 0, f 1, f 2, f 3, f 4, f 5, f 6, f 7]) ∧ (∀ j, (f j).oneCell' = true) ∧ (∀ j, j < l.length → Alw w' (f j) (nth l j)) ∧ Below w.heap.size w w' := by
  obtain ⟨ad, n, cap, L, rfl, hn, ht, hh, hel⟩ := kLRl_at h
  have hlen : l.length = n := by rw [← ht, List.length_map]; exact hn.symm
  rw [hlen] at hl
  have HN := Lib.hid hn; have HT := Lib.hid ht; have HH := Lib.hid hh; have HEL := Lib.hid hel; have HP := Lib.hid hp; have HLEN := Lib.hid hlen
  have hb0 := (Below.refl w.heap.size w).alloc (Nat.le_refl _) (.cells (arr8 fun _ => .nilFunc) 74)
  have hb1 := (Below.refl _ (w.alloc (.cells (arr8 fun _ => .nilFunc) 74))).alloc (Nat.le_refl _) (.cells (arr8 fun _ => .nilFunc) 74)
  have HB0 := Lib.hid (hb0.alloc (by simp) (.cells (arr8 fun _ => .nilFunc) 74))
  have HX0 := Lib.hid ((Ret.Blk.new w (arr8 fun _ => .nilFunc) 74).on hb1)
  have HY0 := Lib.hid (Ret.Blk.new' (w := w.alloc (.cells (arr8 fun _ => .nilFunc) 74)) (n := w.heap.size + 1) (arr8 fun _ => .nilFunc) 74 (by simp))
  clear hn h hh hp ht hel hlen hb0 hb1
  go_enter Try.func52, Try.ntmps52
  go_wp2
  go_loopw [9] (fun i wr => ∃ (k : Nat) (f : Nat → Value), k ≤ n ∧ i = .int .i64 k ∧ Hid (∀ j, (f j).oneCell' = true) ∧ Hid (∀ j, j < k → AlwL w wr (f j) (nth l j)) ∧ Hid (Ret.Blk wr w.heap.size (arr8 fun _ => .nilFunc) 74) ∧ Hid (Ret.Blk wr (w.heap.size + 1) (arr8 f) 74) ∧ Hid (Below w.heap.size w wr)) (fun i _ => n - (intOf i).toNat)
  case atStart => exact ⟨0, fun _ => .nilFunc, Nat.zero_le _, rfl, Lib.hid (fun _ => rfl), Lib.hid (fun j hj => absurd hj (by omega)), HX0, HY0, HB0⟩
  case round =>
    obtain ⟨k, f, hk, rfl, h1c, ha, hx, hy, hb⟩ := hrel
    by_cases hlt : k < n
    · have hlen := HN.out
      obtain ⟨b, off, x0, n0, c0, x1, n1, c1, rfl, -, hc0, hc1, hA⟩ := kLRl_elem HH.out HEL.out (j := k) (by omega)
      have hc0 := (hb.out.cell (Ret.cell_lt hc0)).trans hc0
      have hc1 := (hb.out.cell (Ret.cell_lt hc1)).trans hc1
      have hpt : nth l k = kRl.strip (nth L k) := by rw [← HT.out, nth_map _ (by omega)]
      have hps := HP.out (nth l k) (nth_mem (by have := HLEN.out; omega))
      rw [← hpt] at hA
      have hal := (Below.refl wr.heap.size wr).alloc (Nat.le_refl _) (.cells #[.slice x0 n0 c0, .slice x1 n1 c1] 31)
      have HA0 := Lib.hid hA; have HPS := Lib.hid hps
      have HBA := Lib.hid (hb.out.trans (hal.mono hb.out.size))
      have HA := Lib.hid (hA.on HBA.out)
      replace hx := Lib.hid (hx.out.on hal); replace hy := Lib.hid (hy.out.on hal)
      replace ha := Lib.hid (show ∀ j, j < k → AlwL w (wr.alloc (.cells #[.slice x0 n0 c0, .slice x1 n1 c1] 31)) (f j) (nth l j) from fun j hj => (ha.out j hj).on hal)
      clear hlen hpt hps hA hal
      go_wp2_with fail
      refine (allowanceOfV x0 n0 c0 x1 n1 c1 (nth l k) _ HA.out HPS.out).mono ?_
      rintro e w1 ⟨fn, cp, rfl, hu, hb1⟩
      have HU := Lib.hid hu
      have H1C := Lib.hid (show ∀ j, (if j = k then Value.func fn #[] cp else f j).oneCell' = true from fun j => by by_cases hj : j = k; rw [if_pos hj]; rfl; rw [if_neg hj]; exact h1c.out j)
      have HB1 := Lib.hid (HBA.out.trans (hb1.mono HBA.out.size))
      replace hx := Lib.hid (hx.out.on hb1); replace hy := Lib.hid (hy.out.on hb1)
      replace ha := Lib.hid (show ∀ j, j < k → AlwL w w1 (f j) (nth l j) from fun j hj => (ha.out j hj).on hb1)
      clear hb1 hc0 hc1 hu
      have hk8 : k < 8 := by omega
      have q1 : w1.cell? ⟨w.heap.size + 1, k, none⟩ = some (f k) := (hy.out.cell k).trans (arr8_at f hk8)
      have q2 : w1.frozen? ⟨w.heap.size + 1, k, none⟩ = false := hy.out.frozen k
      have HY := Lib.hid (show Ret.Blk (w1.setCell ⟨w.heap.size + 1, k, none⟩ (.func fn #[] cp)) (w.heap.size + 1) (arr8 fun j => if j = k then (.func fn #[] cp) else f j) 74 by have := hy.out.set k (.func fn #[] cp); rwa [arr8_set f hk8] at this)
      have HX := Lib.hid (show Ret.Blk (w1.setCell ⟨w.heap.size + 1, k, none⟩ (.func fn #[] cp)) w.heap.size (arr8 fun _ => .nilFunc) 74 from hx.out.other (by simp) (.func fn #[] cp))
      have HB2 := Lib.hid (show Below w.heap.size w (w1.setCell ⟨w.heap.size + 1, k, none⟩ (.func fn #[] cp)) from HB1.out.setCell (p := ⟨w.heap.size + 1, k, none⟩) (by simp) (.func fn #[] cp))
      have HM := Lib.hid (show ∀ j, j < k + 1 → AlwL w (w1.setCell ⟨w.heap.size + 1, k, none⟩ (.func fn #[] cp)) (if j = k then (.func fn #[] cp) else f j) (nth l j) from fun j hj => by
        by_cases hjk : j = k
        · rw [if_pos hjk, hjk]; exact ⟨_, _, _, _, _, _, HU.out.set hy.out (by decide) (.func fn #[] cp), HA0.out⟩
        · rw [if_neg hjk]; exact (ha.out j (by omega)).set hy.out (by decide) (.func fn #[] cp))
      go_wp2_with fail
      go_roundw
      case rel => exact ⟨k + 1, _, by omega, by go_num, H1C, HM, HX, HY, HB2⟩
      case measure => simp [intOf]; omega
    · obtain rfl : k = n := by omega
      clear hlt
      have hs : ∀ (j : Nat) (a : Addr) (m : Mode) (w : World), (store a (f j) m).run Try.prog w = stored Try.prog w a (f j) m := fun j a m w => run_store Try.prog w a (f j) m (h1c.out j)
      obtain ⟨q0, q1, q2, q3, q4, q5, q6, q7⟩ : wr.cell? ⟨w.heap.size + 1, 0, none⟩ = some (f 0) ∧ wr.cell? ⟨w.heap.size + 1, 1, none⟩ = some (f 1) ∧ wr.cell? ⟨w.heap.size + 1, 2, none⟩ = some (f 2) ∧ wr.cell? ⟨w.heap.size + 1, 3, none⟩ = some (f 3) ∧ wr.cell? ⟨w.heap.size + 1, 4, none⟩ = some (f 4) ∧ wr.cell? ⟨w.heap.size + 1, 5, none⟩ = some (f 5) ∧ wr.cell? ⟨w.heap.size + 1, 6, none⟩ = some (f 6) ∧ wr.cell? ⟨w.heap.size + 1, 7, none⟩ = some (f 7) := ⟨hy.out.cell 0, hy.out.cell 1, hy.out.cell 2, hy.out.cell 3, hy.out.cell 4, hy.out.cell 5, hy.out.cell 6, hy.out.cell 7⟩
      have HX8 := Lib.hid (show ∀ v : Nat → Value, Ret.Blk ((((((((wr.setCell ⟨w.heap.size, 0, none⟩ (v 0)).setCell ⟨w.heap.size, 1, none⟩ (v 1)).setCell ⟨w.heap.size, 2, none⟩ (v 2)).setCell ⟨w.heap.size, 3, none⟩ (v 3)).setCell ⟨w.heap.size, 4, none⟩ (v 4)).setCell ⟨w.heap.size, 5, none⟩ (v 5)).setCell ⟨w.heap.size, 6, none⟩ (v 6)).setCell ⟨w.heap.size, 7, none⟩ (v 7)) w.heap.size (arr8 v) 74 from fun v => by
        have := (((((((hx.out.set 0 (v 0)).set 1 (v 1)).set 2 (v 2)).set 3 (v 3)).set 4 (v 4)).set 5 (v 5)).set 6 (v 6)).set 7 (v 7)
        simpa [arr8] using this)
      have p0 : wr.cell? ⟨w.heap.size, 0, none⟩ = some .nilFunc := hx.out.cell 0
      have p1 : wr.cell? ⟨w.heap.size, 1, none⟩ = some .nilFunc := hx.out.cell 1
      have p2 : wr.cell? ⟨w.heap.size, 2, none⟩ = some .nilFunc := hx.out.cell 2
      have p3 : wr.cell? ⟨w.heap.size, 3, none⟩ = some .nilFunc := hx.out.cell 3
      have p4 : wr.cell? ⟨w.heap.size, 4, none⟩ = some .nilFunc := hx.out.cell 4
      have p5 : wr.cell? ⟨w.heap.size, 5, none⟩ = some .nilFunc := hx.out.cell 5
      have p6 : wr.cell? ⟨w.heap.size, 6, none⟩ = some .nilFunc := hx.out.cell 6
      have p7 : wr.cell? ⟨w.heap.size, 7, none⟩ = some .nilFunc := hx.out.cell 7
      have z0 := hx.out.frozen 0; have z1 := hx.out.frozen 1; have z2 := hx.out.frozen 2; have z3 := hx.out.frozen 3; have z4 := hx.out.frozen 4; have z5 := hx.out.frozen 5; have z6 := hx.out.frozen 6; have z7 := hx.out.frozen 7
      go_wp2_with fail
      have b0 := hx.out; have b1 := b0.set 0 (f 0); have b2 := b1.set 1 (f 1); have b3 := b2.set 2 (f 2); have b4 := b3.set 3 (f 3); have b5 := b4.set 4 (f 4); have b6 := b5.set 5 (f 5); have b7 := b6.set 6 (f 6)
      have le : w.heap.size ≤ w.heap.size := Nat.le_refl _
      have hz := (((((((hb.out.setCell (p := ⟨w.heap.size, 0, none⟩) le (f 0)).setCell (p := ⟨w.heap.size, 1, none⟩) le (f 1)).setCell (p := ⟨w.heap.size, 2, none⟩) le (f 2)).setCell (p := ⟨w.heap.size, 3, none⟩) le (f 3)).setCell (p := ⟨w.heap.size, 4, none⟩) le (f 4)).setCell (p := ⟨w.heap.size, 5, none⟩) le (f 5)).setCell (p := ⟨w.heap.size, 6, none⟩) le (f 6)).setCell (p := ⟨w.heap.size, 7, none⟩) le (f 7)
      refine bodyPost_ret (Ret.results_c rfl _ _ w.heap.size [f 0, f 1, f 2, f 3, f 4, f 5, f 6, f 7] rfl aggA8 (HX8.out f).cells) rfl ?_
      exact ⟨f, rfl, h1c.out, fun j hj => AlwL.alw (((((((((ha.out j (by have := HLEN.out; omega)).set b0 (by decide) _).set b1 (by decide) _).set b2 (by decide) _).set b3 (by decide) _).set b4 (by decide) _).set b5 (by decide) _).set b6 (by decide) _).set b7 (by decide) _) hz, hz⟩
end Go.Proofs.Ytkojeajjappchaa.Row
