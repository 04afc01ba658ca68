/- Contracts and mathematics, joined: RuleA, RuleC, RuleG, RuleH, RuleF. No conditions but those that each states. -/
import Derived.WalkKit
import Derived.Deep.RegionHeld3
import Derived.Laws.EntriesVeiled
import Derived.Test.YtlhchmjnaanjpaaGreatDoorB24
import Derived.RangeFuncNested
import Derived.RangeFuncBound
import Derived.RangeFuncCalls
import Derived.RangeFuncLeaves
import Derived.Shelf.Abstract
import Derived.Shelf.RegionOpen
import Derived.OwnWalkIn
import Derived.TacticsInMore
import Derived.LoopNIn
import Derived.LoopIn
/- The program's chapter 10: allowancesOf, an array of function values. No conditions but that lengths fit. -/
namespace Go.Proofs.YtlhchmjnaanjpaaGreatDoor.Row
open Go.ChangeShapes Go.WideShapes Go.ChangeAt Go.RowKit Go.Instr
set_option linter.unusedVariables false
set_option maxRecDepth 100000
def arr8 (f : Nat → Value) : Array Value := #[f 0, f 1, f 2, f 3, f 4, f 5, f 6, f 7]
theorem arr8_set (f : Nat → Value) {k : Nat} (hk : k < 8) (u : Value) : (arr8 f).setIfInBounds k u = arr8 (fun j => if j = k then u else f j) := by
  match k, hk with
  | 0, _ => simp [arr8]
  | 1, _ => simp [arr8]
  | 2, _ => simp [arr8]
  | 3, _ => simp [arr8]
  | 4, _ => simp [arr8]
  | 5, _ => simp [arr8]
  | 6, _ => simp [arr8]
  | 7, _ => simp [arr8]
theorem arr8_at (f : Nat → Value) {k : Nat} (hk : k < 8) : (arr8 f)[k]? = some (f k) := by
  match k, hk with
  | 0, _ => rfl
  | 1, _ => rfl
  | 2, _ => rfl
  | 3, _ => rfl
  | 4, _ => rfl
  | 5, _ => rfl
  | 6, _ => rfl
  | 7, _ => rfl
def AlwL (w w' : World) (u : Value) (x : Rlt) : Prop := ∃ (x0 : Option Addr) (n0 c0 : Nat) (x1 : Option Addr) (n1 c1 : Nat), AlwV w' u x0 n0 c0 x1 n1 c1 x ∧ kRl.At w (.agg #[.slice x0 n0 c0, .slice x1 n1 c1]) x
theorem AlwL.on {w w1 w2 : World} {u : Value} {x : Rlt} (h : AlwL w w1 u x) (hb : Below w1.heap.size w1 w2) : AlwL w w2 u x := by
  obtain ⟨x0, n0, c0, x1, n1, c1, a, b⟩ := h
  exact ⟨x0, n0, c0, x1, n1, c1, a.on hb, b⟩
theorem AlwL.set {w w1 : World} {u : Value} {x : Rlt} {g i : Nat} {cs : Array Value} {t : TypeId} (h : AlwL w w1 u x) (hg : Ret.Blk w1 g cs t) (ht : t ≠ 131) (v : Value) : AlwL w (w1.setCell ⟨g, i, none⟩ v) u x := by
  obtain ⟨x0, n0, c0, x1, n1, c1, a, b⟩ := h
  exact ⟨x0, n0, c0, x1, n1, c1, a.set hg ht v, b⟩
theorem AlwL.alw {w w1 : World} {u : Value} {x : Rlt} (h : AlwL w w1 u x) (hb : Below w.heap.size w w1) : Alw w1 u x := by
  obtain ⟨x0, n0, c0, x1, n1, c1, a, b⟩ := h
  exact a.alw (b.on hb)
theorem aggA8 : Ret.AggOf Tryz.prog 143 8 := ⟨by kernel_rfl, by kernel_rfl⟩
set_option maxHeartbeats 4000000 in
theorem allowancesOf (V : Value) (l : List Rlt) (w : World) (h : kLRl.At w V l) (hl : l.length ≤ 8) (hp : ∀ x ∈ l, wtRl x ≤ 9000000) :
    Calls Tryz.prog 116 #[V] w fun e w' => ∃ f : Nat → Value, e = .returned (.agg #[f 0, f 1, f 2, f 3, f 4, f 5, f 6, f 7]) ∧ (∀ j, (f j).oneCell' = true) ∧ (∀ j, j < l.length → Alw w' (f j) (nth l j)) ∧ Below w.heap.size w w' := by
  obtain ⟨ad, n, cap, L, rfl, hn, ht, hh, hel⟩ := kLRl_at h
  have hlen : l.length = n := by rw [← ht, List.length_map]; exact hn.symm
  rw [hlen] at hl
  have HN := Lib.hid hn; have HT := Lib.hid ht; have HH := Lib.hid hh; have HEL := Lib.hid hel; have HP := Lib.hid hp; have HLEN := Lib.hid hlen
  have hb0 := (Below.refl w.heap.size w).alloc (Nat.le_refl _) (.cells (arr8 fun _ => .nilFunc) 143)
  have hb1 := (Below.refl _ (w.alloc (.cells (arr8 fun _ => .nilFunc) 143))).alloc (Nat.le_refl _) (.cells (arr8 fun _ => .nilFunc) 143)
  have HB0 := Lib.hid (hb0.alloc (by simp) (.cells (arr8 fun _ => .nilFunc) 143))
  have HX0 := Lib.hid ((Ret.Blk.new w (arr8 fun _ => .nilFunc) 143).on hb1)
  have HY0 := Lib.hid (Ret.Blk.new' (w := w.alloc (.cells (arr8 fun _ => .nilFunc) 143)) (n := w.heap.size + 1) (arr8 fun _ => .nilFunc) 143 (by simp))
  clear hn h hh hp ht hel hlen hb0 hb1
  go_enter Tryz.func116, Tryz.ntmps116
  go_wp2
  go_loopw [9] (fun i wr => ∃ (k : Nat) (f : Nat → Value), k ≤ n ∧ i = .int .i64 k ∧ Hid (∀ j, (f j).oneCell' = true) ∧ Hid (∀ j, j < k → AlwL w wr (f j) (nth l j)) ∧ Hid (Ret.Blk wr w.heap.size (arr8 fun _ => .nilFunc) 143) ∧ Hid (Ret.Blk wr (w.heap.size + 1) (arr8 f) 143) ∧ Hid (Below w.heap.size w wr)) (fun i _ => n - (intOf i).toNat)
  case atStart => exact ⟨0, fun _ => .nilFunc, Nat.zero_le _, rfl, Lib.hid (fun _ => rfl), Lib.hid (fun j hj => absurd hj (by omega)), HX0, HY0, HB0⟩
  case round =>
    obtain ⟨k, f, hk, rfl, h1c, ha, hx, hy, hb⟩ := hrel
    by_cases hlt : k < n
    · have hlen := HN.out
      obtain ⟨b, off, x0, n0, c0, x1, n1, c1, rfl, -, hc0, hc1, hA⟩ := kLRl_elem HH.out HEL.out (j := k) (by omega)
      have hc0 := (hb.out.cell (Ret.cell_lt hc0)).trans hc0
      have hc1 := (hb.out.cell (Ret.cell_lt hc1)).trans hc1
      have hpt : nth l k = kRl.strip (nth L k) := by rw [← HT.out, nth_map _ (by omega)]
      have hps := HP.out (nth l k) (nth_mem (by have := HLEN.out; omega))
      rw [← hpt] at hA
      have hal := (Below.refl wr.heap.size wr).alloc (Nat.le_refl _) (.cells #[.slice x0 n0 c0, .slice x1 n1 c1] 131)
      have HA0 := Lib.hid hA; have HPS := Lib.hid hps
      have HBA := Lib.hid (hb.out.trans (hal.mono hb.out.size))
      have HA := Lib.hid (hA.on HBA.out)
      replace hx := Lib.hid (hx.out.on hal); replace hy := Lib.hid (hy.out.on hal)
      replace ha := Lib.hid (show ∀ j, j < k → AlwL w (wr.alloc (.cells #[.slice x0 n0 c0, .slice x1 n1 c1] 131)) (f j) (nth l j) from fun j hj => (ha.out j hj).on hal)
      clear hlen hpt hps hA hal
      go_wp2_with fail
      refine (allowanceOfV x0 n0 c0 x1 n1 c1 (nth l k) _ HA.out HPS.out).mono ?_
      rintro e w1 ⟨fn, cp, rfl, hu, hb1⟩
      have HU := Lib.hid hu
      have H1C := Lib.hid (show ∀ j, (if j = k then Value.func fn #[] cp else f j).oneCell' = true from fun j => by by_cases hj : j = k; rw [if_pos hj]; rfl; rw [if_neg hj]; exact h1c.out j)
      have HB1 := Lib.hid (HBA.out.trans (hb1.mono HBA.out.size))
      replace hx := Lib.hid (hx.out.on hb1); replace hy := Lib.hid (hy.out.on hb1)
      replace ha := Lib.hid (show ∀ j, j < k → AlwL w w1 (f j) (nth l j) from fun j hj => (ha.out j hj).on hb1)
      clear hb1 hc0 hc1 hu
      have hk8 : k < 8 := by omega
      have q1 : w1.cell? ⟨w.heap.size + 1, k, none⟩ = some (f k) := (hy.out.cell k).trans (arr8_at f hk8)
      have q2 : w1.frozen? ⟨w.heap.size + 1, k, none⟩ = false := hy.out.frozen k
      have HY := Lib.hid (show Ret.Blk (w1.setCell ⟨w.heap.size + 1, k, none⟩ (.func fn #[] cp)) (w.heap.size + 1) (arr8 fun j => if j = k then (.func fn #[] cp) else f j) 143 by have := hy.out.set k (.func fn #[] cp); rwa [arr8_set f hk8] at this)
      have HX := Lib.hid (show Ret.Blk (w1.setCell ⟨w.heap.size + 1, k, none⟩ (.func fn #[] cp)) w.heap.size (arr8 fun _ => .nilFunc) 143 from hx.out.other (by simp) (.func fn #[] cp))
      have HB2 := Lib.hid (show Below w.heap.size w (w1.setCell ⟨w.heap.size + 1, k, none⟩ (.func fn #[] cp)) from HB1.out.setCell (p := ⟨w.heap.size + 1, k, none⟩) (by simp) (.func fn #[] cp))
      have HM := Lib.hid (show ∀ j, j < k + 1 → AlwL w (w1.setCell ⟨w.heap.size + 1, k, none⟩ (.func fn #[] cp)) (if j = k then (.func fn #[] cp) else f j) (nth l j) from fun j hj => by
        by_cases hjk : j = k
        · rw [if_pos hjk, hjk]; exact ⟨_, _, _, _, _, _, HU.out.set hy.out (by decide) (.func fn #[] cp), HA0.out⟩
        · rw [if_neg hjk]; exact (ha.out j (by omega)).set hy.out (by decide) (.func fn #[] cp))
      go_wp2_with fail
      go_roundw
      case rel => exact ⟨k + 1, _, by omega, by go_num, H1C, HM, HX, HY, HB2⟩
      case measure => simp [intOf]; omega
    · obtain rfl : k = n := by omega
      clear hlt
      have hs : ∀ (j : Nat) (a : Addr) (m : Mode) (w : World), (store a (f j) m).run Tryz.prog w = stored Tryz.prog w a (f j) m := fun j a m w => run_store Tryz.prog w a (f j) m (h1c.out j)
      obtain ⟨q0, q1, q2, q3, q4, q5, q6, q7⟩ : wr.cell? ⟨w.heap.size + 1, 0, none⟩ = some (f 0) ∧ wr.cell? ⟨w.heap.size + 1, 1, none⟩ = some (f 1) ∧ wr.cell? ⟨w.heap.size + 1, 2, none⟩ = some (f 2) ∧ wr.cell? ⟨w.heap.size + 1, 3, none⟩ = some (f 3) ∧ wr.cell? ⟨w.heap.size + 1, 4, none⟩ = some (f 4) ∧ wr.cell? ⟨w.heap.size + 1, 5, none⟩ = some (f 5) ∧ wr.cell? ⟨w.heap.size + 1, 6, none⟩ = some (f 6) ∧ wr.cell? ⟨w.heap.size + 1, 7, none⟩ = some (f 7) := ⟨hy.out.cell 0, hy.out.cell 1, hy.out.cell 2, hy.out.cell 3, hy.out.cell 4, hy.out.cell 5, hy.out.cell 6, hy.out.cell 7⟩
      have HX8 := Lib.hid (show ∀ v : Nat → Value, Ret.Blk ((((((((wr.setCell ⟨w.heap.size, 0, none⟩ (v 0)).setCell ⟨w.heap.size, 1, none⟩ (v 1)).setCell ⟨w.heap.size, 2, none⟩ (v 2)).setCell ⟨w.heap.size, 3, none⟩ (v 3)).setCell ⟨w.heap.size, 4, none⟩ (v 4)).setCell ⟨w.heap.size, 5, none⟩ (v 5)).setCell ⟨w.heap.size, 6, none⟩ (v 6)).setCell ⟨w.heap.size, 7, none⟩ (v 7)) w.heap.size (arr8 v) 143 from fun v => by
        have := (((((((hx.out.set 0 (v 0)).set 1 (v 1)).set 2 (v 2)).set 3 (v 3)).set 4 (v 4)).set 5 (v 5)).set 6 (v 6)).set 7 (v 7)
        simpa [arr8] using this)
      have p0 : wr.cell? ⟨w.heap.size, 0, none⟩ = some .nilFunc := hx.out.cell 0
      have p1 : wr.cell? ⟨w.heap.size, 1, none⟩ = some .nilFunc := hx.out.cell 1
      have p2 : wr.cell? ⟨w.heap.size, 2, none⟩ = some .nilFunc := hx.out.cell 2
      have p3 : wr.cell? ⟨w.heap.size, 3, none⟩ = some .nilFunc := hx.out.cell 3
      have p4 : wr.cell? ⟨w.heap.size, 4, none⟩ = some .nilFunc := hx.out.cell 4
      have p5 : wr.cell? ⟨w.heap.size, 5, none⟩ = some .nilFunc := hx.out.cell 5
      have p6 : wr.cell? ⟨w.heap.size, 6, none⟩ = some .nilFunc := hx.out.cell 6
      have p7 : wr.cell? ⟨w.heap.size, 7, none⟩ = some .nilFunc := hx.out.cell 7
      have z0 := hx.out.frozen 0; have z1 := hx.out.frozen 1; have z2 := hx.out.frozen 2; have z3 := hx.out.frozen 3; have z4 := hx.out.frozen 4; have z5 := hx.out.frozen 5; have z6 := hx.out.frozen 6; have z7 := hx.out.frozen 7
      go_wp2_with fail
      have b0 := hx.out; have b1 := b0.set 0 (f 0); have b2 := b1.set 1 (f 1); have b3 := b2.set 2 (f 2); have b4 := b3.set 3 (f 3); have b5 := b4.set 4 (f 4); have b6 := b5.set 5 (f 5); have b7 := b6.set 6 (f 6)
      have le : w.heap.size ≤ w.heap.size := Nat.le_refl _
      have hz := (((((((hb.out.setCell (p := ⟨w.heap.size, 0, none⟩) le (f 0)).setCell (p := ⟨w.heap.size, 1, none⟩) le (f 1)).setCell (p := ⟨w.heap.size, 2, none⟩) le (f 2)).setCell (p := ⟨w.heap.size, 3, none⟩) le (f 3)).setCell (p := ⟨w.heap.size, 4, none⟩) le (f 4)).setCell (p := ⟨w.heap.size, 5, none⟩) le (f 5)).setCell (p := ⟨w.heap.size, 6, none⟩) le (f 6)).setCell (p := ⟨w.heap.size, 7, none⟩) le (f 7)
      refine bodyPost_ret (Ret.results_c rfl _ _ w.heap.size [f 0, f 1, f 2, f 3, f 4, f 5, f 6, f 7] rfl aggA8 (HX8.out f).cells) rfl ?_
      exact ⟨f, rfl, h1c.out, fun j hj => AlwL.alw (((((((((ha.out j (by have := HLEN.out; omega)).set b0 (by decide) _).set b1 (by decide) _).set b2 (by decide) _).set b3 (by decide) _).set b4 (by decide) _).set b5 (by decide) _).set b6 (by decide) _).set b7 (by decide) _) hz, hz⟩
end Go.Proofs.YtlhchmjnaanjpaaGreatDoor.Row
/- slices.Chunk over a list of rules, by chunks of eight: what its iterator hands to a loop. No conditions but that lengths fit. -/
namespace Go.Proofs.YtlhchmjnaanjpaaGreatDoor.Row
open Go.ChangeShapes Go.WideShapes Go.ChangeAt Go.RowKit Go.Instr
open Go.Shelf
set_option linter.unusedVariables false
attribute [local go_sem] Oper.semAt_some
set_option maxRecDepth 100000
def chunkV (b off n k : Nat) : Value := .slice (some ⟨b, off + 8 * k * 2, none⟩) (min 8 (n - 8 * k)) (min 8 (n - 8 * k))
def KpC (n₀ Bs Bn : Nat) (W W' : World) : Prop := Below n₀ W W' ∧ W'.heap[Bs]? = W.heap[Bs]? ∧ W'.heap[Bn]? = W.heap[Bn]?
theorem kpC_t {n₀ Bs Bn : Nat} {X Y Z : World} (h : KpC n₀ Bs Bn X Y) (k : KpC n₀ Bs Bn Y Z) : KpC n₀ Bs Bn X Z := ⟨h.1.trans k.1, k.2.1.trans h.2.1, k.2.2.trans h.2.2⟩
theorem kpC_b {n₀ Bs Bn : Nat} {w : World} (hn : n₀ ≤ w.heap.size) (hs : Bs < w.heap.size) (hn2 : Bn < w.heap.size) (W : World) (l : Nat) (o o' : Obj) (hl : w.heap.size ≤ l) (h : W.heap[l]? = some o) (h1 : o.isCells = false) (h2 : o.isWalk = false) : KpC n₀ Bs Bn W (W.putObj l o') :=
  ⟨belowK_b hn W l o o' hl h h1 h2, World.putObj_heap_other (by omega), World.putObj_heap_other (by omega)⟩
theorem cell_heap {W W' : World} {b i : Nat} (h : W'.heap[b]? = W.heap[b]?) : W'.cell? ⟨b, i, none⟩ = W.cell? ⟨b, i, none⟩ := by simp [World.cell?, h]
theorem KpC.of {n₀ Bs Bn : Nat} {W W' : World} (h : Below W.heap.size W W') (hn : n₀ ≤ W.heap.size) (hs : Bs < W.heap.size) (hb : Bn < W.heap.size) : KpC n₀ Bs Bn W W' := ⟨h.mono hn, h.block _ hs, h.block _ hb⟩
theorem KpC.set {n₀ Bs Bn : Nat} {W W' : World} (h : KpC n₀ Bs Bn W W') {g i : Nat} (hn : n₀ ≤ g) (hs : Bs ≠ g) (hb : Bn ≠ g) (v : Value) : KpC n₀ Bs Bn W (W'.setCell ⟨g, i, none⟩ v) :=
  ⟨h.1.setCell (p := ⟨g, i, none⟩) hn v, (Go.RowKit.Below.heap_setCell W' ⟨g, i, none⟩ v Bs hs).trans h.2.1, (Go.RowKit.Below.heap_setCell W' ⟨g, i, none⟩ v Bn hb).trans h.2.2⟩
set_option maxHeartbeats 4000000 in
theorem chunk1_in (n : Nat) (hn : 1 ≤ n) (l Bs Bn b off len cap : Nat) (hlc : len ≤ cap) (hl9 : len ≤ 9000000) (J Jx : List Nat → World → Prop) (hJd : ∀ s W, J s W → J s W.drew) (n₀ : Nat)
    (hY : ∀ pre x W, J pre W → pre.length < len → YieldAt Fence.wide (n - 1) Tryz.prog l #[chunkV b off len x] W fun e W' =>
      (e = .returned (.bool true) ∧ J (pre ++ [x]) W' ∧ KpC n₀ Bs Bn W W') ∨ (e = .returned (.bool false) ∧ Jx (pre ++ [x]) W'))
    (W : World) (hBs : W.cell? ⟨Bs, 0, none⟩ = some (.slice (some ⟨b, off, none⟩) len cap)) (hBn : W.cell? ⟨Bn, 0, none⟩ = some (.int .i64 8)) (h0 : J [] W) :
    CallsIn Fence.wide n Tryz.prog 149 #[.func (.yield l) #[] #[], .pointer (some ⟨Bs, 0, none⟩), .pointer (some ⟨Bn, 0, none⟩)] W fun e W' => (∃ v, e = .returned v) ∧
      ((∃ m, len ≤ 8 * m ∧ J (List.range m) W') ∨ (∃ m, 8 * m < len ∧ Jx (List.range (m + 1)) W')) := by
  refine callsIn_of_wp Tryz.func149 rfl trivial ?_ rfl
  simp only [Tryz.ntmps149, List.size_toArray, List.length_cons, List.length_nil, Nat.reduceAdd, Nat.reduceSub, Array.replicate_succ, Array.replicate_zero, List.push_toArray, List.append_toArray, List.nil_append, List.cons_append]
  gi_wp2
  gi_loopw [4] (fun iv wr => ∃ i k : Nat, Hid (i = 8 * k) ∧ i < len + 8 ∧ iv = .int .i64 i ∧ J (List.range k) wr ∧ wr.cell? ⟨Bs, 0, none⟩ = some (.slice (some ⟨b, off, none⟩) len cap) ∧ wr.cell? ⟨Bn, 0, none⟩ = some (.int .i64 8)) (fun iv _ => len + 8 - (intOf iv).toNat)
  case atStart => exact ⟨0, 0, Lib.hid rfl, by omega, rfl, h0, hBs, hBn⟩
  case round =>
    obtain ⟨i, k, hi, hi8, rfl, hJs, q0, q1⟩ := hrel
    by_cases hlt : i < len
    · have hkl : k < len := by have := hi.out; omega
      have hmx : Tryz.prog.follows .mixedOrders = true := by kernel_rfl
      gi_wp2
      gi_region
      have hJd := hJd _ _ hJs
      obtain ⟨e, he⟩ : ∃ e, min 8 (len - i) = e := ⟨_, rfl⟩
      have hme : (min 8 ((len - i : Nat) : Int)) = (e : Int) := by omega
      have hme2 : (if ((len - i : Nat) : Int) < 8 then ((len - i : Nat) : Int) else 8) = (e : Int) := by split <;> omega
      first | rw [hme] | rw [hme2]
      have he1 : i + e ≤ len := by omega
      have he2 : 1 ≤ e := by omega
      have he3 : e ≤ 8 := by omega
      have HE : Hid (min 8 (len - i) = e) := Lib.hid he
      obtain ⟨fn, tmps, assign, body, hy, hR⟩ := hY _ k wr.drew hJd (by rw [List.length_range]; exact hkl)
      have hcv : chunkV b off len k = .slice (some ⟨b, off + i * 2, none⟩) e e := by unfold chunkV; rw [← hi.out, he]
      rw [hcv] at hy
      clear hcv hkl hme hme2 he
      have q0 : wr.drew.cell? ⟨Bs, 0, none⟩ = _ := q0
      have q1 : wr.drew.cell? ⟨Bn, 0, none⟩ = _ := q1
      gi_wp2
      refine hR.mono ?_
      rintro e' W3 (⟨rfl, hJ3, hk3⟩ | ⟨rfl, hJx3⟩)
      · have q0 := (cell_heap hk3.2.1).trans q0
        have q1 := (cell_heap hk3.2.2).trans q1
        gi_wp2
        go_roundw
        case rel => exact ⟨i + 8, k + 1, Lib.hid (by have := hi.out; omega), by omega, by go_num, by rw [List.range_succ]; exact hJ3, q0, q1⟩
        case measure => simp [intOf]; omega
      · gi_wp2
        refine bodyPost_ret (results_none rfl _ _ _) rfl ?_
        exact ⟨⟨_, rfl⟩, .inr ⟨k, by have := hi.out; omega, by rw [List.range_succ]; exact hJx3⟩⟩
    · gi_wp2
      go_end0
      exact ⟨⟨_, rfl⟩, .inl ⟨k, by have := hi.out; omega, hJs⟩⟩
set_option maxHeartbeats 4000000 in
theorem chunk1_nil (n : Nat) (l Bs Bn cap : Nat) (ad : Option Addr) (J : List Nat → World → Prop) (W : World) (hBs : W.cell? ⟨Bs, 0, none⟩ = some (.slice ad 0 cap)) (h0 : J [] W) :
    CallsIn Fence.wide n Tryz.prog 149 #[.func (.yield l) #[] #[], .pointer (some ⟨Bs, 0, none⟩), .pointer (some ⟨Bn, 0, none⟩)] W fun e W' => (∃ v, e = .returned v) ∧ J [] W' := by
  refine callsIn_of_wp Tryz.func149 rfl trivial ?_ rfl
  simp only [Tryz.ntmps149, List.size_toArray, List.length_cons, List.length_nil, Nat.reduceAdd, Nat.reduceSub, Array.replicate_succ, Array.replicate_zero, List.push_toArray, List.append_toArray, List.nil_append, List.cons_append]
  gi_wp2
  gi_loopw [4] (fun iv wr => iv = .int .i64 0 ∧ wr.cell? ⟨Bs, 0, none⟩ = some (.slice ad 0 cap) ∧ J [] wr) (fun _ _ => 0)
  case atStart => exact ⟨rfl, hBs, h0⟩
  case round =>
    obtain ⟨rfl, hBs, hJs⟩ := hrel
    gi_wp2
    go_end0
    exact ⟨⟨_, rfl⟩, hJs⟩
theorem chunk_stops (n : Nat) (hn : 1 ≤ n) (Bs Bn n₀ b off len cap : Nat) (ad : Option Addr) (hlc : len ≤ cap) (hl9 : len ≤ 9000000) (had : len = 0 ∨ ad = some ⟨b, off, none⟩) (w : World) (hBs0 : Bs < w.heap.size) (hBn0 : Bn < w.heap.size)
    (hBs : w.cell? ⟨Bs, 0, none⟩ = some (.slice ad len cap)) (hBn : w.cell? ⟨Bn, 0, none⟩ = some (.int .i64 8)) :
    SeqStopsK Fence.wide n Tryz.prog 149 #[.pointer (some ⟨Bs, 0, none⟩), .pointer (some ⟨Bn, 0, none⟩)] (fun x : Nat => #[chunkV b off len x]) (KpC n₀ Bs Bn) (fun ys => ∃ m, len ≤ 8 * m ∧ ys = List.range m) (fun pre => ∃ m, 8 * m < len ∧ pre = List.range (m + 1)) len w := fun l J Jx W hW hJ _ hY h0 => by
  have q0 := (hW.cell (p := ⟨Bs, 0, none⟩) hBs0).trans hBs
  have q1 := (hW.cell (p := ⟨Bn, 0, none⟩) hBn0).trans hBn
  by_cases hz : len = 0
  · subst hz
    exact (chunk1_nil n l Bs Bn cap ad J W q0 h0).mono fun e W' ⟨he, hj⟩ => ⟨he, .inl ⟨[], ⟨0, by omega, rfl⟩, hj⟩⟩
  · obtain rfl : ad = some ⟨b, off, none⟩ := had.resolve_left hz
    refine (chunk1_in n hn l Bs Bn b off len cap hlc hl9 J Jx (fun s W hs => hJ s W _ none hs ⟨rfl, rfl, rfl, Nat.le_refl _, fun _ _ _ => rfl⟩ (fun r e => by cases e)) n₀ hY W q0 q1 h0).mono ?_
    rintro e W' ⟨he, ⟨m, hm, hj⟩ | ⟨m, hm, hj⟩⟩
    · exact ⟨he, .inl ⟨_, ⟨m, hm, rfl⟩, hj⟩⟩
    · exact ⟨he, .inr ⟨_, ⟨m, hm, rfl⟩, hj⟩⟩
set_option maxHeartbeats 1000000 in
theorem chunkOf (x : Option Addr) (len cap : Nat) (w : World) :
    Calls Tryz.prog 115 #[.slice x len cap, .int .i64 8] w fun e w' => e = .returned (.func (.func 149) #[] #[.pointer (some ⟨w.heap.size, 0, none⟩), .pointer (some ⟨w.heap.size + 1, 0, none⟩)]) ∧ w' = (w.alloc (.cells #[.slice x len cap] 25)).alloc (.cells #[.int .i64 8] 3) := by
  have hmf : ∀ (fn : Fn) (first cap : Array Value) (w : World), (Instr.makeFunc fn first cap).run Tryz.prog w = .ok (.func fn first cap) w := fun _ _ _ _ => rfl
  go_enter Tryz.func115, Tryz.ntmps115
  go_wp2
  go_ret
  exact ⟨rfl, rfl⟩
end Go.Proofs.YtlhchmjnaanjpaaGreatDoor.Row
/- The program's chapter 10: FirstAllowingRule's call of a function value, in whatever order its loads are drawn. No conditions. -/
namespace Go.Proofs.YtlhchmjnaanjpaaGreatDoor.Row
open Go.ChangeShapes Go.WideShapes Go.ChangeAt Go.RowKit Go.Instr
open Go.Shelf
set_option linter.unusedVariables false
attribute [local go_sem] Oper.semAt_some
set_option maxRecDepth 100000
set_option maxHeartbeats 8000000 in
theorem far8n {Q : Exit → Act → World → Prop} {v0 v1 v2 v3 v6 v7 v8 v11 v12 v13 v14 v15 v16 v17 v18 v19 v20 v21 v22 v23 v24 v25 v26 v27 v28 v29 v30 v31 v32 v33 v34 : Value} {q s0 s1 g k nn cn nb cb : Nat} {xn xb : Option Addr} {w : World}  (hk : k < 8) (C0 : Hid (w.cell? ⟨s0, 0, none⟩ = some (.slice xn nn cn))) (C1 : Hid (w.cell? ⟨s1, 0, none⟩ = some (.slice xb nb cb))) (C2 : Hid (w.cell? ⟨g, k, none⟩ = some (.func (.func 167) #[] #[])))
    (hQ : ∀ (u21 u22 u23 u24 u25 : Value) (wx : World), Below w.heap.size w wx → Q .normal ⟨#[v0, v1, v2, v3, .pointer (some ⟨s0, 0, none⟩), .pointer (some ⟨s1, 0, none⟩), v6, v7, v8, .pointer (some ⟨g, 0, none⟩), .int .i64 k, v11, v12, v13, v14, v15, v16, v17, v18, v19, v20, u21, u22, u23, u24, u25, .bool false, v27, v28, v29, v30, v31, v32, v33, v34], []⟩ wx) :
    (Code.region 8 #[{ dst := some 21, op := Op.move (Operand.tmp 10), type := 3, pos := "l10_rule.go:72", after := #[], guard := none },
      { dst := some 22, op := Op.indexAddr 143 (Operand.tmp 9) (Operand.tmp 21), type := 0, pos := "l10_rule.go:72", after := #[{ on := 0, ground := Ground.data }], guard := none },
      { dst := some 23, op := Op.load 142 (Operand.tmp 22), type := 142, pos := "l10_rule.go:72", after := #[{ on := 1, ground := Ground.data }], guard := none },
      { dst := some 24, op := Op.load 32 (Operand.tmp 4), type := 32, pos := "l10_rule.go:72", after := #[], guard := none },
      { dst := some 25, op := Op.load 32 (Operand.tmp 5), type := 32, pos := "l10_rule.go:72", after := #[], guard := none },
      { dst := some 26, op := Op.call { callee := Callee.value (Operand.tmp 23), args := #[Operand.tmp 24, Operand.tmp 25], argTypes := #[32, 32] }, type := 4, pos := "l10_rule.go:72", after := #[{ on := 2, ground := Ground.data }, { on := 3, ground := Ground.data }, { on := 4, ground := Ground.data }], guard := none }] true).wpIn (Fence.wide.inRound q) (3 - 1 - 1) Tryz.prog Q ⟨#[v0, v1, v2, v3, .pointer (some ⟨s0, 0, none⟩), .pointer (some ⟨s1, 0, none⟩), v6, v7, v8, .pointer (some ⟨g, 0, none⟩), .int .i64 k, v11, v12, v13, v14, v15, v16, v17, v18, v19, v20, v21, v22, v23, v24, v25, v26, v27, v28, v29, v30, v31, v32, v33, v34], []⟩ w := by
  have HQ := Lib.hid hQ; clear hQ
  have hmx : Tryz.prog.follows .mixedOrders = true := by kernel_rfl
  have HDR := Lib.hid (show Below w.heap.size w w.drew from (Below.refl _ _).drew)
  have c0 := C0.out; have c1 := C1.out; have c2 := C2.out
  gi_region_with_o (refine ⟨trivial, ?_⟩; gi_at_call 167; refine (CallsIn.inRound q (callsIn_wide.2 (allowNo _ _ _ _ _ _ _))).mono ?_; rintro e v3 ⟨rfl, hb3⟩)
  all_goals exact HQ.out _ _ _ _ _ _ (HDR.out.trans (hb3.mono HDR.out.size))
end Go.Proofs.YtlhchmjnaanjpaaGreatDoor.Row
/- The program's chapter 10: FirstAllowingRule's call of a function value, in whatever order its loads are drawn. No conditions. -/
namespace Go.Proofs.YtlhchmjnaanjpaaGreatDoor.Row
open Go.ChangeShapes Go.WideShapes Go.ChangeAt Go.RowKit Go.Instr
open Go.Shelf
set_option linter.unusedVariables false
attribute [local go_sem] Oper.semAt_some
set_option maxRecDepth 100000
set_option maxHeartbeats 8000000 in
theorem far8y {Q : Exit → Act → World → Prop} {v0 v1 v2 v3 v6 v7 v8 v11 v12 v13 v14 v15 v16 v17 v18 v19 v20 v21 v22 v23 v24 v25 v26 v27 v28 v29 v30 v31 v32 v33 v34 : Value} {q s0 s1 g k nn cn nb cb : Nat} {xn xb : Option Addr} {w : World} {g9 : Nat} {y : Rlt} {x0 x1 : Option Addr} {n0 c0 n1 c1 : Nat} {ln lb : List ByteArray} {z : Bool} (HR : Hid (RuleAt w g9 y x0 x1 n0 c0 n1 c1)) (HZ : Hid (okR2 y ln lb = z)) (H_n : Hid (kN.At w (.agg #[.slice xn nn cn]) ln)) (H_b : Hid (kN.At w (.agg #[.slice xb nb cb]) lb)) (HP : Hid (wtRl y ≤ 9000000)) (HPN : Hid (bulk ln ≤ 9000000)) (HPB : Hid (bulk lb ≤ 9000000)) (hk : k < 8) (C0 : Hid (w.cell? ⟨s0, 0, none⟩ = some (.slice xn nn cn))) (C1 : Hid (w.cell? ⟨s1, 0, none⟩ = some (.slice xb nb cb))) (C2 : Hid (w.cell? ⟨g, k, none⟩ = some (.func (.func 168) #[] #[.pointer (some ⟨g9, 0, none⟩)])))
    (hQ : ∀ (u21 u22 u23 u24 u25 : Value) (wx : World), Below w.heap.size w wx → Q .normal ⟨#[v0, v1, v2, v3, .pointer (some ⟨s0, 0, none⟩), .pointer (some ⟨s1, 0, none⟩), v6, v7, v8, .pointer (some ⟨g, 0, none⟩), .int .i64 k, v11, v12, v13, v14, v15, v16, v17, v18, v19, v20, u21, u22, u23, u24, u25, .bool z, v27, v28, v29, v30, v31, v32, v33, v34], []⟩ wx) :
    (Code.region 8 #[{ dst := some 21, op := Op.move (Operand.tmp 10), type := 3, pos := "l10_rule.go:72", after := #[], guard := none },
      { dst := some 22, op := Op.indexAddr 143 (Operand.tmp 9) (Operand.tmp 21), type := 0, pos := "l10_rule.go:72", after := #[{ on := 0, ground := Ground.data }], guard := none },
      { dst := some 23, op := Op.load 142 (Operand.tmp 22), type := 142, pos := "l10_rule.go:72", after := #[{ on := 1, ground := Ground.data }], guard := none },
      { dst := some 24, op := Op.load 32 (Operand.tmp 4), type := 32, pos := "l10_rule.go:72", after := #[], guard := none },
      { dst := some 25, op := Op.load 32 (Operand.tmp 5), type := 32, pos := "l10_rule.go:72", after := #[], guard := none },
      { dst := some 26, op := Op.call { callee := Callee.value (Operand.tmp 23), args := #[Operand.tmp 24, Operand.tmp 25], argTypes := #[32, 32] }, type := 4, pos := "l10_rule.go:72", after := #[{ on := 2, ground := Ground.data }, { on := 3, ground := Ground.data }, { on := 4, ground := Ground.data }], guard := none }] true).wpIn (Fence.wide.inRound q) (3 - 1 - 1) Tryz.prog Q ⟨#[v0, v1, v2, v3, .pointer (some ⟨s0, 0, none⟩), .pointer (some ⟨s1, 0, none⟩), v6, v7, v8, .pointer (some ⟨g, 0, none⟩), .int .i64 k, v11, v12, v13, v14, v15, v16, v17, v18, v19, v20, v21, v22, v23, v24, v25, v26, v27, v28, v29, v30, v31, v32, v33, v34], []⟩ w := by
  have HQ := Lib.hid hQ; clear hQ
  have hmx : Tryz.prog.follows .mixedOrders = true := by kernel_rfl
  have HDR := Lib.hid (show Below w.heap.size w w.drew from (Below.refl _ _).drew)
  have c0 := C0.out; have c1 := C1.out; have c2 := C2.out
  gi_region_with_o (refine ⟨trivial, ?_⟩; gi_at_call 168; refine (CallsIn.inRound q (callsIn_wide.2 (allowYes _ y _ _ _ _ _ _ _ _ _ _ _ _ ln lb _ z HZ.out (HR.out.on HDR.out) (H_n.out.on HDR.out) (H_b.out.on HDR.out) HP.out HPN.out HPB.out))).mono ?_; rintro e v3 ⟨rfl, hb3⟩)
  all_goals exact HQ.out _ _ _ _ _ _ (HDR.out.trans (hb3.mono HDR.out.size))
end Go.Proofs.YtlhchmjnaanjpaaGreatDoor.Row
/- The program's chapter 10: FirstAllowingRule (a range over slices.Chunk), Allowed. No conditions but that lengths fit. -/
namespace Go.Proofs.YtlhchmjnaanjpaaGreatDoor.Row
open Go.ChangeShapes Go.WideShapes Go.ChangeAt Go.RowKit Go.Instr
open Go.Shelf
set_option linter.unusedVariables false
attribute [local go_sem] Oper.semAt_some
set_option maxRecDepth 100000
def chunkL {α : Type} (l : List α) (x : Nat) : List α := (l.drop (8 * x)).take 8
theorem chunkL_len {α : Type} (l : List α) (x : Nat) : (chunkL l x).length = min 8 (l.length - 8 * x) := by unfold chunkL; rw [List.length_take, List.length_drop]
theorem chunkL_nth {α : Type} [Inhabited α] (l : List α) (x j : Nat) (hj : j < (chunkL l x).length) : nth (chunkL l x) j = nth l (8 * x + j) := by
  rw [chunkL_len] at hj
  rw [nth_eq (by rw [chunkL_len]; exact hj), nth_eq (by omega)]
  unfold chunkL
  rw [List.getElem_take, List.getElem_drop]
theorem chunkL_mem {α : Type} {l : List α} {x : Nat} {y : α} (h : y ∈ chunkL l x) : y ∈ l := List.mem_of_mem_drop (List.mem_of_mem_take h)
theorem chunk_holds {α : Type} {enc : α → List Value} (hs : Sz enc 2) {w : World} {b off n cap : Nat} {L : List α} (h : HoldsK enc 2 w (.slice (some ⟨b, off, none⟩) n cap) L) (x : Nat) : HoldsK enc 2 w (chunkV b off n x) (chunkL L x) := by
  have hn := h.lenEq
  by_cases hx : 8 * x ≤ L.length
  · have h1 := HoldsK.drop hs h hx
    have h2 := HoldsK.take hs h1 (i := (chunkL L x).length) (by rw [chunkL_len, List.length_drop]; omega)
    have e : (L.drop (8 * x)).take (chunkL L x).length = chunkL L x := by
      rw [chunkL_len]; unfold chunkL
      by_cases h8 : L.length - 8 * x ≤ 8
      · rw [List.take_of_length_le (by rw [List.length_drop]; omega), List.take_of_length_le (by rw [List.length_drop]; omega)]
      · rw [show min 8 (L.length - 8 * x) = 8 by omega]
    rw [e] at h2
    obtain ⟨x', cap', hv, hc, hh⟩ := h2
    refine ⟨some ⟨b, off + 8 * x * 2, none⟩, (chunkL L x).length, ?_, Nat.le_refl _, ?_⟩
    · unfold chunkV; rw [chunkL_len, hn]
    · injection hv with hv1 hv2 hv3; rw [hv1]; exact hh
  · have e : chunkL L x = [] := by unfold chunkL; rw [List.drop_of_length_le (by omega)]; rfl
    refine ⟨some ⟨b, off + 8 * x * 2, none⟩, 0, ?_, by rw [e]; simp, Or.inl e⟩
    unfold chunkV; rw [e, hn, show L.length - 8 * x = 0 by omega]; simp
theorem kLRl_of {w : World} {ad : Option Addr} {n cap : Nat} {L : List Rlm} (h : HoldsK kRl.cells 2 w (.slice ad n cap) L) (hel : ∀ y ∈ L, kRl.holds w y) : kLRl.At w (.slice ad n cap) (L.map kRl.strip) := ⟨⟨ad, n, cap, L⟩, rfl, rfl, h, hel⟩
theorem chunk_at {w : World} {b off n cap : Nat} {L : List Rlm} (h : HoldsK kRl.cells 2 w (.slice (some ⟨b, off, none⟩) n cap) L) (hel : ∀ y ∈ L, kRl.holds w y) (x : Nat) : kLRl.At w (chunkV b off n x) (chunkL (L.map kRl.strip) x) := by
  have := kLRl_of (chunk_holds szRl_cells h x) (fun y hy => hel y (chunkL_mem hy))
  rwa [show (chunkL L x).map kRl.strip = chunkL (L.map kRl.strip) x by unfold chunkL; rw [List.map_take, List.map_drop]] at this
def startOf (n : Nat) (ks : List Nat) : Nat := (ks.map fun x => min 8 (n - 8 * x)).sum
theorem startOf_snoc (n : Nat) (ks : List Nat) (x : Nat) : startOf n (ks ++ [x]) = startOf n ks + min 8 (n - 8 * x) := by unfold startOf; simp
theorem startOf_range (n k : Nat) : startOf n (List.range k) = min n (8 * k) := by
  induction k with
  | zero => simp [startOf]
  | succ k ih => rw [List.range_succ, startOf_snoc, ih]; omega
theorem startOf_le (n : Nat) (ks : List Nat) : startOf n ks ≤ 8 * ks.length := by
  unfold startOf
  induction ks with
  | nil => simp
  | cons a r ih => simp only [List.map_cons, List.sum_cons, List.length_cons]; omega
def noneIn (l : List Rlt) (n b : List ByteArray) (x : Nat) : Prop := ∀ j, j < (chunkL l x).length → allowsR (nth (chunkL l x) j) n b = false
theorem firstR_chunks {l : List Rlt} {n b : List ByteArray} {m : Nat} (hm : l.length ≤ 8 * m) (h : ∀ x ∈ List.range m, noneIn l n b x) : firstR l n b = -1 := by
  refine firstR_none fun j hj => ?_
  have hx : j / 8 ∈ List.range m := List.mem_range.2 (by omega)
  have hl : j % 8 < (chunkL l (j / 8)).length := by rw [chunkL_len]; omega
  have := h _ hx _ hl
  rwa [chunkL_nth _ _ _ hl, show 8 * (j / 8) + j % 8 = j by omega] at this
theorem firstR_chunk {l : List Rlt} {n b : List ByteArray} {m i : Nat} (hm : 8 * m < l.length) (h : ∀ x ∈ List.range m, noneIn l n b x) (hi : i < (chunkL l m).length) (ha : allowsR (nth (chunkL l m) i) n b = true) (hb : ∀ j, j < i → allowsR (nth (chunkL l m) j) n b = false) : firstR l n b = ((startOf l.length (List.range m) + i : Nat) : Int) := by
  have hl := chunkL_len l m
  rw [startOf_range, show min l.length (8 * m) + i = 8 * m + i by omega]
  refine firstR_at (by omega) (by rw [← chunkL_nth _ _ _ hi]; exact ha) fun j hj => ?_
  by_cases hjm : j < 8 * m
  · have hx : j / 8 ∈ List.range m := List.mem_range.2 (by omega)
    have hl2 : j % 8 < (chunkL l (j / 8)).length := by rw [chunkL_len]; omega
    have := h _ hx _ hl2
    rwa [chunkL_nth _ _ _ hl2, show 8 * (j / 8) + j % 8 = j by omega] at this
  · have h2 := hb (j - 8 * m) (by omega)
    rwa [chunkL_nth _ _ _ (by omega), show 8 * m + (j - 8 * m) = j by omega] at h2
theorem newBox {w w' : World} {v : Value} {t : TypeId} (e : w.alloc (.cells #[v] t) = w') : Ret.Box w' w.heap.size v t ∧ w'.heap.size = w.heap.size + 1 ∧ Below w.heap.size w w' := by
  subst e
  exact ⟨Ret.Box.new w v t, World.size_alloc _ _, (Below.refl _ w).alloc (Nat.le_refl _) _⟩
theorem keeps_below {W W' : World} (h : Below W.heap.size W W') : KeepsOthers W W' := ⟨h.size, fun k o hk ho => (h.block k (Array.getElem?_eq_some_iff.1 hk).1).trans hk⟩
set_option maxHeartbeats 8000000 in
theorem implFirstAllowingRule (V U1 U2 : Value) (l : List Rlt) (ln lb : List ByteArray) (w : World) (z : Int) (hz : firstR l ln lb = z) (h : kLRl.At w V l) (g : kN.At w U1 ln) (g' : kN.At w U2 lb) (hl : l.length ≤ 9000000) (hp : ∀ x ∈ l, wtRl x ≤ 9000000) (hpn : bulk ln ≤ 9000000) (hpb : bulk lb ≤ 9000000) :
    Calls Tryz.prog 74 #[V, U1, U2] w fun e w' => e = .returned (.int .i64 z) ∧ Below w.heap.size w w' := by
  obtain ⟨ad, n, cap, L, rfl, hn, ht, hh, hel⟩ := kLRl_at h
  obtain ⟨xn, nn, cn, rfl, g⟩ := kN_shapeA g
  obtain ⟨xb, nb, cb, rfl, g'⟩ := kN_shapeA g'
  have hlen : l.length = n := by rw [← ht, List.length_map]; exact hn.symm
  rw [hlen] at hl
  have hcap : n ≤ cap := by obtain ⟨x', n', cap', hv, hn', hc', -⟩ := hh.shapeN; cases hv; exact hc'
  obtain ⟨b, off, had⟩ : ∃ b off, n = 0 ∨ ad = some ⟨b, off, none⟩ := by
    by_cases h0 : n = 0
    · exact ⟨0, 0, Or.inl h0⟩
    · obtain ⟨b, off, x0, n0, c0, x1, n1, c1, e, -⟩ := kLRl_elem hh hel (j := 0) (by omega)
      exact ⟨b, off, Or.inr e⟩
  have HLEN := Lib.hid hlen; have HT := Lib.hid ht; have HH := Lib.hid hh; have HEL := Lib.hid hel; have HP := Lib.hid hp; have HZ := Lib.hid hz; have GN := Lib.hid g; have GB := Lib.hid g'; have HPN := Lib.hid hpn; have HPB := Lib.hid hpb
  clear hn ht hh hel hp hz g g' hlen hpn hpb h
  obtain ⟨w1, e1⟩ : ∃ w1, w.alloc (.cells #[.slice xn nn cn] 32) = w1 := ⟨_, rfl⟩
  obtain ⟨w2, e2⟩ : ∃ w2, w1.alloc (.cells #[.slice xb nb cb] 32) = w2 := ⟨_, rfl⟩
  obtain ⟨w3, e3⟩ : ∃ w3, w2.alloc (.cells #[.int .i64 0] 3) = w3 := ⟨_, rfl⟩
  obtain ⟨w4, e4⟩ : ∃ w4, w3.alloc (.cells #[.int .i64 0] 3) = w4 := ⟨_, rfl⟩
  obtain ⟨w5, e5⟩ : ∃ w5, w4.alloc (.cells #[.slice ad n cap] 25) = w5 := ⟨_, rfl⟩
  obtain ⟨w6, e6⟩ : ∃ w6, w5.alloc (.cells #[.int .i64 8] 3) = w6 := ⟨_, rfl⟩
  obtain ⟨k1, z1, b1⟩ := newBox e1
  obtain ⟨k2, z2, b2⟩ := newBox e2
  obtain ⟨k3, z3, b3⟩ := newBox e3
  obtain ⟨k4, z4, b4⟩ := newBox e4
  obtain ⟨k5, z5, b5⟩ := newBox e5
  obtain ⟨k6, z6, b6⟩ := newBox e6
  have f6 : Below w6.heap.size w6 w6 := Below.refl _ _
  have f5 : Below w5.heap.size w5 w6 := b6.trans (f6.mono b6.size)
  have f4 : Below w4.heap.size w4 w6 := b5.trans (f5.mono b5.size)
  have f3 : Below w3.heap.size w3 w6 := b4.trans (f4.mono b4.size)
  have f2 : Below w2.heap.size w2 w6 := b3.trans (f3.mono b3.size)
  have f1 : Below w1.heap.size w1 w6 := b2.trans (f2.mono b2.size)
  have K1 : Ret.Box w6 (w.heap.size) (.slice xn nn cn) 32 := by have := k1.on f1; rwa [show w.heap.size = w.heap.size from rfl] at this
  have K2 : Ret.Box w6 (w.heap.size + 1) (.slice xb nb cb) 32 := by have := k2.on f2; rwa [z1] at this
  have K3 : Ret.Box w6 (w.heap.size + 1 + 1) (.int .i64 0) 3 := by have := k3.on f3; rwa [z2, z1] at this
  have K4 : Ret.Box w6 (w.heap.size + 1 + 1 + 1) (.int .i64 0) 3 := by have := k4.on f4; rwa [z3, z2, z1] at this
  have K5 : Ret.Box w6 (w.heap.size + 1 + 1 + 1 + 1) (.slice ad n cap) 25 := by have := k5.on f5; rwa [z4, z3, z2, z1] at this
  have K6 : Ret.Box w6 (w.heap.size + 1 + 1 + 1 + 1 + 1) (.int .i64 8) 3 := by have := k6.on f6; rwa [z5, z4, z3, z2, z1] at this
  have hz6 : w6.heap.size = w.heap.size + 1 + 1 + 1 + 1 + 1 + 1 := by rw [z6, z5, z4, z3, z2, z1]
  have hb6 : Below w.heap.size w w6 := b1.trans (f1.mono b1.size)
  have HW6 := Lib.hid (show ((((((w.alloc (.cells #[.slice xn nn cn] 32)).alloc (.cells #[.slice xb nb cb] 32)).alloc (.cells #[.int .i64 0] 3)).alloc (.cells #[.int .i64 0] 3)).alloc (.cells #[.slice ad n cap] 25)).alloc (.cells #[.int .i64 8] 3)) = w6 from by rw [e1, e2, e3, e4, e5, e6])
  have HZ6 := Lib.hid hz6; have HB6 := Lib.hid hb6; have HK1 := Lib.hid K1; have HK2 := Lib.hid K2; have HK3 := Lib.hid K3; have HK4 := Lib.hid K4; have HK5 := Lib.hid K5; have HK6 := Lib.hid K6
  clear K1 K2 K3 K4 K5 K6 hz6 hb6 e1 e2 e3 e4 e5 e6 k1 k2 k3 k4 k5 k6 z1 z2 z3 z4 z5 z6 f1 f2 f3 f4 f5 f6 b1 b2 b3 b4 b5 b6
  refine (callsIn_wide (n := 3)).1 ?_
  refine callsIn_of_wp_marks Tryz.func74 rfl trivial ?_ rfl
  simp only [Tryz.ntmps74, List.size_toArray, List.length_cons, List.length_nil, Nat.reduceAdd, Nat.reduceSub, Array.replicate_succ, Array.replicate_zero, List.push_toArray, List.append_toArray, List.nil_append, List.cons_append]
  gi_wp2_with (refine ⟨trivial, ?_⟩; gi_at_call 115; refine (callsIn_wide.2 (chunkOf _ _ _ _)).mono ?_; rintro e w' ⟨rfl, rfl⟩)
  rw [HW6.out]
  have hz6 := HZ6.out; have hb6 := HB6.out; have K1 := HK1.out; have K2 := HK2.out; have K3 := HK3.out; have K4 := HK4.out; have K5 := HK5.out; have K6 := HK6.out
  refine wpIn_rangeFunc_ownF rfl (by omega) (gf := 149) (lb := #[.pointer (some ⟨w.heap.size + 1 + 1 + 1 + 1, 0, none⟩), .pointer (some ⟨w.heap.size + 1 + 1 + 1 + 1 + 1, 0, none⟩)]) rfl trivial (enters_of Tryz.func149 (by kernel_rfl) rfl)
    (chunk_stops _ (by omega) (w.heap.size + 1 + 1 + 1 + 1) (w.heap.size + 1 + 1 + 1 + 1 + 1) w.heap.size b off n cap ad hcap hl had w6 (by omega) (by omega) K5.cell K6.cell) kpC_t (kpC_b (by omega) (by omega) (by omega)) (Below.refl _ _) (fun _ => rfl)
    (fun pre W => (W.cell? ⟨w.heap.size, 0, none⟩ = some (.slice xn nn cn) ∧ W.cell? ⟨w.heap.size + 1, 0, none⟩ = some (.slice xb nb cb) ∧ W.cell? ⟨w.heap.size + 1 + 1, 0, none⟩ = some (.int .i64 0) ∧ W.frozen? ⟨w.heap.size + 1 + 1, 0, none⟩ = false ∧ W.cell? ⟨w.heap.size + 1 + 1 + 1, 0, none⟩ = some (.int .i64 (startOf n pre : Nat)) ∧ W.frozen? ⟨w.heap.size + 1 + 1 + 1, 0, none⟩ = false ∧ (∀ x ∈ pre, noneIn l ln lb x) ∧ w.heap.size + 6 ≤ W.heap.size) ∧ Below w.heap.size w W)
    (fun c pre W => (c = .ret ∧ ∃ ini last i, pre = ini ++ [last] ∧ (∀ x ∈ ini, noneIn l ln lb x) ∧ i < (chunkL l last).length ∧ allowsR (nth (chunkL l last) i) ln lb = true ∧ (∀ j, j < i → allowsR (nth (chunkL l last) j) ln lb = false) ∧ W.cell? ⟨w.heap.size + 1 + 1, 0, none⟩ = some (.int .i64 ((startOf n ini + i : Nat) : Int))) ∧ Below w.heap.size w W)
    (OwnFrom.and (Own.from (fun s A B row hs hg hr => ⟨cell_kept hs.1 hg hr, cell_kept hs.2.1 hg hr, cell_kept hs.2.2.1 hg hr, (frozen_kept hs.2.2.1 hg hr).trans hs.2.2.2.1, cell_kept hs.2.2.2.2.1 hg hr, (frozen_kept hs.2.2.2.2.1 hg hr).trans hs.2.2.2.2.2.1, hs.2.2.2.2.2.2.1, Nat.le_trans hs.2.2.2.2.2.2.2 hg.size⟩) _) (ownFrom_below (Nat.le_refl _) (by omega)))
    (fun c => OwnFrom.and (Own.from (fun s A B row hs hg hr => by obtain ⟨hc, ini, last, i, e1, e2, e3, e4, e5, e6⟩ := hs; exact ⟨hc, ini, last, i, e1, e2, e3, e4, e5, cell_kept e6 hg hr⟩) _) (ownFrom_below (Nat.le_refl _) (by omega)))
    ⟨⟨K1.cell, K2.cell, K3.cell, K3.frozen, K4.cell, K4.frozen, by simp, by omega⟩, hb6⟩
    (fun x => { tmps := #[.slice ad n cap, .agg #[.slice xn nn cn], .agg #[.slice xb nb cb], undef, .pointer (some ⟨w.heap.size, 0, none⟩), .pointer (some ⟨w.heap.size + 1, 0, none⟩), .pointer (some ⟨w.heap.size + 1 + 1, 0, none⟩), .pointer (some ⟨w.heap.size + 1 + 1 + 1, 0, none⟩), chunkV b off n x, undef, undef, .slice ad n cap, .func (.func 149) #[] #[.pointer (some ⟨w.heap.size + 1 + 1 + 1 + 1, 0, none⟩), .pointer (some ⟨w.heap.size + 1 + 1 + 1 + 1 + 1, 0, none⟩)], chunkV b off n x, undef, undef, undef, undef, undef, undef, undef, undef, undef, undef, undef, undef, undef, undef, undef, undef, undef, undef, undef, undef, undef], defers := [] }) ?assign ?body ?done ?stop
  case assign =>
    intro l x W K hK
    gi_wp2
    exact hK
  case body =>
    rintro q pre x W ⟨⟨c0, c1, c2, z2, c3, z3, hnone, hsz⟩, hB⟩ hlt
    obtain rfl : ad = some ⟨b, off, none⟩ := had.resolve_left (by omega)
    have HC := Lib.hid (show kLRl.At W (chunkV b off n x) (chunkL l x) from by have := (chunk_at HH.out HEL.out x).on hB; rwa [HT.out] at this)
    have hcl : (chunkL l x).length = min 8 (n - 8 * x) := by rw [chunkL_len, HLEN.out]
    obtain ⟨m, hm⟩ : ∃ m, min 8 (n - 8 * x) = m := ⟨_, rfl⟩
    have hm8 : m ≤ 8 := by omega
    rw [hm] at hcl
    have hcv : chunkV b off n x = .slice (some ⟨b, off + 8 * x * 2, none⟩) m m := by unfold chunkV; rw [hm]
    rw [hcv] at HC ⊢
    have HCP := Lib.hid (show ∀ y ∈ chunkL l x, wtRl y ≤ 9000000 from fun y hy => HP.out y (chunkL_mem hy))
    have HCL := Lib.hid hcl; have HM := Lib.hid hm; have HNO := Lib.hid hnone
    have hl8 : (chunkL l x).length ≤ 8 := by rw [hcl]; exact hm8
    clear hcl hm hcv hnone
    gi_wp2_with (refine ⟨trivial, ?_⟩; gi_at_call 116; refine (CallsIn.inRound q (callsIn_wide.2 (allowancesOf _ (chunkL l x) _ HC.out hl8 HCP.out))).mono ?_; rintro e v1 ⟨f, rfl, hf1, hf, hb1⟩; have hs : ∀ (j : Nat) (a : Addr) (m : Mode) (w : World), (store a (f j) m).run Tryz.prog w = stored Tryz.prog w a (f j) m := fun j a m w => run_store Tryz.prog w a (f j) m (hf1 j))
    have hal := (Below.refl v1.heap.size v1).alloc (Nat.le_refl _) (.cells #[f 0, f 1, f 2, f 3, f 4, f 5, f 6, f 7] 143)
    have HA0 := Lib.hid (show Ret.Blk (v1.alloc (.cells #[f 0, f 1, f 2, f 3, f 4, f 5, f 6, f 7] 143)) v1.heap.size (arr8 f) 143 from Ret.Blk.new v1 (arr8 f) 143)
    have HF0 := Lib.hid (show ∀ j, j < m → Alw (v1.alloc (.cells #[f 0, f 1, f 2, f 3, f 4, f 5, f 6, f 7] 143)) (f j) (nth (chunkL l x) j) from fun j hj => (hf j (by rw [HCL.out]; exact hj)).on hal)
    have HB1 := Lib.hid (hb1.trans (hal.mono hb1.size))
    obtain ⟨g, hg⟩ : ∃ g, v1.heap.size = g := ⟨_, rfl⟩
    have hgW : W.heap.size ≤ g := by rw [← hg]; exact hb1.size
    obtain ⟨v2, hv2⟩ : ∃ v2, v1.alloc (.cells #[f 0, f 1, f 2, f 3, f 4, f 5, f 6, f 7] 143) = v2 := ⟨_, rfl⟩
    rw [hv2] at HA0 HF0 HB1 ⊢
    rw [hg] at HA0 ⊢
    obtain ⟨st, hst⟩ : ∃ st, startOf n pre = st := ⟨_, rfl⟩
    have hst8 : st ≤ 72000000 := by rw [← hst]; have := startOf_le n pre; omega
    rw [hst] at c3
    have HST := Lib.hid hst
    have C0 := Lib.hid c0; have C1 := Lib.hid c1; have C2 := Lib.hid c2; have C3 := Lib.hid c3; have Z2 := Lib.hid z2; have Z3 := Lib.hid z3; have HBW := Lib.hid hB
    clear hal hf hb1 hs hf1 hv2 hg hst c0 c1 c2 c3 z2 z3 hB hl8 hb6 hz6 K1 K2 K3 K4 K5 K6
    have hmx : Tryz.prog.follows .mixedOrders = true := by kernel_rfl
    gi_loopw [18] (fun i wr => ∃ k : Nat, k ≤ m ∧ i = .int .i64 k ∧ Hid (∀ j, j < k → allowsR (nth (chunkL l x) j) ln lb = false) ∧ Hid (Below v2.heap.size v2 wr)) (fun i _ => m - (intOf i).toNat)
    case atStart => exact ⟨0, Nat.zero_le _, rfl, Lib.hid (fun j hj => absurd hj (by omega)), Lib.hid (Below.refl _ _)⟩
    case round =>
      obtain ⟨k, hk, rfl, ha, hb⟩ := hrel
      have hbw := Lib.hid (HB1.out.trans (hb.out.mono HB1.out.size))
      have q0 := (hbw.out.cell (Ret.cell_lt C0.out)).trans C0.out
      have q1 := (hbw.out.cell (Ret.cell_lt C1.out)).trans C1.out
      have q2 := (hbw.out.cell (Ret.cell_lt C2.out)).trans C2.out
      have q3 := (hbw.out.cell (Ret.cell_lt C3.out)).trans C3.out
      have y2 := (hbw.out.frozen (Ret.cell_lt C2.out)).trans Z2.out
      have y3 := (hbw.out.frozen (Ret.cell_lt C3.out)).trans Z3.out
      by_cases hlt2 : k < m
      · have hk8 : k < 8 := by omega
        have q9 : wr.cell? ⟨g, k, none⟩ = some (f k) := ((HA0.out.on hb.out).cell k).trans (arr8_at f hk8)
        have hy := (show nth (chunkL l x) k ∈ chunkL l x from nth_mem (by rw [HCL.out]; exact hlt2))
        have HPY := Lib.hid (HCP.out _ hy)
        have HWR := Lib.hid (HBW.out.trans (hbw.out.mono HBW.out.size))
        have GN2 := Lib.hid (GN.out.on (HWR.out.trans ((Below.refl wr.heap.size wr).drew.mono HWR.out.size)))
        have GB2 := Lib.hid (GB.out.on (HWR.out.trans ((Below.refl wr.heap.size wr).drew.mono HWR.out.size)))
        clear hy
        have NEXT : ∀ v3, Below wr.heap.size wr v3 → Hid (Below v2.heap.size v2 v3) := fun v3 h => Lib.hid (hb.out.trans (h.mono hb.out.size))
        have HNX := Lib.hid NEXT
        clear NEXT
        rcases (HF0.out k hlt2).on hb.out with ⟨hv, e⟩ | ⟨hv, g9, x0, x1, n0, c0, n1, c1, e, hr⟩
        · rw [e] at q9
          have HE := Lib.hid (allowsR_no hv ln lb)
          have HM2 := Lib.hid (show ∀ j, j < k + 1 → allowsR (nth (chunkL l x) j) ln lb = false from fun j hj => by rcases Nat.lt_succ_iff_lt_or_eq.1 hj with h5 | h5; exact ha.out j h5; exact h5 ▸ HE.out)
          have Q0 := Lib.hid q0; have Q1 := Lib.hid q1; have Q9 := Lib.hid q9
          clear e hv q0 q1 q2 q3 y2 y3 q9
          gi_wp2
          refine far8n hk8 Q0 Q1 Q9 ?_
          intro u21 u22 u23 u24 u25 v3 hb3
          have HB3 := HNX.out v3 hb3
          clear hb3
          gi_wp2
          go_roundw
          case rel => exact ⟨k + 1, by omega, by go_num, HM2, HB3⟩
          case measure => simp [intOf]; omega
        · rw [e] at q9
          obtain ⟨z9, hz9⟩ : ∃ z9, okR2 (nth (chunkL l x) k) ln lb = z9 := ⟨_, rfl⟩
          have HE := Lib.hid ((allowsR_yes hv ln lb).trans hz9)
          have HR := Lib.hid hr; have HZ9 := Lib.hid hz9
          have Q0 := Lib.hid q0; have Q1 := Lib.hid q1; have Q9 := Lib.hid q9; have Q2 := Lib.hid q2; have Q3 := Lib.hid q3; have Y2 := Lib.hid y2; have Y3 := Lib.hid y3
          clear e hv q0 q1 q2 q3 y2 y3 q9 hr hz9
          gi_wp2
          refine far8y HR HZ9 (Lib.hid (GN.out.on HWR.out)) (Lib.hid (GB.out.on HWR.out)) HPY HPN HPB hk8 Q0 Q1 Q9 ?_
          intro u21 u22 u23 u24 u25 v3 hb3
          have HB3 := HNX.out v3 hb3
          have q2 := (hb3.cell (Ret.cell_lt Q2.out)).trans Q2.out
          have q3 := (hb3.cell (Ret.cell_lt Q3.out)).trans Q3.out
          have y2 := (hb3.frozen (Ret.cell_lt Q2.out)).trans Y2.out
          have HBZ := Lib.hid (hbw.out.trans (hb3.mono hbw.out.size))
          clear hb3
          cases z9 with
          | false =>
            have HM2 := Lib.hid (show ∀ j, j < k + 1 → allowsR (nth (chunkL l x) j) ln lb = false from fun j hj => by rcases Nat.lt_succ_iff_lt_or_eq.1 hj with h5 | h5; exact ha.out j h5; exact h5 ▸ HE.out)
            clear q2 q3 y2
            gi_wp2
            go_roundw
            case rel => exact ⟨k + 1, by omega, by go_num, HM2, HB3⟩
            case measure => simp [intOf]; omega
          | true =>
            gi_wp2
            refine ⟨(keeps_below HBZ.out).trans (KeepsOthers.setCell _ _ _), ⟨rfl, pre, x, k, rfl, HNO.out, by rw [HCL.out]; exact hlt2, HE.out, ha.out, ?_⟩, (HBW.out.trans (HBZ.out.mono HBW.out.size)).setCell (p := ⟨w.heap.size + 1 + 1, 0, none⟩) (by simp; omega) _⟩
            rw [HST.out]
            exact (World.cell?_setCell_same' _ _ _ (by rw [q2]; rfl)).trans (by simp)
      · obtain rfl : k = m := by omega
        have Q3 := Lib.hid q3; have Y3 := Lib.hid y3
        have Q0 := Lib.hid q0; have Q1 := Lib.hid q1; have Q2 := Lib.hid q2; have Y2 := Lib.hid y2
        clear q0 q1 q2 y2
        gi_wp2
        have hX : ∀ b, b ≠ w.heap.size + 1 + 1 + 1 → (wr.setCell ⟨w.heap.size + 1 + 1 + 1, 0, none⟩ (.int .i64 ((st : Int) + (k : Int)))).cell? ⟨b, 0, none⟩ = wr.cell? ⟨b, 0, none⟩ := fun b hb => cell_heap (Go.RowKit.Below.heap_setCell wr ⟨w.heap.size + 1 + 1 + 1, 0, none⟩ _ b hb)
        have hN : ∀ y ∈ pre ++ [x], noneIn l ln lb y := fun y hy => by
          rcases List.mem_append.1 hy with hy | hy
          · exact HNO.out y hy
          · rw [List.mem_singleton.1 hy]; exact fun j hj => ha.out j (by rw [HCL.out] at hj; exact hj)
        refine ⟨(keeps_below hbw.out).trans (KeepsOthers.setCell _ _ _), (KpC.of hbw.out (by omega) (by omega) (by omega)).set (by omega) (by omega) (by omega) _, ⟨(hX _ (by omega)).trans Q0.out, (hX _ (by omega)).trans Q1.out, (hX _ (by omega)).trans Q2.out, by rw [World.frozen?_setCell]; exact Y2.out, ?_, by rw [World.frozen?_setCell]; exact Y3.out, hN, ?_⟩, (HBW.out.trans (hbw.out.mono HBW.out.size)).setCell (p := ⟨w.heap.size + 1 + 1 + 1, 0, none⟩) (by simp; omega) _⟩
        · rw [startOf_snoc, HST.out, HM.out]
          exact (World.cell?_setCell_same' _ _ _ (by rw [Q3.out]; rfl)).trans (by simp)
        · have h1 := hbw.out.size
          simp only [World.size_setCell]
          omega
  case done =>
    rintro D ys W hD ⟨m, hm, rfl⟩ ⟨⟨c0, c1, c2, z2, c3, z3, hnone, hsz⟩, hB⟩ hK
    have hF : z = -1 := by rw [← HZ.out]; exact firstR_chunks (by rw [HLEN.out]; exact hm) hnone
    subst hF
    gi_wp2
    have hK' := (KeepsOthers.setCell W ⟨w.heap.size + 1 + 1, 0, none⟩ (.int .i64 (-1))).same D _ hK rfl
    refine ⟨by simp, .inl ⟨_, _, rfl, run_takeDeferred hK', ?_⟩⟩
    have hc5 := cell_kept (World.cell?_setCell_same' W ⟨w.heap.size + 1 + 1, 0, none⟩ (.int .i64 (-1)) (by rw [c2]; rfl)) (grownBy_putObj' _ D (.deferred none)) (fun r e => by cases e; exact ⟨_, hK', rfl⟩)
    refine ⟨.int .i64 (-1), ?_, rfl, (hB.setCell (p := ⟨w.heap.size + 1 + 1, 0, none⟩) (by simp; omega) _).trans (belowK_b (w := w) (Nat.le_refl _) _ D _ _ (by omega) hK' rfl rfl)⟩
    simp [results, Tryz.f74, go_sem, hc5]
  case stop =>
    rintro D c pre W hD ⟨m, hm, rfl⟩ ⟨⟨rfl, ini, last, i, e1, e2, e3, e4, e5, hcr⟩, hB⟩ hK
    rw [List.range_succ] at e1
    obtain ⟨rfl, e7⟩ := List.append_inj' e1 rfl
    obtain rfl : m = last := by simpa using e7
    have hF : ((startOf n (List.range m) + i : Nat) : Int) = z := by rw [← HZ.out, firstR_chunk (by rw [HLEN.out]; exact hm) e2 e3 e4 e5, HLEN.out]
    rw [hF] at hcr
    clear hF e1 e2 e3 e4 e5 e7
    gi_wp2
    refine ⟨by simp, .inl ⟨_, _, rfl, run_takeDeferred hK, ?_⟩⟩
    have hc5 := cell_kept hcr (grownBy_putObj' _ D (.deferred none)) (fun r e => by cases e; exact ⟨_, hK, rfl⟩)
    refine ⟨.int .i64 z, ?_, rfl, hB.trans (belowK_b (w := w) (Nat.le_refl _) W D _ _ (by omega) hK rfl rfl)⟩
    simp [results, Tryz.f74, go_sem, hc5]
set_option maxHeartbeats 4000000 in
theorem implAllowed (V U1 U2 : Value) (l : List Rlt) (ln lb : List ByteArray) (w : World) (h : kLRl.At w V l) (g : kN.At w U1 ln) (g' : kN.At w U2 lb) (hl : l.length ≤ 9000000) (hp : ∀ x ∈ l, wtRl x ≤ 9000000) (hpn : bulk ln ≤ 9000000) (hpb : bulk lb ≤ 9000000) :
    Calls Tryz.prog 29 #[V, U1, U2] w fun e w' => e = .returned (.bool (decide (0 ≤ firstR l ln lb))) ∧ Below w.heap.size w w' := by
  obtain ⟨ad, n, cap, rfl, h⟩ := kLRl_shapeA h
  obtain ⟨xn, nn, cn, rfl, g⟩ := kN_shapeA g
  obtain ⟨xb, nb, cb, rfl, g'⟩ := kN_shapeA g'
  have HB := Lib.hid (((Below.refl w.heap.size w).alloc (Nat.le_refl _) (.cells #[.slice xn nn cn] 32)).alloc (by simp) (.cells #[.slice xb nb cb] 32))
  have HH := Lib.hid h; have GN := Lib.hid g; have GB := Lib.hid g'; have HP := Lib.hid hp; have HPN := Lib.hid hpn; have HPB := Lib.hid hpb; have HL := Lib.hid hl
  obtain ⟨z, hz⟩ : ∃ z, firstR l ln lb = z := ⟨_, rfl⟩
  have HZ := Lib.hid hz
  rw [hz]
  clear h g g' hp hpn hpb hl hz
  go_enter Tryz.func29, Tryz.ntmps29
  go_wp2_with fail
  refine (implFirstAllowingRule _ _ _ l ln lb _ z HZ.out (HH.out.on HB.out) (GN.out.on HB.out) (GB.out.on HB.out) HL.out HP.out HPN.out HPB.out).mono ?_
  rintro e w1 ⟨rfl, hb⟩
  replace HB := Lib.hid (HB.out.trans (hb.mono HB.out.size)); clear hb
  go_wp2_with fail
  go_ret
  exact ⟨rfl, HB.out⟩
end Go.Proofs.YtlhchmjnaanjpaaGreatDoor.Row
