/- slices.Chunk over a list of rules, by chunks of eight: what its iterator hands to a loop. No conditions but that lengths fit. -/
import Derived.WalkKit
import Derived.Deep.RegionHeld3
import Derived.RangeFuncNested
import Derived.RangeFuncBound
import Derived.RangeFuncCalls
import Derived.RangeFuncLeaves
import Derived.Shelf.Abstract
import Derived.Shelf.RegionOpen
import Derived.OwnWalkIn
import Derived.TacticsInMore
import Derived.LoopNIn
import Derived.LoopIn
import Derived.Laws.EntriesVeiled
import Derived.Test.YtkojeajjappchaaRuleA
namespace Go.Proofs.Ytkojeajjappchaa.Row
open Go.ChangeShapes Go.WideShapes Go.ChangeAt Go.RowKit Go.Instr
open Go.Shelf
set_option linter.unusedVariables false
attribute [local go_sem] Oper.semAt_some
set_option maxRecDepth 100000

/-- Chunk number k of n rules that lie at off in block b. -/
def chunkV (b off n k : Nat) : Value := .slice (some ⟨b, off + 8 * k * 2, none⟩) (min 8 (n - 8 * k)) (min 8 (n - 8 * k))
/-- What a round keeps for the iterator: what lay below n₀, and its two variables. -/
def KpC (n₀ Bs Bn : Nat) (W W' : World) : Prop := Below n₀ W W' ∧ W'.heap[Bs]? = W.heap[Bs]? ∧ W'.heap[Bn]? = W.heap[Bn]?
theorem kpC_t {n₀ Bs Bn : Nat} {X Y Z : World} (h : KpC n₀ Bs Bn X Y) (k : KpC n₀ Bs Bn Y Z) : KpC n₀ Bs Bn X Z := ⟨h.1.trans k.1, k.2.1.trans h.2.1, k.2.2.trans h.2.2⟩
theorem kpC_b {n₀ Bs Bn : Nat} {w : World} (hn : n₀ ≤ w.heap.size) (hs : Bs < w.heap.size) (hn2 : Bn < w.heap.size) (W : World) (l : Nat) (o o' : Obj) (hl : w.heap.size ≤ l) (h : W.heap[l]? = some o) (h1 : o.isCells = false) (h2 : o.isWalk = false) : KpC n₀ Bs Bn W (W.putObj l o') :=
  ⟨belowK_b hn W l o o' hl h h1 h2, World.putObj_heap_other (by omega), World.putObj_heap_other (by omega)⟩
theorem cell_heap {W W' : World} {b i : Nat} (h : W'.heap[b]? = W.heap[b]?) : W'.cell? ⟨b, i, none⟩ = W.cell? ⟨b, i, none⟩ := by simp [World.cell?, h]
theorem KpC.of {n₀ Bs Bn : Nat} {W W' : World} (h : Below W.heap.size W W') (hn : n₀ ≤ W.heap.size) (hs : Bs < W.heap.size) (hb : Bn < W.heap.size) : KpC n₀ Bs Bn W W' := ⟨h.mono hn, h.block _ hs, h.block _ hb⟩
theorem KpC.set {n₀ Bs Bn : Nat} {W W' : World} (h : KpC n₀ Bs Bn W W') {g i : Nat} (hn : n₀ ≤ g) (hs : Bs ≠ g) (hb : Bn ≠ g) (v : Value) : KpC n₀ Bs Bn W (W'.setCell ⟨g, i, none⟩ v) :=
  ⟨h.1.setCell (p := ⟨g, i, none⟩) hn v, (Go.RowKit.Below.heap_setCell W' ⟨g, i, none⟩ v Bs hs).trans h.2.1, (Go.RowKit.Below.heap_setCell W' ⟨g, i, none⟩ v Bn hb).trans h.2.2⟩
set_option maxHeartbeats 4000000 in
theorem chunk1_in (n : Nat) (hn : 1 ≤ n) (l Bs Bn b off len cap : Nat) (hlc : len ≤ cap) (hl9 : len ≤ 9000000) (J Jx : List Nat → World → Prop) (hJd : ∀ s W, J s W → J s W.drew) (n₀ : Nat)
    (hY : ∀ pre x W, J pre W → pre.length < len → YieldAt Fence.wide (n - 1) Try.prog l #[chunkV b off len x] W fun e W' =>
      (e = .returned (.bool true) ∧ J (pre ++ [x]) W' ∧ KpC n₀ Bs Bn W W') ∨ (e = .returned (.bool false) ∧ Jx (pre ++ [x]) W'))
    (W : World) (hBs : W.cell? ⟨Bs, 0, none⟩ = some (.slice (some ⟨b, off, none⟩) len cap)) (hBn : W.cell? ⟨Bn, 0, none⟩ = some (.int .i64 8)) (h0 : J [] W) :
    CallsIn Fence.wide n Try.prog 75 #[.func (.yield l) #[] #[], .pointer (some ⟨Bs, 0, none⟩), .pointer (some ⟨Bn, 0, none⟩)] W fun e W' => (∃ v, e = .returned v) ∧
      ((∃ m, len ≤ 8 * m ∧ J (List.range m) W') ∨ (∃ m, 8 * m < len ∧ Jx (List.range (m + 1)) W')) := by
  refine callsIn_of_wp Try.func75 rfl trivial ?_ rfl
  simp only [Try.ntmps75, List.size_toArray, List.length_cons, List.length_nil, Nat.reduceAdd, Nat.reduceSub, Array.replicate_succ, Array.replicate_zero, List.push_toArray, List.append_toArray, List.nil_append, List.cons_append]
  gi_wp2
  gi_loopw [4] (fun iv wr => ∃ i k : Nat, Hid (i = 8 * k) ∧ i < len + 8 ∧ iv = .int .i64 i ∧ J (List.range k) wr ∧ wr.cell? ⟨Bs, 0, none⟩ = some (.slice (some ⟨b, off, none⟩) len cap) ∧ wr.cell? ⟨Bn, 0, none⟩ = some (.int .i64 8)) (fun iv _ => len + 8 - (intOf iv).toNat)
  case atStart => exact ⟨0, 0, Lib.hid rfl, by omega, rfl, h0, hBs, hBn⟩
  case round =>
    obtain ⟨i, k, hi, hi8, rfl, hJs, q0, q1⟩ := hrel
    by_cases hlt : i < len
    · have hkl : k < len := by have := hi.out; omega
      have hmx : Try.prog.follows .mixedOrders = true := by kernel_rfl
      gi_wp2
      gi_region
      have hJd := hJd _ _ hJs
      obtain ⟨e, he⟩ : ∃ e, min 8 (len - i) = e := ⟨_, rfl⟩
      have hme : (min 8 ((len - i : Nat) : Int)) = (e : Int) := by omega
      rw [hme]
      have he1 : i + e ≤ len := by omega
      have he2 : 1 ≤ e := by omega
      have he3 : e ≤ 8 := by omega
      have HE : Hid (min 8 (len - i) = e) := Lib.hid he
      obtain ⟨fn, tmps, assign, body, hy, hR⟩ := hY _ k wr.drew hJd (by rw [List.length_range]; exact hkl)
      have hcv : chunkV b off len k = .slice (some ⟨b, off + i * 2, none⟩) e e := by unfold chunkV; rw [← hi.out, he]
      rw [hcv] at hy
      clear hcv hkl hme he
      have q0 : wr.drew.cell? ⟨Bs, 0, none⟩ = _ := q0
      have q1 : wr.drew.cell? ⟨Bn, 0, none⟩ = _ := q1
      gi_wp2
      refine hR.mono ?_
      rintro e' W3 (⟨rfl, hJ3, hk3⟩ | ⟨rfl, hJx3⟩)
      · have q0 := (cell_heap hk3.2.1).trans q0
        have q1 := (cell_heap hk3.2.2).trans q1
        gi_wp2
        go_roundw
        case rel => exact ⟨i + 8, k + 1, Lib.hid (by have := hi.out; omega), by omega, by go_num, by rw [List.range_succ]; exact hJ3, q0, q1⟩
        case measure => simp [intOf]; omega
      · gi_wp2
        refine bodyPost_ret (results_none rfl _ _ _) rfl ?_
        exact ⟨⟨_, rfl⟩, .inr ⟨k, by have := hi.out; omega, by rw [List.range_succ]; exact hJx3⟩⟩
    · gi_wp2
      go_end0
      exact ⟨⟨_, rfl⟩, .inl ⟨k, by have := hi.out; omega, hJs⟩⟩
set_option maxHeartbeats 4000000 in
theorem chunk1_nil (n : Nat) (l Bs Bn cap : Nat) (ad : Option Addr) (J : List Nat → World → Prop) (W : World) (hBs : W.cell? ⟨Bs, 0, none⟩ = some (.slice ad 0 cap)) (h0 : J [] W) :
    CallsIn Fence.wide n Try.prog 75 #[.func (.yield l) #[] #[], .pointer (some ⟨Bs, 0, none⟩), .pointer (some ⟨Bn, 0, none⟩)] W fun e W' => (∃ v, e = .returned v) ∧ J [] W' := by
  refine callsIn_of_wp Try.func75 rfl trivial ?_ rfl
  simp only [Try.ntmps75, List.size_toArray, List.length_cons, List.length_nil, Nat.reduceAdd, Nat.reduceSub, Array.replicate_succ, Array.replicate_zero, List.push_toArray, List.append_toArray, List.nil_append, List.cons_append]
  gi_wp2
  gi_loopw [4] (fun iv wr => iv = .int .i64 0 ∧ wr.cell? ⟨Bs, 0, none⟩ = some (.slice ad 0 cap) ∧ J [] wr) (fun _ _ => 0)
  case atStart => exact ⟨rfl, hBs, h0⟩
  case round =>
    obtain ⟨rfl, hBs, hJs⟩ := hrel
    gi_wp2
    go_end0
    exact ⟨⟨_, rfl⟩, hJs⟩
/-- What slices.Chunk hands back over a list of n rules: a loop over it is handed the chunks number 0, 1, .. in this order. -/
theorem chunk_stops (n : Nat) (hn : 1 ≤ n) (Bs Bn n₀ b off len cap : Nat) (ad : Option Addr) (hlc : len ≤ cap) (hl9 : len ≤ 9000000) (had : len = 0 ∨ ad = some ⟨b, off, none⟩) (w : World) (hBs0 : Bs < w.heap.size) (hBn0 : Bn < w.heap.size)
    (hBs : w.cell? ⟨Bs, 0, none⟩ = some (.slice ad len cap)) (hBn : w.cell? ⟨Bn, 0, none⟩ = some (.int .i64 8)) :
    SeqStopsK Fence.wide n Try.prog 75 #[.pointer (some ⟨Bs, 0, none⟩), .pointer (some ⟨Bn, 0, none⟩)] (fun x : Nat => #[chunkV b off len x]) (KpC n₀ Bs Bn) (fun ys => ∃ m, len ≤ 8 * m ∧ ys = List.range m) (fun pre => ∃ m, 8 * m < len ∧ pre = List.range (m + 1)) len w := fun l J Jx W hW hJ _ hY h0 => by
  have q0 := (hW.cell (p := ⟨Bs, 0, none⟩) hBs0).trans hBs
  have q1 := (hW.cell (p := ⟨Bn, 0, none⟩) hBn0).trans hBn
  by_cases hz : len = 0
  · subst hz
    exact (chunk1_nil n l Bs Bn cap ad J W q0 h0).mono fun e W' ⟨he, hj⟩ => ⟨he, .inl ⟨[], ⟨0, by omega, rfl⟩, hj⟩⟩
  · obtain rfl : ad = some ⟨b, off, none⟩ := had.resolve_left hz
    refine (chunk1_in n hn l Bs Bn b off len cap hlc hl9 J Jx (fun s W hs => hJ s W _ none hs ⟨rfl, rfl, rfl, Nat.le_refl _, fun _ _ _ => rfl⟩ (fun r e => by cases e)) n₀ hY W q0 q1 h0).mono ?_
    rintro e W' ⟨he, ⟨m, hm, hj⟩ | ⟨m, hm, hj⟩⟩
    · exact ⟨he, .inl ⟨_, ⟨m, hm, rfl⟩, hj⟩⟩
    · exact ⟨he, .inr ⟨_, ⟨m, hm, rfl⟩, hj⟩⟩
set_option maxHeartbeats 1000000 in
theorem chunkOf (x : Option Addr) (len cap : Nat) (w : World) :
    Calls Try.prog 51 #[.slice x len cap, .int .i64 8] w fun e w' => e = .returned (.func (.func 75) #[] #[.pointer (some ⟨w.heap.size, 0, none⟩), .pointer (some ⟨w.heap.size + 1, 0, none⟩)]) ∧ w' = (w.alloc (.cells #[.slice x len cap] 38)).alloc (.cells #[.int .i64 8] 3) := by
  have hmf : ∀ (fn : Fn) (first cap : Array Value) (w : World), (Instr.makeFunc fn first cap).run Try.prog w = .ok (.func fn first cap) w := fun _ _ _ _ => rfl
  go_enter Try.func51, Try.ntmps51
  go_wp2
  go_ret
  exact ⟨rfl, rfl⟩
end Go.Proofs.Ytkojeajjappchaa.Row
