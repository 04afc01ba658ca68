/- Contracts and mathematics, joined: RuleF, SplitSp, RuleT. No conditions but those that each states. -/
import Derived.WalkKit
import Derived.Deep.RegionHeld3
import Derived.Test.YtkojeajjappchaaGreatB9
import Derived.Test.YtkojeajjappchaaGreatB5
import Derived.Lib.IndexMore
import Derived.Test.YtkojeajjappchaaGreatB7
/- The program's chapter 10: FirstAllowingRule (a range over slices.Chunk), Allowed. No conditions but that lengths fit. -/
namespace Go.Proofs.YtkojeajjappchaaGreat.Row
open Go.ChangeShapes Go.WideShapes Go.ChangeAt Go.RowKit Go.Instr
open Go.Shelf
set_option linter.unusedVariables false
attribute [local go_sem] Oper.semAt_some
set_option maxRecDepth 100000

/-- A part of a list that lies in memory: chunk number x. -/
def chunkL {α : Type} (l : List α) (x : Nat) : List α := (l.drop (8 * x)).take 8
theorem chunkL_len {α : Type} (l : List α) (x : Nat) : (chunkL l x).length = min 8 (l.length - 8 * x) := by unfold chunkL; rw [List.length_take, List.length_drop]
theorem chunkL_nth {α : Type} [Inhabited α] (l : List α) (x j : Nat) (hj : j < (chunkL l x).length) : nth (chunkL l x) j = nth l (8 * x + j) := by
  rw [chunkL_len] at hj
  rw [nth_eq (by rw [chunkL_len]; exact hj), nth_eq (by omega)]
  unfold chunkL
  rw [List.getElem_take, List.getElem_drop]
theorem chunkL_mem {α : Type} {l : List α} {x : Nat} {y : α} (h : y ∈ chunkL l x) : y ∈ l := List.mem_of_mem_drop (List.mem_of_mem_take h)
theorem chunk_holds {α : Type} {enc : α → List Value} (hs : Sz enc 2) {w : World} {b off n cap : Nat} {L : List α} (h : HoldsK enc 2 w (.slice (some ⟨b, off, none⟩) n cap) L) (x : Nat) : HoldsK enc 2 w (chunkV b off n x) (chunkL L x) := by
  have hn := h.lenEq
  by_cases hx : 8 * x ≤ L.length
  · have h1 := HoldsK.drop hs h hx
    have h2 := HoldsK.take hs h1 (i := (chunkL L x).length) (by rw [chunkL_len, List.length_drop]; omega)
    have e : (L.drop (8 * x)).take (chunkL L x).length = chunkL L x := by
      rw [chunkL_len]; unfold chunkL
      by_cases h8 : L.length - 8 * x ≤ 8
      · rw [List.take_of_length_le (by rw [List.length_drop]; omega), List.take_of_length_le (by rw [List.length_drop]; omega)]
      · rw [show min 8 (L.length - 8 * x) = 8 by omega]
    rw [e] at h2
    obtain ⟨x', cap', hv, hc, hh⟩ := h2
    refine ⟨some ⟨b, off + 8 * x * 2, none⟩, (chunkL L x).length, ?_, Nat.le_refl _, ?_⟩
    · unfold chunkV; rw [chunkL_len, hn]
    · injection hv with hv1 hv2 hv3; rw [hv1]; exact hh
  · have e : chunkL L x = [] := by unfold chunkL; rw [List.drop_of_length_le (by omega)]; rfl
    refine ⟨some ⟨b, off + 8 * x * 2, none⟩, 0, ?_, by rw [e]; simp, Or.inl e⟩
    unfold chunkV; rw [e, hn, show L.length - 8 * x = 0 by omega]; simp
theorem kLRl_of {w : World} {ad : Option Addr} {n cap : Nat} {L : List Rlm} (h : HoldsK kRl.cells 2 w (.slice ad n cap) L) (hel : ∀ y ∈ L, kRl.holds w y) : kLRl.At w (.slice ad n cap) (L.map kRl.strip) := ⟨⟨ad, n, cap, L⟩, rfl, rfl, h, hel⟩
theorem chunk_at {w : World} {b off n cap : Nat} {L : List Rlm} (h : HoldsK kRl.cells 2 w (.slice (some ⟨b, off, none⟩) n cap) L) (hel : ∀ y ∈ L, kRl.holds w y) (x : Nat) : kLRl.At w (chunkV b off n x) (chunkL (L.map kRl.strip) x) := by
  have := kLRl_of (chunk_holds szRl_cells h x) (fun y hy => hel y (chunkL_mem hy))
  rwa [show (chunkL L x).map kRl.strip = chunkL (L.map kRl.strip) x by unfold chunkL; rw [List.map_take, List.map_drop]] at this
/-- Where chunk number k begins, when the chunks of ks have come. -/
def startOf (n : Nat) (ks : List Nat) : Nat := (ks.map fun x => min 8 (n - 8 * x)).sum
theorem startOf_snoc (n : Nat) (ks : List Nat) (x : Nat) : startOf n (ks ++ [x]) = startOf n ks + min 8 (n - 8 * x) := by unfold startOf; simp
theorem startOf_range (n k : Nat) : startOf n (List.range k) = min n (8 * k) := by
  induction k with
  | zero => simp [startOf]
  | succ k ih => rw [List.range_succ, startOf_snoc, ih]; omega
theorem startOf_le (n : Nat) (ks : List Nat) : startOf n ks ≤ 8 * ks.length := by
  unfold startOf
  induction ks with
  | nil => simp
  | cons a r ih => simp only [List.map_cons, List.sum_cons, List.length_cons]; omega
/-- No rule of chunk number x allows it. -/
def noneIn (l : List Rlt) (n b : List ByteArray) (x : Nat) : Prop := ∀ j, j < (chunkL l x).length → allowsR (nth (chunkL l x) j) n b = false
theorem firstR_chunks {l : List Rlt} {n b : List ByteArray} {m : Nat} (hm : l.length ≤ 8 * m) (h : ∀ x ∈ List.range m, noneIn l n b x) : firstR l n b = -1 := by
  refine firstR_none fun j hj => ?_
  have hx : j / 8 ∈ List.range m := List.mem_range.2 (by omega)
  have hl : j % 8 < (chunkL l (j / 8)).length := by rw [chunkL_len]; omega
  have := h _ hx _ hl
  rwa [chunkL_nth _ _ _ hl, show 8 * (j / 8) + j % 8 = j by omega] at this
theorem firstR_chunk {l : List Rlt} {n b : List ByteArray} {m i : Nat} (hm : 8 * m < l.length) (h : ∀ x ∈ List.range m, noneIn l n b x) (hi : i < (chunkL l m).length) (ha : allowsR (nth (chunkL l m) i) n b = true) (hb : ∀ j, j < i → allowsR (nth (chunkL l m) j) n b = false) : firstR l n b = ((startOf l.length (List.range m) + i : Nat) : Int) := by
  have hl := chunkL_len l m
  rw [startOf_range, show min l.length (8 * m) + i = 8 * m + i by omega]
  refine firstR_at (by omega) (by rw [← chunkL_nth _ _ _ hi]; exact ha) fun j hj => ?_
  by_cases hjm : j < 8 * m
  · have hx : j / 8 ∈ List.range m := List.mem_range.2 (by omega)
    have hl2 : j % 8 < (chunkL l (j / 8)).length := by rw [chunkL_len]; omega
    have := h _ hx _ hl2
    rwa [chunkL_nth _ _ _ hl2, show 8 * (j / 8) + j % 8 = j by omega] at this
  · have h2 := hb (j - 8 * m) (by omega)
    rwa [chunkL_nth _ _ _ (by omega), show 8 * m + (j - 8 * m) = j by omega] at h2
theorem newBox {w w' : World} {v : Value} {t : TypeId} (e : w.alloc (.cells #[v] t) = w') : Ret.Box w' w.heap.size v t ∧ w'.heap.size = w.heap.size + 1 ∧ Below w.heap.size w w' := by
  subst e
  exact ⟨Ret.Box.new w v t, World.size_alloc _ _, (Below.refl _ w).alloc (Nat.le_refl _) _⟩
theorem keeps_below {W W' : World} (h : Below W.heap.size W W') : KeepsOthers W W' := ⟨h.size, fun k o hk ho => (h.block k (Array.getElem?_eq_some_iff.1 hk).1).trans hk⟩

set_option maxHeartbeats 8000000 in
theorem implFirstAllowingRule (V U1 U2 : Value) (l : List Rlt) (ln lb : List ByteArray) (w : World) (z : Int) (hz : firstR l ln lb = z) (h : kLRl.At w V l) (g : kN.At w U1 ln) (g' : kN.At w U2 lb) (hl : l.length ≤ 9000000) (hp : ∀ x ∈ l, wtRl x ≤ 9000000) (hpn : bulk ln ≤ 9000000) (hpb : bulk lb ≤ 9000000) :
    Calls Tryz.prog 12 #[V, U1, U2] w fun e w' => e = .returned (.int .i64 z) ∧ Below w.heap.size w w' := by
  obtain ⟨ad, n, cap, L, rfl, hn, ht, hh, hel⟩ := kLRl_at h
  obtain ⟨xn, nn, cn, rfl, g⟩ := kN_shapeA g
  obtain ⟨xb, nb, cb, rfl, g'⟩ := kN_shapeA g'
  have hlen : l.length = n := by rw [← ht, List.length_map]; exact hn.symm
  rw [hlen] at hl
  have hcap : n ≤ cap := by obtain ⟨x', n', cap', hv, hn', hc', -⟩ := hh.shapeN; cases hv; exact hc'
  obtain ⟨b, off, had⟩ : ∃ b off, n = 0 ∨ ad = some ⟨b, off, none⟩ := by
    by_cases h0 : n = 0
    · exact ⟨0, 0, Or.inl h0⟩
    · obtain ⟨b, off, x0, n0, c0, x1, n1, c1, e, -⟩ := kLRl_elem hh hel (j := 0) (by omega)
      exact ⟨b, off, Or.inr e⟩
  have HLEN := Lib.hid hlen; have HT := Lib.hid ht; have HH := Lib.hid hh; have HEL := Lib.hid hel; have HP := Lib.hid hp; have HZ := Lib.hid hz; have GN := Lib.hid g; have GB := Lib.hid g'; have HPN := Lib.hid hpn; have HPB := Lib.hid hpb
  clear hn ht hh hel hp hz g g' hlen hpn hpb h
  obtain ⟨w1, e1⟩ : ∃ w1, w.alloc (.cells #[.slice xn nn cn] 29) = w1 := ⟨_, rfl⟩
  obtain ⟨w2, e2⟩ : ∃ w2, w1.alloc (.cells #[.slice xb nb cb] 29) = w2 := ⟨_, rfl⟩
  obtain ⟨w3, e3⟩ : ∃ w3, w2.alloc (.cells #[.int .i64 0] 3) = w3 := ⟨_, rfl⟩
  obtain ⟨w4, e4⟩ : ∃ w4, w3.alloc (.cells #[.int .i64 0] 3) = w4 := ⟨_, rfl⟩
  obtain ⟨w5, e5⟩ : ∃ w5, w4.alloc (.cells #[.slice ad n cap] 32) = w5 := ⟨_, rfl⟩
  obtain ⟨w6, e6⟩ : ∃ w6, w5.alloc (.cells #[.int .i64 8] 3) = w6 := ⟨_, rfl⟩
  obtain ⟨k1, z1, b1⟩ := newBox e1
  obtain ⟨k2, z2, b2⟩ := newBox e2
  obtain ⟨k3, z3, b3⟩ := newBox e3
  obtain ⟨k4, z4, b4⟩ := newBox e4
  obtain ⟨k5, z5, b5⟩ := newBox e5
  obtain ⟨k6, z6, b6⟩ := newBox e6
  have f6 : Below w6.heap.size w6 w6 := Below.refl _ _
  have f5 : Below w5.heap.size w5 w6 := b6.trans (f6.mono b6.size)
  have f4 : Below w4.heap.size w4 w6 := b5.trans (f5.mono b5.size)
  have f3 : Below w3.heap.size w3 w6 := b4.trans (f4.mono b4.size)
  have f2 : Below w2.heap.size w2 w6 := b3.trans (f3.mono b3.size)
  have f1 : Below w1.heap.size w1 w6 := b2.trans (f2.mono b2.size)
  have K1 : Ret.Box w6 (w.heap.size) (.slice xn nn cn) 29 := by have := k1.on f1; rwa [show w.heap.size = w.heap.size from rfl] at this
  have K2 : Ret.Box w6 (w.heap.size + 1) (.slice xb nb cb) 29 := by have := k2.on f2; rwa [z1] at this
  have K3 : Ret.Box w6 (w.heap.size + 1 + 1) (.int .i64 0) 3 := by have := k3.on f3; rwa [z2, z1] at this
  have K4 : Ret.Box w6 (w.heap.size + 1 + 1 + 1) (.int .i64 0) 3 := by have := k4.on f4; rwa [z3, z2, z1] at this
  have K5 : Ret.Box w6 (w.heap.size + 1 + 1 + 1 + 1) (.slice ad n cap) 32 := by have := k5.on f5; rwa [z4, z3, z2, z1] at this
  have K6 : Ret.Box w6 (w.heap.size + 1 + 1 + 1 + 1 + 1) (.int .i64 8) 3 := by have := k6.on f6; rwa [z5, z4, z3, z2, z1] at this
  have hz6 : w6.heap.size = w.heap.size + 1 + 1 + 1 + 1 + 1 + 1 := by rw [z6, z5, z4, z3, z2, z1]
  have hb6 : Below w.heap.size w w6 := b1.trans (f1.mono b1.size)
  have HW6 := Lib.hid (show ((((((w.alloc (.cells #[.slice xn nn cn] 29)).alloc (.cells #[.slice xb nb cb] 29)).alloc (.cells #[.int .i64 0] 3)).alloc (.cells #[.int .i64 0] 3)).alloc (.cells #[.slice ad n cap] 32)).alloc (.cells #[.int .i64 8] 3)) = w6 from by rw [e1, e2, e3, e4, e5, e6])
  have HZ6 := Lib.hid hz6; have HB6 := Lib.hid hb6; have HK1 := Lib.hid K1; have HK2 := Lib.hid K2; have HK3 := Lib.hid K3; have HK4 := Lib.hid K4; have HK5 := Lib.hid K5; have HK6 := Lib.hid K6
  clear K1 K2 K3 K4 K5 K6 hz6 hb6 e1 e2 e3 e4 e5 e6 k1 k2 k3 k4 k5 k6 z1 z2 z3 z4 z5 z6 f1 f2 f3 f4 f5 f6 b1 b2 b3 b4 b5 b6
  refine (callsIn_wide (n := 3)).1 ?_
  refine callsIn_of_wp_marks Tryz.func12 rfl trivial ?_ rfl
  simp only [Tryz.ntmps12, List.size_toArray, List.length_cons, List.length_nil, Nat.reduceAdd, Nat.reduceSub, Array.replicate_succ, Array.replicate_zero, List.push_toArray, List.append_toArray, List.nil_append, List.cons_append]
  gi_wp2_with (refine ⟨trivial, ?_⟩; gi_at_call 37; refine (callsIn_wide.2 (chunkOf _ _ _ _)).mono ?_; rintro e w' ⟨rfl, rfl⟩)
  rw [HW6.out]
  have hz6 := HZ6.out; have hb6 := HB6.out; have K1 := HK1.out; have K2 := HK2.out; have K3 := HK3.out; have K4 := HK4.out; have K5 := HK5.out; have K6 := HK6.out
  refine wpIn_rangeFunc_ownF rfl (by omega) (gf := 58) (lb := #[.pointer (some ⟨w.heap.size + 1 + 1 + 1 + 1, 0, none⟩), .pointer (some ⟨w.heap.size + 1 + 1 + 1 + 1 + 1, 0, none⟩)]) rfl trivial (enters_of Tryz.func58 (by kernel_rfl) rfl)
    (chunk_stops _ (by omega) (w.heap.size + 1 + 1 + 1 + 1) (w.heap.size + 1 + 1 + 1 + 1 + 1) w.heap.size b off n cap ad hcap hl had w6 (by omega) (by omega) K5.cell K6.cell) kpC_t (kpC_b (by omega) (by omega) (by omega)) (Below.refl _ _) (fun _ => rfl)
    (fun pre W => (W.cell? ⟨w.heap.size, 0, none⟩ = some (.slice xn nn cn) ∧ W.cell? ⟨w.heap.size + 1, 0, none⟩ = some (.slice xb nb cb) ∧ W.cell? ⟨w.heap.size + 1 + 1, 0, none⟩ = some (.int .i64 0) ∧ W.frozen? ⟨w.heap.size + 1 + 1, 0, none⟩ = false ∧ W.cell? ⟨w.heap.size + 1 + 1 + 1, 0, none⟩ = some (.int .i64 (startOf n pre : Nat)) ∧ W.frozen? ⟨w.heap.size + 1 + 1 + 1, 0, none⟩ = false ∧ (∀ x ∈ pre, noneIn l ln lb x) ∧ w.heap.size + 6 ≤ W.heap.size) ∧ Below w.heap.size w W)
    (fun c pre W => (c = .ret ∧ ∃ ini last i, pre = ini ++ [last] ∧ (∀ x ∈ ini, noneIn l ln lb x) ∧ i < (chunkL l last).length ∧ allowsR (nth (chunkL l last) i) ln lb = true ∧ (∀ j, j < i → allowsR (nth (chunkL l last) j) ln lb = false) ∧ W.cell? ⟨w.heap.size + 1 + 1, 0, none⟩ = some (.int .i64 ((startOf n ini + i : Nat) : Int))) ∧ Below w.heap.size w W)
    (OwnFrom.and (Own.from (fun s A B row hs hg hr => ⟨cell_kept hs.1 hg hr, cell_kept hs.2.1 hg hr, cell_kept hs.2.2.1 hg hr, (frozen_kept hs.2.2.1 hg hr).trans hs.2.2.2.1, cell_kept hs.2.2.2.2.1 hg hr, (frozen_kept hs.2.2.2.2.1 hg hr).trans hs.2.2.2.2.2.1, hs.2.2.2.2.2.2.1, Nat.le_trans hs.2.2.2.2.2.2.2 hg.size⟩) _) (ownFrom_below (Nat.le_refl _) (by omega)))
    (fun c => OwnFrom.and (Own.from (fun s A B row hs hg hr => by obtain ⟨hc, ini, last, i, e1, e2, e3, e4, e5, e6⟩ := hs; exact ⟨hc, ini, last, i, e1, e2, e3, e4, e5, cell_kept e6 hg hr⟩) _) (ownFrom_below (Nat.le_refl _) (by omega)))
    ⟨⟨K1.cell, K2.cell, K3.cell, K3.frozen, K4.cell, K4.frozen, by simp, by omega⟩, hb6⟩
    (fun x => { tmps := #[.slice ad n cap, .agg #[.slice xn nn cn], .agg #[.slice xb nb cb], undef, .pointer (some ⟨w.heap.size, 0, none⟩), .pointer (some ⟨w.heap.size + 1, 0, none⟩), .pointer (some ⟨w.heap.size + 1 + 1, 0, none⟩), .pointer (some ⟨w.heap.size + 1 + 1 + 1, 0, none⟩), chunkV b off n x, undef, undef, .slice ad n cap, .func (.func 58) #[] #[.pointer (some ⟨w.heap.size + 1 + 1 + 1 + 1, 0, none⟩), .pointer (some ⟨w.heap.size + 1 + 1 + 1 + 1 + 1, 0, none⟩)], chunkV b off n x, undef, undef, undef, undef, undef, undef, undef, undef, undef, undef, undef, undef, undef, undef, undef, undef, undef, undef, undef, undef, undef], defers := [] }) ?assign ?body ?done ?stop
  case assign =>
    intro l x W K hK
    gi_wp2
    exact hK
  case body =>
    rintro q pre x W ⟨⟨c0, c1, c2, z2, c3, z3, hnone, hsz⟩, hB⟩ hlt
    obtain rfl : ad = some ⟨b, off, none⟩ := had.resolve_left (by omega)
    have HC := Lib.hid (show kLRl.At W (chunkV b off n x) (chunkL l x) from by have := (chunk_at HH.out HEL.out x).on hB; rwa [HT.out] at this)
    have hcl : (chunkL l x).length = min 8 (n - 8 * x) := by rw [chunkL_len, HLEN.out]
    obtain ⟨m, hm⟩ : ∃ m, min 8 (n - 8 * x) = m := ⟨_, rfl⟩
    have hm8 : m ≤ 8 := by omega
    rw [hm] at hcl
    have hcv : chunkV b off n x = .slice (some ⟨b, off + 8 * x * 2, none⟩) m m := by unfold chunkV; rw [hm]
    rw [hcv] at HC ⊢
    have HCP := Lib.hid (show ∀ y ∈ chunkL l x, wtRl y ≤ 9000000 from fun y hy => HP.out y (chunkL_mem hy))
    have HCL := Lib.hid hcl; have HM := Lib.hid hm; have HNO := Lib.hid hnone
    have hl8 : (chunkL l x).length ≤ 8 := by rw [hcl]; exact hm8
    clear hcl hm hcv hnone
    gi_wp2_with (refine ⟨trivial, ?_⟩; gi_at_call 38; refine (CallsIn.inRound q (callsIn_wide.2 (allowancesOf _ (chunkL l x) _ HC.out hl8 HCP.out))).mono ?_; rintro e v1 ⟨f, rfl, hf1, hf, hb1⟩; have hs : ∀ (j : Nat) (a : Addr) (m : Mode) (w : World), (store a (f j) m).run Tryz.prog w = stored Tryz.prog w a (f j) m := fun j a m w => run_store Tryz.prog w a (f j) m (hf1 j))
    have hal := (Below.refl v1.heap.size v1).alloc (Nat.le_refl _) (.cells #[f 0, f 1, f 2, f 3, f 4, f 5, f 6, f 7] 66)
    have HA0 := Lib.hid (show Ret.Blk (v1.alloc (.cells #[f 0, f 1, f 2, f 3, f 4, f 5, f 6, f 7] 66)) v1.heap.size (arr8 f) 66 from Ret.Blk.new v1 (arr8 f) 66)
    have HF0 := Lib.hid (show ∀ j, j < m → Alw (v1.alloc (.cells #[f 0, f 1, f 2, f 3, f 4, f 5, f 6, f 7] 66)) (f j) (nth (chunkL l x) j) from fun j hj => (hf j (by rw [HCL.out]; exact hj)).on hal)
    have HB1 := Lib.hid (hb1.trans (hal.mono hb1.size))
    obtain ⟨g, hg⟩ : ∃ g, v1.heap.size = g := ⟨_, rfl⟩
    have hgW : W.heap.size ≤ g := by rw [← hg]; exact hb1.size
    obtain ⟨v2, hv2⟩ : ∃ v2, v1.alloc (.cells #[f 0, f 1, f 2, f 3, f 4, f 5, f 6, f 7] 66) = v2 := ⟨_, rfl⟩
    rw [hv2] at HA0 HF0 HB1 ⊢
    rw [hg] at HA0 ⊢
    obtain ⟨st, hst⟩ : ∃ st, startOf n pre = st := ⟨_, rfl⟩
    have hst8 : st ≤ 72000000 := by rw [← hst]; have := startOf_le n pre; omega
    rw [hst] at c3
    have HST := Lib.hid hst
    have C0 := Lib.hid c0; have C1 := Lib.hid c1; have C2 := Lib.hid c2; have C3 := Lib.hid c3; have Z2 := Lib.hid z2; have Z3 := Lib.hid z3; have HBW := Lib.hid hB
    clear hal hf hb1 hs hf1 hv2 hg hst c0 c1 c2 c3 z2 z3 hB hl8 hb6 hz6 K1 K2 K3 K4 K5 K6
    have hmx : Tryz.prog.follows .mixedOrders = true := by kernel_rfl
    gi_loopw [18] (fun i wr => ∃ k : Nat, k ≤ m ∧ i = .int .i64 k ∧ Hid (∀ j, j < k → allowsR (nth (chunkL l x) j) ln lb = false) ∧ Hid (Below v2.heap.size v2 wr)) (fun i _ => m - (intOf i).toNat)
    case atStart => exact ⟨0, Nat.zero_le _, rfl, Lib.hid (fun j hj => absurd hj (by omega)), Lib.hid (Below.refl _ _)⟩
    case round =>
      obtain ⟨k, hk, rfl, ha, hb⟩ := hrel
      have hbw := Lib.hid (HB1.out.trans (hb.out.mono HB1.out.size))
      have q0 := (hbw.out.cell (Ret.cell_lt C0.out)).trans C0.out
      have q1 := (hbw.out.cell (Ret.cell_lt C1.out)).trans C1.out
      have q2 := (hbw.out.cell (Ret.cell_lt C2.out)).trans C2.out
      have q3 := (hbw.out.cell (Ret.cell_lt C3.out)).trans C3.out
      have y2 := (hbw.out.frozen (Ret.cell_lt C2.out)).trans Z2.out
      have y3 := (hbw.out.frozen (Ret.cell_lt C3.out)).trans Z3.out
      by_cases hlt2 : k < m
      · have hk8 : k < 8 := by omega
        have q9 : wr.cell? ⟨g, k, none⟩ = some (f k) := ((HA0.out.on hb.out).cell k).trans (arr8_at f hk8)
        have hy := (show nth (chunkL l x) k ∈ chunkL l x from nth_mem (by rw [HCL.out]; exact hlt2))
        have HPY := Lib.hid (HCP.out _ hy)
        have HWR := Lib.hid (HBW.out.trans (hbw.out.mono HBW.out.size))
        have GN2 := Lib.hid (GN.out.on (HWR.out.trans ((Below.refl wr.heap.size wr).drew.mono HWR.out.size)))
        have GB2 := Lib.hid (GB.out.on (HWR.out.trans ((Below.refl wr.heap.size wr).drew.mono HWR.out.size)))
        clear hy
        have NEXT : ∀ v3, Below wr.heap.size wr v3 → Hid (Below v2.heap.size v2 v3) := fun v3 h => Lib.hid (hb.out.trans (h.mono hb.out.size))
        have HNX := Lib.hid NEXT
        clear NEXT
        rcases (HF0.out k hlt2).on hb.out with ⟨hv, e⟩ | ⟨hv, g9, x0, x1, n0, c0, n1, c1, e, hr⟩
        · rw [e] at q9
          have HE := Lib.hid (allowsR_no hv ln lb)
          have HM2 := Lib.hid (show ∀ j, j < k + 1 → allowsR (nth (chunkL l x) j) ln lb = false from fun j hj => by rcases Nat.lt_succ_iff_lt_or_eq.1 hj with h5 | h5; exact ha.out j h5; exact h5 ▸ HE.out)
          have Q0 := Lib.hid q0; have Q1 := Lib.hid q1; have Q9 := Lib.hid q9
          clear e hv q0 q1 q2 q3 y2 y3 q9
          gi_wp2
          refine far8n hk8 Q0 Q1 Q9 ?_
          intro u21 u22 u23 u24 u25 v3 hb3
          have HB3 := HNX.out v3 hb3
          clear hb3
          gi_wp2
          go_roundw
          case rel => exact ⟨k + 1, by omega, by go_num, HM2, HB3⟩
          case measure => simp [intOf]; omega
        · rw [e] at q9
          obtain ⟨z9, hz9⟩ : ∃ z9, okR2 (nth (chunkL l x) k) ln lb = z9 := ⟨_, rfl⟩
          have HE := Lib.hid ((allowsR_yes hv ln lb).trans hz9)
          have HR := Lib.hid hr; have HZ9 := Lib.hid hz9
          have Q0 := Lib.hid q0; have Q1 := Lib.hid q1; have Q9 := Lib.hid q9; have Q2 := Lib.hid q2; have Q3 := Lib.hid q3; have Y2 := Lib.hid y2; have Y3 := Lib.hid y3
          clear e hv q0 q1 q2 q3 y2 y3 q9 hr hz9
          gi_wp2
          refine far8y HR HZ9 (Lib.hid (GN.out.on HWR.out)) (Lib.hid (GB.out.on HWR.out)) HPY HPN HPB hk8 Q0 Q1 Q9 ?_
          intro u21 u22 u23 u24 u25 v3 hb3
          have HB3 := HNX.out v3 hb3
          have q2 := (hb3.cell (Ret.cell_lt Q2.out)).trans Q2.out
          have q3 := (hb3.cell (Ret.cell_lt Q3.out)).trans Q3.out
          have y2 := (hb3.frozen (Ret.cell_lt Q2.out)).trans Y2.out
          have HBZ := Lib.hid (hbw.out.trans (hb3.mono hbw.out.size))
          clear hb3
          cases z9 with
          | false =>
            have HM2 := Lib.hid (show ∀ j, j < k + 1 → allowsR (nth (chunkL l x) j) ln lb = false from fun j hj => by rcases Nat.lt_succ_iff_lt_or_eq.1 hj with h5 | h5; exact ha.out j h5; exact h5 ▸ HE.out)
            clear q2 q3 y2
            gi_wp2
            go_roundw
            case rel => exact ⟨k + 1, by omega, by go_num, HM2, HB3⟩
            case measure => simp [intOf]; omega
          | true =>
            gi_wp2
            refine ⟨(keeps_below HBZ.out).trans (KeepsOthers.setCell _ _ _), ⟨rfl, pre, x, k, rfl, HNO.out, by rw [HCL.out]; exact hlt2, HE.out, ha.out, ?_⟩, (HBW.out.trans (HBZ.out.mono HBW.out.size)).setCell (p := ⟨w.heap.size + 1 + 1, 0, none⟩) (by simp; omega) _⟩
            rw [HST.out]
            exact (World.cell?_setCell_same' _ _ _ (by rw [q2]; rfl)).trans (by simp)
      · obtain rfl : k = m := by omega
        have Q3 := Lib.hid q3; have Y3 := Lib.hid y3
        have Q0 := Lib.hid q0; have Q1 := Lib.hid q1; have Q2 := Lib.hid q2; have Y2 := Lib.hid y2
        clear q0 q1 q2 y2
        gi_wp2
        have hX : ∀ b, b ≠ w.heap.size + 1 + 1 + 1 → (wr.setCell ⟨w.heap.size + 1 + 1 + 1, 0, none⟩ (.int .i64 ((st : Int) + (k : Int)))).cell? ⟨b, 0, none⟩ = wr.cell? ⟨b, 0, none⟩ := fun b hb => cell_heap (Go.RowKit.Below.heap_setCell wr ⟨w.heap.size + 1 + 1 + 1, 0, none⟩ _ b hb)
        have hN : ∀ y ∈ pre ++ [x], noneIn l ln lb y := fun y hy => by
          rcases List.mem_append.1 hy with hy | hy
          · exact HNO.out y hy
          · rw [List.mem_singleton.1 hy]; exact fun j hj => ha.out j (by rw [HCL.out] at hj; exact hj)
        refine ⟨(keeps_below hbw.out).trans (KeepsOthers.setCell _ _ _), (KpC.of hbw.out (by omega) (by omega) (by omega)).set (by omega) (by omega) (by omega) _, ⟨(hX _ (by omega)).trans Q0.out, (hX _ (by omega)).trans Q1.out, (hX _ (by omega)).trans Q2.out, by rw [World.frozen?_setCell]; exact Y2.out, ?_, by rw [World.frozen?_setCell]; exact Y3.out, hN, ?_⟩, (HBW.out.trans (hbw.out.mono HBW.out.size)).setCell (p := ⟨w.heap.size + 1 + 1 + 1, 0, none⟩) (by simp; omega) _⟩
        · rw [startOf_snoc, HST.out, HM.out]
          exact (World.cell?_setCell_same' _ _ _ (by rw [Q3.out]; rfl)).trans (by simp)
        · have h1 := hbw.out.size
          simp only [World.size_setCell]
          omega
  case done =>
    rintro D ys W hD ⟨m, hm, rfl⟩ ⟨⟨c0, c1, c2, z2, c3, z3, hnone, hsz⟩, hB⟩ hK
    have hF : z = -1 := by rw [← HZ.out]; exact firstR_chunks (by rw [HLEN.out]; exact hm) hnone
    subst hF
    gi_wp2
    have hK' := (KeepsOthers.setCell W ⟨w.heap.size + 1 + 1, 0, none⟩ (.int .i64 (-1))).same D _ hK rfl
    refine ⟨by simp, .inl ⟨_, _, rfl, run_takeDeferred hK', ?_⟩⟩
    have hc5 := cell_kept (World.cell?_setCell_same' W ⟨w.heap.size + 1 + 1, 0, none⟩ (.int .i64 (-1)) (by rw [c2]; rfl)) (grownBy_putObj' _ D (.deferred none)) (fun r e => by cases e; exact ⟨_, hK', rfl⟩)
    refine ⟨.int .i64 (-1), ?_, rfl, (hB.setCell (p := ⟨w.heap.size + 1 + 1, 0, none⟩) (by simp; omega) _).trans (belowK_b (w := w) (Nat.le_refl _) _ D _ _ (by omega) hK' rfl rfl)⟩
    simp [results, Tryz.f12, go_sem, hc5]
  case stop =>
    rintro D c pre W hD ⟨m, hm, rfl⟩ ⟨⟨rfl, ini, last, i, e1, e2, e3, e4, e5, hcr⟩, hB⟩ hK
    rw [List.range_succ] at e1
    obtain ⟨rfl, e7⟩ := List.append_inj' e1 rfl
    obtain rfl : m = last := by simpa using e7
    have hF : ((startOf n (List.range m) + i : Nat) : Int) = z := by rw [← HZ.out, firstR_chunk (by rw [HLEN.out]; exact hm) e2 e3 e4 e5, HLEN.out]
    rw [hF] at hcr
    clear hF e1 e2 e3 e4 e5 e7
    gi_wp2
    refine ⟨by simp, .inl ⟨_, _, rfl, run_takeDeferred hK, ?_⟩⟩
    have hc5 := cell_kept hcr (grownBy_putObj' _ D (.deferred none)) (fun r e => by cases e; exact ⟨_, hK, rfl⟩)
    refine ⟨.int .i64 z, ?_, rfl, hB.trans (belowK_b (w := w) (Nat.le_refl _) W D _ _ (by omega) hK rfl rfl)⟩
    simp [results, Tryz.f12, go_sem, hc5]

set_option maxHeartbeats 4000000 in
theorem implAllowed (V U1 U2 : Value) (l : List Rlt) (ln lb : List ByteArray) (w : World) (h : kLRl.At w V l) (g : kN.At w U1 ln) (g' : kN.At w U2 lb) (hl : l.length ≤ 9000000) (hp : ∀ x ∈ l, wtRl x ≤ 9000000) (hpn : bulk ln ≤ 9000000) (hpb : bulk lb ≤ 9000000) :
    Calls Tryz.prog 15 #[V, U1, U2] w fun e w' => e = .returned (.bool (decide (0 ≤ firstR l ln lb))) ∧ Below w.heap.size w w' := by
  obtain ⟨ad, n, cap, rfl, h⟩ := kLRl_shapeA h
  obtain ⟨xn, nn, cn, rfl, g⟩ := kN_shapeA g
  obtain ⟨xb, nb, cb, rfl, g'⟩ := kN_shapeA g'
  have HB := Lib.hid (((Below.refl w.heap.size w).alloc (Nat.le_refl _) (.cells #[.slice xn nn cn] 29)).alloc (by simp) (.cells #[.slice xb nb cb] 29))
  have HH := Lib.hid h; have GN := Lib.hid g; have GB := Lib.hid g'; have HP := Lib.hid hp; have HPN := Lib.hid hpn; have HPB := Lib.hid hpb; have HL := Lib.hid hl
  obtain ⟨z, hz⟩ : ∃ z, firstR l ln lb = z := ⟨_, rfl⟩
  have HZ := Lib.hid hz
  rw [hz]
  clear h g g' hp hpn hpb hl hz
  go_enter Tryz.func15, Tryz.ntmps15
  go_wp2_with fail
  refine (implFirstAllowingRule _ _ _ l ln lb _ z HZ.out (HH.out.on HB.out) (GN.out.on HB.out) (GB.out.on HB.out) HL.out HP.out HPN.out HPB.out).mono ?_
  rintro e w1 ⟨rfl, hb⟩
  replace HB := Lib.hid (HB.out.trans (hb.mono HB.out.size)); clear hb
  go_wp2_with fail
  go_ret
  exact ⟨rfl, HB.out⟩
end Go.Proofs.YtkojeajjappchaaGreat.Row
/- The reference model's split of a text at its spaces. No conditions but that lengths fit. -/
namespace Go.Proofs.YtkojeajjappchaaGreat.Row.Sp
open Go.ChangeShapes Go.WideShapes Go.ChangeAt Go.RowKit Go.Instr
set_option linter.unusedVariables false
set_option maxRecDepth 100000

def goS (cur : List UInt8) : List UInt8 → List (List UInt8)
  | [] => [cur]
  | c :: t => if c = 32 then cur :: goS [] t else goS (cur ++ [c]) t
theorem goS_slash (s : ByteArray) {f i : Nat} (h : i < s.size) (hc : s[i]'h = 32) : goS (seg s f i) (rest s i) = seg s f i :: goS (seg s (i + 1) (i + 1)) (rest s (i + 1)) := by
  rw [rest_cons s h, goS, if_pos hc, seg_self]
theorem goS_byte (s : ByteArray) {f i : Nat} (hf : f ≤ i) (h : i < s.size) (hc : s[i]'h ≠ 32) : goS (seg s f i) (rest s i) = goS (seg s f (i + 1)) (rest s (i + 1)) := by
  rw [rest_cons s h, goS, if_neg hc, seg_succ s hf h]
theorem goS_end (s : ByteArray) (f : Nat) : goS (seg s f s.size) (rest s s.size) = [seg s f s.size] := by rw [rest_end]; rfl
def splitB (s : ByteArray) : List ByteArray := (goS [] (bl s)).map mk
theorem nat32 {x : Nat} (h : x ≠ 32) : ((x : Int) == 32) = false := beq_eq_false_iff_ne.2 (by omega)
theorem byte32 {c : UInt8} : c = 32 ↔ c.toNat = 32 := by
  constructor
  · rintro rfl; rfl
  · intro h; apply UInt8.toNat_inj.1; rw [h]; rfl

/-- Where the reference model's loop stands: the pieces so far, and the rest. -/
def SpI (s : ByteArray) (k f : Nat) (L : List ByteArray) : Prop :=
  (k ≤ s.size → splitB s = L ++ (goS (seg s f k) (rest s k)).map mk) ∧ (k = s.size + 1 → splitB s = L)
theorem SpI.start (s : ByteArray) : SpI s 0 0 [] := ⟨fun _ => by unfold splitB; rw [seg_self]; rfl, fun h => by omega⟩
theorem SpI.cut {s : ByteArray} {k f : Nat} {L : List ByteArray} (h : SpI s k f L) (hk : k ≤ s.size) (hf : f ≤ k) (hc : ∀ h : k < s.size, s[k]'h = 32) : SpI s (k + 1) (k + 1) (L ++ [s.extract f k]) := by
  have h1 := h.1 hk
  by_cases hl : k < s.size
  · rw [goS_slash s hl (hc hl)] at h1
    refine ⟨fun _ => ?_, fun e => by omega⟩
    rw [h1, extract_seg]; simp
  · obtain rfl : k = s.size := by omega
    rw [goS_end] at h1
    refine ⟨fun e => by omega, fun _ => ?_⟩
    rw [h1, extract_seg]; simp
theorem SpI.on {s : ByteArray} {k f : Nat} {L : List ByteArray} (h : SpI s k f L) (hf : f ≤ k) (hl : k < s.size) (hc : s[k]'hl ≠ 32) : SpI s (k + 1) f L := by
  have h1 := h.1 (by omega)
  rw [goS_byte s hf hl hc] at h1
  exact ⟨fun _ => h1, fun e => by omega⟩

set_option maxHeartbeats 2000000 in
theorem l4Split (s : ByteArray) (w : World) (hs : s.size ≤ 10000000) :
    Calls Tryz.prog 34 #[.string s, .int .u8 32] w (GivesS w (splitB s)) := by
  have H0 := Lib.hid (own_empty Value.string 9 w)
  have B0 := Lib.hid ((Below.refl w.heap.size w).alloc (Nat.le_refl _) (.cells #[] 9))
  go_enter Tryz.func34, Tryz.ntmps34
  go_wp2_with fail
  go_loopw [5, 6, 7] (fun rv fv iv wr => ∃ (k f m : Nat) (L : List ByteArray), k ≤ s.size + 1 ∧ f ≤ k ∧ m ≤ k ∧ iv = .int .i64 k ∧ fv = .int .i64 f ∧ Hid (L.length = m) ∧ Hid (Own 9 Value.string w.heap.size wr rv L) ∧ Hid (Below w.heap.size w wr) ∧ Hid (SpI s k f L)) (fun _ _ iv _ => s.size + 1 - (intOf iv).toNat)
  case atStart => exact ⟨0, 0, 0, [], by omega, Nat.le_refl _, Nat.le_refl _, rfl, rfl, Lib.hid rfl, H0, B0, Lib.hid (SpI.start s)⟩
  case round =>
    obtain ⟨k, f, m, L, hk, hf, hm, rfl, rfl, hL, ho, hb, hI⟩ := hrel
    by_cases hle : k ≤ s.size
    · by_cases hcut : ∀ h : k < s.size, s[k]'h = 32
      · have HI2 := Lib.hid (hI.out.cut hle hf hcut)
        have HO := Lib.hid (ho.out.on ((Below.refl _ _).alloc (Nat.le_refl _) (.cells #[.string (s.extract f k)] 9)))
        have HL2 := Lib.hid (show (L ++ [s.extract f k]).length = m + 1 by rw [List.length_append, hL.out]; rfl)
        have hlm : (L.length + [s.extract f k].length) * 16 ≤ 140737488355328 := by rw [hL.out]; simp; omega
        have hlx : L.length + [s.extract f k].length ≤ maxLen := by rw [hL.out]; unfold maxLen; simp; omega
        have HLM := Lib.hid hlm; have HLX := Lib.hid hlx
        clear hlm hlx
        by_cases hlt : k < s.size
        · have hne : ((k : Int) == (s.size : Int)) = false := natne (Nat.ne_of_lt hlt)
          have hb32 : (((s[k]'hlt).toNat : Int) == 32) = true := by
            have := byte32.1 (hcut hlt)
            rw [this]; rfl
          clear hcut
          go_wp2_with (at_builtin; refine wpList_app (enc := Value.string) (B := w.heap.size) (l := L) (m := [s.extract f k]) rfl _ _ rfl Tryz.underlying24 elemSTR rfl rfl rfl HO.out (holds_one Value.string 9 _ _) oneStr HLM.out HLX.out (Nat.le_trans hb.out.size (by simp)) ?_)
          intro v2 w2 ho2 hg2
          have HO2 := Lib.hid ho2
          have HB2 := Lib.hid ((hb.out.alloc hb.out.size (.cells #[.string (s.extract f k)] 9)).grown hg2 (Nat.le_trans hb.out.size (by simp)) (fun g hh => (HO.out.lt g hh).1))
          clear ho2 hg2
          go_wp2_with fail
          go_roundw
          case rel => exact ⟨k + 1, k + 1, m + 1, _, by omega, Nat.le_refl _, by omega, by go_num, by go_num, HL2, HO2, HB2, HI2⟩
          case measure => simp [intOf]; omega
        · obtain rfl : k = s.size := by omega
          clear hcut
          go_wp2_with (at_builtin; refine wpList_app (enc := Value.string) (B := w.heap.size) (l := L) (m := [s.extract f s.size]) rfl _ _ rfl Tryz.underlying24 elemSTR rfl rfl rfl HO.out (holds_one Value.string 9 _ _) oneStr HLM.out HLX.out (Nat.le_trans hb.out.size (by simp)) ?_)
          intro v2 w2 ho2 hg2
          have HO2 := Lib.hid ho2
          have HB2 := Lib.hid ((hb.out.alloc hb.out.size (.cells #[.string (s.extract f s.size)] 9)).grown hg2 (Nat.le_trans hb.out.size (by simp)) (fun g hh => (HO.out.lt g hh).1))
          clear ho2 hg2
          go_wp2_with fail
          go_roundw
          case rel => exact ⟨s.size + 1, s.size + 1, m + 1, _, by omega, Nat.le_refl _, by omega, by go_num, by go_num, HL2, HO2, HB2, HI2⟩
          case measure => simp [intOf]
      · have hlt : k < s.size := by
          by_cases h : k < s.size
          · exact h
          · exact absurd (fun h2 => absurd h2 h) hcut
        have hc : s[k]'hlt ≠ 32 := fun e => hcut (fun _ => e)
        have HI2 := Lib.hid (hI.out.on hf hlt hc)
        have hne : ((k : Int) == (s.size : Int)) = false := natne (Nat.ne_of_lt hlt)
        have hb32 : (((s[k]'hlt).toNat : Int) == 32) = false := nat32 (fun e => hc (byte32.2 e))
        clear hcut hc
        go_wp2_with fail
        go_roundw
        case rel => exact ⟨k + 1, f, m, L, by omega, by omega, by omega, by go_num, rfl, hL, ho, hb, HI2⟩
        case measure => simp [intOf]; omega
    · obtain rfl : k = s.size + 1 := by omega
      have HE := Lib.hid (hI.out.2 rfl)
      clear hle
      go_wp2_with fail
      go_ret
      exact ⟨_, rfl, by rw [HE.out]; exact ho.out, hb.out⟩

end Go.Proofs.YtkojeajjappchaaGreat.Row.Sp
/- The mathematics of ParseRule: a text is cut at ' < ', or split at its spaces: the same pieces. No conditions. -/
namespace Go.Proofs.YtkojeajjappchaaGreat.Row
open Go.ChangeShapes Go.WideShapes Go.ChangeAt Go.RowKit Go.Instr
set_option linter.unusedVariables false
set_option maxRecDepth 100000

def freeS (l : List UInt8) : Prop := ∀ c ∈ l, c ≠ 32
theorem goSp_cut : ∀ (a cur t : List UInt8), freeS a → Sp.goS cur (a ++ 32 :: t) = (cur ++ a) :: Sp.goS [] t
  | [], cur, t, _ => by simp [Sp.goS]
  | c :: a, cur, t, h => by
    have hc : c ≠ 32 := h c (by simp)
    have ih := goSp_cut a (cur ++ [c]) t (fun x hx => h x (by simp [hx]))
    rw [List.cons_append, Sp.goS, if_neg hc, ih]
    simp
theorem goSp_end : ∀ (a cur : List UInt8), freeS a → Sp.goS cur a = [cur ++ a]
  | [], cur, _ => by simp [Sp.goS]
  | c :: a, cur, h => by
    have hc : c ≠ 32 := h c (by simp)
    rw [Sp.goS, if_neg hc, goSp_end a (cur ++ [c]) (fun x hx => h x (by simp [hx]))]
    simp
theorem goSp_ne : ∀ (t cur : List UInt8), Sp.goS cur t ≠ []
  | [], cur => by simp [Sp.goS]
  | c :: t, cur => by
    rw [Sp.goS]; split
    · simp
    · exact goSp_ne t _
theorem goSp_more : ∀ (t cur : List UInt8) (x : List UInt8) (r : List (List UInt8)), Sp.goS cur t = x :: r → r ≠ [] → ∃ a u, t = a ++ 32 :: u ∧ x = cur ++ a ∧ freeS a ∧ Sp.goS [] u = r
  | [], cur, x, r, h, hr => by
    rw [Sp.goS] at h
    injection h with h1 h2
    exact absurd h2.symm hr
  | c :: t, cur, x, r, h, hr => by
    rw [Sp.goS] at h
    by_cases hc : c = 32
    · rw [if_pos hc] at h
      injection h with h1 h2
      exact ⟨[], t, by rw [hc]; rfl, by simp [h1], (fun y hy => by simp at hy), h2⟩
    · rw [if_neg hc] at h
      obtain ⟨a, u, e1, e2, e3, e4⟩ := goSp_more t _ x r h hr
      refine ⟨c :: a, u, by rw [e1]; rfl, by rw [e2]; simp, fun y hy => ?_, e4⟩
      rcases List.mem_cons.1 hy with hy | hy
      · rw [hy]; exact hc
      · exact e3 y hy
theorem goSp_last : ∀ (t cur : List UInt8) (x : List UInt8), Sp.goS cur t = [x] → x = cur ++ t ∧ freeS t
  | [], cur, x, h => by
    rw [Sp.goS] at h
    injection h with h1 h2
    exact ⟨by simp [h1], fun y hy => by simp at hy⟩
  | c :: t, cur, x, h => by
    rw [Sp.goS] at h
    by_cases hc : c = 32
    · rw [if_pos hc] at h
      injection h with h1 h2
      exact absurd h2 (goSp_ne _ _)
    · rw [if_neg hc] at h
      obtain ⟨e1, e2⟩ := goSp_last t _ x h
      refine ⟨by rw [e1]; simp, fun y hy => ?_⟩
      rcases List.mem_cons.1 hy with hy | hy
      · rw [hy]; exact hc
      · exact e2 y hy
theorem goSp_size : ∀ (t cur : List UInt8), ∀ p ∈ Sp.goS cur t, p.length ≤ cur.length + t.length
  | [], cur, p, hp => by rw [Sp.goS] at hp; rw [List.mem_singleton.1 hp]; simp
  | c :: t, cur, p, hp => by
    rw [Sp.goS] at hp
    by_cases hc : c = 32
    · rw [if_pos hc] at hp
      rcases List.mem_cons.1 hp with hp | hp
      · rw [hp]; omega
      · have := goSp_size t [] p hp; simp at this ⊢; omega
    · rw [if_neg hc] at hp
      have := goSp_size t _ p hp; simp at this ⊢; omega
theorem splitSp_size (s : ByteArray) : ∀ p ∈ Sp.splitB s, p.size ≤ s.size := fun p hp => by
  unfold Sp.splitB at hp
  obtain ⟨q, hq, rfl⟩ := List.mem_map.1 hp
  have := goSp_size _ _ q hq
  rw [mk_size, ← bl_length s]; simpa using this
def signL : List UInt8 := [32, 60, 32]
theorem splitSp_of {s a b : ByteArray} (h : bl s = bl a ++ signL ++ bl b) (ha : freeS (bl a)) (hb : freeS (bl b)) : Sp.splitB s = [a, mk [60], b] := by
  unfold Sp.splitB
  rw [h, show bl a ++ signL ++ bl b = bl a ++ 32 :: ([60] ++ 32 :: bl b) by simp [signL], goSp_cut _ _ _ ha, goSp_cut [60] [] _ (fun c hc => by rw [List.mem_singleton.1 hc]; decide), goSp_end _ _ hb]
  simp [mk_bl]
theorem splitSp_back {s a b : ByteArray} (h : Sp.splitB s = [a, mk [60], b]) : bl s = bl a ++ signL ++ bl b ∧ freeS (bl a) ∧ freeS (bl b) := by
  have h1 : Sp.goS [] (bl s) = [bl a, [60], bl b] := by
    have := congrArg (List.map bl) h
    unfold Sp.splitB at this
    rw [map_bl_mk] at this
    simpa [bl_mk] using this
  obtain ⟨x, u, e1, e2, e3, e4⟩ := goSp_more _ _ _ _ h1 (by simp)
  obtain ⟨y, v, f1, f2, f3, f4⟩ := goSp_more _ _ _ _ e4 (by simp)
  obtain ⟨g1, g2⟩ := goSp_last _ _ _ f4
  rw [List.nil_append] at e2 f2 g1
  refine ⟨?_, by rw [e2]; exact e3, by rw [g1]; exact g2⟩
  rw [e1, f1, ← e2, ← f2, ← g1]
  simp [signL]
theorem index_sign {s : List UInt8} {a b : List UInt8} (h : s = a ++ signL ++ b) (ha : freeS a) : Lib.index s signL = a.length := by
  refine Lib.index_first (by rw [h]; simp) ?_ (fun j hj => ?_)
  · unfold Lib.occAt; rw [h]; simp [signL]
  · unfold Lib.occAt
    rw [h, List.append_assoc, List.drop_append_of_le_length (by omega)]
    have hj2 : a.drop j = a[j] :: a.drop (j + 1) := List.drop_eq_getElem_cons hj
    rw [hj2, List.cons_append]
    have : a[j] ≠ 32 := ha _ (List.getElem_mem _)
    simp [signL, List.isPrefixOf, this.symm]
theorem cut_sign {s : List UInt8} {a b : List UInt8} (h : s = a ++ signL ++ b) (ha : freeS a) : Lib.cut s signL = (a, b, true) := by
  unfold Lib.cut
  rw [index_sign h ha, if_pos (by omega), h]
  have e1 : ((a.length : Int)).toNat = a.length := by omega
  rw [e1]
  have e2 : (a ++ signL ++ b).take a.length = a := by rw [List.append_assoc, List.take_left]
  have e3 : (a ++ signL ++ b).drop (a.length + signL.length) = b := by rw [show a.length + signL.length = (a ++ signL).length by simp, List.drop_left]
  rw [e2, e3]
theorem cut_cases (s : List UInt8) : ((Lib.cut s signL).2.2 = false ∧ (Lib.cut s signL).2.1 = []) ∨ s = (Lib.cut s signL).1 ++ signL ++ (Lib.cut s signL).2.1 := by
  rcases Lib.index_spec s signL with ⟨h, -⟩ | ⟨i, h, hi, ho, -⟩
  · refine Or.inl ?_
    unfold Lib.cut
    rw [h, if_neg (by omega)]
    exact ⟨rfl, rfl⟩
  · refine Or.inr ?_
    unfold Lib.cut
    rw [h, if_pos (by omega)]
    have e1 : ((i : Int)).toNat = i := by omega
    rw [e1]
    unfold Lib.occAt at ho
    obtain ⟨t, ht⟩ := List.isPrefixOf_iff_prefix.1 ho
    show s = s.take i ++ signL ++ s.drop (i + signL.length)
    rw [← List.drop_drop, ← ht, List.drop_left, List.append_assoc, ht, List.take_append_drop]

/-! patterns' texts have no space, and are not empty -/
theorem elem_noSpace {s : ByteArray} {b : Bool} (h : elemP s b = true) : freeS (bl s) := by
  rcases elemP_iff.1 h with h | h | h | ⟨h, _⟩
  · intro c hc e
    obtain ⟨i, hi, rfl⟩ := List.getElem_of_mem hc
    rw [bl_length] at hi
    have h1 := (validP_iff.1 h).2.2 i hi hi
    rw [bl_get s i hi] at e
    rw [e] at h1
    simp [okR] at h1
  · subst h
    exact fun c hc => by simp [bl, starB] at hc; rw [hc]; decide
  · obtain ⟨h2, h0, h1, h3⟩ := letterP_iff.1 h
    intro c hc e
    obtain ⟨i, hi, rfl⟩ := List.getElem_of_mem hc
    rw [bl_length] at hi
    rw [bl_get s i hi] at e
    have : i = 0 ∨ i = 1 := by omega
    rcases this with rfl | rfl
    · rw [e] at h0; exact absurd h0 (by decide)
    · rw [e] at h1; exact absurd h1 (by decide)
  · subst h
    exact fun c hc => by simp [bl, star2B] at hc; rw [hc]; decide
theorem freeS_append {a b : List UInt8} (h : freeS a) (g : freeS b) : freeS (a ++ b) := fun c hc => (List.mem_append.1 hc).elim (h c) (g c)
theorem join_noSpace : ∀ (L : List (List UInt8)), (∀ p ∈ L, freeS p) → freeS (Lib.join L [47])
  | [], _ => fun c hc => by simp [Lib.join_nil] at hc
  | x :: r, h => by
    rw [Lib.join_cons]
    refine freeS_append (h x (by simp)) ?_
    unfold Lib.joinTail
    intro c hc
    obtain ⟨p, hp, hc⟩ := List.mem_flatten.1 hc
    obtain ⟨q, hq, rfl⟩ := List.mem_map.1 hp
    rcases List.mem_append.1 hc with hc | hc
    · rw [List.mem_singleton.1 hc]; decide
    · exact h q (by simp [hq]) c hc
theorem fmt_noSpace {l : List ByteArray} (h : validPat l = true) : freeS (bl (fmtS l)) := by
  unfold fmtS fmtL
  rw [bl_mk]
  intro c hc
  rcases List.mem_cons.1 hc with hc | hc
  · rw [hc]; decide
  · refine join_noSpace _ (fun p hp => ?_) c hc
    obtain ⟨q, hq, rfl⟩ := List.mem_map.1 hp
    obtain ⟨j, hj, rfl⟩ := List.getElem_of_mem hq
    have := (validPat_iff.1 h).2 j hj
    rw [nth_eq hj] at this
    exact elem_noSpace this
theorem pp_noSpace {s : ByteArray} (h : ppOk s = true) : freeS (bl s) := by
  obtain ⟨h1, h2⟩ := ppOk_iff.1 h
  rw [← h2]; exact fmt_noSpace h1
theorem pp_nonempty {s : ByteArray} (h : ppOk s = true) : bl s ≠ [] := by
  obtain ⟨h1, h2⟩ := ppOk_iff.1 h
  rw [← h2]
  unfold fmtS fmtL
  rw [bl_mk]; simp

/-- What the pieces are asked. -/
def prAB (a b : ByteArray) : Bool := ppOk a && ppOk b && validR (ppN a, ppN b)
def prOk (s : ByteArray) : Bool :=
  match Sp.splitB s with
  | [a, c, b] => decide (c = mk [60]) && prAB a b
  | _ => false
def prR (s : ByteArray) : Rlt :=
  match Sp.splitB s with
  | [a, c, b] => if (decide (c = mk [60]) && prAB a b) = true then (ppN a, ppN b) else ([], [])
  | _ => ([], [])
theorem pr_three {s a c b : ByteArray} (h : Sp.splitB s = [a, c, b]) : prOk s = (decide (c = mk [60]) && prAB a b) ∧ prR s = if (decide (c = mk [60]) && prAB a b) = true then (ppN a, ppN b) else ([], []) := by
  unfold prOk prR; rw [h]; exact ⟨rfl, rfl⟩
theorem pr_other {s : ByteArray} (h : (Sp.splitB s).length ≠ 3) : prOk s = false ∧ prR s = ([], []) := by
  unfold prOk prR
  rcases hs : Sp.splitB s with _ | ⟨a, _ | ⟨b, _ | ⟨c, _ | ⟨d, r⟩⟩⟩⟩
  · exact ⟨rfl, rfl⟩
  · exact ⟨rfl, rfl⟩
  · exact ⟨rfl, rfl⟩
  · rw [hs] at h; exact absurd rfl h
  · exact ⟨rfl, rfl⟩
theorem prOk_iff {s : ByteArray} : prOk s = true ↔ ∃ a b, Sp.splitB s = [a, mk [60], b] ∧ prAB a b = true := by
  constructor
  · intro h
    unfold prOk at h
    split at h
    · rename_i a c b hs
      have h2 := (Bool.and_eq_true _ _).mp h
      exact ⟨a, b, by rw [hs, of_decide_eq_true h2.1], h2.2⟩
    · cases h
  · rintro ⟨a, b, hs, h⟩
    rw [(pr_three hs).1, h]; simp
/-- The program's way: the text is cut. -/
theorem pr_cut (s : ByteArray) : prAB (mk (Lib.cut (bl s) signL).1) (mk (Lib.cut (bl s) signL).2.1) = prOk s ∧ (prOk s = true → prR s = (ppN (mk (Lib.cut (bl s) signL).1), ppN (mk (Lib.cut (bl s) signL).2.1))) := by
  have back : ∀ {a b : ByteArray}, Sp.splitB s = [a, mk [60], b] → mk (Lib.cut (bl s) signL).1 = a ∧ mk (Lib.cut (bl s) signL).2.1 = b := fun {a b} h => by
    obtain ⟨h1, h2, h3⟩ := splitSp_back h
    rw [cut_sign h1 h2]
    exact ⟨mk_bl a, mk_bl b⟩
  have fwd : prAB (mk (Lib.cut (bl s) signL).1) (mk (Lib.cut (bl s) signL).2.1) = true → prOk s = true := fun h => by
    have h2 := (Bool.and_eq_true _ _).mp ((Bool.and_eq_true _ _).mp h).1
    rcases cut_cases (bl s) with ⟨-, h3⟩ | h3
    · exact absurd (by rw [h3, bl_mk]) (pp_nonempty h2.2)
    · refine prOk_iff.2 ⟨_, _, splitSp_of (by rw [bl_mk, bl_mk]; exact h3) (pp_noSpace h2.1) (pp_noSpace h2.2), h⟩
  refine ⟨?_, fun h => ?_⟩
  · cases hp : prOk s with
    | true =>
      obtain ⟨a, b, hs, h⟩ := prOk_iff.1 hp
      obtain ⟨e1, e2⟩ := back hs
      rw [e1, e2]; exact h
    | false =>
      cases h : prAB (mk (Lib.cut (bl s) signL).1) (mk (Lib.cut (bl s) signL).2.1) with
      | false => rfl
      | true => rw [fwd h] at hp; cases hp
  · obtain ⟨a, b, hs, h2⟩ := prOk_iff.1 h
    obtain ⟨e1, e2⟩ := back hs
    rw [(pr_three hs).2, h2, e1, e2]; simp
theorem prR_no {s : ByteArray} (h : prOk s = false) : prR s = ([], []) := by
  by_cases hl : (Sp.splitB s).length = 3
  · rcases hs : Sp.splitB s with _ | ⟨a, _ | ⟨c, _ | ⟨b, _ | ⟨d, r⟩⟩⟩⟩ <;> (try (rw [hs] at hl; simp at hl))
    have := pr_three hs
    rw [this.1] at h
    rw [this.2, h]; rfl
  · exact (pr_other hl).2
theorem cut_len (s : ByteArray) : (mk (Lib.cut (bl s) signL).1).size ≤ s.size ∧ (mk (Lib.cut (bl s) signL).2.1).size ≤ s.size := by
  rw [mk_size, mk_size, ← bl_length]
  unfold Lib.cut
  split
  · exact ⟨by simp; omega, by simp⟩
  · exact ⟨Nat.le_refl _, by simp⟩
theorem elem_size {s : ByteArray} {b : Bool} (h : elemP s b = true) : s.size ≤ 8 := by
  rcases elemP_iff.1 h with h | h | h | ⟨h, _⟩
  · exact (validP_iff.1 h).2.1
  · subst h; decide
  · have := (letterP_iff.1 h).1; omega
  · subst h; decide
theorem bulk_small : ∀ (l : List ByteArray), (∀ s ∈ l, s.size ≤ 8) → bulk l ≤ 9 * l.length
  | [], _ => by simp [bulk_nil]
  | x :: r, h => by
    have h1 := h x (by simp)
    have h2 := bulk_small r (fun s hs => h s (by simp [hs]))
    rw [bulk_cons, List.length_cons]; omega
theorem ppN_bulk (s : ByteArray) : bulk (ppN s) ≤ 54 := by
  have hv := validPat_iff.1 (pt_valid_pN s)
  have := bulk_small (ppN s) (fun x hx => by
    obtain ⟨j, hj, rfl⟩ := List.getElem_of_mem hx
    have := hv.2 j hj
    rw [nth_eq hj] at this
    exact elem_size this)
  omega
theorem wt_pp (a b : ByteArray) : wtRl (ppN a, ppN b) ≤ 9000000 := by
  have h1 := ppN_bulk a; have h2 := ppN_bulk b
  show bulk (ppN a) + bulk (ppN b) ≤ 9000000
  omega
end Go.Proofs.YtkojeajjappchaaGreat.Row
