/- Contracts of the helpers by which the exact laws copy, compare, mark and look at slices of numbers: a copy lies in memory of the call's own and holds the same list; comparing tells whether the lists are equal; marking writes the numbers from k on; looking at the marks tells that they are there. No conditions but that lengths fit. -/
import Derived.Test.YtnnhgcfelkcpfaaRows
import Derived.Test.YtnnhgcfelkcpfaaSlice
import Derived.LoopTactic
import Derived.Deep.QuietTactic
import Derived.BigQuiet
namespace Go.Proofs.Ytnnhgcfelkcpfaa.Sl
open Go.ChangeShapes Go.WideShapes Go.ChangeAt Go.RowKit Go.Instr
set_option linter.unusedVariables false
set_option maxRecDepth 100000

/-- The list behind the first k stores of a copy. -/
def filled (l : List Int) (k : Nat) : List Int := l.take k ++ List.replicate (l.length - k) 0
theorem filled_length (l : List Int) {k : Nat} (h : k ≤ l.length) : (filled l k).length = l.length := by simp [filled]; omega
theorem filled_zero (l : List Int) : filled l 0 = List.replicate l.length 0 := by simp [filled]
theorem filled_all (l : List Int) : filled l l.length = l := by simp [filled]
theorem filled_step (l : List Int) {k : Nat} (h : k < l.length) : (filled l k).set k (nth l k) = filled l (k + 1) := by
  have hl : (l.take k).length = k := by simp; omega
  unfold filled
  rw [List.set_append_right _ _ (by omega), hl, Nat.sub_self, show l.length - k = (l.length - (k + 1)) + 1 by omega, List.replicate_succ, List.set_cons_zero, nth_eq h]
  have := List.take_succ_eq_append_getElem h
  rw [this, List.append_assoc]; rfl

/-- The numbers that a marking writes: from k on, as the element's kind holds them. -/
def marks (kd : IntKind) (k : Int) : Nat → List Int
  | 0 => []
  | n + 1 => marks kd k n ++ [kd.wrap (k + n)]
theorem marks_length (kd : IntKind) (k : Int) : ∀ n, (marks kd k n).length = n
  | 0 => rfl
  | n + 1 => by simp [marks, marks_length kd k n]
theorem marks_at (kd : IntKind) (k : Int) : ∀ n j, j < n → nth (marks kd k n) j = kd.wrap (k + j)
  | n + 1, j, h => by
    simp only [marks]
    by_cases hj : j < n
    · have := marks_at kd k n j hj
      simp only [nth, List.getD, List.getElem?_append, marks_length] at *
      rw [if_pos hj]; exact this
    · obtain rfl : j = n := by omega
      simp [nth, List.getD, marks_length]
/-- The list behind the first j marks. -/
def marked (kd : IntKind) (k : Int) (l : List Int) (j : Nat) : List Int := marks kd k j ++ l.drop j
theorem marked_length (kd : IntKind) (k : Int) (l : List Int) {j : Nat} (h : j ≤ l.length) : (marked kd k l j).length = l.length := by simp [marked, marks_length]; omega
theorem marked_zero (kd : IntKind) (k : Int) (l : List Int) : marked kd k l 0 = l := by simp [marked, marks]
theorem marked_all (kd : IntKind) (k : Int) (l : List Int) : marked kd k l l.length = marks kd k l.length := by simp [marked]
theorem marked_step (kd : IntKind) (k : Int) (l : List Int) {j : Nat} (h : j < l.length) (x : Int) (hx : x = kd.wrap (k + j)) : (marked kd k l j).set j x = marked kd k l (j + 1) := by
  subst hx
  simp only [marked, marks]
  rw [List.set_append_right _ _ (by rw [marks_length]; omega), marks_length, Nat.sub_self, List.append_assoc]
  congr 1
  cases hd : l.drop j with
  | nil => have := congrArg List.length hd; simp at this; omega
  | cons x r =>
    have : l.drop (j + 1) = r := by rw [← List.drop_drop, hd]; rfl
    simp [this]


/-- Two lists agree up to k. -/
def agree (a b : List Int) (k : Nat) : Prop := ∀ j, j < k → nth a j = nth b j
theorem agree_zero (a b : List Int) : agree a b 0 := fun j h => absurd h (by omega)
theorem agree_succ {a b : List Int} {k : Nat} (h : agree a b k) (hk : nth a k = nth b k) : agree a b (k + 1) := fun j hj => by
  by_cases e : j = k
  · subst e; exact hk
  · exact h j (by omega)
theorem agree_all {a b : List Int} (hl : a.length = b.length) (h : agree a b a.length) : a = b := by
  apply List.ext_getElem hl
  intro i h1 h2
  have := h i h1
  rwa [nth_eq h1, nth_eq h2] at this
theorem differ_at {a b : List Int} {k : Nat} (h : ¬ nth a k = nth b k) : a ≠ b := fun e => h (by rw [e])
def eqB (a b : List Int) : Bool := decide (a = b)
theorem eqB_true {a b : List Int} (h : a = b) : eqB a b = true := by simp [eqB, h]
theorem eqB_false {a b : List Int} (h : a ≠ b) : eqB a b = false := by simp [eqB, h]
theorem eqB_self (a : List Int) : eqB a a = true := by simp [eqB]

theorem own_store {e : TypeId} {k : IntKind} {B : Nat} {w : World} {g n cap : Nat} {l : List Int} (h : Own e k B w (.slice (some ⟨g, 0, none⟩) n cap) l) (hn : n = l.length) (j : Nat) (x : Int) :
    Own e k B (w.setCell ⟨g, j, none⟩ (.int k x)) (.slice (some ⟨g, 0, none⟩) n cap) (l.set j x) ∧ w.grownBy (w.setCell ⟨g, j, none⟩ (.int k x)) (some g) := by
  subst hn
  have := World.ownsRow.stored h j (.int k x)
  refine ⟨?_, this.2⟩
  unfold Own
  rw [List.length_set, List.map_set]
  exact this.1
theorem own_cell {e : TypeId} {k : IntKind} {B : Nat} {w : World} {g n cap : Nat} {l : List Int} (h : Own e k B w (.slice (some ⟨g, 0, none⟩) n cap) l) (hn : n = l.length) {j : Nat} (hj : j < l.length) :
    w.cell? ⟨g, j, none⟩ = some (.int k (nth l j)) ∧ w.frozen? ⟨g, j, none⟩ = false := by
  subst hn
  refine ⟨?_, World.ownsRow.frozenAt h j⟩
  rw [World.ownsRow.cellAt h j (by simpa using hj), getD_map hj]

theorem below_drewN {B : Nat} {a w : World} (h : Below B a w) (n : Nat) : Below B a (w.drewN n) := ⟨h.os, h.tape, h.output, h.size, h.block⟩
theorem ret_bool {a b : Bool} (h : a = b) : Ending.returned (.bool a) = .returned (.bool b) := by rw [h]
theorem ret_int {k : IntKind} {a b : Int} (h : a = b) : Ending.returned (.int k a) = .returned (.int k b) := by rw [h]

/-! ### BYTES -/
theorem elemBYTE : Elem Try.prog 5 (.int .u8 0) 1 := by unfold Elem; kernel_rfl

set_option maxHeartbeats 1000000 in
theorem toByteS (v : Value) (l : List Int) (w : World) (h : Holds .u8 w v l) (hl : l.length ≤ 100000000) :
    Calls Try.prog 17 #[v] w fun e w' => ∃ v', e = .returned v' ∧ Own 5 .u8 w.heap.size w' v' l ∧ Below w.heap.size w w' := by
  obtain ⟨x, cap, rfl, hcap, hh⟩ := h.shape
  obtain ⟨i0, hi, hz0, hz1, hz2⟩ := info_parts elemBYTE
  obtain ⟨n, hn⟩ : ∃ n, n = l.length := ⟨_, rfl⟩
  rw [← hn] at hcap hh hl ⊢
  have HN := Lib.hid hn
  have HH := Lib.hid hh
  have HI := Lib.hid hi; have HZ0 := Lib.hid hz0; have HZ1 := Lib.hid hz1; have HZ2 := Lib.hid hz2
  clear hn h hh hi hz0 hz1 hz2
  go_enter Try.func17, Try.ntmps17
  go_wp2_with (at_make; refine wpList_make_full _ rfl _ _ 35 rfl w.heap.size 5 i0 (.int .u8 0) 1 Try.underlying35 HI.out HZ0.out HZ1.out _ _ _ _ n rfl rfl rfl rfl (by rw [HZ2.out]; omega) (by unfold maxLen; omega) (Nat.le_refl _) ?_)
  intro w1 hown hgrow
  have ho : Own 5 .u8 w.heap.size w1 (.slice (some ⟨w.heap.size, 0, none⟩) n n) (filled l 0) := by
    unfold Own
    rw [filled_zero, List.length_replicate, ← HN.out, List.map_replicate]
    rw [toList_madeCells_one] at hown
    exact hown
  have hb : Below w.heap.size w w1 := (Below.refl _ _).grown hgrow (Nat.le_refl _) (fun k hk => by cases hk)
  have HO := Lib.hid ho; have HB := Lib.hid hb
  clear hown hgrow ho hb
  go_wp2_with fail
  go_loopw [4] (fun i wr => ∃ k : Nat, k ≤ n ∧ i = .int .i64 k ∧ Hid (Own 5 .u8 w.heap.size wr (.slice (some ⟨w.heap.size, 0, none⟩) n n) (filled l k)) ∧ Hid (Below w.heap.size w wr)) (fun i _ => n - (intOf i).toNat)
  case atStart => exact ⟨0, Nat.zero_le _, rfl, HO, HB⟩
  case round =>
    obtain ⟨k, hk, rfl, ho, hb⟩ := hrel
    by_cases hlt : k < n
    · have hlen := HN.out
      obtain ⟨b, off, rfl, hc⟩ := ((HH.out).on hb.out).at (j := k) (by omega)
      obtain ⟨hc2, hf2⟩ := own_cell ho.out (by rw [filled_length l (by omega)]; exact hlen) (j := k) (by rw [filled_length l (by omega)]; omega)
      obtain ⟨hs1, hs2⟩ := own_store ho.out (by rw [filled_length l (by omega)]; exact hlen) k (nth l k)
      rw [filled_step l (by omega)] at hs1
      have HS1 := Lib.hid hs1; have HS2 := Lib.hid hs2
      clear hs1 hs2 hlen
      go_wp2
      go_roundw
      case rel => exact ⟨k + 1, by omega, by go_num, HS1, Lib.hid (hb.out.grown HS2.out (by have := hb.out.size; exact this) (fun g hg => by cases hg; exact Nat.le_refl _))⟩
      case measure => simp [intOf]; omega
    · obtain rfl : k = n := by omega
      clear hlt
      go_wp2
      go_ret
      refine ⟨_, rfl, ?_, hb.out⟩
      have := ho.out
      rw [HN.out, filled_all] at this
      rw [HN.out]
      exact this

theorem eqByteS_len (x y : Option Addr) (n m cx cy : Nat) (w : World) (h : (((n : Nat) : Int) != ((m : Nat) : Int)) = true) :
    Calls Try.prog 20 #[.slice x n cx, .slice y m cy] w fun e w' => e = .returned (.bool false) ∧ w = w' := by
  go_enter Try.func20, Try.ntmps20
  go_wp2
  go_ret
  exact ⟨rfl, rfl⟩

set_option maxHeartbeats 1000000 in
theorem eqByteS (v u : Value) (l m : List Int) (w : World) (h : Holds .u8 w v l) (g : Holds .u8 w u m) (hl : l.length ≤ 100000000) (hm : m.length ≤ 100000000) :
    Calls Try.prog 20 #[v, u] w fun e w' => e = .returned (.bool (eqB l m)) ∧ Below w.heap.size w w' := by
  obtain ⟨x, cx, rfl, hcx, hh⟩ := h.shape
  obtain ⟨y, cy, rfl, hcy, hg⟩ := g.shape
  by_cases he : l.length = m.length
  · obtain ⟨n, hn⟩ : ∃ n, n = l.length := ⟨_, rfl⟩
    rw [← he] at hg hm hcy ⊢
    rw [← hn] at hcx hh hl hg hm hcy ⊢
    have HE := Lib.hid he
    have HN := Lib.hid hn
    have HH := Lib.hid hh
    have HG := Lib.hid hg
    have htest : (((n : Nat) : Int) != ((n : Nat) : Int)) = false := by simp
    clear hn h hh g hg he
    go_enter Try.func20, Try.ntmps20
    go_wp2
    go_loopw [5] (fun i wr => ∃ k nq : Nat, k ≤ n ∧ i = .int .i64 k ∧ Hid (agree l m k) ∧ wr = w.drewN nq) (fun i _ => n - (intOf i).toNat)
    case atStart => exact ⟨0, 0, Nat.zero_le _, rfl, Lib.hid (agree_zero _ _), rfl⟩
    case round =>
      obtain ⟨k, nq, hk, rfl, ha, rfl⟩ := hrel
      by_cases hlt : k < n
      · have hlen := HN.out
        have hlen2 := HE.out
        obtain ⟨b, off, rfl, hc⟩ := HH.out.at (j := k) (by omega)
        obtain ⟨b', off', rfl, hc'⟩ := HG.out.at (j := k) (by omega)
        clear hlen hlen2
        by_cases hd : nth l k = nth m k
        · have hd2 : (nth l k != nth m k) = false := by simpa using hd
          have HD := Lib.hid hd; clear hd
          go_wp2_with fail
          go_quiet (fail)
          go_wp2_with fail
          go_roundw
          case rel => exact ⟨k + 1, _, by omega, by go_num, Lib.hid (agree_succ ha.out HD.out), rfl⟩
          case measure => simp [intOf]; omega
        · have hd2 : (nth l k != nth m k) = true := by simpa using hd
          have HD := Lib.hid (eqB_false (differ_at hd)); clear hd
          go_wp2_with fail
          go_quiet (fail)
          go_wp2_with fail
          go_ret
          exact ⟨ret_bool HD.out.symm, below_drewN (below_drewN (Below.refl _ _) _) _⟩
      · obtain rfl : k = n := by omega
        have HD := Lib.hid (eqB_true (agree_all HE.out (HN.out ▸ ha.out)))
        clear hlt
        go_wp2
        go_ret
        exact ⟨ret_bool HD.out.symm, below_drewN (Below.refl _ _) _⟩
  · have htest : (((l.length : Nat) : Int) != ((m.length : Nat) : Int)) = true := by
      rw [bne_iff_ne]; omega
    rw [eqB_false (fun e => he (by rw [e]))]
    exact (eqByteS_len x y _ _ cx cy w htest).mono fun e w' ⟨h1, h2⟩ => ⟨h1, by subst h2; exact Below.refl _ _⟩

/-- Marking: every element of a slice of the call's own is written. -/
def MarkedB (B : Nat) (w : World) (v : Value) (n : Nat) (k : Int) (e : Ending) (w' : World) : Prop :=
  e = .returned (.int .i64 (k + n)) ∧ Own 5 .u8 B w' v (marks .u8 k n) ∧ w.grownBy w' v.ownBlock

set_option maxHeartbeats 1000000 in
theorem markByteS (B : Nat) (v : Value) (l : List Int) (w : World) (k : Int) (h : Own 5 .u8 B w v l) (hl : l.length ≤ 100000000) (h0 : 0 ≤ k) (h1 : k ≤ 1000000000000) :
    Calls Try.prog 22 #[v, .int .i64 k] w (MarkedB B w v l.length k) := by
  rcases h.form with ⟨rfl, rfl⟩ | ⟨g, cap, rfl, g1, g2, g3, g4⟩
  · have H := Lib.hid h; clear h
    go_enter Try.func22, Try.ntmps22
    go_wp2
    refine wp_loop_rounds 1 ?_
    rw [rounds_succ]
    go_wp2
    go_ret
    exact ⟨ret_int (by simp), H.out, World.grownBy.refl _ _⟩
  · obtain ⟨n, hn⟩ : ∃ n, n = l.length := ⟨_, rfl⟩
    rw [← hn] at h hl g3 ⊢
    have HN := Lib.hid hn
    have H := Lib.hid h
    clear hn h
    have HB : Hid (Own 5 .u8 B w (.slice (some ⟨g, 0, none⟩) n cap) (marked .u8 k l 0)) := by rw [marked_zero]; exact H.out
    go_enter Try.func22, Try.ntmps22
    go_wp2
    go_loopw [1, 5] (fun kv i wr => ∃ j : Nat, j ≤ n ∧ i = .int .i64 j ∧ kv = .int .i64 (k + j) ∧ Hid (Own 5 .u8 B wr (.slice (some ⟨g, 0, none⟩) n cap) (marked .u8 k l j)) ∧ Hid (w.grownBy wr (some g))) (fun _ i _ => n - (intOf i).toNat)
    case atStart => exact ⟨0, Nat.zero_le _, rfl, by simp, HB, Lib.hid (World.grownBy.refl _ _)⟩
    case round =>
      obtain ⟨j, hj, rfl, rfl, ho, hg⟩ := hrel
      by_cases hlt : j < n
      · have hlen := HN.out
        obtain ⟨hc2, hf2⟩ := own_cell ho.out (by rw [marked_length _ _ l (by omega)]; exact hlen) (j := j) (by rw [marked_length _ _ l (by omega)]; omega)
        obtain ⟨hs1, hs2⟩ := own_store ho.out (by rw [marked_length _ _ l (by omega)]; exact hlen) j (IntKind.u8.wrap (k + j))
        rw [marked_step _ _ l (by omega) _ (rfl)] at hs1
        have HS1 := Lib.hid hs1; have HS2 := Lib.hid (Go.World.grownBy.trans hg.out hs2)
        clear hs1 hs2 hlen
        go_wp2
        go_roundw
        case rel => exact ⟨j + 1, by omega, by go_num, by go_num, HS1, HS2⟩
        case measure => simp [intOf]; omega
      · obtain rfl : j = n := by omega
        clear hlt
        go_wp2
        go_ret
        refine ⟨rfl, ?_, hg.out⟩
        have := ho.out
        rw [HN.out, marked_all] at this
        rw [HN.out]
        exact this

set_option maxHeartbeats 1000000 in
theorem heldByteS (v : Value) (w : World) (k : Int) (n : Nat) (h : Holds .u8 w v (marks .u8 k n)) (hl : n ≤ 100000000) (h0 : 0 ≤ k) (h1 : k ≤ 1000000000000) :
    Calls Try.prog 24 #[v, .int .i64 k] w fun e w' => e = .returned (.int .i64 (k + n)) ∧ w = w' := by
  obtain ⟨x, cap, rfl, hcap, hh⟩ := h.shape
  rw [marks_length] at hcap hh ⊢
  have HH := Lib.hid hh; clear hh h
  go_enter Try.func24, Try.ntmps24
  go_wp2
  go_loop [1, 5] (fun kv i => ∃ j : Nat, j ≤ n ∧ i = .int .i64 j ∧ kv = .int .i64 (k + j)) (fun _ i => n - (intOf i).toNat)
  case atStart => exact ⟨0, Nat.zero_le _, rfl, by simp⟩
  case round =>
    obtain ⟨j, hj, rfl, rfl⟩ := hrel
    by_cases hlt : j < n
    · obtain ⟨b, off, rfl, hc⟩ := HH.out.at (j := j) (by rw [marks_length]; exact hlt)
      rw [marks_at _ _ n j hlt] at hc
      go_wp2
      go_round
      case rel => exact ⟨j + 1, by omega, by go_num, by go_num⟩
      case measure => simp [intOf]; omega
    · obtain rfl : j = n := by omega
      clear hlt
      go_wp2
      go_ret
      exact ⟨rfl, rfl⟩

/-! ### INTS -/
theorem elemINT : Elem Try.prog 3 (.int .i64 0) 8 := by unfold Elem; kernel_rfl

/-- Marking: every element of a slice of the call's own is written. -/
def MarkedI (B : Nat) (w : World) (v : Value) (n : Nat) (k : Int) (e : Ending) (w' : World) : Prop :=
  e = .returned (.int .i64 (k + n)) ∧ Own 3 .i64 B w' v (marks .i64 k n) ∧ w.grownBy w' v.ownBlock

/-- Two slices never lie in one block. -/
def Apart (v u : Value) : Prop := ∀ g, v.ownBlock = some g → u.ownBlock ≠ some g
theorem Apart.symm {v u : Value} (h : Apart v u) : Apart u v := fun g h1 h2 => h g h2 h1
theorem apart_or {v u : Value} (h : Apart v u) : v.ownBlock = none ∨ v.ownBlock ≠ u.ownBlock := by
  cases hv : v.ownBlock with
  | none => exact Or.inl rfl
  | some g => exact Or.inr fun he => h g hv he.symm
theorem apart_new {e e' : TypeId} {k k' : IntKind} {B : Nat} {w w' : World} {v u : Value} {l m : List Int} (h : Own e k w.heap.size w' v l) (h' : Own e' k' B w u m) : Apart v u := fun g h1 h2 => by
  have a := h.lt g h1
  have b := h'.lt g h2
  omega

theorem sameByteS (v u : Value) (l : List Int) (w : World) (h : Holds .u8 w v l) (g : Holds .u8 w u l) (hl : l.length ≤ 100000000) :
    Calls Try.prog 20 #[v, u] w fun e w' => e = .returned (.bool true) ∧ Below w.heap.size w w' := by
  have := eqByteS v u l l w h g hl hl
  rwa [eqB_self] at this
end Go.Proofs.Ytnnhgcfelkcpfaa.Sl
